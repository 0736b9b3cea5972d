/- Texts joined: D1, D2, R1, D3, K1. -/
import Derived.OwnWalk
import Derived.Deep.LoopGhost
import Derived.Stop.RegionWithIn
import Derived.Test.YtjaljnfijhfkcaaGreatDoorJ23
/- Counting on, and bytes of a stream. -/
set_option linter.all false
set_option maxRecDepth 100000
namespace Go.Proofs.YtjaljnfijhfkcaaGreatDoor
open Go.RowKit Go.Sort
set_option maxHeartbeats 2000000 in
theorem appended_fits (x : Nat → Int) (base n g cap : Nat) (L0 : List Value) (w : World) (hw : w.ownsRow base 5 1 (.slice (some ⟨g, 0, none⟩) n cap) n L0) (hcap : n + 16 ≤ cap) :
    Calls Tryz.prog 100 #[bv x, .slice (some ⟨g, 0, none⟩) n cap] w fun e w' => e = .returned (.slice (some ⟨g, 0, none⟩) (n + 16) cap) ∧ w'.ownsRow base 5 1 (.slice (some ⟨g, 0, none⟩) (n + 16) cap) (n + 16) (L0 ++ (hfL x 4).map (Value.int .u8)) ∧ w.grownBy w' (some g) := by
  obtain ⟨i0, hi, hz0, hz1, hz2⟩ := info_parts Tryz.info5
  unfold bv
  go_enter Tryz.func100, Tryz.ntmps100
  go_wp2_with fail
  go_loopw [1, 8] (fun v i wr => ∃ (k : Nat) (L : List Value), k ≤ 4 ∧ i = .int .i64 k ∧ v = .slice (some ⟨g, 0, none⟩) (n + 4 * k) cap ∧ wr.ownsRow base 5 1 (.slice (some ⟨g, 0, none⟩) (n + 4 * k) cap) (n + 4 * k) L ∧ L = L0 ++ (hfL x k).map (Value.int .u8) ∧ w.grownBy wr (some g))
    (fun _ i _ => 4 - (intOf i).toNat)
  case atStart => exact ⟨0, L0, by omega, rfl, rfl, World.ownsRow.alloc hw _, by simp [hfL], World.grownBy_alloc w _ _⟩
  case round =>
    obtain ⟨k, L, hk, rfl, rfl, hown, hL, hB⟩ := hrel
    by_cases hlt : k < 4
    · have k0 : (0 : Int) ≤ (k : Int) := by omega
      have k1 : (k : Int) < 4 := by omega
      have I := fun W => idx68 _ k _ hlt (h4_at x k hlt) W
      have HL : Hid (L0 ++ (hfL x (k + 1)).map (Value.int .u8) = L ++ (w4 (x k)).map (Value.int .u8)) := by
        show _ = _
        rw [hfL, List.map_append, hL, List.append_assoc]
      have HO : Hid (wr.ownsRow base 5 1 (.slice (some ⟨g, 0, none⟩) (n + 4 * k) cap) (n + 4 * k) L) := hown
      have kr : n + 4 * k + 4 ≤ cap := by omega
      have k1c : 0 < cap := by omega
      unfold w4 at HL
      clear hL hown hw
      go_wp2_with (at_builtin; refine stopAt ?_)
      unfold Stop
      refine wpList_append_fits _ rfl _ _ 50 rfl base 5 i0 1 Tryz.underlying50 hi hz1 g (n + 4 * k) cap _ rfl (World.ownsRow.alloc HO.out _) ⟨_, 0, none⟩ 4 4 [.int .u8 (x k / 16777216 % 256), .int .u8 (x k / 65536 % 256), .int .u8 (x k / 256 % 256), .int .u8 (x k % 256)] rfl rfl (news_new _ _ _) (by simp [Value.oneCell']) kr ?_
      intro w3 hown' hgrow3
      have b3 : w.grownBy w3 (some g) := by
        have h1 := gb_trans hB (World.grownBy_alloc wr (.cells #[.int .u8 (x k / 16777216 % 256), .int .u8 (x k / 65536 % 256), .int .u8 (x k / 256 % 256), .int .u8 (x k % 256)] 5) (some g))
        exact gb_trans h1 hgrow3
      clear hgrow3
      go_wp2_with fail
      refine ⟨⟨k + 1, _, by omega, by go_num, by rw [show n + 4 * (k + 1) = n + 4 * k + 4 by omega], by rw [show n + 4 * (k + 1) = n + 4 * k + 4 by omega]; exact hown', HL.out.symm, b3⟩, by simp [intOf]; omega⟩
    · have e : k = 4 := by omega
      subst e
      subst hL
      have HO : Hid (wr.ownsRow base 5 1 (.slice (some ⟨g, 0, none⟩) (n + 16) cap) (n + 16) (L0 ++ (hfL x 4).map (Value.int .u8))) := hown
      clear hown hw
      go_wp2_with fail
      go_ret
      exact ⟨rfl, HO.out, hB⟩
/-- A block's number and 1: byte by byte. -/
def nxF (f : Nat → By) (j : Nat) : By := if (∀ i, i < 16 → j < i → f i = 255) then f j + 1 else f j
theorem add_val (a : By) : (a + 1).val = (a.val + 1) % 256 := by simp [Fin.val_add]
/-- A word and 1. -/
theorem wd_inc (a b c d : By) : (wd a b c d + 1) % 4294967296 = wd (if b = 255 ∧ c = 255 ∧ d = 255 then a + 1 else a) (if c = 255 ∧ d = 255 then b + 1 else b) (if d = 255 then c + 1 else c) (d + 1) := by
  have f : ∀ x : By, x = 255 ↔ x.val = 255 := fun x => ⟨fun h => by rw [h]; rfl, fun h => Fin.ext h⟩
  have := a.2
  have := b.2
  have := c.2
  have := d.2
  unfold wd wdN
  by_cases h1 : d = 255
  · have e1 := (f d).1 h1
    by_cases h2 : c = 255
    · have e2 := (f c).1 h2
      by_cases h3 : b = 255
      · have e3 := (f b).1 h3
        simp only [h1, h2, h3, and_self, if_true, add_val]
        simp
        omega
      · simp only [h1, h2, h3, and_self, false_and, if_true, if_false, add_val]
        have : ¬ b.val = 255 := fun h => h3 ((f b).2 h)
        simp
        omega
    · simp only [h1, h2, and_self, false_and, and_false, if_true, if_false, add_val]
      have : ¬ c.val = 255 := fun h => h2 ((f c).2 h)
      simp
      omega
  · simp only [h1, and_false, if_false, add_val]
    have : ¬ d.val = 255 := fun h => h1 ((f d).2 h)
    omega
theorem wd_ff (a b c d : By) : (wd a b c d + 1) % 4294967296 = 0 ↔ a = 255 ∧ b = 255 ∧ c = 255 ∧ d = 255 := by
  have f : ∀ x : By, x = 255 ↔ x.val = 255 := fun x => ⟨fun h => by rw [h]; rfl, fun h => Fin.ext h⟩
  have := a.2
  have := b.2
  have := c.2
  have := d.2
  rw [f, f, f, f]
  unfold wd wdN
  constructor
  · intro h
    omega
  · rintro ⟨h1, h2, h3, h4⟩
    rw [h1, h2, h3, h4]
    rfl
/-- The columns behind c are full. -/
def fl (f : Nat → By) (c : Nat) : Prop := ∀ i, i < 16 → 4 * c + 3 < i → f i = 255
theorem fl_step (f : Nat → By) (c : Nat) (hc : c < 4) (h : fl f (c + 1)) (e : (col f (c + 1) + 1) % 4294967296 = 0) (hc1 : c + 1 < 4) : fl f c := by
  unfold col at e
  obtain ⟨h0, h1, h2, h3⟩ := (wd_ff _ _ _ _).1 e
  intro i hi hl
  by_cases g : 4 * (c + 1) + 3 < i
  · exact h i hi g
  · have : i = 4 * (c + 1) ∨ i = 4 * (c + 1) + 1 ∨ i = 4 * (c + 1) + 2 ∨ i = 4 * (c + 1) + 3 := by omega
    rcases this with rfl | rfl | rfl | rfl <;> assumption
theorem col_nx (f : Nat → By) (c : Nat) (hc : c < 4) (h : fl f c) : col (nxF f) c = (col f c + 1) % 4294967296 := by
  unfold col
  rw [wd_inc]
  have e3 : nxF f (4 * c + 3) = f (4 * c + 3) + 1 := by unfold nxF; rw [if_pos (fun i hi hl => h i hi hl)]
  have e2 : nxF f (4 * c + 2) = if f (4 * c + 3) = 255 then f (4 * c + 2) + 1 else f (4 * c + 2) := by
    unfold nxF
    by_cases g : f (4 * c + 3) = 255
    · rw [if_pos g, if_pos]
      intro i hi hl
      by_cases q : i = 4 * c + 3
      · rw [q]; exact g
      · exact h i hi (by omega)
    · rw [if_neg g, if_neg]
      intro H
      exact g (H _ (by omega) (by omega))
  have e1 : nxF f (4 * c + 1) = if f (4 * c + 2) = 255 ∧ f (4 * c + 3) = 255 then f (4 * c + 1) + 1 else f (4 * c + 1) := by
    unfold nxF
    by_cases g : f (4 * c + 2) = 255 ∧ f (4 * c + 3) = 255
    · rw [if_pos g, if_pos]
      intro i hi hl
      by_cases q : i = 4 * c + 3
      · rw [q]; exact g.2
      · by_cases q : i = 4 * c + 2
        · rw [q]; exact g.1
        · exact h i hi (by omega)
    · rw [if_neg g, if_neg]
      intro H
      exact g ⟨H _ (by omega) (by omega), H _ (by omega) (by omega)⟩
  have e0 : nxF f (4 * c) = if f (4 * c + 1) = 255 ∧ f (4 * c + 2) = 255 ∧ f (4 * c + 3) = 255 then f (4 * c) + 1 else f (4 * c) := by
    unfold nxF
    by_cases g : f (4 * c + 1) = 255 ∧ f (4 * c + 2) = 255 ∧ f (4 * c + 3) = 255
    · rw [if_pos g, if_pos]
      intro i hi hl
      by_cases q : i = 4 * c + 3
      · rw [q]; exact g.2.2
      · by_cases q : i = 4 * c + 2
        · rw [q]; exact g.2.1
        · by_cases q : i = 4 * c + 1
          · rw [q]; exact g.1
          · exact h i hi (by omega)
    · rw [if_neg g, if_neg]
      intro H
      exact g ⟨H _ (by omega) (by omega), H _ (by omega) (by omega), H _ (by omega) (by omega)⟩
  rw [e0, e1, e2, e3]
theorem col_nx_no (f : Nat → By) (c k : Nat) (hk : k < 4) (hck : c < k) (e : ¬ (col f k + 1) % 4294967296 = 0) : col (nxF f) c = col f c := by
  unfold col at e
  have ne : ¬ (f (4 * k) = 255 ∧ f (4 * k + 1) = 255 ∧ f (4 * k + 2) = 255 ∧ f (4 * k + 3) = 255) := fun h => e ((wd_ff _ _ _ _).2 h)
  have no : ∀ j, j < 4 * k → nxF f j = f j := fun j hj => by
    unfold nxF
    rw [if_neg]
    intro H
    exact ne ⟨H _ (by omega) (by omega), H _ (by omega) (by omega), H _ (by omega) (by omega), H _ (by omega) (by omega)⟩
  unfold col
  rw [no _ (by omega), no _ (by omega), no _ (by omega), no _ (by omega)]
/-- The columns from k on are done. -/
def dn (y x : Nat → Int) (k : Nat) (j : Nat) : Value := .int .u32 (if k ≤ j then y j else x j)
set_option maxHeartbeats 2000000 in
theorem next_core (x g : Nat → Int) (F : Nat → Prop) (hF3 : F 3) (hF : ∀ k, k < 3 → F (k + 1) → (x (k + 1) + 1) % 4294967296 = 0 → F k)
    (hg : ∀ k, k < 4 → F k → g k = (x k + 1) % 4294967296) (hn : ∀ k c, k < 4 → c < k → ¬ (x k + 1) % 4294967296 = 0 → g c = x c) (w : World) :
    Calls Tryz.prog 114 #[bv x] w fun e w' => e = .returned (bv g) ∧ Below w.heap.size w w' := by
  unfold bv
  go_enter Tryz.func114, Tryz.ntmps114
  go_wp2_with fail
  go_loopw [3] (fun i wr => ∃ k q : Nat, k ≤ 4 ∧ k = q ∧ i = .int .i64 ((q : Int) - 1) ∧ Below w.heap.size w wr ∧ Arr wr w.heap.size 4 (dn g x k) ∧ Arr wr (w.heap.size + 1) 4 (fun _ => .int .u32 0) ∧ (∀ m, k = m + 1 → F m)) (fun i _ => (intOf i + 1).toNat)
  case atStart =>
    refine ⟨4, 4, by omega, rfl, rfl, by go_grown, ?_, ?_, ?_⟩
    · refine ((Arr.new w _ _ _ rfl _ 4 (h4_at x)).al' _).congr fun j hj => ?_
      unfold dn
      rw [if_neg (by omega)]
    · exact Arr.new _ _ _ _ (by simp) _ 4 z4_at
    · intro m hm
      obtain rfl : m = 3 := by omega
      exact hF3
  case round =>
    obtain ⟨k, q, hk, hkq, rfl, hB, A0, A1, hf⟩ := hrel
    by_cases hlt : 0 < q
    · obtain ⟨p, rfl⟩ : ∃ p, q = p + 1 := ⟨q - 1, by omega⟩
      have ep : ((p + 1 : Nat) : Int) - 1 = (p : Int) := by omega
      rw [ep]
      clear ep
      subst hkq
      have hFp := hf p rfl
      have p4 : p < 4 := by omega
      have i0 : (0 : Int) ≤ (p : Int) := by omega
      have i4 : (p : Int) < 4 := by omega
      have cp := A0.cv p p4 (.int .u32 (x p)) (by unfold dn; rw [if_neg (by omega)])
      have zp := A0.z p p4
      have gp := hg p p4 hFp
      have A2 := A0.set p p4 (.int .u32 (g p))
      have Z2 := A1.other (b' := w.heap.size) (k := p) (by omega) (.int .u32 (g p))
      have B2 := Bel.st hB (Nat.le_refl _) (k := p) (.int .u32 (g p))
      by_cases hz : (x p + 1) % 4294967296 = 0
      · have HF : Hid (∀ m, p = m + 1 → F m) := fun m hm => hF m (by omega) (by rw [← hm]; exact hFp) (by rw [← hm]; exact hz)
        have g0 : g p = 0 := by rw [gp, hz]
        clear hg hn hF hF3 hf hFp gp
        rw [g0] at A2 Z2 B2
        have HG : Hid (g p = 0) := g0
        clear g0
        go_wp2_with fail
        refine ⟨⟨p, p, by omega, rfl, by go_num, B2, A2.congr ?_, Z2, HF.out⟩, by first | (simp [intOf]; done) | (simp [intOf]; omega)⟩
        intro j hj
        unfold dn
        by_cases e : j = p
        · subst e; rw [if_pos rfl, if_pos (Nat.le_refl _), HG.out]
        · rw [if_neg e]
          by_cases e2 : p + 1 ≤ j
          · rw [if_pos e2, if_pos (by omega)]
          · rw [if_neg e2, if_neg (by omega)]
      · have A : Arr (wr.setCell ⟨w.heap.size, p, none⟩ (.int .u32 (g p))) w.heap.size 4 (fun j => .int .u32 (g j)) := A2.congr fun j hj => by
          by_cases e : j = p
          · subst e; rw [if_pos rfl]
          · rw [if_neg e]
            unfold dn
            by_cases e2 : p + 1 ≤ j
            · rw [if_pos e2]
            · rw [if_neg e2, hn p j p4 (by omega) hz]
        have gz : ¬ g p = 0 := by rw [gp]; exact hz
        have gq : (x p + 1) % 4294967296 = g p := gp.symm
        clear hg hn hF hF3 hf hFp gp hz A2 A0 A1 hB
        have c9 := A.c p p4
        obtain ⟨w9, hw9⟩ : ∃ w9, wr.setCell ⟨w.heap.size, p, none⟩ (.int .u32 (g p)) = w9 := ⟨_, rfl⟩
        rw [hw9] at A Z2 B2 c9
        have Z := Z2
        have BB := B2
        go_upto_region 5 with (fail)
        try rw [hw9]
        clear hw9 cp zp
        have c0 := A.c 0 (by omega)
        have c1 := A.c 1 (by omega)
        have c2 := A.c 2 (by omega)
        have c3 := A.c 3 (by omega)
        have d := Z.c
        have z := Z.z
        have E := (Z.st4 g).c
        go_wp2_with fail
        refine bodyPost_ret (v := bv g) ?_ rfl ⟨rfl, Bel.st4 BB (by omega) g⟩
        simp only [Go.Proofs.YtjaljnfijhfkcaaGreatDoor.st4] at E
        simp [bv, results, Tryz.results114, go_sem, E]
    · have q0 : q = 0 := by omega
      subst q0
      subst hkq
      have A : Arr wr w.heap.size 4 (fun j => .int .u32 (g j)) := A0.congr fun j _ => by unfold dn; rw [if_pos (Nat.zero_le _)]
      have Z := A1
      have BB := hB
      rw [show (((0 : Nat) : Int) - 1) = -1 by omega]
      have c0 := A.c 0 (by omega)
      have c1 := A.c 1 (by omega)
      have c2 := A.c 2 (by omega)
      have c3 := A.c 3 (by omega)
      have d := Z.c
      have z := Z.z
      have E := (Z.st4 g).c
      clear A0 A1 hB hk hlt hg hn hF hF3 hf
      go_wp2_with fail
      refine bodyPost_ret (v := bv g) ?_ rfl ⟨rfl, Bel.st4 BB (by omega) g⟩
      simp only [Go.Proofs.YtjaljnfijhfkcaaGreatDoor.st4] at E
      simp [bv, results, Tryz.results114, go_sem, E]
theorem next_any (f : Nat → By) (w : World) : Calls Tryz.prog 114 #[bv (col f)] w fun e w' => e = .returned (bv (col (nxF f))) ∧ Below w.heap.size w w' :=
  next_core (col f) (col (nxF f)) (fl f) (fun i hi hl => by omega) (fun k hk h e => fl_step f k (by omega) h e (by omega)) (fun k hk h => col_nx f k hk h) (fun k c hk hc e => col_nx_no f c k hk hc e) w
end Go.Proofs.YtjaljnfijhfkcaaGreatDoor
/- Blocks counted on from a first one, handed out without an end. -/
set_option linter.all false
set_option maxRecDepth 100000
namespace Go.Proofs.YtjaljnfijhfkcaaGreatDoor
open Go.RowKit Go.Shelf Go.Sort
attribute [local go_sem] Oper.semAt_some
theorem wpIn_loop_ghost {F : Fence} {m : Nat} {P : Program} {Q : Exit → Act → World → Prop} {a : Act} {w : World} {c : Code} (I : Nat → Act → World → Prop) (n₀ : Nat) (h₀ : I n₀ a w)
    (round : ∀ n a w, I n a w → c.wpIn F m P (Exit.then (fun a' w' => ∃ n', n' < n ∧ I n' a' w') Q) a w) : (Code.loop c).wpIn F m P Q a w := by
  refine wpIn_loop (fun a w => ∃ n, I n a w) (fun a w => leastOf (fun n => I n a w)) ⟨n₀, h₀⟩ ?_
  intro a w hI
  refine wpIn_mono (round _ a w (leastOf_spec hI).1) ?_
  intro e a' w' hq
  cases e with
  | normal =>
    obtain ⟨n', hn, hi⟩ := hq
    exact ⟨⟨n', hi⟩, Nat.lt_of_le_of_lt ((leastOf_spec ⟨n', hi⟩).2 n' hi) hn⟩
  | ret => exact hq
  | exit id => exact hq
  | goto t => exact hq
  | panic ch => exact hq
  | outgrown => exact hq
/-- The k-th block behind a first one. -/
def ctF (f : Nat → By) : Nat → Nat → By
  | 0 => f
  | k + 1 => nxF (ctF f k)
/-- What a round keeps: all blocks of cells but three. -/
def KC (x0 x1 x2 : Nat) (W W' : World) : Prop := ∀ b n f, b ≠ x0 → b ≠ x1 → b ≠ x2 → Arr W b (n + 1) f → Arr W' b (n + 1) f
theorem KC.t {x0 x1 x2 : Nat} {A B C : World} (h1 : KC x0 x1 x2 A B) (h2 : KC x0 x1 x2 B C) : KC x0 x1 x2 A C := fun b n f e0 e1 e2 h => h2 b n f e0 e1 e2 (h1 b n f e0 e1 e2 h)
theorem KC.b {x0 x1 x2 : Nat} (W : World) (l : Nat) (o o' : Obj) (hl : W.heap[l]? = some o) (hc : o.isCells = false) : KC x0 x1 x2 W (W.putObj l o') :=
  fun b n f _ _ _ h => arr_kept h (grownBy_putObj' W l o') (fun r e => by cases e; exact ⟨o, hl, hc⟩)
theorem KC.g {x0 x1 x2 : Nat} (A B : World) (h : A.grownBy B none) : KC x0 x1 x2 A B := fun b n f _ _ _ hA => arr_kept hA h (fun r e => by cases e)
theorem KC.one {x0 x1 x2 x : Nat} {A B : World} (h : A.grownBy B (some x)) (hx : x = x0 ∨ x = x1 ∨ x = x2) : KC x0 x1 x2 A B := fun b n f e0 e1 e2 hA => gb_arr h (by omega) hA
def MkC (pre : List Nat) (x : Nat) (W : World) : Prop := x = pre.length ∧ pre = List.range x
def encC (f : Nat → By) (x : Nat) : Array Value := #[bv (col (ctF f x))]
set_option maxHeartbeats 4000000 in
theorem counted1_in (f : Nat → By) (n l bx x0 x1 x2 N : Nat) (hn : 1 ≤ n) (Jv Jx : List Nat → World → Prop) {B : Nat} (hJ : AbidesFrom B Jv) (hN : ∀ s A, Jv s A → s.length < N)
    (hY : ∀ pre (x : Nat) W, Jv pre W → MkC pre x W → YieldAt Fence.wide (n - 1) Tryz.prog l (encC f x) W fun e W' => (e = .returned (.bool true) ∧ Jv (pre ++ [x]) W' ∧ KC x0 x1 x2 W W') ∨ (e = .returned (.bool false) ∧ Jx (pre ++ [x]) W'))
    (W : World) (h0' : x0 < W.heap.size) (h1' : x1 < W.heap.size) (h2' : x2 < W.heap.size) (hA : Arr W bx 4 (fun j => .int .u32 (col f j))) (h0 : Jv [] W) :
    CallsIn Fence.wide n Tryz.prog 113 #[.func (.yield l) #[] #[], .pointer (some ⟨bx, 0, none⟩)] W fun e W' => (∃ v, e = .returned v) ∧
      ((∃ ys : List Nat, False ∧ Jv ys W' ∧ True) ∨ (∃ pre : List Nat, True ∧ Jx pre W')) := by
  have hd : 1 ≤ n := hn
  refine callsIn_of_wp Tryz.func113 rfl trivial ?_ rfl
  simp only [Tryz.ntmps113, List.size_toArray, List.length_cons, List.length_nil, Nat.reduceAdd, Nat.reduceSub, Array.replicate_succ, Array.replicate_zero, List.push_toArray, List.append_toArray, List.nil_append, List.cons_append]
  have cb := hA.c
  gi_wp2
  refine wpIn_loop_ghost (fun g a wr => ∃ (k p : Nat) (u5 u6 u7 u8 u9 u10 : Value), a = { tmps := #[.func (.yield l) #[] #[], .pointer (some ⟨bx, 0, none⟩), undef, .pointer (some ⟨p, 0, none⟩), .agg #[.int .u32 (col f 0), .int .u32 (col f 1), .int .u32 (col f 2), .int .u32 (col f 3)], u5, u6, u7, u8, u9, u10], defers := [] } ∧ g + k = N ∧ Jv (List.range k) wr ∧ Arr wr p 4 (fun j => .int .u32 (col (ctF f k) j)) ∧ W.heap.size ≤ p) N ?start ?round
  case start =>
    refine ⟨0, W.heap.size, _, _, _, _, _, _, rfl, by omega, ?_, Arr.new _ _ 168 _ rfl _ 4 (h4_at _), Nat.le_refl _⟩
    exact hJ _ W _ none h0 (World.grownBy_alloc W _ none) (fun r e => by cases e)
  case round =>
    clear h0 cb hA
    rintro g a wr ⟨k, p, u5, u6, u7, u8, u9, u10, rfl, hgk, hJs, hP, hp⟩
    have hkN := hN _ _ hJs
    rw [List.length_range] at hkN
    have cp := hP.c
    obtain ⟨fn, tmps, assign, body, hy, hR⟩ := hY (List.range k) k wr hJs ⟨by simp, rfl⟩
    unfold encC bv at hy
    have NX := fun A => next_any (ctF f k) A
    have HCT : Hid (ctF f (k + 1) = nxF (ctF f k)) := rfl
    have HGK : Hid (g + k = N) := hgk
    clear hJs hgk
    unfold bv at NX
    obtain ⟨y, hy2⟩ : ∃ y, col (ctF f k) = y := ⟨_, rfl⟩
    obtain ⟨z, hz2⟩ : ∃ z, col (nxF (ctF f k)) = z := ⟨_, rfl⟩
    rw [hy2] at hy cp hP NX
    rw [hz2] at NX
    have HZ : Hid (col (nxF (ctF f k)) = z) := hz2
    clear hy2 hz2
    gi_wp2
    refine hR.mono ?_
    rintro e W3 (⟨rfl, hJ3, hK⟩ | ⟨rfl, hJx3⟩)
    · have P3 := hK p 3 _ (by omega) (by omega) (by omega) hP
      have c3 := P3.c
      clear cp hP hy hR
      gi_wp2_with (refine ⟨trivial, ?_⟩; gi_at_call 114; refine (callsIn_wide.2 (NX _)).mono ?_; rintro e W4 ⟨rfl, hb⟩; have N4 := (Arr.new W3 #[.int .u32 (y 0), .int .u32 (y 1), .int .u32 (y 2), .int .u32 (y 3)] 168 _ rfl (fun j => .int .u32 (y j)) 4 (h4_at y)).to' hb; have c4 := N4.c; have z4 := N4.z)
      have jB : Below W3.heap.size W3 (st4 W4 W3.heap.size z) := Bel.st4 (Bel.call (Bel.al (Below.refl _ W3) _) hb) (Nat.le_refl _) z
      refine ⟨g - 1, by have := HGK.out; omega, k + 1, W3.heap.size, _, _, _, _, _, _, rfl, by have := HGK.out; omega, ?_, ?_, ?_⟩
      · rw [List.range_succ]
        exact hJ _ W3 _ none hJ3 (gby jB) (fun r e => by cases e)
      · have := N4.st4 z
        rw [← HZ.out, ← HCT.out] at this ⊢
        exact this
      · have := P3.lt
        omega
    · gi_wp2
      go_end0
      exact ⟨⟨_, rfl⟩, .inr ⟨_, trivial, hJx3⟩⟩
theorem counted_seq (f : Nat → By) (n bx x0 x1 x2 N : Nat) (hn : 1 ≤ n) (w0 : World) (h0 : x0 < w0.heap.size) (h1 : x1 < w0.heap.size) (h2 : x2 < w0.heap.size) (hA : Arr w0 bx 4 (fun j => .int .u32 (col f j))) :
    SeqM Fence.wide n Tryz.prog 113 #[.pointer (some ⟨bx, 0, none⟩)] (encC f) (KC x0 x1 x2) MkC (fun s => s.length < N) (fun _ => False) (fun _ => True) none (fun _ => True) w0 :=
  fun l Jv Jx W hW hJ _ _ hB hY hj => counted1_in f n l bx x0 x1 x2 N hn Jv Jx hJ hB hY W (Nat.lt_of_lt_of_le h0 hW.size) (Nat.lt_of_lt_of_le h1 hW.size) (Nat.lt_of_lt_of_le h2 hW.size) (hA.to' hW) hj
theorem counted_any (x : Nat → Int) (w : World) : Calls Tryz.prog 99 #[bv x] w fun e w' => e = .returned (.func (.func 113) #[] #[.pointer (some ⟨w.heap.size, 0, none⟩)]) ∧ w' = w.alloc (.cells #[.int .u32 (x 0), .int .u32 (x 1), .int .u32 (x 2), .int .u32 (x 3)] 168) := by
  unfold bv
  go_enter Tryz.func99, Tryz.ntmps99
  go_wp2
  go_ret
  exact ⟨rfl, rfl⟩
end Go.Proofs.YtjaljnfijhfkcaaGreatDoor
/- The reference: sizes, sums, rows turned. -/
set_option linter.all false
set_option maxRecDepth 100000
namespace Go.Proofs.YtjaljnfijhfkcaaGreatDoor
open Go.RowKit Go.Sort
set_option maxHeartbeats 1000000 in
theorem rsized_any (key : ByteArray) (w : World) : Calls Tryz.prog 84 #[.string key] w fun e w' => e = .returned (.bool (isK key)) ∧ w' = w := by
  by_cases h1 : key.size = 16
  · have e : isK key = true := by unfold isK; simp [h1]
    have i1 : (key.size : Int) = 16 := by omega
    rw [e]
    clear e h1
    go_enter Tryz.func84, Tryz.ntmps84
    go_wp2
    go_ret
    exact ⟨rfl, rfl⟩
  · have i1 : ¬ (key.size : Int) = 16 := by omega
    by_cases h2 : key.size = 32
    · have e : isK key = true := by unfold isK; simp [h2]
      have i2 : (key.size : Int) = 32 := by omega
      rw [e]
      clear e h1 h2
      go_enter Tryz.func84, Tryz.ntmps84
      go_wp2
      go_ret
      exact ⟨rfl, rfl⟩
    · have e : isK key = false := by unfold isK; simp [h1, h2]
      have i2 : ¬ (key.size : Int) = 32 := by omega
      rw [e]
      clear e h1 h2
      go_enter Tryz.func84, Tryz.ntmps84
      go_wp2
      go_ret
      refine ⟨?_, rfl⟩
      simp [i1, i2]
set_option maxHeartbeats 1000000 in
theorem rrefused_any (key block : ByteArray) (w : World) : Calls Tryz.prog 64 #[.string key, .string block] w fun e w' => e = .returned (.int .i64 (rfs key block)) ∧ w' = w := by
  have C := fun W => rsized_any key W
  have hnot : ∀ (x : Bool) (w : World), (Op.unary .not (.bool x)).run Tryz.prog w = .ok (.bool (!x)) w := fun _ _ => rfl
  unfold rfs
  by_cases h1 : isK key = true
  · rw [h1] at C
    rw [if_pos h1]
    clear h1
    by_cases h2 : block.size = 16
    · have i2 : (block.size : Int) = 16 := by omega
      rw [if_pos h2]
      clear h2
      go_enter Tryz.func64, Tryz.ntmps64
      go_wp2_with (go_at_call 84; refine (C _).mono ?_; rintro e w1 ⟨rfl, rfl⟩)
      go_ret
      exact ⟨rfl, rfl⟩
    · have i2 : ¬ (block.size : Int) = 16 := by omega
      rw [if_neg h2]
      clear h2
      go_enter Tryz.func64, Tryz.ntmps64
      go_wp2_with (go_at_call 84; refine (C _).mono ?_; rintro e w1 ⟨rfl, rfl⟩)
      go_ret
      exact ⟨rfl, rfl⟩
  · have h2 : isK key = false := by simpa using h1
    rw [h2] at C
    rw [if_neg h1]
    clear h1 h2
    go_enter Tryz.func64, Tryz.ntmps64
    go_wp2_with (go_at_call 84; refine (C _).mono ?_; rintro e w1 ⟨rfl, rfl⟩)
    go_ret
    exact ⟨rfl, rfl⟩
/-- A byte in a cell. -/
def bc (f : Nat → By) (j : Nat) : Value := .int .u8 ((f j).val : Int)
/-- The first k are done. -/
def bm (y x : Nat → By) (k : Nat) (j : Nat) : Value := .int .u8 ((if j < k then y j else x j).val : Int)
set_option maxHeartbeats 2000000 in
theorem rplus_core (f k y : Nat → By) (hy : ∀ j, j < 16 → y j = xr (f j) (k j)) (gb gw o cb cw : Nat) (hne : gw ≠ gb) (w : World) (hA : Arr w gb 16 (bc f)) (hK : ∀ j, j < 16 → w.cell? ⟨gw, o + j, none⟩ = some (bc k j)) :
    Calls Tryz.prog 87 #[.slice (some ⟨gb, 0, none⟩) 16 cb, .slice (some ⟨gw, o, none⟩) 16 cw] w fun e w' => e = .returned (.tuple #[]) ∧ w.grownBy w' (some gb) ∧ Arr w' gb 16 (bc y) := by
  go_enter Tryz.func87, Tryz.ntmps87
  go_wp2_with fail
  go_loopw [4] (fun i wr => ∃ m : Nat, m ≤ 16 ∧ i = .int .i64 m ∧ w.grownBy wr (some gb) ∧ Arr wr gb 16 (bm y f m)) (fun i _ => 16 - (intOf i).toNat)
  case atStart => exact ⟨0, by omega, rfl, gb_refl _ _, hA.congr (fun j _ => by unfold bm bc; rw [if_neg (by omega)])⟩
  case round =>
    obtain ⟨m, hm, rfl, hG, A⟩ := hrel
    have m0 : (0 : Int) ≤ (m : Int) := by omega
    by_cases hlt : m < 16
    · have m1 : (m : Int) < 16 := by omega
      have c1 := A.cv m hlt (.int .u8 ((f m).val : Int)) (by unfold bm; rw [if_neg (by omega)])
      have c2 := (gb_cell (j := o + m) hG (block_lt_of_cell (hK m hlt)) hne).trans (hK m hlt)
      unfold bc at c2
      have r1 := fun ds os => cell_regrown c1 ds os
      have r2 := fun ds os => cell_regrown c2 ds os
      have ex := xr8 (f m) (k m)
      rw [← hy m hlt] at ex
      clear hy hK
      go_wp2_with fail
      refine wp_region_below_tail 12 (by kernel_rfl) (by kernel_rfl) ?_
      simp only [List.take_succ_cons, List.take_zero, List.drop_succ_cons, List.drop_zero]
      repeat (go_big_quiet_step (fail))
      refine wpQuiet_nil ?_
      intro w1 hw'
      obtain ⟨⟨dq, osq⟩, hw''⟩ := hw'
      have hb := below_of hw''
      clear hw'' r1 r2 c1 c2
      have A1 := A.to' hb
      have hG1 := gb_trans hG (gb_of hb)
      clear A hG hb
      have c := A1.c m hlt
      have z := A1.z m hlt
      go_wp2_with fail
      refine ⟨⟨m + 1, by omega, by go_num, gb_trans hG1 (gb_set _ _ _ _), (A1.set m hlt _).congr ?_⟩, by simp [intOf]; omega⟩
      intro j hj
      unfold bm
      by_cases e : j = m
      · subst e; rw [if_pos rfl, if_pos (by omega)]
      · rw [if_neg e]
        by_cases e2 : j < m
        · rw [if_pos e2, if_pos (by omega)]
        · rw [if_neg e2, if_neg (by omega)]
    · have e : m = 16 := by omega
      rw [show ((m : Nat) : Int) = 16 by omega]
      subst e
      have A2 : Arr wr gb 16 (bc y) := A.congr fun j hj => by unfold bm bc; rw [if_pos hj]
      clear A hy hK
      go_wp2_with fail
      go_end0
      exact ⟨rfl, hG, A2⟩
theorem rplus_any (f k : Nat → By) (gb gw o cb cw : Nat) (hne : gw ≠ gb) (w : World) (hA : Arr w gb 16 (bc f)) (hK : ∀ j, j < 16 → w.cell? ⟨gw, o + j, none⟩ = some (bc k j)) :
    Calls Tryz.prog 87 #[.slice (some ⟨gb, 0, none⟩) 16 cb, .slice (some ⟨gw, o, none⟩) 16 cw] w fun e w' => e = .returned (.tuple #[]) ∧ w.grownBy w' (some gb) ∧ Arr w' gb 16 (bc (plF f k)) :=
  rplus_core f k (plF f k) (fun _ _ => rfl) gb gw o cb cw hne w hA hK
/-- What is done by step m. -/
def tv (y : Nat → By) (st : Nat → Nat) (m : Nat) (j : Nat) : Value := .int .u8 ((if st j < m then y j else 0).val : Int)
theorem tv_step (y : Nat → By) (st : Nat → Nat) (m p : Nat) (hst : st p = m) (hun : ∀ j, j < 16 → st j = m → j = p) (j : Nat) (hj : j < 16) : (if j = p then Value.int .u8 ((y p).val : Int) else tv y st m j) = tv y st (m + 1) j := by
  unfold tv
  by_cases e : j = p
  · subst e; rw [if_pos rfl, hst, if_pos (by omega)]
  · rw [if_neg e]
    have : st j ≠ m := fun h => e (hun j hj h)
    by_cases e2 : st j < m
    · rw [if_pos e2, if_pos (by omega)]
    · rw [if_neg e2, if_neg (by omega)]
theorem made_at (n j : Nat) (hj : j < n) : (madeCells #[Value.int .u8 0] n)[j]? = some (.int .u8 0) := by
  simp [madeCells, hj, Nat.mod_one]
theorem z16 : (Tryz.prog.info? 5).map (fun i => (i.zero, i.size, i.bytes)) = some (some (.int .u8 0), 1, 1) := Tryz.info5
set_option maxHeartbeats 4000000 in
theorem rturned_core (back : Bool) (f y : Nat → By) (st ps src : Nat → Nat) (gb cb : Nat)
    (hps : ∀ c r, c < 4 → r < 4 → ps (4 * c + r) = if back then 4 * ((c + r) % 4) + r else 4 * c + r) (hsrc : ∀ c r, c < 4 → r < 4 → src (4 * c + r) = if back then 4 * c + r else 4 * ((c + r) % 4) + r)
    (hval : ∀ m, m < 16 → f (src m) = y (ps m)) (hst : ∀ m, m < 16 → st (ps m) = m) (hun : ∀ j m, j < 16 → m < 16 → st j = m → j = ps m) (hall : ∀ j, j < 16 → st j < 16)
    (w : World) (hA : Arr w gb 16 (bc f)) :
    Calls Tryz.prog 88 #[.slice (some ⟨gb, 0, none⟩) 16 cb, .bool back] w fun e w' => e = .returned (.slice (some ⟨w.heap.size, 0, none⟩) 16 16) ∧ Below w.heap.size w w' ∧ Arr w' w.heap.size 16 (bc y) := by
  obtain ⟨i0, hi, hz0, hz1, hz2⟩ := info_parts Tryz.info5
  have mk := run_make (P := Tryz.prog) w 50 5 i0 (.int .u8 0) Tryz.underlying50 hi hz0 .i64 .i64 16 16 (by omega) (by omega) (by rw [hz2]; omega) (by omega)
  rw [hz1] at mk
  go_enter Tryz.func88, Tryz.ntmps88
  go_wp2_with fail
  have A0 : Arr (w.alloc (.cells (madeCells #[.int .u8 0] 16) 5)) w.heap.size 16 (tv y st 0) := Arr.new _ _ 5 _ rfl _ 16 (fun j hj => by unfold tv; rw [if_neg (by omega)]; exact made_at 16 j hj)
  have B0 : Below w.heap.size w (w.alloc (.cells (madeCells #[.int .u8 0] 16) 5)) := Bel.al (Below.refl _ w) _
  clear mk hi hz0 hz1 hz2
  go_loopw [6] (fun i wr => ∃ c : Nat, c ≤ 4 ∧ i = .int .i64 c ∧ Below w.heap.size w wr ∧ Arr wr w.heap.size 16 (tv y st (4 * c))) (fun i _ => 4 - (intOf i).toNat)
  case atStart => exact ⟨0, by omega, rfl, B0, A0⟩
  case round =>
    clear A0 B0
    obtain ⟨c, hc, rfl, hB, A⟩ := hrel
    have c0 : (0 : Int) ≤ (c : Int) := by omega
    by_cases hlt : c < 4
    · have c4 : (c : Int) < 4 := by omega
      go_wp2_with fail
      go_loopw [7] (fun i wr => ∃ r : Nat, r ≤ 4 ∧ i = .int .i64 r ∧ Below w.heap.size w wr ∧ Arr wr w.heap.size 16 (tv y st (4 * c + r))) (fun i _ => 4 - (intOf i).toNat)
      case atStart => exact ⟨0, by omega, rfl, hB, A⟩
      case round =>
        clear A hB
        obtain ⟨r, hr, rfl, hB, A⟩ := hrel
        have r0 : (0 : Int) ≤ (r : Int) := by omega
        by_cases hlr : r < 4
        · have r4 : (r : Int) < 4 := by omega
          have hp := hps c r hlt hlr
          have hs := hsrc c r hlt hlr
          have hv := hval (4 * c + r) (by omega)
          have hS := tv_step y st (4 * c + r) (ps (4 * c + r)) (hst _ (by omega)) (fun j hj h => hun j _ hj (by omega) h)
          have F := hA.to' hB
          obtain ⟨q, hq⟩ : ∃ q, (c + r) % 4 = q := ⟨_, rfl⟩
          have q4 : q < 4 := by omega
          have qi : ((c : Int) + (r : Int)) % 4 = (q : Int) := by omega
          rw [hq] at hp hs
          have q0 : (0 : Int) ≤ (q : Int) := by omega
          have qi4 : (q : Int) < 4 := by omega
          rw [hs, hp] at hv
          rw [hp] at hS
          clear hps hsrc hval hst hun hall hp hs hq
          cases back with
          | true =>
            rw [if_pos rfl, if_pos rfl] at hv
            rw [if_pos rfl] at hS
            have HS : Hid _ := hS
            have HV : Hid _ := hv
            have cf := F.c (4 * c + r) (by omega)
            unfold bc at cf
            rw [hv] at cf
            have co := A.c (4 * q + r) (by omega)
            have zo := A.z (4 * q + r) (by omega)
            clear hS hv F
            go_wp2_with fail
            refine ⟨⟨r + 1, by omega, by go_num, Bel.st hB (Nat.le_refl _) _, (A.set (4 * q + r) (by omega) _).congr HS.out⟩, by simp [intOf]; omega⟩
          | false =>
            rw [if_neg (by decide), if_neg (by decide)] at hv
            rw [if_neg (by decide)] at hS
            have HS : Hid _ := hS
            have cf := F.c (4 * q + r) (by omega)
            unfold bc at cf
            rw [hv] at cf
            have co := A.c (4 * c + r) (by omega)
            have zo := A.z (4 * c + r) (by omega)
            clear hS hv F
            go_wp2_with fail
            refine ⟨⟨r + 1, by omega, by go_num, Bel.st hB (Nat.le_refl _) _, (A.set (4 * c + r) (by omega) _).congr HS.out⟩, by simp [intOf]; omega⟩
        · have e : r = 4 := by omega
          rw [show ((r : Nat) : Int) = 4 by omega]
          subst e
          clear hps hsrc hval hst hun hall
          go_wp2_with fail
          refine ⟨⟨c + 1, by omega, by go_num, hB, ?_⟩, by simp [intOf]; omega⟩
          rw [show 4 * (c + 1) = 4 * c + 4 by omega]
          exact A
    · have e : c = 4 := by omega
      rw [show ((c : Nat) : Int) = 4 by omega]
      subst e
      have A2 : Arr wr w.heap.size 16 (bc y) := A.congr fun j hj => by unfold tv bc; rw [if_pos (hall j hj)]
      clear A hps hsrc hval hst hun hall
      go_wp2_with fail
      go_ret
      exact ⟨rfl, hB, A2⟩
def ti (j : Nat) : Nat := 4 * ((j / 4 + j % 4) % 4) + j % 4
theorem ti_at (c r : Nat) (hc : c < 4) (hr : r < 4) : ti (4 * c + r) = 4 * ((c + r) % 4) + r := by
  unfold ti
  rw [show (4 * c + r) / 4 = c by omega, show (4 * c + r) % 4 = r by omega]
theorem rturned_any (f : Nat → By) (gb cb : Nat) (w : World) (hA : Arr w gb 16 (bc f)) :
    Calls Tryz.prog 88 #[.slice (some ⟨gb, 0, none⟩) 16 cb, .bool false] w fun e w' => e = .returned (.slice (some ⟨w.heap.size, 0, none⟩) 16 16) ∧ Below w.heap.size w w' ∧ Arr w' w.heap.size 16 (bc (tnF f)) :=
  rturned_core false f (tnF f) id id ti gb cb (fun c r _ _ => rfl) (fun c r hc hr => by rw [ti_at c r hc hr]; rfl) (fun m _ => rfl) (fun m _ => rfl) (fun j m _ _ h => h) (fun j h => h) w hA
end Go.Proofs.YtjaljnfijhfkcaaGreatDoor
/- A stream's bytes: the program's. -/
set_option linter.all false
set_option maxRecDepth 100000
namespace Go.Proofs.YtjaljnfijhfkcaaGreatDoor
open Go.RowKit Go.Shelf Go.Sort Go.Lib
attribute [local go_sem] Oper.semAt_some
/-- The first k blocks of a stream. -/
def stS (key : ByteArray) (f : Nat → By) : Nat → ByteArray
  | 0 => ⟨#[]⟩
  | k + 1 => stS key f k ++ tx (encF key (ctF f k))
theorem stS_size (key : ByteArray) (f : Nat → By) (k : Nat) : (stS key f k).size = 16 * k := by
  induction k with
  | zero => rfl
  | succ k ih => rw [stS, ByteArray.size_append, ih, tx_size]; omega
/-- n bytes of a stream. -/
def smS (key : ByteArray) (f : Nat → By) (n : Nat) : ByteArray := (stS key f ((n + 15) / 16)).extract 0 n
theorem smS_size (key : ByteArray) (f : Nat → By) (n : Nat) : (smS key f n).size = n := by unfold smS; rw [ByteArray.size_extract, stS_size]; omega
theorem stS_pre (key : ByteArray) (f : Nat → By) (k d n : Nat) (h : n ≤ 16 * k) : (stS key f (k + d)).extract 0 n = (stS key f k).extract 0 n := by
  induction d with
  | zero => rfl
  | succ d ih => rw [← Nat.add_assoc, stS, ext_app_lo _ _ _ (by rw [stS_size]; omega), ih]
theorem smS_pre (key : ByteArray) (f : Nat → By) (n m : Nat) (h : n ≤ m) : (smS key f m).extract 0 n = smS key f n := by
  unfold smS
  obtain ⟨d, hd⟩ := Nat.exists_eq_add_of_le (show (n + 15) / 16 ≤ (m + 15) / 16 by omega)
  rw [ByteArray.extract_extract, hd, show min (0 + n) m = n by omega, stS_pre _ _ _ _ _ (by omega)]
theorem hf_tx (h : Nat → By) : (hfL (col h) 4).map (Value.int .u8) = strCells (tx h) := by
  rw [← txt_col]
  unfold txt strCells
  rw [mkS_list, List.map_map]
  refine List.map_congr_left fun v hv => ?_
  have e : hfL (col h) 4 = (List.range 16).map fun j => ((h j).val : Int) := by
    unfold hfL hfL hfL hfL hfL col
    simp only [w4_wd]
    rfl
  rw [e] at hv
  obtain ⟨j, _, rfl⟩ := List.mem_map.1 hv
  have := (h j).2
  simp
theorem ownsRow_take {w : World} {base g n k cap : Nat} {xs : List Value} (h : w.ownsRow base 5 1 (.slice (some ⟨g, 0, none⟩) n cap) n xs) (hk : k ≤ n) : w.ownsRow base 5 1 (.slice (some ⟨g, 0, none⟩) k cap) k (xs.take k) := by
  obtain ⟨hl, h2⟩ := h
  rcases h2 with ⟨h, _⟩ | ⟨g', cap', cur, hv, hb, hh, hc, hm, hs, ht⟩
  · cases h
  · cases hv
    refine ⟨by rw [List.length_take]; omega, .inr ⟨g, cap, cur, rfl, hb, hh, by omega, hm, hs, ?_⟩⟩
    rw [← ht, List.take_take]
    congr 1
    omega
theorem strCells_take (s : ByteArray) (n : Nat) : (strCells s).take n = strCells (s.extract 0 n) := by
  unfold strCells
  rw [ext_list, List.drop_zero, Nat.sub_zero, ← List.map_take]
/-- What Stream refuses. -/
def rfn (key first : ByteArray) (n : Int) : Int := if n < 0 ∨ 65536 < n then 13 else rfs key first
set_option maxHeartbeats 2000000 in
theorem stream_no (key first : ByteArray) (n : Int) (h : rfn key first n ≠ 0) (w : World) :
    Calls Tryz.prog 77 #[.string key, .string first, .int .i64 n] w fun e w' => e = .returned (.tuple #[.string ⟨#[]⟩, .int .i64 (rfn key first n)]) ∧ Below w.heap.size w w' := by
  have C := fun W => refused_any key first W
  by_cases h1 : n < 0
  · have e : rfn key first n = 13 := by unfold rfn; rw [if_pos (.inl h1)]
    rw [e]
    clear e h
    go_enter Tryz.func77, Tryz.ntmps77
    go_wp2_with fail
    refine bodyPost_ret (v := .tuple #[.string ⟨#[]⟩, .int .i64 13]) (by simp [results, Tryz.results77, go_sem]) rfl ?_
    exact ⟨rfl, Bel.al (Below.refl _ w) _⟩
  · by_cases h2 : 65536 < n
    · have e : rfn key first n = 13 := by unfold rfn; rw [if_pos (.inr h2)]
      rw [e]
      clear e h
      go_enter Tryz.func77, Tryz.ntmps77
      go_wp2_with fail
      refine bodyPost_ret (v := .tuple #[.string ⟨#[]⟩, .int .i64 13]) (by simp [results, Tryz.results77, go_sem]) rfl ?_
      exact ⟨rfl, Bel.al (Below.refl _ w) _⟩
    · have e : rfn key first n = rfs key first := by unfold rfn; rw [if_neg (by omega)]
      rw [e] at h ⊢
      clear e
      generalize rfs key first = r at *
      go_enter Tryz.func77, Tryz.ntmps77
      go_wp2_with (go_at_call 95; refine (C _).mono ?_; rintro e w1 ⟨rfl, rfl⟩)
      refine bodyPost_ret (v := .tuple #[.string ⟨#[]⟩, .int .i64 r]) (by simp [results, Tryz.results77, go_sem]) rfl ?_
      exact ⟨rfl, Bel.al (Below.refl _ w) _⟩
end Go.Proofs.YtjaljnfijhfkcaaGreatDoor
/- FIPS 197's example, reckoned. -/
set_option linter.all false
set_option maxRecDepth 100000
namespace Go.Proofs.YtjaljnfijhfkcaaGreatDoor
theorem tnF_congr {f g : Nat → By} (e : ∀ j, j < 16 → f j = g j) (j : Nat) (hj : j < 16) : tnF f j = tnF g j := by unfold tnF; rw [e _ (by omega)]
theorem beF_congr {f g : Nat → By} (t : By → By) (e : ∀ j, j < 16 → f j = g j) (j : Nat) (hj : j < 16) : beF t f j = beF t g j := by unfold beF; rw [e _ hj]
theorem mxF_congr {f g : Nat → By} (m0 m1 m2 m3 : By) (e : ∀ j, j < 16 → f j = g j) (j : Nat) (hj : j < 16) : mxF m0 m1 m2 m3 f j = mxF m0 m1 m2 m3 g j := by unfold mxF; rw [e _ (by omega), e _ (by omega), e _ (by omega), e _ (by omega)]
theorem rdE_congr (key : ByteArray) (i : Nat) {f g : Nat → By} (e : ∀ j, j < 16 → f j = g j) (j : Nat) (hj : j < 16) : rdE key i f j = rdE key i g j := by
  unfold rdE
  split
  · exact e j hj
  · split
    · exact tnF_congr (beF_congr sb e) j hj
    · exact mxF_congr _ _ _ _ (tnF_congr (beF_congr sb e)) j hj
def fipK : ByteArray := ⟨#[0, 1, 2, 3, 4, 5, 6, 7, 8, 9, 10, 11, 12, 13, 14, 15]⟩
def fipB : ByteArray := ⟨#[0, 17, 34, 51, 68, 85, 102, 119, 136, 153, 170, 187, 204, 221, 238, 255]⟩
def fipC : ByteArray := ⟨#[105, 196, 224, 216, 106, 123, 4, 48, 216, 205, 183, 128, 112, 180, 197, 90]⟩
def fipW : List Q4 := [(0, 1, 2, 3), (4, 5, 6, 7), (8, 9, 10, 11), (12, 13, 14, 15), (214, 170, 116, 253), (210, 175, 114, 250), (218, 166, 120, 241), (214, 171, 118, 254), (182, 146, 207, 11), (100, 61, 189, 241), (190, 155, 197, 0), (104, 48, 179, 254), (182, 255, 116, 78), (210, 194, 201, 191), (108, 89, 12, 191), (4, 105, 191, 65), (71, 247, 247, 188), (149, 53, 62, 3), (249, 108, 50, 188), (253, 5, 141, 253), (60, 170, 163, 232), (169, 159, 157, 235), (80, 243, 175, 87), (173, 246, 34, 170), (94, 57, 15, 125), (247, 166, 146, 150), (167, 85, 61, 193), (10, 163, 31, 107), (20, 249, 112, 26), (227, 95, 226, 140), (68, 10, 223, 77), (78, 169, 192, 38), (71, 67, 135, 53), (164, 28, 101, 185), (224, 22, 186, 244), (174, 191, 122, 210), (84, 153, 50, 209), (240, 133, 87, 104), (16, 147, 237, 156), (190, 44, 151, 78), (19, 17, 29, 127), (227, 148, 74, 23), (243, 7, 167, 139), (77, 43, 48, 197)]
def fipS : List (List By) := [[0, 17, 34, 51, 68, 85, 102, 119, 136, 153, 170, 187, 204, 221, 238, 255], [0, 16, 32, 48, 64, 80, 96, 112, 128, 144, 160, 176, 192, 208, 224, 240], [137, 216, 16, 232, 133, 90, 206, 104, 45, 24, 67, 216, 203, 18, 143, 228], [73, 21, 89, 143, 85, 229, 215, 160, 218, 202, 148, 250, 31, 10, 99, 247], [250, 99, 106, 40, 37, 179, 57, 201, 64, 102, 138, 49, 87, 36, 77, 23], [36, 114, 64, 35, 105, 102, 179, 250, 110, 210, 117, 50, 136, 66, 91, 108], [200, 22, 119, 188, 155, 122, 201, 59, 37, 2, 121, 146, 176, 38, 25, 150], [198, 47, 225, 9, 247, 94, 237, 195, 204, 121, 57, 93, 132, 249, 207, 93], [209, 135, 108, 15, 121, 196, 48, 10, 180, 85, 148, 173, 214, 111, 244, 31], [253, 227, 186, 210, 5, 229, 208, 215, 53, 71, 150, 78, 241, 254, 55, 241], [189, 110, 124, 61, 242, 181, 119, 158, 11, 97, 33, 110, 139, 16, 182, 137], [105, 196, 224, 216, 106, 123, 4, 48, 216, 205, 183, 128, 112, 180, 197, 90]]
theorem fipK_nk : nkO fipK = 4 := by decide
theorem fipW_chk : ∀ n : Fin 44, (if n.val < 4 then (bF fipK (4 * n.val), bF fipK (4 * n.val + 1), bF fipK (4 * n.val + 2), bF fipK (4 * n.val + 3)) else xQ (fipW.getD (n.val - 4) (0, 0, 0, 0)) (tQ 4 n.val (fipW.getD (n.val - 1) (0, 0, 0, 0)))) = fipW.getD n.val (0, 0, 0, 0) := by decide +kernel
theorem fipW_ok (n : Nat) (hn : n < 44) : kQ (bF fipK) 4 n = fipW.getD n (0, 0, 0, 0) := by
  induction n using Nat.strongRecOn with
  | _ n ih =>
    have c := fipW_chk ⟨n, hn⟩
    by_cases h : n < 4
    · rw [if_pos h] at c
      rw [kQ_lo _ _ _ h]
      exact c
    · rw [if_neg h] at c
      rw [kQ_hi _ _ _ (by omega) (by omega), ih (n - 4) (by omega) (by omega), ih (n - 1) (by omega) (by omega)]
      exact c
theorem fipS_chk : ∀ i : Fin 11, ∀ j : Fin 16, plF (rdE fipK i.val (fun q => (fipS.getD i.val []).getD q 0)) (fun q => bQ (fipW.getD ((16 * i.val + q) / 4) (0, 0, 0, 0)) ((16 * i.val + q) % 4)) j.val = (fipS.getD (i.val + 1) []).getD j.val 0 := by decide +kernel
theorem fipS_0 : ∀ j : Fin 16, bF fipB j.val = (fipS.getD 0 []).getD j.val 0 := by decide +kernel
theorem fipS_ok (i : Nat) (hi : i ≤ 11) : ∀ j, j < 16 → eS fipK (bF fipB) i j = (fipS.getD i []).getD j 0 := by
  induction i with
  | zero => intro j hj; exact fipS_0 ⟨j, hj⟩
  | succ i ih =>
    intro j hj
    rw [← fipS_chk ⟨i, by omega⟩ ⟨j, hj⟩]
    show xr (rdE fipK i (eS fipK (bF fipB) i) j) (rk fipK i j) = xr _ _
    rw [rdE_congr fipK i (ih (by omega)) j hj]
    congr 1
    unfold rk kB
    rw [fipK_nk, fipW_ok _ (by omega)]
theorem ex_enc : encS fipK fipB = fipC := by
  unfold encS encF
  rw [fipK_nk, tx_congr (fipS_ok 11 (by omega))]
  apply ba_ext
  rw [tx, mkS_list]
  decide
theorem ex_rfs : rfs fipK fipB = 0 := by decide
end Go.Proofs.YtjaljnfijhfkcaaGreatDoor
