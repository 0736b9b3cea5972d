/- Counting on, and bytes of a stream. -/
import Derived.OwnWalk
import Derived.Test.YtbodafogiijhnaaJ21
set_option linter.all false
set_option maxRecDepth 100000
namespace Go.Proofs.Ytbodafogiijhnaa
open Go.RowKit Go.Sort
set_option maxHeartbeats 2000000 in
theorem appended_fits (x : Nat → Int) (base n g cap : Nat) (L0 : List Value) (w : World) (hw : w.ownsRow base 5 1 (.slice (some ⟨g, 0, none⟩) n cap) n L0) (hcap : n + 16 ≤ cap) :
    Calls Try.prog 51 #[bv x, .slice (some ⟨g, 0, none⟩) n cap] w fun e w' => e = .returned (.slice (some ⟨g, 0, none⟩) (n + 16) cap) ∧ w'.ownsRow base 5 1 (.slice (some ⟨g, 0, none⟩) (n + 16) cap) (n + 16) (L0 ++ (hfL x 4).map (Value.int .u8)) ∧ w.grownBy w' (some g) := by
  obtain ⟨i0, hi, hz0, hz1, hz2⟩ := info_parts Try.info5
  unfold bv
  go_enter Try.func51, Try.ntmps51
  go_wp2_with fail
  go_loopw [1, 8] (fun v i wr => ∃ (k : Nat) (L : List Value), k ≤ 4 ∧ i = .int .i64 k ∧ v = .slice (some ⟨g, 0, none⟩) (n + 4 * k) cap ∧ wr.ownsRow base 5 1 (.slice (some ⟨g, 0, none⟩) (n + 4 * k) cap) (n + 4 * k) L ∧ L = L0 ++ (hfL x k).map (Value.int .u8) ∧ w.grownBy wr (some g))
    (fun _ i _ => 4 - (intOf i).toNat)
  case atStart => exact ⟨0, L0, by omega, rfl, rfl, World.ownsRow.alloc hw _, by simp [hfL], World.grownBy_alloc w _ _⟩
  case round =>
    obtain ⟨k, L, hk, rfl, rfl, hown, hL, hB⟩ := hrel
    by_cases hlt : k < 4
    · have k0 : (0 : Int) ≤ (k : Int) := by omega
      have k1 : (k : Int) < 4 := by omega
      have I := fun W => idx68 _ k _ hlt (h4_at x k hlt) W
      have HL : Hid (L0 ++ (hfL x (k + 1)).map (Value.int .u8) = L ++ (w4 (x k)).map (Value.int .u8)) := by
        show _ = _
        rw [hfL, List.map_append, hL, List.append_assoc]
      have HO : Hid (wr.ownsRow base 5 1 (.slice (some ⟨g, 0, none⟩) (n + 4 * k) cap) (n + 4 * k) L) := hown
      have kr : n + 4 * k + 4 ≤ cap := by omega
      have k1c : 0 < cap := by omega
      unfold w4 at HL
      clear hL hown hw
      go_wp2_with (at_builtin; refine stopAt ?_)
      unfold Stop
      refine wpList_append_fits _ rfl _ _ 36 rfl base 5 i0 1 Try.underlying36 hi hz1 g (n + 4 * k) cap _ rfl (World.ownsRow.alloc HO.out _) ⟨_, 0, none⟩ 4 4 [.int .u8 (x k / 16777216 % 256), .int .u8 (x k / 65536 % 256), .int .u8 (x k / 256 % 256), .int .u8 (x k % 256)] rfl rfl (news_new _ _ _) (by simp [Value.oneCell']) kr ?_
      intro w3 hown' hgrow3
      have b3 : w.grownBy w3 (some g) := by
        have h1 := gb_trans hB (World.grownBy_alloc wr (.cells #[.int .u8 (x k / 16777216 % 256), .int .u8 (x k / 65536 % 256), .int .u8 (x k / 256 % 256), .int .u8 (x k % 256)] 5) (some g))
        exact gb_trans h1 hgrow3
      clear hgrow3
      go_wp2_with fail
      refine ⟨⟨k + 1, _, by omega, by go_num, by rw [show n + 4 * (k + 1) = n + 4 * k + 4 by omega], by rw [show n + 4 * (k + 1) = n + 4 * k + 4 by omega]; exact hown', HL.out.symm, b3⟩, by simp [intOf]; omega⟩
    · have e : k = 4 := by omega
      subst e
      subst hL
      have HO : Hid (wr.ownsRow base 5 1 (.slice (some ⟨g, 0, none⟩) (n + 16) cap) (n + 16) (L0 ++ (hfL x 4).map (Value.int .u8))) := hown
      clear hown hw
      go_wp2_with fail
      go_ret
      exact ⟨rfl, HO.out, hB⟩
/-- A block's number and 1: byte by byte. -/
def nxF (f : Nat → By) (j : Nat) : By := if (∀ i, i < 16 → j < i → f i = 255) then f j + 1 else f j
theorem add_val (a : By) : (a + 1).val = (a.val + 1) % 256 := by simp [Fin.val_add]
/-- A word and 1. -/
theorem wd_inc (a b c d : By) : (wd a b c d + 1) % 4294967296 = wd (if b = 255 ∧ c = 255 ∧ d = 255 then a + 1 else a) (if c = 255 ∧ d = 255 then b + 1 else b) (if d = 255 then c + 1 else c) (d + 1) := by
  have f : ∀ x : By, x = 255 ↔ x.val = 255 := fun x => ⟨fun h => by rw [h]; rfl, fun h => Fin.ext h⟩
  have := a.2
  have := b.2
  have := c.2
  have := d.2
  unfold wd wdN
  by_cases h1 : d = 255
  · have e1 := (f d).1 h1
    by_cases h2 : c = 255
    · have e2 := (f c).1 h2
      by_cases h3 : b = 255
      · have e3 := (f b).1 h3
        simp only [h1, h2, h3, and_self, if_true, add_val]
        simp
        omega
      · simp only [h1, h2, h3, and_self, false_and, if_true, if_false, add_val]
        have : ¬ b.val = 255 := fun h => h3 ((f b).2 h)
        simp
        omega
    · simp only [h1, h2, and_self, false_and, and_false, if_true, if_false, add_val]
      have : ¬ c.val = 255 := fun h => h2 ((f c).2 h)
      simp
      omega
  · simp only [h1, and_false, if_false, add_val]
    have : ¬ d.val = 255 := fun h => h1 ((f d).2 h)
    omega
theorem wd_ff (a b c d : By) : (wd a b c d + 1) % 4294967296 = 0 ↔ a = 255 ∧ b = 255 ∧ c = 255 ∧ d = 255 := by
  have f : ∀ x : By, x = 255 ↔ x.val = 255 := fun x => ⟨fun h => by rw [h]; rfl, fun h => Fin.ext h⟩
  have := a.2
  have := b.2
  have := c.2
  have := d.2
  rw [f, f, f, f]
  unfold wd wdN
  constructor
  · intro h
    omega
  · rintro ⟨h1, h2, h3, h4⟩
    rw [h1, h2, h3, h4]
    rfl
/-- The columns behind c are full. -/
def fl (f : Nat → By) (c : Nat) : Prop := ∀ i, i < 16 → 4 * c + 3 < i → f i = 255
theorem fl_step (f : Nat → By) (c : Nat) (hc : c < 4) (h : fl f (c + 1)) (e : (col f (c + 1) + 1) % 4294967296 = 0) (hc1 : c + 1 < 4) : fl f c := by
  unfold col at e
  obtain ⟨h0, h1, h2, h3⟩ := (wd_ff _ _ _ _).1 e
  intro i hi hl
  by_cases g : 4 * (c + 1) + 3 < i
  · exact h i hi g
  · have : i = 4 * (c + 1) ∨ i = 4 * (c + 1) + 1 ∨ i = 4 * (c + 1) + 2 ∨ i = 4 * (c + 1) + 3 := by omega
    rcases this with rfl | rfl | rfl | rfl <;> assumption
theorem col_nx (f : Nat → By) (c : Nat) (hc : c < 4) (h : fl f c) : col (nxF f) c = (col f c + 1) % 4294967296 := by
  unfold col
  rw [wd_inc]
  have e3 : nxF f (4 * c + 3) = f (4 * c + 3) + 1 := by unfold nxF; rw [if_pos (fun i hi hl => h i hi hl)]
  have e2 : nxF f (4 * c + 2) = if f (4 * c + 3) = 255 then f (4 * c + 2) + 1 else f (4 * c + 2) := by
    unfold nxF
    by_cases g : f (4 * c + 3) = 255
    · rw [if_pos g, if_pos]
      intro i hi hl
      by_cases q : i = 4 * c + 3
      · rw [q]; exact g
      · exact h i hi (by omega)
    · rw [if_neg g, if_neg]
      intro H
      exact g (H _ (by omega) (by omega))
  have e1 : nxF f (4 * c + 1) = if f (4 * c + 2) = 255 ∧ f (4 * c + 3) = 255 then f (4 * c + 1) + 1 else f (4 * c + 1) := by
    unfold nxF
    by_cases g : f (4 * c + 2) = 255 ∧ f (4 * c + 3) = 255
    · rw [if_pos g, if_pos]
      intro i hi hl
      by_cases q : i = 4 * c + 3
      · rw [q]; exact g.2
      · by_cases q : i = 4 * c + 2
        · rw [q]; exact g.1
        · exact h i hi (by omega)
    · rw [if_neg g, if_neg]
      intro H
      exact g ⟨H _ (by omega) (by omega), H _ (by omega) (by omega)⟩
  have e0 : nxF f (4 * c) = if f (4 * c + 1) = 255 ∧ f (4 * c + 2) = 255 ∧ f (4 * c + 3) = 255 then f (4 * c) + 1 else f (4 * c) := by
    unfold nxF
    by_cases g : f (4 * c + 1) = 255 ∧ f (4 * c + 2) = 255 ∧ f (4 * c + 3) = 255
    · rw [if_pos g, if_pos]
      intro i hi hl
      by_cases q : i = 4 * c + 3
      · rw [q]; exact g.2.2
      · by_cases q : i = 4 * c + 2
        · rw [q]; exact g.2.1
        · by_cases q : i = 4 * c + 1
          · rw [q]; exact g.1
          · exact h i hi (by omega)
    · rw [if_neg g, if_neg]
      intro H
      exact g ⟨H _ (by omega) (by omega), H _ (by omega) (by omega), H _ (by omega) (by omega)⟩
  rw [e0, e1, e2, e3]
theorem col_nx_no (f : Nat → By) (c k : Nat) (hk : k < 4) (hck : c < k) (e : ¬ (col f k + 1) % 4294967296 = 0) : col (nxF f) c = col f c := by
  unfold col at e
  have ne : ¬ (f (4 * k) = 255 ∧ f (4 * k + 1) = 255 ∧ f (4 * k + 2) = 255 ∧ f (4 * k + 3) = 255) := fun h => e ((wd_ff _ _ _ _).2 h)
  have no : ∀ j, j < 4 * k → nxF f j = f j := fun j hj => by
    unfold nxF
    rw [if_neg]
    intro H
    exact ne ⟨H _ (by omega) (by omega), H _ (by omega) (by omega), H _ (by omega) (by omega), H _ (by omega) (by omega)⟩
  unfold col
  rw [no _ (by omega), no _ (by omega), no _ (by omega), no _ (by omega)]
/-- The columns from k on are done. -/
def dn (y x : Nat → Int) (k : Nat) (j : Nat) : Value := .int .u32 (if k ≤ j then y j else x j)
set_option maxHeartbeats 2000000 in
theorem next_core (x g : Nat → Int) (F : Nat → Prop) (hF3 : F 3) (hF : ∀ k, k < 3 → F (k + 1) → (x (k + 1) + 1) % 4294967296 = 0 → F k)
    (hg : ∀ k, k < 4 → F k → g k = (x k + 1) % 4294967296) (hn : ∀ k c, k < 4 → c < k → ¬ (x k + 1) % 4294967296 = 0 → g c = x c) (w : World) :
    Calls Try.prog 66 #[bv x] w fun e w' => e = .returned (bv g) ∧ Below w.heap.size w w' := by
  unfold bv
  go_enter Try.func66, Try.ntmps66
  go_wp2_with fail
  go_loopw [3] (fun i wr => ∃ k q : Nat, k ≤ 4 ∧ k = q ∧ i = .int .i64 ((q : Int) - 1) ∧ Below w.heap.size w wr ∧ Arr wr w.heap.size 4 (dn g x k) ∧ Arr wr (w.heap.size + 1) 4 (fun _ => .int .u32 0) ∧ (∀ m, k = m + 1 → F m)) (fun i _ => (intOf i + 1).toNat)
  case atStart =>
    refine ⟨4, 4, by omega, rfl, rfl, by go_grown, ?_, ?_, ?_⟩
    · refine ((Arr.new w _ _ _ rfl _ 4 (h4_at x)).al' _).congr fun j hj => ?_
      unfold dn
      rw [if_neg (by omega)]
    · exact Arr.new _ _ _ _ (by simp) _ 4 z4_at
    · intro m hm
      obtain rfl : m = 3 := by omega
      exact hF3
  case round =>
    obtain ⟨k, q, hk, hkq, rfl, hB, A0, A1, hf⟩ := hrel
    by_cases hlt : 0 < q
    · obtain ⟨p, rfl⟩ : ∃ p, q = p + 1 := ⟨q - 1, by omega⟩
      have ep : ((p + 1 : Nat) : Int) - 1 = (p : Int) := by omega
      rw [ep]
      clear ep
      subst hkq
      have hFp := hf p rfl
      have p4 : p < 4 := by omega
      have i0 : (0 : Int) ≤ (p : Int) := by omega
      have i4 : (p : Int) < 4 := by omega
      have cp := A0.cv p p4 (.int .u32 (x p)) (by unfold dn; rw [if_neg (by omega)])
      have zp := A0.z p p4
      have gp := hg p p4 hFp
      have A2 := A0.set p p4 (.int .u32 (g p))
      have Z2 := A1.other (b' := w.heap.size) (k := p) (by omega) (.int .u32 (g p))
      have B2 := Bel.st hB (Nat.le_refl _) (k := p) (.int .u32 (g p))
      by_cases hz : (x p + 1) % 4294967296 = 0
      · have HF : Hid (∀ m, p = m + 1 → F m) := fun m hm => hF m (by omega) (by rw [← hm]; exact hFp) (by rw [← hm]; exact hz)
        have g0 : g p = 0 := by rw [gp, hz]
        clear hg hn hF hF3 hf hFp gp
        rw [g0] at A2 Z2 B2
        have HG : Hid (g p = 0) := g0
        clear g0
        go_wp2_with fail
        refine ⟨⟨p, p, by omega, rfl, by go_num, B2, A2.congr ?_, Z2, HF.out⟩, by first | (simp [intOf]; done) | (simp [intOf]; omega)⟩
        intro j hj
        unfold dn
        by_cases e : j = p
        · subst e; rw [if_pos rfl, if_pos (Nat.le_refl _), HG.out]
        · rw [if_neg e]
          by_cases e2 : p + 1 ≤ j
          · rw [if_pos e2, if_pos (by omega)]
          · rw [if_neg e2, if_neg (by omega)]
      · have A : Arr (wr.setCell ⟨w.heap.size, p, none⟩ (.int .u32 (g p))) w.heap.size 4 (fun j => .int .u32 (g j)) := A2.congr fun j hj => by
          by_cases e : j = p
          · subst e; rw [if_pos rfl]
          · rw [if_neg e]
            unfold dn
            by_cases e2 : p + 1 ≤ j
            · rw [if_pos e2]
            · rw [if_neg e2, hn p j p4 (by omega) hz]
        have gz : ¬ g p = 0 := by rw [gp]; exact hz
        have gq : (x p + 1) % 4294967296 = g p := gp.symm
        clear hg hn hF hF3 hf hFp gp hz A2 A0 A1 hB
        have c9 := A.c p p4
        obtain ⟨w9, hw9⟩ : ∃ w9, wr.setCell ⟨w.heap.size, p, none⟩ (.int .u32 (g p)) = w9 := ⟨_, rfl⟩
        rw [hw9] at A Z2 B2 c9
        have Z := Z2
        have BB := B2
        go_upto_region 5 with (fail)
        try rw [hw9]
        clear hw9 cp zp
        have c0 := A.c 0 (by omega)
        have c1 := A.c 1 (by omega)
        have c2 := A.c 2 (by omega)
        have c3 := A.c 3 (by omega)
        have d := Z.c
        have z := Z.z
        have E := (Z.st4 g).c
        go_wp2_with fail
        refine bodyPost_ret (v := bv g) ?_ rfl ⟨rfl, Bel.st4 BB (by omega) g⟩
        simp only [Go.Proofs.Ytbodafogiijhnaa.st4] at E
        simp [bv, results, Try.results66, go_sem, E]
    · have q0 : q = 0 := by omega
      subst q0
      subst hkq
      have A : Arr wr w.heap.size 4 (fun j => .int .u32 (g j)) := A0.congr fun j _ => by unfold dn; rw [if_pos (Nat.zero_le _)]
      have Z := A1
      have BB := hB
      rw [show (((0 : Nat) : Int) - 1) = -1 by omega]
      have c0 := A.c 0 (by omega)
      have c1 := A.c 1 (by omega)
      have c2 := A.c 2 (by omega)
      have c3 := A.c 3 (by omega)
      have d := Z.c
      have z := Z.z
      have E := (Z.st4 g).c
      clear A0 A1 hB hk hlt hg hn hF hF3 hf
      go_wp2_with fail
      refine bodyPost_ret (v := bv g) ?_ rfl ⟨rfl, Bel.st4 BB (by omega) g⟩
      simp only [Go.Proofs.Ytbodafogiijhnaa.st4] at E
      simp [bv, results, Try.results66, go_sem, E]
theorem next_any (f : Nat → By) (w : World) : Calls Try.prog 66 #[bv (col f)] w fun e w' => e = .returned (bv (col (nxF f))) ∧ Below w.heap.size w w' :=
  next_core (col f) (col (nxF f)) (fl f) (fun i hi hl => by omega) (fun k hk h e => fl_step f k (by omega) h e (by omega)) (fun k hk h => col_nx f k hk h) (fun k c hk hc e => col_nx_no f c k hk hc e) w
end Go.Proofs.Ytbodafogiijhnaa
