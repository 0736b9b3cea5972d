/- Texts joined: A11, A12, A13, F1, V2, V3, C1, Z11. -/
import Derived.ProofKit
import Derived.OpenShut
import Derived.ShutString
import Derived.ChangeOld
import Derived.Below
import Derived.Lib.BufferWrite
import Derived.Test.YtogkijjmimaccaaJ9
import Derived.Test.YtogkijjmimaccaaJ8
/- Blocks of texts. -/
set_option linter.all false
set_option maxRecDepth 100000
namespace Go.Proofs.Ytogkijjmimaccaa
open Go.RowKit Go.Sort Lin
set_option maxHeartbeats 1000000 in
theorem blockOf_core (s : ByteArray) (hs : s.size = 16) (g : Nat → Int) (C : ∀ k, k < 4 → ∀ W, Calls Try.prog 64 #[.string (s.extract (4 * k) 16)] W fun e w' => e = .returned (.int .u32 (g k)) ∧ Below W.heap.size W w') (w : World) :
    Calls Try.prog 49 #[.string s] w fun e w' => e = .returned (bv g) ∧ Below w.heap.size w w' := by
  unfold bv
  have hg := C
  have s16 : (s.size : Int) = 16 := by omega
  go_enter Try.func49, Try.ntmps49
  go_wp2_with fail
  go_loopw [5] (fun i wr => ∃ k : Nat, k ≤ 4 ∧ i = .int .i64 k ∧ Below w.heap.size w wr ∧ Arr wr w.heap.size 4 (fun _ => .int .u32 0) ∧ Arr wr (w.heap.size + 1) 4 (mid g (fun _ => 0) k)) (fun i _ => 4 - (intOf i).toNat)
  case atStart =>
    refine ⟨0, by omega, rfl, by go_grown, ?_, ?_⟩
    · exact (Arr.new _ _ _ _ (by simp) _ 4 z4_at).al' _
    · exact (Arr.new _ _ _ _ (by simp) _ 4 z4_at).congr fun j _ => (mid_0 (fun _ => 0) g j).symm
  case round =>
    obtain ⟨k, hk, rfl, hB, A1, A2⟩ := hrel
    by_cases hlt : k < 4
    · have k0 : (0 : Int) ≤ (k : Int) := by omega
      have k4 : (k : Int) < 4 := by omega
      have c47 := C k hlt wr
      clear C hg
      go_wp2_with fail
      refine c47.mono ?_
      rintro e w1 ⟨rfl, hb⟩
      have hB1 := Bel.call hB hb
      have B1 := A1.to' hb
      have B2 := A2.to' hb
      clear A1 A2 hB hb c47
      have c := B2.c k hlt
      have z := B2.z k hlt
      go_wp2_with fail
      refine ⟨⟨k + 1, by omega, by go_num, Bel.st hB1 (by omega) _, B1.other (by omega) _, mid_at B2 hlt⟩, by simp [intOf]; omega⟩
    · have e : k = 4 := by omega
      rw [show ((k : Nat) : Int) = 4 by omega]
      subst e
      have A := mid_end A2
      have c0 := A.c 0 (by omega)
      have c1 := A.c 1 (by omega)
      have c2 := A.c 2 (by omega)
      have c3 := A.c 3 (by omega)
      have d := A1.c
      have z := A1.z
      have E := (A1.st4 g).c
      clear A2 hk hlt hg C
      go_wp2_with fail
      refine bodyPost_ret (v := bv g) ?_ rfl ⟨rfl, Bel.st4 hB (by omega) g⟩
      simp only [Go.Proofs.Ytogkijjmimaccaa.st4] at E
      simp [bv, results, Try.results49, go_sem, E]
theorem blockOf_any (s : ByteArray) (hs : s.size = 16) (w : World) : Calls Try.prog 49 #[.string s] w fun e w' => e = .returned (bv (col (bF s))) ∧ Below w.heap.size w w' :=
  blockOf_core s hs (col (bF s)) (fun k hk W => by
    have := wordOf_any (s.extract (4 * k) s.size) (by rw [ByteArray.size_extract]; omega) W
    rw [bF_ext s _ 0 (by omega), bF_ext s _ 1 (by omega), bF_ext s _ 2 (by omega), bF_ext s _ 3 (by omega), hs] at this
    exact this) w
end Go.Proofs.Ytogkijjmimaccaa
/- A block as a text. -/
set_option linter.all false
set_option maxRecDepth 100000
namespace Go.Proofs.Ytogkijjmimaccaa
open Go.RowKit Go.Sort Lin
/-- A word's four bytes, the highest first. -/
def w4 (x : Int) : List Int := [x / 16777216 % 256, x / 65536 % 256, x / 256 % 256, x % 256]
def hfL (x : Nat → Int) : Nat → List Int
  | 0 => []
  | n + 1 => hfL x n ++ w4 (x n)
theorem hfL_len (x : Nat → Int) (n : Nat) : (hfL x n).length = 4 * n := by
  induction n with
  | zero => rfl
  | succ n ih => rw [hfL, List.length_append, ih]; simp [w4]; omega
set_option maxHeartbeats 2000000 in
theorem appended_core (x : Nat → Int) (base n : Nat) (v : Value) (L0 : List Value) (w : World) (hw : w.ownsRow base 5 1 v n L0) (hbase : base ≤ w.heap.size) (hn : n ≤ 1000000) :
    Calls Try.prog 57 #[bv x, v] w fun e w' => ∃ v', e = .returned v' ∧ w'.ownsRow base 5 1 v' (n + 16) (L0 ++ (hfL x 4).map (Value.int .u8)) ∧ Below base w w' := by
  obtain ⟨i0, hi, hz0, hz1, hz2⟩ := info_parts Try.info5
  unfold bv
  go_enter Try.func57, Try.ntmps57
  go_wp2_with fail
  go_loopw [1, 8] (fun v i wr => ∃ (k : Nat) (L : List Value), k ≤ 4 ∧ i = .int .i64 k ∧ wr.ownsRow base 5 1 v (n + 4 * k) L ∧ L = L0 ++ (hfL x k).map (Value.int .u8) ∧ Below base w wr)
    (fun _ i _ => 4 - (intOf i).toNat)
  case atStart => exact ⟨0, L0, by omega, rfl, World.ownsRow.alloc hw _, by simp [hfL], (Below.refl _ _).alloc hbase _⟩
  case round =>
    obtain ⟨k, L, hk, rfl, hown, hL, hB⟩ := hrel
    by_cases hlt : k < 4
    · have k0 : (0 : Int) ≤ (k : Int) := by omega
      have k1 : (k : Int) < 4 := by omega
      have I := fun W => idx68 _ k _ hlt (h4_at x k hlt) W
      obtain ⟨ao, cv, hv⟩ := own_form hown
      subst hv
      have HL : Hid (L0 ++ (hfL x (k + 1)).map (Value.int .u8) = L ++ (w4 (x k)).map (Value.int .u8)) := by
        show _ = _
        rw [hfL, List.map_append, hL, List.append_assoc]
      have kb : n + 4 * k + 4 ≤ maxLen := by unfold maxLen; omega
      have kb2 : (n + 4 * k + 4) * 1 ≤ 140737488355328 := by omega
      have hs := hB.size
      have sb : ∀ ob, base ≤ (wr.alloc ob).heap.size := fun ob => by simp; omega
      have HO : Hid (wr.ownsRow base 5 1 (.slice ao (n + 4 * k) cv) (n + 4 * k) L) := hown
      unfold w4 at HL
      clear hL hown hw
      go_wp2_with (at_builtin; refine stopAt ?_)
      unfold Stop
      refine wpList_append_own _ rfl _ _ 38 rfl base 5 i0 (.int .u8 0) 1 1 Try.underlying38 hi hz0 hz1 hz2 rfl (by decide) _ _ _ rfl (World.ownsRow.alloc HO.out _) ⟨_, 0, none⟩ 4 4 [.int .u8 (x k / 16777216 % 256), .int .u8 (x k / 65536 % 256), .int .u8 (x k / 256 % 256), .int .u8 (x k % 256)] rfl rfl (news_new _ _ _) (by simp [Value.oneCell']) kb kb2 (sb _) ?_
      intro v' w3 hown' hgrow3 hnil3
      have b3 : Below base w w3 := (hB.alloc (by omega) _).grown hgrow3 (by simp; omega) (fun q hq => (HO.out.lt q hq).1)
      clear hnil3 hgrow3
      go_wp2_with fail
      refine ⟨⟨k + 1, _, by omega, by go_num, hown', HL.out.symm, b3⟩, by simp [intOf]; omega⟩
    · have e : k = 4 := by omega
      subst e
      subst hL
      have HO : Hid (wr.ownsRow base 5 1 u1 (n + 16) (L0 ++ (hfL x 4).map (Value.int .u8))) := hown
      clear hown hw
      go_wp2_with fail
      go_ret
      exact ⟨_, rfl, HO.out, hB⟩
/-- A block's bytes as a text. -/
def txt (x : Nat → Int) : ByteArray := mkS (hfL x 4)
set_option maxHeartbeats 1000000 in
theorem text_any (x : Nat → Int) (w : World) : Calls Try.prog 50 #[bv x] w fun e w' => e = .returned (.string (txt x)) ∧ Below w.heap.size w w' := by
  have A : ∀ W, Calls Try.prog 57 #[bv x, .slice none 0 0] W fun e w' => ∃ v', e = .returned v' ∧ w'.ownsRow W.heap.size 5 1 v' 16 ((hfL x 4).map (Value.int .u8)) ∧ Below W.heap.size W w' := fun W => by
    have := appended_core x W.heap.size 0 (.slice none 0 0) [] W (World.ownsRow_nil _ _ _ _) (Nat.le_refl _) (by omega)
    simpa using this
  unfold bv at A ⊢
  go_enter Try.func50, Try.ntmps50
  go_wp2_with fail
  refine (A _).mono ?_
  rintro e w1 ⟨v', rfl, hown, hb⟩
  obtain ⟨g, c, hv⟩ := own_some hown (by omega)
  subst hv
  have cv := convC w1 g 16 c (hfL x 4) (hfL_len x _) (World.ownsRow.cells hown rfl)
  have hb1 : Below w.heap.size w w1 := ((Below.refl _ w).alloc (Nat.le_refl _) _).trans (hb.mono (by simp))
  have ct : mkS (hfL x 4) = txt x := rfl
  rw [ct] at cv
  clear hown hb A ct
  go_wp2_with fail
  go_ret
  exact ⟨rfl, hb1⟩
end Go.Proofs.Ytogkijjmimaccaa
/- Blocks as bytes: what the program's functions make of them. -/
set_option linter.all false
set_option maxRecDepth 100000
namespace Go.Proofs.Ytogkijjmimaccaa
open Go.RowKit Go.Sort Lin
def plF (h k : Nat → By) (j : Nat) : By := xr (h j) (k j)
def beF (f : By → By) (h : Nat → By) (j : Nat) : By := f (h j)
def tnF (h : Nat → By) (j : Nat) : By := h (4 * ((j / 4 + j % 4) % 4) + j % 4)
/-- A byte of a column that is mixed. -/
def mxB (m0 m1 m2 m3 a b c d : By) : By := xr (xr (xr (tmF a m0) (tmF b m1)) (tmF c m2)) (tmF d m3)
def mxF (m0 m1 m2 m3 : By) (h : Nat → By) (j : Nat) : By := mxB m0 m1 m2 m3 (h (4 * (j / 4) + j % 4)) (h (4 * (j / 4) + (j % 4 + 1) % 4)) (h (4 * (j / 4) + (j % 4 + 2) % 4)) (h (4 * (j / 4) + (j % 4 + 3) % 4))
theorem col_of (h : Nat → By) (g : Nat → By) (k : Nat) (e0 : h (4 * k) = g (4 * k)) (e1 : h (4 * k + 1) = g (4 * k + 1)) (e2 : h (4 * k + 2) = g (4 * k + 2)) (e3 : h (4 * k + 3) = g (4 * k + 3)) : col h k = col g k := by unfold col; rw [e0, e1, e2, e3]
theorem plus_any (h k : Nat → By) (w : World) : Calls Try.prog 63 #[bv (col h), bv (col k)] w fun e w' => e = .returned (bv (col (plF h k))) ∧ Below w.heap.size w w' :=
  plus_core _ _ _ (fun c _ => by unfold col; rw [wd_xor]; rfl) w
theorem become_any (f : By → By) (b o : Nat) (h : Nat → By) (w : World) (hT : TabAt w b o f) : Calls Try.prog 60 #[bv (col h), .pointer (some ⟨b, o, none⟩)] w fun e w' => e = .returned (bv (col (beF f h))) ∧ Below w.heap.size w w' :=
  become_core _ _ b o f (fun k _ W hW => of_any f b o _ _ _ _ W hW) w hT
theorem turned_any (h : Nat → By) (w : World) : Calls Try.prog 61 #[bv (col h)] w fun e w' => e = .returned (bv (col (tnF h))) ∧ Below w.heap.size w w' := by
  refine turned_core _ _ (fun k hk => ?_) w
  have e : ∀ r, r < 4 → tnF h (4 * k + r) = h (4 * ((k + r) % 4) + r) := fun r hr => by
    unfold tnF
    rw [show (4 * k + r) / 4 = k by omega, show (4 * k + r) % 4 = r by omega]
  have e0 := e 0 (by omega)
  rw [Nat.add_zero, Nat.add_zero, Nat.add_zero, Nat.mod_eq_of_lt hk] at e0
  unfold col
  rw [e0, e 1 (by omega), e 2 (by omega), e 3 (by omega)]
  rw [show (4278190080 : Int) = wd 255 0 0 0 by decide, show (16711680 : Int) = wd 0 255 0 0 by decide, show (65280 : Int) = wd 0 0 255 0 by decide, show (255 : Int) = wd 0 0 0 255 by decide]
  simp only [wd_and, wd_or, an_ff, an_00, or_0, or_0']
theorem rot_8 (a b c d : By) (w : World) : Calls Try.prog 77 #[.int .u32 (wd a b c d), .int .i64 8] w fun e w' => e = .returned (.int .u32 (wd b c d a)) ∧ w' = w := by
  have := rotl_any (wd a b c d) 8 8 (by decide) (by decide) (by decide) w
  rw [show wd a b c d * 2 ^ (8 : Int).toNat % 4294967296 = wd b c d 0 by unfold wd wdN; have := a.2; have := b.2; have := c.2; have := d.2; simp; omega, show wd a b c d / 2 ^ ((32 : Int) - 8).toNat = wd 0 0 0 a by unfold wd wdN; have := a.2; have := b.2; have := c.2; have := d.2; simp; omega, wd_or] at this
  simpa only [or_0, or_0'] using this
theorem rot_16 (a b c d : By) (w : World) : Calls Try.prog 77 #[.int .u32 (wd a b c d), .int .i64 16] w fun e w' => e = .returned (.int .u32 (wd c d a b)) ∧ w' = w := by
  have := rotl_any (wd a b c d) 16 16 (by decide) (by decide) (by decide) w
  rw [show wd a b c d * 2 ^ (16 : Int).toNat % 4294967296 = wd c d 0 0 by unfold wd wdN; have := a.2; have := b.2; have := c.2; have := d.2; simp; omega, show wd a b c d / 2 ^ ((32 : Int) - 16).toNat = wd 0 0 a b by unfold wd wdN; have := a.2; have := b.2; have := c.2; have := d.2; simp; omega, wd_or] at this
  simpa only [or_0, or_0'] using this
theorem rot_24 (a b c d : By) (w : World) : Calls Try.prog 77 #[.int .u32 (wd a b c d), .int .i64 24] w fun e w' => e = .returned (.int .u32 (wd d a b c)) ∧ w' = w := by
  have := rotl_any (wd a b c d) 24 24 (by decide) (by decide) (by decide) w
  rw [show wd a b c d * 2 ^ (24 : Int).toNat % 4294967296 = wd d 0 0 0 by unfold wd wdN; have := a.2; have := b.2; have := c.2; have := d.2; simp; omega, show wd a b c d / 2 ^ ((32 : Int) - 24).toNat = wd 0 a b c by unfold wd wdN; have := a.2; have := b.2; have := c.2; have := d.2; simp; omega, wd_or] at this
  simpa only [or_0, or_0'] using this
theorem dF_xr (a b : By) : dF (xr a b) = xr (dF a) (dF b) := Fin.ext (T8_L.2 _ _)
theorem tm_2 : ∀ a : By, tmF a 2 = dF a := by decide +kernel
theorem tm_3 : ∀ a : By, tmF a 3 = xr (dF a) a := by decide +kernel
theorem tm_1 : ∀ a : By, tmF a 1 = a := by decide +kernel
theorem mx_is (a b c d : By) : xr (xr (xr (dF (xr a b)) b) c) d = mxB 2 3 1 1 a b c d := by
  unfold mxB
  rw [tm_2, tm_3, tm_1, tm_1, dF_xr, xr_assoc (dF a)]
theorem mixed_any (h : Nat → By) (w : World) : Calls Try.prog 62 #[bv (col h)] w fun e w' => e = .returned (bv (col (mxF 2 3 1 1 h))) ∧ Below w.heap.size w w' := by
  refine mixed_core (col h) (fun k => wd (h (4 * k + 1)) (h (4 * k + 2)) (h (4 * k + 3)) (h (4 * k))) (fun k => wd (h (4 * k + 2)) (h (4 * k + 3)) (h (4 * k)) (h (4 * k + 1))) (fun k => wd (h (4 * k + 3)) (h (4 * k)) (h (4 * k + 1)) (h (4 * k + 2)))
    (fun k => wd (dF (xr (h (4 * k)) (h (4 * k + 1)))) (dF (xr (h (4 * k + 1)) (h (4 * k + 2)))) (dF (xr (h (4 * k + 2)) (h (4 * k + 3)))) (dF (xr (h (4 * k + 3)) (h (4 * k))))) _
    (fun k _ W => rot_8 _ _ _ _ W) (fun k _ W => rot_16 _ _ _ _ W) (fun k _ W => rot_24 _ _ _ _ W) (fun k _ W => ?_) (fun k hk => ?_) w
  · have := dbl_any (bits .xor .u32 (col h k) (wd (h (4 * k + 1)) (h (4 * k + 2)) (h (4 * k + 3)) (h (4 * k)))) W
    unfold col at this ⊢
    rw [wd_xor] at this ⊢
    rw [dbW_wd] at this
    exact this
  · have e : ∀ r, r < 4 → mxF 2 3 1 1 h (4 * k + r) = mxB 2 3 1 1 (h (4 * k + r)) (h (4 * k + (r + 1) % 4)) (h (4 * k + (r + 2) % 4)) (h (4 * k + (r + 3) % 4)) := fun r hr => by
      unfold mxF
      rw [show (4 * k + r) / 4 = k by omega, show (4 * k + r) % 4 = r by omega]
    have e0 := e 0 (by omega)
    rw [Nat.add_zero] at e0
    unfold col
    rw [e0, e 1 (by omega), e 2 (by omega), e 3 (by omega)]
    simp only [wd_xor, mx_is, Nat.zero_add, Nat.reduceMod, Nat.reduceAdd, Nat.add_zero]
/-- Sixteen bytes as a text. -/
def tx (h : Nat → By) : ByteArray := mkS ((List.range 16).map fun j => ((h j).val : Int))
theorem w4_wd (a b c d : By) : w4 (wd a b c d) = [(a.val : Int), (b.val : Int), (c.val : Int), (d.val : Int)] := by
  unfold w4 wd wdN
  have := a.2; have := b.2; have := c.2; have := d.2
  simp only [List.cons.injEq, and_true]
  refine ⟨?_, ?_, ?_, ?_⟩ <;> omega
theorem txt_col (h : Nat → By) : txt (col h) = tx h := by
  unfold txt tx
  congr 1
  unfold hfL hfL hfL hfL hfL col
  simp only [w4_wd]
  rfl
theorem text_b (h : Nat → By) (w : World) : Calls Try.prog 50 #[bv (col h)] w fun e w' => e = .returned (.string (tx h)) ∧ Below w.heap.size w w' := by
  have := text_any (col h) w
  rwa [txt_col] at this
theorem tx_size (h : Nat → By) : (tx h).size = 16 := by unfold tx; rw [mkS_size]; simp
theorem bF_tx (h : Nat → By) (j : Nat) (hj : j < 16) : bF (tx h) j = h j := by
  apply Fin.ext
  have := mkS_bt ((List.range 16).map fun j => ((h j).val : Int)) j ((h j).val : Int) (by simp [hj]) (by omega) (by have := (h j).2; omega)
  have e := bF_bt (tx h) j
  unfold tx at e ⊢
  omega
theorem tx_bF (s : ByteArray) (hs : s.size = 16) : tx (bF s) = s := by
  apply ba_ext
  unfold tx
  rw [mkS_list, List.map_map]
  apply List.ext_getElem?
  intro j
  by_cases hj : j < 16
  · have e1 : s.data.toList[j]? = some (s.data[j]'(by have : s.data.size = 16 := hs; omega)) := by rw [Array.getElem?_toList]; exact Array.getElem?_eq_getElem _
    rw [e1, List.getElem?_map, List.getElem?_range hj]
    simp only [Option.map_some, Function.comp]
    rw [← bF_bt]
    unfold bt
    rw [Array.getElem?_eq_getElem (by have : s.data.size = 16 := hs; omega)]
    simp
  · rw [List.getElem?_eq_none (by simp; omega), List.getElem?_eq_none (by rw [len_list]; omega)]
theorem tx_congr {h k : Nat → By} (e : ∀ j, j < 16 → h j = k j) : tx h = tx k := by
  unfold tx
  congr 1
  refine List.map_congr_left fun j hj => ?_
  rw [e j (List.mem_range.1 hj)]
theorem bv_congr {h k : Nat → By} (e : ∀ j, j < 16 → h j = k j) : bv (col h) = bv (col k) := by
  unfold bv col
  rw [e _ (by omega), e _ (by omega), e _ (by omega), e _ (by omega), e _ (by omega), e _ (by omega), e _ (by omega), e _ (by omega), e _ (by omega), e _ (by omega), e _ (by omega), e _ (by omega), e _ (by omega), e _ (by omega), e _ (by omega), e _ (by omega)]
end Go.Proofs.Ytogkijjmimaccaa
/- Arguments opened. -/
set_option linter.all false
namespace Go.Proofs.Ytogkijjmimaccaa
open Go.ChangeShapes Go.WideShapes Go.ChangeAt Go.RowKit
theorem own : ownKnob Try.prog.godebug = none := by kernel_rfl
theorem laidOut : laidOutB Try.prog = true := by kernel_rfl
theorem wf8 {n : Int} (h : (Lit.int .u8 n).wf = true) : ∃ a : By, n = (a.val : Int) := by
  have a : IntKind.u8.min = 0 := by decide
  have b : IntKind.u8.max = 255 := by decide
  simp [Lit.wf, a, b] at h
  exact ⟨⟨n.toNat, by omega⟩, by simp; omega⟩
theorem wf64 {n : Int} (h : (Lit.int .i64 n).wf = true) : -9223372036854775808 ≤ n ∧ n ≤ 9223372036854775807 := by
  have a : IntKind.i64.min = -9223372036854775808 := by decide
  have b : IntKind.i64.max = 9223372036854775807 := by decide
  simp [Lit.wf, a, b] at h
  omega
end Go.Proofs.Ytogkijjmimaccaa
/- Blocks: of texts, as texts, filled up, doubled, held against each other. -/
set_option linter.all false
set_option maxRecDepth 100000
namespace Go.Proofs.Ytogkijjmimaccaa
open Go.RowKit Go.Sort Lin
/-- Twice a, and the highest bit of c below it. -/
def sh (a c : By) : By := ⟨a.val * 2 % 256 + c.val / 128, by have := c.2; omega⟩
def rs (a : By) : By := if 128 ≤ a.val then 135 else 0
/-- A block doubled. -/
def tw (f : Nat → By) (j : Nat) : By := if j = 15 then xr (sh (f 15) 0) (rs (f 0)) else sh (f j) (f (j + 1))
theorem sh_0 (a : By) : ((sh a 0).val : Int) = (a.val : Int) * 2 % 256 := by unfold sh; simp
theorem or_bit : ∀ (a : By) (b : Bool), (a.val * 2 % 256) ||| (if b then 1 else 0) = a.val * 2 % 256 + (if b then 1 else 0) := by decide +kernel
theorem sh_or (a c : By) : bits .or .u8 ((sh a 0).val : Int) ((c.val : Int) / 128) = ((sh a c).val : Int) := by
  have h := or_bit a (decide (128 ≤ c.val))
  have hc := c.2
  have e : (c.val : Int) / 128 = ((c.val / 128 : Nat) : Int) := by omega
  rw [e, (bits_ao8 _ _ (sh a 0).2 (by omega)).2]
  have e0 : (sh a 0).val = a.val * 2 % 256 := by unfold sh; simp
  rw [e0]
  unfold sh
  by_cases q : 128 ≤ c.val
  · rw [decide_eq_true q, if_pos rfl] at h
    have e1 : c.val / 128 = 1 := by omega
    simp only [e1]
    rw [h]
  · rw [decide_eq_false q] at h
    simp only [Bool.false_eq_true, if_false] at h
    have e1 : c.val / 128 = 0 := by omega
    simp only [e1]
    rw [h]
theorem rs_mul (a : By) : 135 * ((a.val : Int) / 128) = ((rs a).val : Int) := by
  have := a.2
  unfold rs
  by_cases q : 128 ≤ a.val
  · rw [if_pos q, show (a.val : Int) / 128 = 1 by omega]; rfl
  · rw [if_neg q, show (a.val : Int) / 128 = 0 by omega]; rfl
/-- The first k bytes are gone through. -/
def twv (f : Nat → By) (k j : Nat) : By := if j + 1 < k then sh (f j) (f (j + 1)) else if j + 1 = k then sh (f j) 0 else 0
def tu (f : Nat → By) (k j : Nat) : By := if j + 1 = k then sh (f j) 0 else twv f (k + 1) j
theorem twv_set (f : Nat → By) (k : Nat) : ∀ j, j < 16 → (if j = k then Value.int .u8 ((sh (f k) 0).val : Int) else vc (twv f k) j) = vc (tu f k) j := by
  intro j hj
  unfold vc tu twv
  by_cases e : j = k
  · subst e; rw [if_pos rfl, if_neg (by omega), if_neg (by omega), if_pos rfl]
  · rw [if_neg e]
    by_cases e1 : j + 1 < k
    · rw [if_pos e1, if_neg (by omega), if_pos (by omega)]
    · rw [if_neg e1]
      by_cases e2 : j + 1 = k
      · rw [if_pos e2, if_pos e2]
      · rw [if_neg e2, if_neg e2, if_neg (by omega), if_neg (by omega)]
theorem tu_0 (f : Nat → By) (k j : Nat) (h : k = 0) : tu f k j = twv f (k + 1) j := by unfold tu; rw [if_neg (by omega)]
theorem tu_set (f : Nat → By) (k m : Nat) (h : k = m + 1) : ∀ j, j < 16 → (if j = m then Value.int .u8 ((sh (f m) (f k)).val : Int) else vc (tu f k) j) = vc (twv f (k + 1)) j := by
  intro j hj
  unfold vc tu
  by_cases e : j = m
  · subst e; rw [if_pos rfl, h]; unfold twv; rw [if_pos (by omega)]
  · rw [if_neg e, if_neg (by omega)]
theorem twv_end (f : Nat → By) : ∀ j, j < 16 → (if j = 15 then Value.int .u8 ((xr (sh (f 15) 0) (rs (f 0))).val : Int) else vc (twv f 16) j) = vc (tw f) j := by
  intro j hj
  unfold vc tw twv
  by_cases e : j = 15
  · subst e; rw [if_pos rfl, if_pos rfl]
  · rw [if_neg e, if_neg e, if_pos (by omega)]
set_option maxHeartbeats 1000000 in
theorem stwice_core (L K : List Value) (f : Nat → By) (hL : Blk L f) (hK : Blk K (tw f)) (w : World) :
    Calls Try.prog 32 #[.agg L.toArray] w fun e w' => e = .returned (.agg K.toArray) ∧ Below w.heap.size w w' := by
  go_enter Try.func32, Try.ntmps32
  go_upto_region 2 with (fail)
  have A1 : Arr _ _ 16 _ := (hL.new w 43 _ rfl).al' (n := 15) (.cells z16c 43)
  replace A1 : Arr _ _ 16 _ := A1.al' (n := 15) (.cells z16c 43)
  have A2 : Arr _ _ 16 _ := (new0 (w.alloc (.cells L.toArray 43)) (w.heap.size + 1) (by simp)).al' (n := 15) (.cells z16c 43)
  have A3 := new0 ((w.alloc (.cells L.toArray 43)).alloc (.cells z16c 43)) (w.heap.size + 1 + 1) (by simp)
  have hB : Below w.heap.size w (((w.alloc (.cells L.toArray 43)).alloc (.cells z16c 43)).alloc (.cells z16c 43)) := by go_grown
  generalize (((w.alloc (.cells L.toArray 43)).alloc (.cells z16c 43)).alloc (.cells z16c 43)) = W at *
  refine wp_region_list ?_
  refine hL.wld t43 A1 0 (by omega) (fun j _ => by rw [Nat.zero_add]) (by rfl) (.tmp 1) (by rfl) (by rfl) ?_
  go_wp2_with fail
  go_loopw [7] (fun i wr => ∃ k : Nat, k ≤ 16 ∧ i = .int .i64 k ∧ Below w.heap.size w wr ∧ Arr wr w.heap.size 16 (vc f) ∧ Arr wr (w.heap.size + 1) 16 (vc (fun _ => 0)) ∧ Arr wr (w.heap.size + 1 + 1) 16 (vc (twv f k))) (fun i _ => 16 - (intOf i).toNat)
  case atStart => exact ⟨0, by omega, rfl, hB, A1, A2, A3.congr fun j _ => vc_congr (by unfold twv; rw [if_neg (by omega), if_neg (by omega)])⟩
  case round =>
    clear A1 A2 A3 hB
    obtain ⟨k, hk, rfl, hB, A, Z, T⟩ := hrel
    by_cases hlt : k < 16
    · have k0 : (0 : Int) ≤ (k : Int) := by omega
      have k1 : (k : Int) < 16 := by omega
      have I := fun W => blk_idx hL k hlt W
      have c0 := T.c k hlt
      have z0 := T.z k hlt
      have b1 := (f k).2
      have hs0 := sh_0 (f k)
      by_cases h0 : k = 0
      · have HK : Hid (k = 0) := h0
        have n0 : ¬ (0 : Int) < (k : Int) := by omega
        clear h0
        go_wp2_with fail
        refine ⟨⟨k + 1, by omega, by go_num, Bel.st hB (by omega) _, A.other (by omega) _, Z.other (by omega) _, ?_⟩, by simp [intOf]; omega⟩
        rw [← hs0]
        exact (T.set k hlt _).congr fun j hj => (twv_set f k j hj).trans (vc_congr (tu_0 f k j HK.out))
      · obtain ⟨m, hm⟩ : ∃ m, k = m + 1 := ⟨k - 1, by omega⟩
        have HK : Hid (k = m + 1) := hm
        have m0 : (0 : Int) < (k : Int) := by omega
        have m1 : (k : Int) - 1 = (m : Int) := by omega
        have m2 : (0 : Int) ≤ (m : Int) := by omega
        have m3 : (m : Int) < 16 := by omega
        have c1 := T.cv m (by omega) (.int .u8 ((sh (f m) 0).val : Int)) (by unfold vc twv; rw [if_neg (by omega), if_pos (by omega)])
        have z1 := T.z m (by omega)
        have O := sh_or (f m) (f k)
        have nm : m ≠ k := by omega
        have nm' : k ≠ m := by omega
        clear hm h0
        go_wp2_with fail
        refine ⟨⟨k + 1, by omega, by go_num, Bel.st (Bel.st hB (by omega) _) (by omega) _, (A.other (by omega) _).other (by omega) _, (Z.other (by omega) _).other (by omega) _, ?_⟩, by simp [intOf]; omega⟩
        rw [← hs0]
        exact (((T.set k hlt _).congr (twv_set f k)).set m (by omega) _).congr (tu_set f k m HK.out)
    · have e : k = 16 := by omega
      rw [show ((k : Nat) : Int) = 16 by omega]
      subst e
      have c15 := T.cv 15 (by omega) (.int .u8 ((sh (f 15) 0).val : Int)) (by unfold vc twv; rw [if_neg (by omega), if_pos rfl])
      have z15 := T.z 15 (by omega)
      have c0 := A.cv 0 (by omega) (.int .u8 ((f 0).val : Int)) rfl
      have b0 := (f 0).2
      have X := xr8 (sh (f 15) 0) (rs (f 0))
      have M := rs_mul (f 0)
      have HT : Hid (∀ j, j < 16 → (if j = 15 then Value.int .u8 ((xr (sh (f 15) 0) (rs (f 0))).val : Int) else vc (twv f 16) j) = vc (tw f) j) := twv_end f
      generalize xr (sh (f 15) 0) (rs (f 0)) = c at *
      generalize sh (f 15) 0 = s15 at *
      generalize rs (f 0) = r0 at *
      go_upto_region 10 with (fail)
      replace A := A.other (b' := w.heap.size + 1 + 1) (k := 15) (by omega) (.int .u8 (c.val : Int))
      replace Z := Z.other (b' := w.heap.size + 1 + 1) (k := 15) (by omega) (.int .u8 (c.val : Int))
      replace T := (T.set 15 (by omega) (.int .u8 (c.val : Int))).congr HT.out
      replace hB := Bel.st hB (b := w.heap.size + 1 + 1) (k := 15) (by omega) (.int .u8 (c.val : Int))
      generalize wr.setCell ⟨w.heap.size + 1 + 1, 15, none⟩ (.int .u8 (c.val : Int)) = W3 at *
      have LV : Hid _ := hK.ld t43 (hK.set Z) 0 (by omega) (fun j _ => by rw [Nat.zero_add])
      refine wp_region_list ?_
      refine hK.wld t43 T 0 (by omega) (fun j _ => by rw [Nat.zero_add]) (by rfl) (.tmp 3) (by rfl) (by rfl) ?_
      refine hK.wst t43 Z (by rfl) (.tmp 2) (.tmp 34) (by rfl) (by rfl) (by rfl) ?_
      refine wpList_nil ?_
      go_wp2_with fail
      exact bodyPost_ret (v := .agg K.toArray) (results_cell1 Try.results32 _ (by rfl) LV.out) rfl ⟨rfl, below_setCells hB (by omega) _ _⟩
theorem stwice_any (f : Nat → By) (w : World) : Calls Try.prog 32 #[bB f] w fun e w' => e = .returned (bB (tw f)) ∧ Below w.heap.size w w' :=
  stwice_core _ _ f (blk f) (blk _) w
theorem conv_vtx (W : World) (g c : Nat) (f : Nat → By) (hA : Arr W g 16 (vc f)) : (convert 38 9 (.slice (some ⟨g, 0, none⟩) 16 c)).run Try.prog W = .ok (.string (tx f)) W :=
  convC W g 16 c ((List.range 16).map fun j => ((f j).val : Int)) (by simp) (by
    intro j u hu
    rw [Addr.add_mid, Nat.zero_add]
    have hj : j < 16 := by have := (List.getElem?_eq_some_iff.1 hu).1; simpa using this
    rw [hA.c j hj, ← hu]
    simp [hj, vc])
set_option maxHeartbeats 1000000 in
theorem stext_core (L : List Value) (f : Nat → By) (hL : Blk L f) (w : World) (T : ByteArray) (hT : tx f = T) :
    Calls Try.prog 22 #[.agg L.toArray] w fun e w' => e = .returned (.string T) ∧ Below w.heap.size w w' := by
  have cv := conv_vtx _ _ 16 f (hL.new w 43 _ rfl)
  rw [hT] at cv
  clear hT
  go_enter Try.func22, Try.ntmps22
  go_wp2_with fail
  go_ret
  exact ⟨rfl, by go_grown⟩
theorem stext_any (f : Nat → By) (w : World) : Calls Try.prog 22 #[bB f] w fun e w' => e = .returned (.string (tx f)) ∧ Below w.heap.size w w' := stext_core _ f (blk f) w _ rfl
theorem Try.size5 : (Try.prog.info? 5).map (·.size) = some 1 := by kernel_rfl
/-- copy(dst, s): as many bytes of s as dst has room for. -/
theorem run_copy_some {P : Program} (w : World) (dT sT ty elem : TypeId) (g o dLen dCap : Nat) (s : ByteArray) (cur : Array Value) (t : TypeId)
    (hu : P.underlying dT = some (.slice elem)) (hs : (P.info? elem).map (·.size) = some 1) (hg : w.heap[g]? = some (.cells cur t (0, 0))) (hfit : o + dLen ≤ cur.size) :
    (Builtin.copy_ #[dT, sT] ty #[.slice (some ⟨g, o, none⟩) dLen dCap, .string s]).run P w =
      .ok (goInt (Nat.min s.size dLen)) (w.setRow g (cur.toList.take o ++ Lib.byteCells (s.data.toList.take (Nat.min s.size dLen)) ++ cur.toList.drop (o + Nat.min s.size dLen)).toArray) := by
  have hlen : (Lib.byteCells (s.data.toList.take (Nat.min s.size dLen))).length = Nat.min s.size dLen := by
    rw [Lib.byteCells_length, List.length_take, Array.length_toList]
    show min (min s.size dLen) s.size = min s.size dLen
    omega
  have hst := run_storeCells_at P g o t (Lib.byteCells (s.data.toList.take (Nat.min s.size dLen))) 0 cur w hg (by rw [hlen]; have : min s.size dLen ≤ dLen := Nat.min_le_right _ _; show o + 0 + min s.size dLen ≤ _; omega) (Lib.byteCells_one _)
  have htk : List.take (Nat.min s.size dLen) (List.map (fun b : UInt8 => Value.int IntKind.u8 (b.toNat : Int)) s.data.toList) = Lib.byteCells (s.data.toList.take (Nat.min s.size dLen)) := by
    rw [← List.map_take]
    rfl
  rw [hlen] at hst
  simp only [Nat.add_zero] at hst
  cases hq : P.info? elem with
  | none => simp [hq] at hs
  | some i =>
    simp [Builtin.copy_, run_underlying hu, Builtin.lenOf, Builtin.firstCells, sizeOf, typeInfo, hq]
    rw [htk, hst]
    simp [Result.andThen]
theorem copy_gen (w : World) (M : Array Value) (hM : M.size = 16) (hz : ∀ j, j < 16 → M[j]? = some (.int .u8 0)) (s : ByteArray) : ∃ W : World, (Builtin.copy_ #[38, 9] 3 #[.slice (some ⟨w.heap.size, 0, none⟩) 16 16, .string s]).run Try.prog (w.alloc (.cells M 43)) = .ok (goInt (Nat.min s.size 16)) W ∧
    Below w.heap.size w W ∧ w.heap.size < W.heap.size ∧ Arr W w.heap.size 16 (vc (bF s)) := by
  have sz : s.data.toList.length = s.size := by rw [Array.length_toList]; rfl
  have hcp := run_copy_some (P := Try.prog) (w.alloc (.cells M 43)) 38 9 3 5 w.heap.size 0 16 16 s M 43 Try.underlying38 Try.size5 (heap_alloc_new w _) (by omega)
  obtain ⟨Y, hY⟩ : ∃ Y, Y = (M.toList.take 0 ++ Lib.byteCells (s.data.toList.take (Nat.min s.size 16)) ++ M.toList.drop (0 + Nat.min s.size 16)).toArray := ⟨_, rfl⟩
  rw [← hY] at hcp
  refine ⟨_, hcp, ?_, ?_, ?_⟩
  · have hb1 : Below w.heap.size w (w.alloc (.cells M 43)) := (Below.refl _ w).alloc (Nat.le_refl _) _
    exact hb1.trans ⟨rfl, rfl, rfl, by simp, fun k hk => setRow_other _ _ _ _ (by omega)⟩
  · simp
  · have hgY : ((w.alloc (.cells M 43)).setRow w.heap.size Y).heap[w.heap.size]? = some (.cells Y 43 (0, 0)) := setRow_heap _ _ M _ 43 (0, 0) (heap_alloc_new w _)
    generalize (w.alloc (.cells M 43)).setRow w.heap.size Y = V at *
    intro j hj
    refine ⟨?_, by unfold World.frozen?; rw [hgY]; simp⟩
    have lm : (Lib.byteCells (s.data.toList.take (Nat.min s.size 16))).length = Nat.min s.size 16 := by
      rw [Lib.byteCells_length, List.length_take, sz]
      show min (min s.size 16) s.size = min s.size 16
      omega
    have e : Y[j]? = some (vc (bF s) j) := by
      unfold vc
      rw [← bF_bt, hY, List.getElem?_toArray, List.take_zero, List.nil_append]
      by_cases c : j < s.size
      · have cm : j < Nat.min s.size 16 := by show j < min s.size 16; omega
        rw [List.getElem?_append_left (by rw [lm]; exact cm)]
        unfold Lib.byteCells bt
        rw [List.getElem?_map, List.getElem?_take, if_pos cm, Array.getElem?_toList, Array.getElem?_eq_getElem (show j < s.data.size from c)]
        rfl
      · have cm : ¬ j < Nat.min s.size 16 := by show ¬ j < min s.size 16; omega
        rw [List.getElem?_append_right (by rw [lm]; omega), lm]
        have b0 : bt s j = 0 := by
          unfold bt
          rw [Array.getElem?_eq_none (by show s.size ≤ j; omega)]
          rfl
        rw [b0, List.getElem?_drop, Array.getElem?_toList, ← hz j hj]
        congr 1
        omega
    unfold World.cell?
    rw [hgY]
    simp [e]
set_option maxHeartbeats 1000000 in
theorem sblockOf_core (K : List Value) (s : ByteArray) (hK : Blk K (bF s)) (w : World) :
    Calls Try.prog 31 #[.string s] w fun e w' => e = .returned (.agg K.toArray) ∧ Below w.heap.size w w' := by
  obtain ⟨W, hcp, hB0, hs0, A0⟩ := copy_gen (w.alloc (.cells z16c 43)) z16c rfl (fun j hj => v0_at j hj) s
  have Z0 : Arr _ _ 16 _ := (new0 w _ rfl).to' (n := 15) hB0
  have hB := Bel.call ((Below.refl _ w).alloc (Nat.le_refl _) (.cells z16c 43)) hB0
  rw [World.size_alloc] at A0 hs0 hcp
  have LV : Hid _ := hK.ld t43 (hK.set Z0) 0 (by omega) (fun j _ => by rw [Nat.zero_add])
  go_enter Try.func31, Try.ntmps31
  go_upto_region 3 with (fail)
  refine wp_region_list ?_
  refine hK.wld t43 A0 0 (by omega) (fun j _ => by rw [Nat.zero_add]) (by rfl) (.tmp 3) (by rfl) (by rfl) ?_
  refine hK.wst t43 Z0 (by rfl) (.tmp 2) (.tmp 7) (by rfl) (by rfl) (by rfl) ?_
  refine wpList_nil ?_
  clear hcp
  go_wp2_with fail
  exact bodyPost_ret (v := .agg K.toArray) (results_cell1 Try.results31 _ (by rfl) LV.out) rfl ⟨rfl, below_setCells hB (by omega) _ _⟩
theorem sblockOf_any (s : ByteArray) (w : World) : Calls Try.prog 31 #[.string s] w fun e w' => e = .returned (bB (bF s)) ∧ Below w.heap.size w w' := sblockOf_core _ s (blk _) w
end Go.Proofs.Ytogkijjmimaccaa
/- Blocks filled up, held against each other; Twice. -/
set_option linter.all false
set_option maxRecDepth 100000
namespace Go.Proofs.Ytogkijjmimaccaa
open Go.RowKit Go.Sort Lin
/-- A text of fewer than 16 bytes, a bit behind it. -/
def flF (s : ByteArray) (j : Nat) : By := if j = s.size then 128 else bF s j
theorem flF_set (s : ByteArray) : ∀ j, j < 16 → (if j = s.size then Value.int .u8 128 else vc (bF s) j) = vc (flF s) j := by
  intro j hj
  unfold vc flF
  by_cases e : j = s.size
  · rw [if_pos e, if_pos e]; rfl
  · rw [if_neg e, if_neg e]
set_option maxHeartbeats 1000000 in
theorem sfilled_core (L K : List Value) (s : ByteArray) (hs : s.size < 16) (hL : Blk L (bF s)) (hK : Blk K (flF s)) (w : World)
    (C31 : ∀ W, Calls Try.prog 31 #[.string s] W fun e w' => e = .returned (.agg L.toArray) ∧ Below W.heap.size W w') :
    Calls Try.prog 44 #[.string s] w fun e w' => e = .returned (.agg K.toArray) ∧ Below w.heap.size w w' := by
  go_enter Try.func44, Try.ntmps44
  go_upto_region 1 with (fail)
  have Z0 := new0 w _ rfl
  have hB : Below w.heap.size w (w.alloc (.cells z16c 43)) := by go_grown
  generalize w.alloc (.cells z16c 43) = W0 at *
  refine wp_region_list ?_
  refine wpList_plain (by rfl) fun K1 hK1 => ?_
  have H1 : Hid _ := hK1
  clear hK1
  go_wp2_with fail
  refine H1.out _ _ ?_
  clear H1
  refine wpList_plain (by rfl) fun K1 hK1 => ?_
  have H1 : Hid _ := hK1
  clear hK1
  go_wp2_with fail
  refine (C31 _).mono ?_
  rintro e w1 ⟨rfl, hb⟩
  refine H1.out _ _ ?_
  clear H1
  have Z1 : Arr _ _ 16 _ := Z0.to' (n := 15) hb
  replace hB := Bel.call hB hb
  clear Z0 hb C31
  have z1 := Z1.lt
  refine wpList_plain (by rfl) fun K1 hK1 => ?_
  have H1 : Hid _ := hK1
  clear hK1
  go_wp2_with fail
  refine H1.out _ _ ?_
  clear H1
  have A := new0 w1 _ rfl
  refine hL.wst t43 A (by rfl) (.tmp 3) (.tmp 5) (by rfl) (by rfl) (by rfl) ?_
  refine wpList_nil ?_
  replace A := hL.set A
  replace Z1 : Arr _ _ 16 _ := (Z1.al' (n := 15) (.cells z16c 43)).setso (b' := w1.heap.size) (by omega) L 0
  replace hB := below_setCells (Bel.al hB (.cells z16c 43)) (b := w1.heap.size) (by omega) L 0
  generalize (w1.alloc (.cells z16c 43)).setCells w1.heap.size 0 L = W2 at *
  generalize w1.heap.size = g at *
  have s1 : (s.size : Int) < 16 := by omega
  have c0 := A.c s.size hs
  have f0 := A.z s.size hs
  go_upto_region 3 with (fail)
  replace A := (A.set s.size hs (.int .u8 128)).congr (flF_set s)
  replace Z1 := Z1.other (b' := g) (k := s.size) (by omega) (.int .u8 128)
  replace hB := Bel.st hB (b := g) (k := s.size) (by omega) (.int .u8 128)
  generalize W2.setCell ⟨g, s.size, none⟩ (.int .u8 128) = W3 at *
  have LV : Hid _ := hK.ld t43 (hK.set Z1) 0 (by omega) (fun j _ => by rw [Nat.zero_add])
  refine wp_region_list ?_
  refine hK.wld t43 A 0 (by omega) (fun j _ => by rw [Nat.zero_add]) (by rfl) (.tmp 3) (by rfl) (by rfl) ?_
  refine hK.wst t43 Z1 (by rfl) (.tmp 2) (.tmp 9) (by rfl) (by rfl) (by rfl) ?_
  refine wpList_nil ?_
  go_wp2_with fail
  exact bodyPost_ret (v := .agg K.toArray) (results_cell1 Try.results44 _ (by rfl) LV.out) rfl ⟨rfl, below_setCells hB (by omega) _ _⟩
theorem sfilled_any (s : ByteArray) (hs : s.size < 16) (w : World) : Calls Try.prog 44 #[.string s] w fun e w' => e = .returned (bB (flF s)) ∧ Below w.heap.size w w' :=
  sfilled_core _ _ s hs (blk _) (blk _) w (fun W => sblockOf_any s W)
def orB (a b : By) : By := ⟨a.val ||| b.val, Nat.or_lt_two_pow (n := 8) a.2 b.2⟩
theorem or8 (a b : By) : bits .or .u8 (a.val : Int) (b.val : Int) = ((orB a b).val : Int) := (bits_ao8 _ _ a.2 b.2).2
/-- The bits of the first k bytes, together. -/
def un (h : Nat → By) : Nat → By
  | 0 => 0
  | k + 1 => orB (un h k) (h k)
theorem un_0 (h : Nat → By) : ∀ k, ((un h k).val = 0 ↔ ∀ j, j < k → h j = 0) := by
  intro k
  induction k with
  | zero => exact ⟨fun _ j hj => absurd hj (by omega), fun _ => rfl⟩
  | succ k ih =>
    show (un h k).val ||| (h k).val = 0 ↔ _
    rw [Nat.or_eq_zero_iff, ih]
    constructor
    · rintro ⟨h1, h2⟩ j hj
      by_cases e : j = k
      · rw [e]; exact Fin.ext h2
      · exact h1 j (by omega)
    · intro H
      exact ⟨fun j hj => H j (by omega), by rw [H k (by omega)]; rfl⟩
/-- Are two blocks one? -/
def isB (f g : Nat → By) : Bool := decide ((un (pl f g) 16).val = 0)
theorem xr_0 {a b : By} (h : xr a b = 0) : a = b := by
  have := xr_back a b
  rw [h] at this
  rw [← this, xr_comm, xr_zero]
theorem isB_iff (f g : Nat → By) : isB f g = true ↔ ∀ j, j < 16 → f j = g j := by
  unfold isB
  rw [decide_eq_true_iff, un_0]
  constructor
  · intro h j hj; exact xr_0 (h j hj)
  · intro h j hj; unfold pl; rw [h j hj, xr_self]
set_option maxHeartbeats 1000000 in
theorem sis_core (L M K : List Value) (f g : Nat → By) (hL : Blk L f) (hM : Blk M g) (hK : Blk K (pl f g)) (r : Bool) (hr : r = decide ((un (pl f g) 16).val = 0)) (w : World)
    (C42 : ∀ W, Calls Try.prog 42 #[.agg L.toArray, .agg M.toArray] W fun e w' => e = .returned (.agg K.toArray) ∧ Below W.heap.size W w') :
    Calls Try.prog 38 #[.agg L.toArray, .agg M.toArray] w fun e w' => e = .returned (.bool r) ∧ Below w.heap.size w w' := by
  have HR : Hid (r = decide ((un (pl f g) 16).val = 0)) := hr
  clear hr
  go_enter Try.func38, Try.ntmps38
  go_upto_region 2 with (fail)
  have A1 : Arr _ _ 16 _ := (hL.new w 43 _ rfl).al' (n := 15) (.cells M.toArray 43)
  have A2 := hM.new (w.alloc (.cells L.toArray 43)) 43 (w.heap.size + 1) (by simp)
  have hB : Below w.heap.size w ((w.alloc (.cells L.toArray 43)).alloc (.cells M.toArray 43)) := by go_grown
  generalize (w.alloc (.cells L.toArray 43)).alloc (.cells M.toArray 43) = W at *
  refine wp_region_list ?_
  refine hL.wld t43 A1 0 (by omega) (fun j _ => by rw [Nat.zero_add]) (by rfl) (.tmp 2) (by rfl) (by rfl) ?_
  refine hM.wld t43 A2 0 (by omega) (fun j _ => by rw [Nat.zero_add]) (by rfl) (.tmp 3) (by rfl) (by rfl) ?_
  go_wp2_with fail
  refine (C42 _).mono ?_
  rintro e w1 ⟨rfl, hb⟩
  replace hB := Bel.call hB hb
  clear A1 A2 hb C42
  go_wp2_with fail
  go_loopw [5, 11] (fun u i wr => ∃ k : Nat, k ≤ 16 ∧ i = .int .i64 k ∧ u = .int .u8 ((un (pl f g) k).val : Int) ∧ wr = w1) (fun _ i _ => 16 - (intOf i).toNat)
  case atStart => exact ⟨0, by omega, rfl, rfl, rfl⟩
  case round =>
    obtain ⟨k, hk, rfl, rfl, rfl⟩ := hrel
    by_cases hlt : k < 16
    · have k0 : (0 : Int) ≤ (k : Int) := by omega
      have k1 : (k : Int) < 16 := by omega
      have I := fun W => blk_idx hK k hlt W
      have O := or8 (un (pl f g) k) (pl f g k)
      have HO : Hid (orB (un (pl f g) k) (pl f g k) = un (pl f g) (k + 1)) := rfl
      generalize orB (un (pl f g) k) (pl f g k) = o at *
      generalize un (pl f g) k = a at *
      generalize pl f g k = b at *
      go_wp2_with fail
      exact ⟨⟨k + 1, by omega, by go_num, by rw [HO.out], trivial⟩, by simp [intOf]; omega⟩
    · have e : k = 16 := by omega
      rw [show ((k : Nat) : Int) = 16 by omega]
      subst e
      have HE : Hid _ := HR.out
      generalize un (pl f g) 16 = a at *
      go_wp2_with fail
      go_ret
      refine ⟨?_, hB⟩
      rw [HE.out]
      have e : ((a.val : Int) == 0) = decide (a.val = 0) := by rw [Bool.eq_iff_iff]; simp
      exact congrArg (fun x => Ending.returned (Value.bool x)) e
theorem sis_any (f g : Nat → By) (w : World) : Calls Try.prog 38 #[bB f, bB g] w fun e w' => e = .returned (.bool (isB f g)) ∧ Below w.heap.size w w' :=
  sis_core _ _ _ f g (blk f) (blk g) (blk _) _ rfl w (fun W => splus_any f g W)
/-- What Twice tells. -/
def twS (s : ByteArray) : ByteArray := if s.size = 16 then tx (tw (bF s)) else ⟨#[]⟩
def twE (s : ByteArray) : Int := if s.size = 16 then 0 else 10
set_option maxHeartbeats 1000000 in
theorem sTwice_yes (s : ByteArray) (hs : s.size = 16) (B D : Value) (T : ByteArray) (w : World)
    (C31 : ∀ W, Calls Try.prog 31 #[.string s] W fun e w' => e = .returned B ∧ Below W.heap.size W w')
    (C32 : ∀ W, Calls Try.prog 32 #[B] W fun e w' => e = .returned D ∧ Below W.heap.size W w')
    (C22 : ∀ W, Calls Try.prog 22 #[D] W fun e w' => e = .returned (.string T) ∧ Below W.heap.size W w') :
    Calls Try.prog 14 #[.string s] w fun e w' => e = .returned (.tuple #[.string T, .int .i64 0]) ∧ Below w.heap.size w w' := by
  have s1 : (s.size : Int) = 16 := by omega
  go_enter Try.func14, Try.ntmps14
  go_wp2_with fail
  refine (C31 _).mono ?_
  rintro e w1 ⟨rfl, hb⟩
  go_wp2_with fail
  refine (C32 _).mono ?_
  rintro e w2 ⟨rfl, hb2⟩
  replace hb2 := Bel.call hb hb2
  go_wp2_with fail
  refine (C22 _).mono ?_
  rintro e w3 ⟨rfl, hb3⟩
  replace hb3 := Bel.call hb2 hb3
  clear hb hb2 C31 C32 C22
  go_wp2_with fail
  exact bodyPost_ret (v := .tuple #[.string T, .int .i64 0]) (by simp [results, Try.results14, go_sem]) rfl ⟨rfl, hb3⟩
set_option maxHeartbeats 1000000 in
theorem sTwice_no (s : ByteArray) (hs : ¬ s.size = 16) (w : World) :
    Calls Try.prog 14 #[.string s] w fun e w' => e = .returned (.tuple #[.string ⟨#[]⟩, .int .i64 10]) ∧ Below w.heap.size w w' := by
  have s1 : ¬ (s.size : Int) = 16 := by omega
  clear hs
  go_enter Try.func14, Try.ntmps14
  go_wp2_with fail
  exact bodyPost_ret (v := .tuple #[.string ⟨#[]⟩, .int .i64 10]) (by simp [results, Try.results14, go_sem]) rfl ⟨rfl, Below.refl _ _⟩
theorem sTwice_any (s : ByteArray) (w : World) : Calls Try.prog 14 #[.string s] w fun e w' => e = .returned (.tuple #[.string (twS s), .int .i64 (twE s)]) ∧ Below w.heap.size w w' := by
  unfold twS twE
  by_cases h : s.size = 16
  · rw [if_pos h, if_pos h]
    exact sTwice_yes s h _ _ _ w (fun W => sblockOf_any s W) (fun W => stwice_any _ W) (fun W => stext_any _ W)
  · rw [if_neg h, if_neg h]
    exact sTwice_no s h w
end Go.Proofs.Ytogkijjmimaccaa
/- A key's words; a cipher's cells. -/
set_option linter.all false
set_option maxRecDepth 100000
namespace Go.Proofs.Ytogkijjmimaccaa
open Go.RowKit Go.Sort Lin
/-- Four bytes. -/
abbrev Q4 : Type := By × By × By × By
def wQ (q : Q4) : Int := wd q.1 q.2.1 q.2.2.1 q.2.2.2
def bQ (q : Q4) (r : Nat) : By := match r with | 0 => q.1 | 1 => q.2.1 | 2 => q.2.2.1 | _ => q.2.2.2
def xQ (p q : Q4) : Q4 := (xr p.1 q.1, xr p.2.1 q.2.1, xr p.2.2.1 q.2.2.1, xr p.2.2.2 q.2.2.2)
def sQ (q : Q4) : Q4 := (sb q.1, sb q.2.1, sb q.2.2.1, sb q.2.2.2)
/-- The powers of x. -/
def rc : Nat → By
  | 0 => 1
  | k + 1 => tmF (rc k) 2
/-- What is added to the word that is a whole key ahead. -/
def tQ (nk n : Nat) (t : Q4) : Q4 :=
  if n % nk = 0 then (xr (sb t.2.1) (rc ((n - 1) / nk)), sb t.2.2.1, sb t.2.2.2, sb t.1)
  else if nk = 8 ∧ n % 8 = 4 then sQ t else t
def nxQ (key : Nat → By) (nk n : Nat) (l : List Q4) : Q4 :=
  if n < nk then (key (4 * n), key (4 * n + 1), key (4 * n + 2), key (4 * n + 3)) else xQ (l.getD (nk - 1) (0, 0, 0, 0)) (tQ nk n (l.getD 0 (0, 0, 0, 0)))
/-- The first n words, the last first. -/
def slQ (key : Nat → By) (nk : Nat) : Nat → List Q4
  | 0 => []
  | n + 1 => nxQ key nk n (slQ key nk n) :: slQ key nk n
/-- A key's n-th word. -/
def kQ (key : Nat → By) (nk n : Nat) : Q4 := nxQ key nk n (slQ key nk n)
theorem slQ_at (key : Nat → By) (nk : Nat) : ∀ n i, i < n → (slQ key nk n).getD i (0, 0, 0, 0) = kQ key nk (n - 1 - i) := by
  intro n
  induction n with
  | zero => intro i hi; omega
  | succ n ih =>
    intro i hi
    cases i with
    | zero => simp [slQ, kQ]
    | succ i =>
      show (slQ key nk n).getD i _ = _
      rw [ih i (by omega), show n + 1 - 1 - (i + 1) = n - 1 - i by omega]
theorem kQ_lo (key : Nat → By) (nk n : Nat) (h : n < nk) : kQ key nk n = (key (4 * n), key (4 * n + 1), key (4 * n + 2), key (4 * n + 3)) := by unfold kQ nxQ; rw [if_pos h]
theorem kQ_hi (key : Nat → By) (nk n : Nat) (h : nk ≤ n) (h0 : 0 < nk) : kQ key nk n = xQ (kQ key nk (n - nk)) (tQ nk n (kQ key nk (n - 1))) := by
  have e : kQ key nk n = xQ ((slQ key nk n).getD (nk - 1) (0, 0, 0, 0)) (tQ nk n ((slQ key nk n).getD 0 (0, 0, 0, 0))) := by unfold kQ nxQ; rw [if_neg (by omega)]
  rw [e, slQ_at key nk n _ (by omega), slQ_at key nk n 0 (by omega), show n - 1 - (nk - 1) = n - nk by omega, show n - 1 - 0 = n - 1 by omega]
/-- The j-th byte of what a key is made into. -/
def kB (key : Nat → By) (nk j : Nat) : By := bQ (kQ key nk (j / 4)) (j % 4)
theorem wQ_xor (p q : Q4) : bits .xor .u32 (wQ p) (wQ q) = wQ (xQ p q) := wd_xor _ _ _ _ _ _ _ _
theorem col_kB (key : Nat → By) (nk i c : Nat) : col (fun j => kB key nk (16 * i + j)) c = wQ (kQ key nk (4 * i + c)) := by
  unfold col kB wQ
  simp only []
  rw [show (16 * i + 4 * c) / 4 = 4 * i + c by omega, show (16 * i + 4 * c) % 4 = 0 by omega, show (16 * i + (4 * c + 1)) / 4 = 4 * i + c by omega, show (16 * i + (4 * c + 1)) % 4 = 1 by omega, show (16 * i + (4 * c + 2)) / 4 = 4 * i + c by omega, show (16 * i + (4 * c + 2)) % 4 = 2 by omega, show (16 * i + (4 * c + 3)) / 4 = 4 * i + c by omega, show (16 * i + (4 * c + 3)) % 4 = 3 by omega]
  rfl
/-- A cipher's cells. -/
def cph (key : ByteArray) (d st : Int) (T : Nat → Value) (X : Nat → Int) (last : Int) (j : Nat) : Value :=
  if j = 0 then .string key else if j = 1 then .int .u32 d else if j = 2 then .int .i32 st else if j = 3 then .int .u32 0 else if j < 260 then T (j - 4) else if j < 320 then .int .u32 (X (j - 260)) else .int .i64 last
def zT (_ : Nat) : Value := .int .u8 0
def sT (j : Nat) : Value := .int .u8 ((sb (Fin.ofNat 256 j)).val : Int)
theorem cph_0 {key d st T X last} : cph key d st T X last 0 = .string key := rfl
theorem cph_1 {key d st T X last} : cph key d st T X last 1 = .int .u32 d := rfl
theorem cph_2 {key d st T X last} : cph key d st T X last 2 = .int .i32 st := rfl
theorem cph_T {key d st T X last} (j : Nat) (h : j < 256) : cph key d st T X last (4 + j) = T j := by
  unfold cph
  rw [if_neg (by omega), if_neg (by omega), if_neg (by omega), if_neg (by omega), if_pos (by omega), show 4 + j - 4 = j by omega]
theorem cph_X {key d st T X last} (j : Nat) (h : j < 60) : cph key d st T X last (260 + j) = .int .u32 (X j) := by
  unfold cph
  rw [if_neg (by omega), if_neg (by omega), if_neg (by omega), if_neg (by omega), if_neg (by omega), if_pos (by omega), show 260 + j - 260 = j by omega]
theorem cph_l {key d st T X last} : cph key d st T X last 320 = .int .i64 last := rfl
/-- The cipher of block b. -/
def Cph (w : World) (b : Nat) (key : ByteArray) (d st : Int) (T : Nat → Value) (X : Nat → Int) (last : Int) : Prop := Arr w b 321 (cph key d st T X last)
theorem Cph.tab {w b key d st X last} (h : Cph w b key d st sT X last) : TabAt w b 4 sb := fun a => by
  have := h.c (4 + a.val) (by have := a.2; omega)
  rw [cph_T a.val a.2] at this
  rw [this]
  unfold sT
  congr
  exact Fin.ext (by simp [Nat.mod_eq_of_lt a.2])
theorem Cph.setX {w b key d st T X last} (h : Cph w b key d st T X last) (k : Nat) (hk : k < 60) (v : Int) : Cph (w.setCell ⟨b, 260 + k, none⟩ (.int .u32 v)) b key d st T (fun j => if j = k then v else X j) last := by
  refine (Arr.set h (260 + k) (by omega) _).congr ?_
  intro j hj
  by_cases e : j = 260 + k
  · subst e
    rw [if_pos rfl, cph_X k hk, if_pos rfl]
  · rw [if_neg e]
    unfold cph
    by_cases c1 : j < 260
    · simp only [if_pos c1]
    · by_cases c2 : j < 320
      · simp only [if_neg c1, if_pos c2, if_neg (show ¬ j = 0 by omega), if_neg (show ¬ j = 1 by omega), if_neg (show ¬ j = 2 by omega), if_neg (show ¬ j = 3 by omega), if_neg (show ¬ j - 260 = k by omega)]
      · simp only [if_neg c1, if_neg c2]
theorem Cph.setL {w b key d st T X last} (h : Cph w b key d st T X last) (v : Int) : Cph (w.setCell ⟨b, 320, none⟩ (.int .i64 v)) b key d st T X v := by
  refine (Arr.set h 320 (by omega) _).congr ?_
  intro j hj
  by_cases e : j = 320
  · subst e; rw [if_pos rfl]; rfl
  · rw [if_neg e]
    unfold cph
    by_cases c1 : j < 260
    · simp only [if_pos c1]
    · simp only [if_neg c1, if_pos (show j < 320 by omega)]
theorem Cph.setD {w b key d st T X last} (h : Cph w b key d st T X last) (v : Int) : Cph (w.setCell ⟨b, 1, none⟩ (.int .u32 v)) b key v st T X last := by
  refine (Arr.set h 1 (by omega) _).congr ?_
  intro j hj
  by_cases e : j = 1
  · subst e; rw [if_pos rfl]; rfl
  · rw [if_neg e]
    unfold cph
    simp only [if_neg e]
theorem Cph.setS {w b key d st T X last} (h : Cph w b key d st T X last) (v : Int) : Cph (w.setCell ⟨b, 2, none⟩ (.int .i32 v)) b key d v T X last := by
  refine (Arr.set h 2 (by omega) _).congr ?_
  intro j hj
  by_cases e : j = 2
  · subst e; rw [if_pos rfl]; rfl
  · rw [if_neg e]
    unfold cph
    simp only [if_neg e]
theorem cell_sets_out (w : World) (b j : Nat) : ∀ (vs : List Value) (o : Nat), (j < o ∨ o + vs.length ≤ j) → (w.setCells b o vs).cell? ⟨b, j, none⟩ = w.cell? ⟨b, j, none⟩ := by
  intro vs
  induction vs generalizing w with
  | nil => intro o _; rfl
  | cons v r ih =>
    intro o h
    have hl : (v :: r).length = r.length + 1 := rfl
    rw [World.setCells, ih _ (o + 1) (by omega), World.cell?_setCell_other _ _ _ _ (by intro hh; injection hh with _ h2; omega)]
theorem Cph.there {w b key d st T X last} (h : Cph w b key d st T X last) : w.there b 4 256 := fun j hj => by
  refine ⟨?_, Arr.z h (4 + j) (by omega)⟩
  rw [Arr.c h (4 + j) (by omega)]; rfl
theorem Cph.setT {w b key d st T X last} (h : Cph w b key d st T X last) : Cph (w.setCells b 4 (tbL sb)) b key d st sT X last := by
  intro j hj
  refine ⟨?_, by rw [frozen_sets]; exact Arr.z h j hj⟩
  by_cases e : 4 ≤ j ∧ j < 260
  · obtain ⟨i, rfl⟩ : ∃ i, j = 4 + i := ⟨j - 4, by omega⟩
    have R := World.rangeAt_setCells_same w b 4 (tbL sb) (by rw [tbL_len]; exact h.there)
    have := R i _ (tbL_at sb i (by omega))
    rw [this, cph_T i (by omega)]
    rfl
  · rw [cell_sets_out w b j (tbL sb) 4 (by rw [tbL_len]; omega), Arr.c h j hj]
    unfold cph
    by_cases c : j < 4
    · have : j = 0 ∨ j = 1 ∨ j = 2 ∨ j = 3 := by omega
      rcases this with rfl | rfl | rfl | rfl <;> rfl
    · simp only [if_neg (show ¬ j < 260 by omega)]
theorem Cph.congrX {w b key d st T X Y last} (h : Cph w b key d st T X last) (e : ∀ j, j < 60 → X j = Y j) : Cph w b key d st T Y last := by
  refine Arr.congr h ?_
  intro j hj
  unfold cph
  by_cases c1 : j < 260
  · simp only [if_pos c1]
  · by_cases c2 : j < 320
    · simp only [if_neg c1, if_pos c2, e (j - 260) (by omega)]
    · simp only [if_neg c1, if_neg c2]
/-- Only block b is written. -/
theorem gb_set (w : World) (b k : Nat) (v : Value) : w.grownBy (w.setCell ⟨b, k, none⟩ v) (some b) :=
  ⟨rfl, rfl, rfl, by rw [size_set]; omega, fun j _ hj => Below.heap_setCell _ _ _ j (fun e => hj (by rw [e]))⟩
theorem gb_trans {a b c : World} {r : Option Nat} (h : a.grownBy b r) (k : b.grownBy c r) : a.grownBy c r :=
  ⟨k.os.trans h.os, k.tape.trans h.tape, k.output.trans h.output, Nat.le_trans h.size k.size, fun i hi hr => (k.block i (Nat.lt_of_lt_of_le hi h.size) hr).trans (h.block i hi hr)⟩
theorem gb_of {a b : World} {r : Option Nat} (h : Below a.heap.size a b) : a.grownBy b r := ⟨h.os, h.tape, h.output, h.size, fun k hk _ => h.block k hk⟩
theorem gb_drew {a b : World} {r : Option Nat} (h : a.grownBy b r) : a.grownBy b.drew r := ⟨h.os, h.tape, h.output, h.size, h.block⟩
theorem gb_refl (a : World) (r : Option Nat) : a.grownBy a r := ⟨rfl, rfl, rfl, Nat.le_refl _, fun _ _ _ => rfl⟩
theorem gb_sets (w : World) (b : Nat) : ∀ (vs : List Value) (o : Nat), w.grownBy (w.setCells b o vs) (some b) := by
  intro vs
  induction vs generalizing w with
  | nil => intro o; exact gb_refl _ _
  | cons v r ih => intro o; rw [World.setCells]; exact gb_trans (gb_set _ _ _ _) (ih _ (o + 1))
theorem gb_cell {w w' : World} {b c j : Nat} (h : w.grownBy w' (some b)) (hc : c < w.heap.size) (hne : c ≠ b) : w'.cell? ⟨c, j, none⟩ = w.cell? ⟨c, j, none⟩ :=
  World.cell?_of_block (w := w) (h.block c hc (by intro e; exact hne (Option.some.inj e)))
theorem gb_frozen {w w' : World} {b c j : Nat} (h : w.grownBy w' (some b)) (hc : c < w.heap.size) (hne : c ≠ b) : w'.frozen? ⟨c, j, none⟩ = w.frozen? ⟨c, j, none⟩ :=
  World.frozen?_of_block (w := w) (h.block c hc (by intro e; exact hne (Option.some.inj e)))
theorem gb_arr {w w' : World} {b c n : Nat} {f : Nat → Value} (h : w.grownBy w' (some b)) (hne : c ≠ b) (hA : Arr w c (n + 1) f) : Arr w' c (n + 1) f := fun j hj =>
  ⟨(gb_cell h hA.lt hne).trans (hA.c j hj), (gb_frozen h hA.lt hne).trans (hA.z j hj)⟩
theorem gb_below {w W W' : World} {b : Nat} (h : Below w.heap.size w W) (hg : W.grownBy W' (some b)) (hb : w.heap.size ≤ b) : Below w.heap.size w W' :=
  h.grown hg h.size (fun k e => by cases e; exact hb)
theorem Cph.to {w w' b key d st T X last} (h : Cph w b key d st T X last) (hb : Below w.heap.size w w') : Cph w' b key d st T X last := Arr.to' h hb
theorem Cph.lt {w b key d st T X last} (h : Cph w b key d st T X last) : b < w.heap.size := Arr.lt h
theorem Cph.al {w b key d st T X last} (h : Cph w b key d st T X last) (o : Obj) : Cph (w.alloc o) b key d st T X last := Arr.al' h o
end Go.Proofs.Ytogkijjmimaccaa
/- A range over a function whose iterator writes a block that was there, and tells its body more than what it hands out; the body may be left by an exit. -/
set_option linter.all false
namespace Go.Proofs.Ytogkijjmimaccaa
open Go.RowKit Go.Shelf
variable {F : Fence} {n : Nat} {P : Program}
def SeqM {α : Type} (F : Fence) (n : Nat) (P : Program) (g : Nat) (lb : Array Value) (encs : α → Array Value) (Kp : World → World → Prop) (Mk : List α → α → World → Prop) (Bd S Sp : List α → Prop) (row : Option Nat) (Ed : World → Prop) (w : World) : Prop :=
  ∀ (l : Nat) (J Jx : List α → World → Prop) (W : World), Below w.heap.size w W → AbidesFrom W.heap.size J → AbidesFrom W.heap.size Jx → (∀ s A B, J s A → A.grownBy B row → J s B) → (∀ s A, J s A → Bd s) →
    (∀ pre x A, J pre A → Mk pre x A → YieldAt F (n - 1) P l (encs x) A fun e A' => (e = .returned (.bool true) ∧ J (pre ++ [x]) A' ∧ Kp A A') ∨ (e = .returned (.bool false) ∧ Jx (pre ++ [x]) A')) →
    J [] W → CallsIn F n P g (#[.func (.yield l) #[] #[]] ++ lb) W fun e A' => (∃ v, e = .returned v) ∧ ((∃ xs, S xs ∧ J xs A' ∧ Ed A') ∨ (∃ pre, Sp pre ∧ Jx pre A'))
/-- How a round may end. -/
def EndM {α : Type} (Kp : World → World → Prop) (I Ix : List α → World → Prop) (xs : List α) (W : World) : Exit → Act → World → Prop
  | .normal, _, W' => KeepsOthers W W' ∧ Kp W W' ∧ I xs W'
  | .exit id, _, W' => id = 0 ∧ KeepsOthers W W' ∧ Ix xs W'
  | _, _, _ => False
theorem Book.grown {w A B : World} {r : Loop} {row : Option Nat} (h : Book w r A) (hg : A.grownBy B row) (hr : ∀ k, row = some k → k < w.heap.size) : Book w r B :=
  ⟨(hg.block _ (Array.getElem?_eq_some_iff.1 h.1).1 (fun e => by have := hr _ e.symm; omega)).trans h.1, (hg.block _ (Array.getElem?_eq_some_iff.1 h.2).1 (fun e => by have := hr _ e.symm; omega)).trans h.2⟩
/-- One block that is no cells, of the loop's own, is turned. -/
def Upd (B : Nat) (W W' : World) : Prop := ∃ l o, W.heap[l]? = some o ∧ o.isCells = false ∧ B ≤ l ∧ W.grownBy W' (some l)
theorem Upd.own {β : Type} {B : Nat} {I : β → World → Prop} (hI : OwnFrom B I) {s : β} {W W' : World} (h : Upd B W W') (hi : I s W) : I s W' := by
  obtain ⟨l, o, h1, h2, h3, h4⟩ := h
  exact hI s W W' (some l) hi h4 (fun r e => by cases e; exact ⟨h3, o, h1, h2⟩)
theorem Upd.arr {B : Nat} {W W' : World} (h : Upd B W W') {b n : Nat} {f : Nat → Value} (hA : Arr W b n f) : Arr W' b n f := by
  obtain ⟨l, o, h1, h2, h3, h4⟩ := h
  exact arr_kept hA h4 (fun r e => by cases e; exact ⟨o, h1, h2⟩)
theorem wpIn_rangeFunc_made {α : Type} {g : Operand} {ps : Array Tmp} {assign body : Code} {Q : Exit → Act → World → Prop} {a : Act} {w : World}
    (hro : F.round = none) (h1 : 1 ≤ n) {gf : Nat} {lb : Array Value} (hg : a.eval g = .func (.func gf) #[] lb) (hFg : F.fn gf) (eg : ∀ args w, (callFunc gf args).run P w = .ok (.enter gf args) w)
    {encs : α → Array Value} {Kp : World → World → Prop} {Mk : List α → α → World → Prop} {Bd S Sp : List α → Prop} {row : Option Nat} {Ed : World → Prop} {w0 : World} (hseq : SeqM F (n - 1) P gf lb encs Kp Mk Bd S Sp row Ed w0)
    (hKt : ∀ {A B C : World}, Kp A B → Kp B C → Kp A C) (hKb : ∀ (W : World) (l : Nat) (o o' : Obj), w.heap.size ≤ l → W.heap[l]? = some o → o.isCells = false → Kp W (W.putObj l o')) (hKg : ∀ A B : World, A.grownBy B none → Kp A B) (hb0 : Below w0.heap.size w0 w) (hps : ∀ x, (encs x).size = ps.size)
    (hrow : ∀ k, row = some k → k < w.heap.size) (hMk : OwnFrom w.heap.size (fun (s : List α × α) W => Mk s.1 s.2 W)) (hEd : OwnFrom w.heap.size (fun (_ : Unit) W => Ed W))
    (I Ix : List α → World → Prop) (hI : OwnFrom w.heap.size I) (hIx : OwnFrom w.heap.size Ix) (hIg : ∀ s A B, I s A → A.grownBy B row → I s B) (hBd : ∀ s A, I s A → Bd s) (h0 : I [] w)
    (hround : ∀ (l : Nat) (pre : List α) (x : α) (W : World), I pre W → Mk pre x W →
      assign.wpIn (F.inRound l) (n - 1 - 1) P (Exit.then (fun a₁ W₁ => W.grownBy W₁ none ∧ ∀ W₂, Upd w.heap.size W₁ W₂ → I pre W₂ → Mk pre x W₂ → body.wpIn (F.inRound l) (n - 1 - 1) P (EndM Kp I Ix (pre ++ [x]) W₂) a₁ W₂) (fun _ _ _ => False))
        { tmps := (ps.zip (encs x)).foldl (fun t (p, v) => t.setIfInBounds p v) a.tmps, defers := [] } W)
    (hdone : ∀ (D : Nat) (xs : List α) (W : World), w.heap.size ≤ D → S xs → I xs W → Ed W → W.heap[D]? = some (.deferred (some [])) → Q .normal { a with defers := { target := .collected D, args := #[] } :: a.defers } W)
    (hstop : ∀ (D : Nat) (pre : List α) (W : World), w.heap.size ≤ D → Sp pre → Ix pre W → W.heap[D]? = some (.deferred (some [])) → (Code.exit 0).wpIn F n P Q { a with defers := { target := .collected D, args := #[] } :: a.defers } W) :
    (Code.rangeFunc g ps assign body).wpIn F n P Q a w := by
  refine wpIn_rangeFunc fun fn hfn => ?_
  rw [hro]
  obtain ⟨R, hR⟩ : ∃ R : LoopState → Option Code → Loop, R = fun st pe => { state := st, pending := pe, fn, tmps := a.tmps, params := ps, assign, body, defers := w.heap.size } := ⟨_, rfl⟩
  obtain ⟨V, hV⟩ : ∃ V, (w.alloc (.deferred (some []))).alloc (.loop (R .ready none)) = V := ⟨_, rfl⟩
  have bV : Book w (R .ready none) V := by
    rw [← hV]
    refine ⟨?_, (Below.heap_alloc _ _ _ (by simp)).trans (World.alloc_heap_new w _)⟩
    have := World.alloc_heap_new (w.alloc (.deferred (some []))) (.loop (R .ready none))
    rwa [World.size_alloc] at this
  have iV : I [] V := by rw [← hV]; exact hI.alloc _ (hI.alloc _ h0)
  have sV : w.heap.size ≤ V.heap.size := by rw [← hV]; simp; omega
  have cV : Below w0.heap.size w0 V := by
    rw [← hV]; exact hb0.trans ((((Below.refl _ w).alloc (Nat.le_refl _) _).alloc (by simp) _).mono hb0.size)
  refine ⟨w.heap.size + 1, [{ target := .collected w.heap.size, args := #[] }], V, { target := .fn (.func gf) lb, args := #[.func (.yield (w.heap.size + 1)) #[] #[]] }, V, gf,
    #[.func (.yield (w.heap.size + 1)) #[] #[]] ++ lb, V, by rw [← hV, hR]; exact run_enterLoop_outer _ _ _ _ _, by simp only [resolve, hg]; simp [go_sem], ?_, by simp [invoke, go_sem, eg], fun _ => h1, ?_⟩
  · intro f' hf'; simp [Target.leads] at hf'; subst hf'; exact hFg
  have far : ∀ {A : World} {rw : Option Nat}, (∀ r, rw = some r → V.heap.size ≤ r ∧ ∃ o : Obj, A.heap[r]? = some o ∧ o.isWalk = true) → (∀ r, rw = some r → w.heap.size ≤ r ∧ ∃ o : Obj, A.heap[r]? = some o ∧ o.isCells = false) := by
    intro A rw hr r e
    obtain ⟨hB, o, ho, hw⟩ := hr r e
    exact ⟨Nat.le_trans sV hB, o, ho, Obj.not_cells_of_walk hw⟩
  refine (hseq (w.heap.size + 1) (fun pre W => I pre W ∧ Book w (R .ready none) W) (fun pre W => Ix pre W ∧ Book w (R .done (some (.exit 0))) W) V cV ?_ ?_ ?_ (fun s A h => hBd s A h.1) ?_ ⟨iV, bV⟩).mono ?_
  · rintro s A B row' ⟨i, b⟩ hg' hr
    exact ⟨hI s A B row' i hg' (far hr), (grownBy_keeps hg' (fun r e => (hr r e).2) b.1 rfl).trans b.1, (grownBy_keeps hg' (fun r e => (hr r e).2) b.2 rfl).trans b.2⟩
  · rintro s A B row' ⟨i, b⟩ hg' hr
    exact ⟨hIx s A B row' i hg' (far hr), (grownBy_keeps hg' (fun r e => (hr r e).2) b.1 rfl).trans b.1, (grownBy_keeps hg' (fun r e => (hr r e).2) b.2 rfl).trans b.2⟩
  · rintro s A B ⟨i, b⟩ hg'
    exact ⟨hIg s A B i hg', b.grown hg' hrow⟩
  · rintro pre x W ⟨i, b⟩ hm
    have hy := run_yield (P := P) (args := encs x) b.1 (by rw [hR]; exact hps x)
    rw [hR] at hy
    refine ⟨fn, _, assign, body, hy, roundIn_of_wpIn hfn (wpIn_mono (hround _ pre x W i hm) ?_)⟩
    rintro e a1 W1 hp
    cases e with
    | normal =>
      obtain ⟨hg1, hb1⟩ := hp
      have none0 : ∀ r, (none : Option Nat) = some r → w.heap.size ≤ r ∧ ∃ o : Obj, W.heap[r]? = some o ∧ o.isCells = false := fun r e => by cases e
      have b1 : Book w (R .ready none) W1 := b.grown hg1 (fun k e => by cases e)
      have i1 := hI pre W W1 none i hg1 none0
      have m1 := hMk (pre, x) W W1 none hm hg1 none0
      have u1 : Upd w.heap.size W1 (W1.putObj (w.heap.size + 1) (.loop { R .ready none with state := .busy })) := ⟨w.heap.size + 1, _, b1.1, rfl, by omega, grownBy_putObj' _ _ _⟩
      have b2 := b1.put { R .ready none with state := .busy }
      refine ⟨_, run_beginRound b1.1 (by rw [hR]), ?_⟩
      have k2 : Kp W (W1.putObj (w.heap.size + 1) (.loop { R .ready none with state := .busy })) := hKt (hKg _ _ hg1) (hKb W1 (w.heap.size + 1) _ _ (by omega) b1.1 rfl)
      refine wpIn_mono (hb1 _ u1 (u1.own hI i1) (u1.own (s := (pre, x)) hMk m1)) ?_
      rintro e a3 W3 hp
      cases e with
      | normal =>
        obtain ⟨ko, kp, i3⟩ := hp
        have b3 := b2.keep ko
        have he := run_endRound (P := P) (none : Option Code) b3.1
        have b4 := b3.put (R .ready none)
        rw [hR] at he b4 b3
        refine ⟨_, _, he, .inl ⟨rfl, ⟨hI.putObj _ i3 (by omega) b3.1 rfl, ?_⟩, hKt (hKt (by rw [hR] at k2; exact k2) (by rw [hR] at kp; exact kp)) (hKb _ _ _ _ (by omega) b3.1 rfl)⟩⟩
        rw [hR]
        exact b4
      | exit id =>
        obtain ⟨rfl, ko, i3⟩ := hp
        have b3 := b2.keep ko
        have he := run_endRound (P := P) (some (Code.exit 0)) b3.1
        have b4 := b3.put (R .done (some (.exit 0)))
        rw [hR] at he b4 b3
        refine ⟨_, _, he, .inr ⟨rfl, hIx.putObj _ i3 (by omega) b3.1 rfl, ?_⟩⟩
        rw [hR]
        exact b4
      | ret => exact hp.elim
      | goto t => exact hp.elim
      | panic ch => exact hp.elim
      | outgrown => exact hp.elim
    | ret => exact hp.elim
    | exit id => exact hp.elim
    | goto t => exact hp.elim
    | panic ch => exact hp.elim
    | outgrown => exact hp.elim
  · rintro e W2 ⟨⟨v, rfl⟩, (⟨xs, hS, ⟨i, b⟩, ed⟩ | ⟨pre, hSp, i, b⟩)⟩
    · have he := run_endLoop (P := P) b.1 (by rw [hR]; simp)
      rw [hR] at he
      exact ⟨none, _, he, hdone _ xs _ (Nat.le_refl _) hS (hI.putObj _ i (by omega) b.1 rfl) (hEd.putObj (s := ()) _ ed (by omega) b.1 rfl) ((World.putObj_heap_other (by omega)).trans b.2)⟩
    · have he := run_endLoop (P := P) b.1 (by rw [hR]; simp)
      rw [hR] at he
      exact ⟨some (.exit 0), _, he, hstop _ pre _ (Nat.le_refl _) hSp (hIx.putObj _ i (by omega) b.1 rfl) ((World.putObj_heap_other (by omega)).trans b.2)⟩
end Go.Proofs.Ytogkijjmimaccaa
