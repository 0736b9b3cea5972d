/- Blocks as bytes: what the program's functions make of them. -/
import Derived.Test.YtnmikancbfaejaaA8
import Derived.Test.YtnmikancbfaejaaA9
import Derived.Test.YtnmikancbfaejaaA11
import Derived.Test.YtnmikancbfaejaaA12
set_option linter.all false
set_option maxRecDepth 100000
namespace Go.Proofs.Ytnmikancbfaejaa
open Go.RowKit Go.Sort Lin
def plF (h k : Nat → By) (j : Nat) : By := xr (h j) (k j)
def beF (f : By → By) (h : Nat → By) (j : Nat) : By := f (h j)
def tnF (h : Nat → By) (j : Nat) : By := h (4 * ((j / 4 + j % 4) % 4) + j % 4)
/-- A byte of a column that is mixed. -/
def mxB (m0 m1 m2 m3 a b c d : By) : By := xr (xr (xr (tmF a m0) (tmF b m1)) (tmF c m2)) (tmF d m3)
def mxF (m0 m1 m2 m3 : By) (h : Nat → By) (j : Nat) : By := mxB m0 m1 m2 m3 (h (4 * (j / 4) + j % 4)) (h (4 * (j / 4) + (j % 4 + 1) % 4)) (h (4 * (j / 4) + (j % 4 + 2) % 4)) (h (4 * (j / 4) + (j % 4 + 3) % 4))
theorem col_of (h : Nat → By) (g : Nat → By) (k : Nat) (e0 : h (4 * k) = g (4 * k)) (e1 : h (4 * k + 1) = g (4 * k + 1)) (e2 : h (4 * k + 2) = g (4 * k + 2)) (e3 : h (4 * k + 3) = g (4 * k + 3)) : col h k = col g k := by unfold col; rw [e0, e1, e2, e3]
theorem plus_any (h k : Nat → By) (w : World) : Calls Try.prog 46 #[bv (col h), bv (col k)] w fun e w' => e = .returned (bv (col (plF h k))) ∧ Below w.heap.size w w' :=
  plus_core _ _ _ (fun c _ => by unfold col; rw [wd_xor]; rfl) w
theorem become_any (f : By → By) (b o : Nat) (h : Nat → By) (w : World) (hT : TabAt w b o f) : Calls Try.prog 43 #[bv (col h), .pointer (some ⟨b, o, none⟩)] w fun e w' => e = .returned (bv (col (beF f h))) ∧ Below w.heap.size w w' :=
  become_core _ _ b o f (fun k _ W hW => of_any f b o _ _ _ _ W hW) w hT
theorem turned_any (h : Nat → By) (w : World) : Calls Try.prog 44 #[bv (col h)] w fun e w' => e = .returned (bv (col (tnF h))) ∧ Below w.heap.size w w' := by
  refine turned_core _ _ (fun k hk => ?_) w
  have e : ∀ r, r < 4 → tnF h (4 * k + r) = h (4 * ((k + r) % 4) + r) := fun r hr => by
    unfold tnF
    rw [show (4 * k + r) / 4 = k by omega, show (4 * k + r) % 4 = r by omega]
  have e0 := e 0 (by omega)
  rw [Nat.add_zero, Nat.add_zero, Nat.add_zero, Nat.mod_eq_of_lt hk] at e0
  unfold col
  rw [e0, e 1 (by omega), e 2 (by omega), e 3 (by omega)]
  rw [show (4278190080 : Int) = wd 255 0 0 0 by decide, show (16711680 : Int) = wd 0 255 0 0 by decide, show (65280 : Int) = wd 0 0 255 0 by decide, show (255 : Int) = wd 0 0 0 255 by decide]
  simp only [wd_and, wd_or, an_ff, an_00, or_0, or_0']
theorem rot_8 (a b c d : By) (w : World) : Calls Try.prog 58 #[.int .u32 (wd a b c d), .int .i64 8] w fun e w' => e = .returned (.int .u32 (wd b c d a)) ∧ w' = w := by
  have := rotl_any (wd a b c d) 8 8 (by decide) (by decide) (by decide) w
  rw [show wd a b c d * 2 ^ (8 : Int).toNat % 4294967296 = wd b c d 0 by unfold wd wdN; have := a.2; have := b.2; have := c.2; have := d.2; simp; omega, show wd a b c d / 2 ^ ((32 : Int) - 8).toNat = wd 0 0 0 a by unfold wd wdN; have := a.2; have := b.2; have := c.2; have := d.2; simp; omega, wd_or] at this
  simpa only [or_0, or_0'] using this
theorem rot_16 (a b c d : By) (w : World) : Calls Try.prog 58 #[.int .u32 (wd a b c d), .int .i64 16] w fun e w' => e = .returned (.int .u32 (wd c d a b)) ∧ w' = w := by
  have := rotl_any (wd a b c d) 16 16 (by decide) (by decide) (by decide) w
  rw [show wd a b c d * 2 ^ (16 : Int).toNat % 4294967296 = wd c d 0 0 by unfold wd wdN; have := a.2; have := b.2; have := c.2; have := d.2; simp; omega, show wd a b c d / 2 ^ ((32 : Int) - 16).toNat = wd 0 0 a b by unfold wd wdN; have := a.2; have := b.2; have := c.2; have := d.2; simp; omega, wd_or] at this
  simpa only [or_0, or_0'] using this
theorem rot_24 (a b c d : By) (w : World) : Calls Try.prog 58 #[.int .u32 (wd a b c d), .int .i64 24] w fun e w' => e = .returned (.int .u32 (wd d a b c)) ∧ w' = w := by
  have := rotl_any (wd a b c d) 24 24 (by decide) (by decide) (by decide) w
  rw [show wd a b c d * 2 ^ (24 : Int).toNat % 4294967296 = wd d 0 0 0 by unfold wd wdN; have := a.2; have := b.2; have := c.2; have := d.2; simp; omega, show wd a b c d / 2 ^ ((32 : Int) - 24).toNat = wd 0 a b c by unfold wd wdN; have := a.2; have := b.2; have := c.2; have := d.2; simp; omega, wd_or] at this
  simpa only [or_0, or_0'] using this
theorem dF_xr (a b : By) : dF (xr a b) = xr (dF a) (dF b) := Fin.ext (T8_L.2 _ _)
theorem tm_2 : ∀ a : By, tmF a 2 = dF a := by decide +kernel
theorem tm_3 : ∀ a : By, tmF a 3 = xr (dF a) a := by decide +kernel
theorem tm_1 : ∀ a : By, tmF a 1 = a := by decide +kernel
theorem mx_is (a b c d : By) : xr (xr (xr (dF (xr a b)) b) c) d = mxB 2 3 1 1 a b c d := by
  unfold mxB
  rw [tm_2, tm_3, tm_1, tm_1, dF_xr, xr_assoc (dF a)]
theorem mixed_any (h : Nat → By) (w : World) : Calls Try.prog 45 #[bv (col h)] w fun e w' => e = .returned (bv (col (mxF 2 3 1 1 h))) ∧ Below w.heap.size w w' := by
  refine mixed_core (col h) (fun k => wd (h (4 * k + 1)) (h (4 * k + 2)) (h (4 * k + 3)) (h (4 * k))) (fun k => wd (h (4 * k + 2)) (h (4 * k + 3)) (h (4 * k)) (h (4 * k + 1))) (fun k => wd (h (4 * k + 3)) (h (4 * k)) (h (4 * k + 1)) (h (4 * k + 2)))
    (fun k => wd (dF (xr (h (4 * k)) (h (4 * k + 1)))) (dF (xr (h (4 * k + 1)) (h (4 * k + 2)))) (dF (xr (h (4 * k + 2)) (h (4 * k + 3)))) (dF (xr (h (4 * k + 3)) (h (4 * k))))) _
    (fun k _ W => rot_8 _ _ _ _ W) (fun k _ W => rot_16 _ _ _ _ W) (fun k _ W => rot_24 _ _ _ _ W) (fun k _ W => ?_) (fun k hk => ?_) w
  · have := dbl_any (bits .xor .u32 (col h k) (wd (h (4 * k + 1)) (h (4 * k + 2)) (h (4 * k + 3)) (h (4 * k)))) W
    unfold col at this ⊢
    rw [wd_xor] at this ⊢
    rw [dbW_wd] at this
    exact this
  · have e : ∀ r, r < 4 → mxF 2 3 1 1 h (4 * k + r) = mxB 2 3 1 1 (h (4 * k + r)) (h (4 * k + (r + 1) % 4)) (h (4 * k + (r + 2) % 4)) (h (4 * k + (r + 3) % 4)) := fun r hr => by
      unfold mxF
      rw [show (4 * k + r) / 4 = k by omega, show (4 * k + r) % 4 = r by omega]
    have e0 := e 0 (by omega)
    rw [Nat.add_zero] at e0
    unfold col
    rw [e0, e 1 (by omega), e 2 (by omega), e 3 (by omega)]
    simp only [wd_xor, mx_is, Nat.zero_add, Nat.reduceMod, Nat.reduceAdd, Nat.add_zero]
/-- Sixteen bytes as a text. -/
def tx (h : Nat → By) : ByteArray := mkS ((List.range 16).map fun j => ((h j).val : Int))
theorem w4_wd (a b c d : By) : w4 (wd a b c d) = [(a.val : Int), (b.val : Int), (c.val : Int), (d.val : Int)] := by
  unfold w4 wd wdN
  have := a.2; have := b.2; have := c.2; have := d.2
  simp only [List.cons.injEq, and_true]
  refine ⟨?_, ?_, ?_, ?_⟩ <;> omega
theorem txt_col (h : Nat → By) : txt (col h) = tx h := by
  unfold txt tx
  congr 1
  unfold hfL hfL hfL hfL hfL col
  simp only [w4_wd]
  rfl
theorem text_b (h : Nat → By) (w : World) : Calls Try.prog 25 #[bv (col h)] w fun e w' => e = .returned (.string (tx h)) ∧ Below w.heap.size w w' := by
  have := text_any (col h) w
  rwa [txt_col] at this
theorem tx_size (h : Nat → By) : (tx h).size = 16 := by unfold tx; rw [mkS_size]; simp
theorem bF_tx (h : Nat → By) (j : Nat) (hj : j < 16) : bF (tx h) j = h j := by
  apply Fin.ext
  have := mkS_bt ((List.range 16).map fun j => ((h j).val : Int)) j ((h j).val : Int) (by simp [hj]) (by omega) (by have := (h j).2; omega)
  have e := bF_bt (tx h) j
  unfold tx at e ⊢
  omega
theorem tx_bF (s : ByteArray) (hs : s.size = 16) : tx (bF s) = s := by
  apply ba_ext
  unfold tx
  rw [mkS_list, List.map_map]
  apply List.ext_getElem?
  intro j
  by_cases hj : j < 16
  · have e1 : s.data.toList[j]? = some (s.data[j]'(by have : s.data.size = 16 := hs; omega)) := by rw [Array.getElem?_toList]; exact Array.getElem?_eq_getElem _
    rw [e1, List.getElem?_map, List.getElem?_range hj]
    simp only [Option.map_some, Function.comp]
    rw [← bF_bt]
    unfold bt
    rw [Array.getElem?_eq_getElem (by have : s.data.size = 16 := hs; omega)]
    simp
  · rw [List.getElem?_eq_none (by simp; omega), List.getElem?_eq_none (by rw [len_list]; omega)]
theorem tx_congr {h k : Nat → By} (e : ∀ j, j < 16 → h j = k j) : tx h = tx k := by
  unfold tx
  congr 1
  refine List.map_congr_left fun j hj => ?_
  rw [e j (List.mem_range.1 hj)]
theorem bv_congr {h k : Nat → By} (e : ∀ j, j < 16 → h j = k j) : bv (col h) = bv (col k) := by
  unfold bv col
  rw [e _ (by omega), e _ (by omega), e _ (by omega), e _ (by omega), e _ (by omega), e _ (by omega), e _ (by omega), e _ (by omega), e _ (by omega), e _ (by omega), e _ (by omega), e _ (by omega), e _ (by omega), e _ (by omega), e _ (by omega), e _ (by omega)]
end Go.Proofs.Ytnmikancbfaejaa
