/- Times as texts: there and back. -/
import Derived.Test.YtajdfjpcobaioaaDoorD17
set_option linter.all false
set_option maxRecDepth 100000
namespace Go.Proofs.YtajdfjpcobaioaaDoor
open Go.RowKit Go.Sort
theorem tmL_all (y m d h i s : Int) : tmL y m d h i s = [48 + y / 10 / 10 / 10 % 10, 48 + y / 10 / 10 % 10, 48 + y / 10 % 10, 48 + y % 10, 48 + m / 10 % 10, 48 + m % 10, 48 + d / 10 % 10, 48 + d % 10, 48 + h / 10 % 10, 48 + h % 10, 48 + i / 10 % 10, 48 + i % 10, 48 + s / 10 % 10, 48 + s % 10, 90] := rfl
theorem tm_back (y m d h i s : Int) (c : Cal y m d h i s) : ttOk (mkS (tmL y m d h i s)) ∧ fY (mkS (tmL y m d h i s)) = y ∧ fM (mkS (tmL y m d h i s)) = m ∧ fD (mkS (tmL y m d h i s)) = d ∧ fH (mkS (tmL y m d h i s)) = h ∧ fI (mkS (tmL y m d h i s)) = i ∧ fS (mkS (tmL y m d h i s)) = s := by
  have B := bt_sL (mkS (tmL y m d h i s))
  rw [sL_mkS _ (tmL_bys y m d h i s)] at B
  have sz : (mkS (tmL y m d h i s)).size = 15 := by rw [mkS_size, tmL_all]; rfl
  have hq := mD_bd y m
  have a0 := c.y0; have a1 := c.y1; have a2 := c.m0; have a3 := c.m1; have a4 := c.d0; have a5 := c.d1; have a6 := c.h0; have a7 := c.h1; have a8 := c.i0; have a9 := c.i1; have a10 := c.s0; have a11 := c.s1
  generalize mkS (tmL y m d h i s) = S at *
  have b0 : bt S 0 = 48 + y / 10 / 10 / 10 % 10 := by rw [B]; rfl
  have b1 : bt S 1 = 48 + y / 10 / 10 % 10 := by rw [B]; rfl
  have b2 : bt S 2 = 48 + y / 10 % 10 := by rw [B]; rfl
  have b3 : bt S 3 = 48 + y % 10 := by rw [B]; rfl
  have b4 : bt S 4 = 48 + m / 10 % 10 := by rw [B]; rfl
  have b5 : bt S 5 = 48 + m % 10 := by rw [B]; rfl
  have b6 : bt S 6 = 48 + d / 10 % 10 := by rw [B]; rfl
  have b7 : bt S 7 = 48 + d % 10 := by rw [B]; rfl
  have b8 : bt S 8 = 48 + h / 10 % 10 := by rw [B]; rfl
  have b9 : bt S 9 = 48 + h % 10 := by rw [B]; rfl
  have b10 : bt S 10 = 48 + i / 10 % 10 := by rw [B]; rfl
  have b11 : bt S 11 = 48 + i % 10 := by rw [B]; rfl
  have b12 : bt S 12 = 48 + s / 10 % 10 := by rw [B]; rfl
  have b13 : bt S 13 = 48 + s % 10 := by rw [B]; rfl
  have b14 : bt S 14 = 90 := by rw [B]; rfl
  have e : fY S = y ∧ fM S = m ∧ fD S = d ∧ fH S = h ∧ fI S = i ∧ fS S = s := by
    unfold fY fM fD fH fI fS
    rw [b0, b1, b2, b3, b4, b5, b6, b7, b8, b9, b10, b11, b12, b13]
    omega
  refine ⟨⟨⟨sz, b14, fun j hj => ?_⟩, ?_⟩, e⟩
  · have : j = 0 ∨ j = 1 ∨ j = 2 ∨ j = 3 ∨ j = 4 ∨ j = 5 ∨ j = 6 ∨ j = 7 ∨ j = 8 ∨ j = 9 ∨ j = 10 ∨ j = 11 ∨ j = 12 ∨ j = 13 := by omega
    rcases this with rfl | rfl | rfl | rfl | rfl | rfl | rfl | rfl | rfl | rfl | rfl | rfl | rfl | rfl
    · rw [b0]; omega
    · rw [b1]; omega
    · rw [b2]; omega
    · rw [b3]; omega
    · rw [b4]; omega
    · rw [b5]; omega
    · rw [b6]; omega
    · rw [b7]; omega
    · rw [b8]; omega
    · rw [b9]; omega
    · rw [b10]; omega
    · rw [b11]; omega
    · rw [b12]; omega
    · rw [b13]; omega
  · rw [e.1, e.2.1, e.2.2.1, e.2.2.2.1, e.2.2.2.2.1, e.2.2.2.2.2]; exact c
theorem tim_ok (t : Int) (h0 : LT ≤ t) (h1 : t ≤ MT) : ttOk (mkS (timL t)) ∧ secs (fY (mkS (timL t))) (fM (mkS (timL t))) (fD (mkS (timL t))) (fH (mkS (timL t))) (fI (mkS (timL t))) (fS (mkS (timL t))) = t := by
  obtain ⟨k, e1, e2, e3, e4, e5, e6⟩ := tm_back _ _ _ _ _ _ (cal_of t h0 h1)
  have hs := secs_of t
  unfold timL
  refine ⟨k, ?_⟩
  rw [e1, e2, e3, e4, e5, e6]; exact hs
theorem sL_bt (s : ByteArray) : sL s = (List.range s.size).map (bt s) := by
  apply List.ext_getElem
  · simp [sL_len]
  · intro i h1 h2
    simp only [List.getElem_map, List.getElem_range]
    rw [bt_sL, List.getD_eq_getElem?_getD, List.getElem?_eq_getElem h1]; rfl
theorem ok_tim (s : ByteArray) (h : ttOk s) : LT ≤ secs (fY s) (fM s) (fD s) (fH s) (fI s) (fS s) ∧ secs (fY s) (fM s) (fD s) (fH s) (fI s) (fS s) ≤ MT ∧ mkS (timL (secs (fY s) (fM s) (fD s) (fH s) (fI s) (fS s))) = s := by
  obtain ⟨p0, p1, p2, p3, p4, p5, p6, p7⟩ := secs_parts _ _ _ _ _ _ h.cal
  refine ⟨p0, p1, ?_⟩
  unfold timL
  rw [p2, p3, p4, p5, p6, p7]
  have D := h.form.2.2
  have h14 := h.form.2.1
  have sz := h.form.1
  have d0 := D 0 (by omega)
  have d1 := D 1 (by omega)
  have d2 := D 2 (by omega)
  have d3 := D 3 (by omega)
  have d4 := D 4 (by omega)
  have d5 := D 5 (by omega)
  have d6 := D 6 (by omega)
  have d7 := D 7 (by omega)
  have d8 := D 8 (by omega)
  have d9 := D 9 (by omega)
  have d10 := D 10 (by omega)
  have d11 := D 11 (by omega)
  have d12 := D 12 (by omega)
  have d13 := D 13 (by omega)
  have e : sL s = [bt s 0, bt s 1, bt s 2, bt s 3, bt s 4, bt s 5, bt s 6, bt s 7, bt s 8, bt s 9, bt s 10, bt s 11, bt s 12, bt s 13, bt s 14] := by rw [sL_bt, sz]; rfl
  have key : tmL (fY s) (fM s) (fD s) (fH s) (fI s) (fS s) = [bt s 0, bt s 1, bt s 2, bt s 3, bt s 4, bt s 5, bt s 6, bt s 7, bt s 8, bt s 9, bt s 10, bt s 11, bt s 12, bt s 13, bt s 14] := by
    rw [tmL_all]
    unfold fY fM fD fH fI fS
    rw [h14]
    generalize bt s 0 = c0 at *
    generalize bt s 1 = c1 at *
    generalize bt s 2 = c2 at *
    generalize bt s 3 = c3 at *
    generalize bt s 4 = c4 at *
    generalize bt s 5 = c5 at *
    generalize bt s 6 = c6 at *
    generalize bt s 7 = c7 at *
    generalize bt s 8 = c8 at *
    generalize bt s 9 = c9 at *
    generalize bt s 10 = c10 at *
    generalize bt s 11 = c11 at *
    generalize bt s 12 = c12 at *
    generalize bt s 13 = c13 at *
    clear e D p0 p1 p2 p3 p4 p5 p6 p7 h14 sz h
    simp only [List.cons.injEq, and_true]
    refine ⟨?_, ?_, ?_, ?_, ?_, ?_, ?_, ?_, ?_, ?_, ?_, ?_, ?_, ?_⟩ <;> omega
  rw [key, ← e]
  exact mkS_sL s
end Go.Proofs.YtajdfjpcobaioaaDoor
