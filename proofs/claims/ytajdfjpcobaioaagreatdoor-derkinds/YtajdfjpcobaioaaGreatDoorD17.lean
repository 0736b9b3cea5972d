/- Times, read: what ToTime tells. -/
import Derived.Test.YtajdfjpcobaioaaGreatDoorD16
import Derived.Test.YtajdfjpcobaioaaGreatDoorD5
set_option linter.all false
set_option maxRecDepth 100000
namespace Go.Proofs.YtajdfjpcobaioaaGreatDoor
open Go.RowKit Go.Sort
def fY (s : ByteArray) : Int := 10 * (10 * (10 * (bt s 0 - 48) + (bt s 1 - 48)) + (bt s 2 - 48)) + (bt s 3 - 48)
def fM (s : ByteArray) : Int := 10 * (bt s 4 - 48) + (bt s 5 - 48)
def fD (s : ByteArray) : Int := 10 * (bt s 6 - 48) + (bt s 7 - 48)
def fH (s : ByteArray) : Int := 10 * (bt s 8 - 48) + (bt s 9 - 48)
def fI (s : ByteArray) : Int := 10 * (bt s 10 - 48) + (bt s 11 - 48)
def fS (s : ByteArray) : Int := 10 * (bt s 12 - 48) + (bt s 13 - 48)
theorem fY_is (s : ByteArray) (h : s.size = 15) : vK (s.extract 0 4) (s.extract 0 4).size = fY s := by
  rw [ext_sz s 0 4 (by omega)]
  unfold fY
  simp [vK, show bt (s.extract 0 4) 0 = bt s 0 from bt_ext s 0 4 0 (by omega) (by omega), show bt (s.extract 0 4) 1 = bt s 1 from bt_ext s 0 4 1 (by omega) (by omega), show bt (s.extract 0 4) 2 = bt s 2 from bt_ext s 0 4 2 (by omega) (by omega), show bt (s.extract 0 4) 3 = bt s 3 from bt_ext s 0 4 3 (by omega) (by omega)]
theorem fM_is (s : ByteArray) (h : s.size = 15) : vK (s.extract 4 6) (s.extract 4 6).size = fM s := by
  rw [ext_sz s 4 6 (by omega)]
  unfold fM
  simp [vK, show bt (s.extract 4 6) 0 = bt s 4 from bt_ext s 4 6 0 (by omega) (by omega), show bt (s.extract 4 6) 1 = bt s 5 from bt_ext s 4 6 1 (by omega) (by omega)]
theorem fD_is (s : ByteArray) (h : s.size = 15) : vK (s.extract 6 8) (s.extract 6 8).size = fD s := by
  rw [ext_sz s 6 8 (by omega)]
  unfold fD
  simp [vK, show bt (s.extract 6 8) 0 = bt s 6 from bt_ext s 6 8 0 (by omega) (by omega), show bt (s.extract 6 8) 1 = bt s 7 from bt_ext s 6 8 1 (by omega) (by omega)]
theorem fH_is (s : ByteArray) (h : s.size = 15) : vK (s.extract 8 10) (s.extract 8 10).size = fH s := by
  rw [ext_sz s 8 10 (by omega)]
  unfold fH
  simp [vK, show bt (s.extract 8 10) 0 = bt s 8 from bt_ext s 8 10 0 (by omega) (by omega), show bt (s.extract 8 10) 1 = bt s 9 from bt_ext s 8 10 1 (by omega) (by omega)]
theorem fI_is (s : ByteArray) (h : s.size = 15) : vK (s.extract 10 12) (s.extract 10 12).size = fI s := by
  rw [ext_sz s 10 12 (by omega)]
  unfold fI
  simp [vK, show bt (s.extract 10 12) 0 = bt s 10 from bt_ext s 10 12 0 (by omega) (by omega), show bt (s.extract 10 12) 1 = bt s 11 from bt_ext s 10 12 1 (by omega) (by omega)]
theorem fS_is (s : ByteArray) (h : s.size = 15) : vK (s.extract 12 14) (s.extract 12 14).size = fS s := by
  rw [ext_sz s 12 14 (by omega)]
  unfold fS
  simp [vK, show bt (s.extract 12 14) 0 = bt s 12 from bt_ext s 12 14 0 (by omega) (by omega), show bt (s.extract 12 14) 1 = bt s 13 from bt_ext s 12 14 1 (by omega) (by omega)]
theorem dgS_ext (s : ByteArray) (h : htB s) (a b : Nat) (hb : b ≤ 14) : DgS (s.extract a b) := fun i hi => by
  rw [ext_sz s a b (by have := h.1; omega)] at hi
  rw [bt_ext s a b i (by omega) (by have := h.1; omega)]
  exact h.2.2 (a + i) (by omega)
/-- What ToTime takes. -/
structure ttOk (s : ByteArray) : Prop where
  form : htB s
  cal : Cal (fY s) (fM s) (fD s) (fH s) (fI s) (fS s)
theorem cum_le (y : Int) (j : Nat) (h : j ≤ 12) : cum y j ≤ 372 := by
  have := cum_mono y j 12 h
  have h12 := cum_12 y
  have := lp_bd y
  omega
theorem toTime_form (s : ByteArray) (hm : s.size ≤ maxLen) (h : ¬ htB s) (w : World) : Calls Tryz.prog 12 #[.string s] w fun e w' => e = .returned (.tuple #[.int .i64 0, .int .i64 10]) ∧ Below w.heap.size w w' := by
  refine tt_no s (fun W => ?_) w
  by_cases c : s.size = 15
  · refine form_any s c false (show _ ↔ _ from ⟨fun h => (Bool.noConfusion h), fun h2 => absurd ⟨c, h2.1, h2.2⟩ h⟩) W
  · exact form_no s c hm W
theorem fld_bd (s : ByteArray) (h : htB s) : (0 ≤ fY s ∧ fY s ≤ 9999) ∧ (0 ≤ fM s ∧ fM s ≤ 99) ∧ (0 ≤ fD s ∧ fD s ≤ 99) ∧ (0 ≤ fH s ∧ fH s ≤ 99) ∧ (0 ≤ fI s ∧ fI s ≤ 99) ∧ (0 ≤ fS s ∧ fS s ≤ 99) := by
  have D := h.2.2
  have d0 := D 0 (by omega)
  have d1 := D 1 (by omega)
  have d2 := D 2 (by omega)
  have d3 := D 3 (by omega)
  have d4 := D 4 (by omega)
  have d5 := D 5 (by omega)
  have d6 := D 6 (by omega)
  have d7 := D 7 (by omega)
  have d8 := D 8 (by omega)
  have d9 := D 9 (by omega)
  have d10 := D 10 (by omega)
  have d11 := D 11 (by omega)
  have d12 := D 12 (by omega)
  have d13 := D 13 (by omega)
  unfold fY fM fD fH fI fS
  omega
theorem toTime_ok (s : ByteArray) (h : htB s) (w : World) (Q : Ending → World → Prop)
    (hbad : (idB (fY s) (fM s) (fD s) = false ∨ (idB (fY s) (fM s) (fD s) = true ∧ 23 < fH s) ∨ (idB (fY s) (fM s) (fD s) = true ∧ fH s ≤ 23 ∧ 59 < fI s) ∨ (idB (fY s) (fM s) (fD s) = true ∧ fH s ≤ 23 ∧ fI s ≤ 59 ∧ 59 < fS s)) → ∀ w', Below w.heap.size w w' → Q (.returned (.tuple #[.int .i64 0, .int .i64 10])) w')
    (hgood : Cal (fY s) (fM s) (fD s) (fH s) (fI s) (fS s) → ∀ w', Below w.heap.size w w' → Q (.returned (.tuple #[.int .i64 (secs (fY s) (fM s) (fD s) (fH s) (fI s) (fS s)), .int .i64 0])) w') : Calls Tryz.prog 12 #[.string s] w Q := by
  obtain ⟨bY, bM, bD, bH, bI, bS⟩ := fld_bd s h
  have h15 := h.1
  have V : ∀ a b, b ≤ 14 → b - a ≤ 4 → ∀ W, Calls Tryz.prog 32 #[.string (s.extract a b)] W fun e w' => e = .returned (.int .i64 (vK (s.extract a b) (s.extract a b).size)) ∧ Below W.heap.size W w' := fun a b hb hl W => value_any _ (by rw [ext_sz s a b (by omega)]; exact hl) (dgS_ext s h a b hb) W
  have V0 := V 0 4 (by omega) (by omega)
  have V1 := V 4 6 (by omega) (by omega)
  have V2 := V 6 8 (by omega) (by omega)
  have V3 := V 8 10 (by omega) (by omega)
  have V4 := V 10 12 (by omega) (by omega)
  have V5 := V 12 14 (by omega) (by omega)
  rw [fY_is s h15] at V0
  rw [fM_is s h15] at V1
  rw [fD_is s h15] at V2
  rw [fH_is s h15] at V3
  rw [fI_is s h15] at V4
  rw [fS_is s h15] at V5
  have C43 := fun W => form_any s h15 true (show _ ↔ _ from ⟨fun _ => ⟨h.2.1, h.2.2⟩, fun _ => rfl⟩) W
  have C45 := fun W => isDay_any (fY s) (fM s) (fD s) bY.2 W
  by_cases hc : (idB (fY s) (fM s) (fD s) = false ∨ (idB (fY s) (fM s) (fD s) = true ∧ 23 < fH s) ∨ (idB (fY s) (fM s) (fD s) = true ∧ fH s ≤ 23 ∧ 59 < fI s) ∨ (idB (fY s) (fM s) (fD s) = true ∧ fH s ≤ 23 ∧ fI s ≤ 59 ∧ 59 < fS s))
  · refine (tt_bad s _ _ _ _ _ _ h15 _ _ _ _ _ _ _ hc bY bM bD bH bI bS (cutS0 s h15 4 (by omega)) (cutS s h15 4 6 (by omega) (by omega)) (cutS s h15 6 8 (by omega) (by omega)) (cutS s h15 8 10 (by omega) (by omega)) (cutS s h15 10 12 (by omega) (by omega)) (cutS s h15 12 14 (by omega) (by omega)) C43 V0 V1 V2 V3 V4 V5 C45 w).mono ?_
    rintro e w' ⟨rfl, hb⟩
    exact hbad hc w' hb
  · have ht : idB (fY s) (fM s) (fD s) = true := by
      cases hi : idB (fY s) (fM s) (fD s) with
      | true => rfl
      | false => exact absurd (.inl hi) hc
    have h23 : fH s ≤ 23 := by
      apply Int.not_lt.1; intro c; exact hc (.inr (.inl ⟨ht, c⟩))
    have h59 : fI s ≤ 59 := by
      apply Int.not_lt.1; intro c; exact hc (.inr (.inr (.inl ⟨ht, h23, c⟩)))
    have h60 : fS s ≤ 59 := by
      apply Int.not_lt.1; intro c; exact hc (.inr (.inr (.inr ⟨ht, h23, h59, c⟩)))
    rw [ht] at C45
    unfold idB at ht
    simp only [Bool.and_eq_true, decide_eq_true_eq] at ht
    obtain ⟨a1, a2, a3, a4, a5⟩ := ht
    obtain ⟨k, hk⟩ : ∃ k : Nat, fM s = (k : Int) + 1 := ⟨(fM s - 1).toNat, by omega⟩
    have cal : Cal (fY s) (fM s) (fD s) (fH s) (fI s) (fS s) := ⟨a1, bY.2, a2, a3, a4, a5, bH.1, h23, bI.1, h59, bS.1, h60⟩
    have eF : secs (fY s) (fM s) (fD s) (fH s) (fI s) (fS s) = -62135596800 + (dA (fY s) + fD s - 1 + cum (fY s) k) * 86400 + (3600 * fH s + 60 * fI s + fS s) := by
      unfold secs LT
      rw [show (fM s - 1).toNat = k by omega]
      omega
    have ab := dA_bd (fY s) a1 (by omega)
    refine (tt_good s _ _ _ _ _ _ h15 (fY s) (fM s) (fD s) (fH s) (fI s) (fS s) (dA (fY s)) k _ (cum (fY s)) (fun j => mD (fY s) ((j : Int) + 1)) h23 h59 h60 hk (by omega) ⟨ab.1, by unfold dA at ab ⊢; omega⟩ ⟨rfl, fun j => cum_s _ j, fun j => cum_0 _ j, fun j hj => cum_le _ j hj, fun j => mD_bd _ _⟩ eF bY bM bD bH bI bS (cutS0 s h15 4 (by omega)) (cutS s h15 4 6 (by omega) (by omega)) (cutS s h15 6 8 (by omega) (by omega)) (cutS s h15 8 10 (by omega) (by omega)) (cutS s h15 10 12 (by omega) (by omega)) (cutS s h15 12 14 (by omega) (by omega)) C43 V0 V1 V2 V3 V4 V5 C45 (fun W => daysAhead_b (fY s) a1 (by omega) W) (fun j W => monthDays_b (fY s) ((j : Int) + 1) a1 bY.2 W) w).mono ?_
    rintro e w' ⟨rfl, hb⟩
    exact hgood cal w' hb
theorem toTime_no (s : ByteArray) (hm : s.size ≤ maxLen) (h : ¬ ttOk s) (w : World) : Calls Tryz.prog 12 #[.string s] w fun e w' => e = .returned (.tuple #[.int .i64 0, .int .i64 10]) ∧ Below w.heap.size w w' := by
  by_cases c : htB s
  · exact toTime_ok s c w _ (fun _ w' hb => ⟨rfl, hb⟩) (fun cal => absurd ⟨c, cal⟩ h)
  · exact toTime_form s hm c w
theorem toTime_yes (s : ByteArray) (h : ttOk s) (w : World) : Calls Tryz.prog 12 #[.string s] w fun e w' => e = .returned (.tuple #[.int .i64 (secs (fY s) (fM s) (fD s) (fH s) (fI s) (fS s)), .int .i64 0]) ∧ Below w.heap.size w w' := by
  refine toTime_ok s h.form w _ (fun hc => ?_) (fun _ w' hb => ⟨rfl, hb⟩)
  have c := h.cal
  have a1 := c.y0; have a2 := c.m0; have a3 := c.m1; have a4 := c.d0; have a5 := c.d1; have a6 := c.h1; have a7 := c.i1; have a8 := c.s1
  have ht : idB (fY s) (fM s) (fD s) = true := by unfold idB; simp [a1, a2, a3, a4, a5]
  rw [ht] at hc
  exfalso
  rcases hc with h | h | h | h
  · cases h
  · omega
  · omega
  · omega
end Go.Proofs.YtajdfjpcobaioaaGreatDoor
