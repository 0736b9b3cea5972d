/- What num.Cmp answers. -/
import Derived.Test.YtpigofooblmdhaaN7
set_option linter.all false
namespace Go.Proofs.Ytpigofooblmdhaa
open Go.RowKit
attribute [local go_sem] idx24_0 idx24_1 idx24_2 idx24_3
/-- Which of the lower k parts is greater. -/
def cm (A B : Int) (k : Nat) : Int := sg (A % 18446744073709551616 ^ k) (B % 18446744073709551616 ^ k)
theorem sg_zero {x y : Int} (h : sg x y = 0) : x = y := by
  unfold sg at h
  by_cases h1 : x < y
  · rw [if_pos h1] at h; omega
  · rw [if_neg h1] at h
    by_cases h2 : y < x
    · rw [if_pos h2] at h; omega
    · omega
theorem sg_same {x y x' y' : Int} (h1 : x < y ↔ x' < y') (h2 : y < x ↔ y' < x') : sg x y = sg x' y' := by
  unfold sg; simp only [h1, h2]
theorem mod_split (A P : Int) (hP : 0 < P) : A % (P * 18446744073709551616) = A % P + P * (A / P % 18446744073709551616) := by
  have e1 := Int.mul_ediv_add_emod A P
  have e2 := Int.mul_ediv_add_emod (A / P) 18446744073709551616
  have h0 := Int.emod_nonneg A (Int.ne_of_gt hP)
  have h1 := Int.emod_lt_of_pos A hP
  have g0 : 0 ≤ A / P % 18446744073709551616 := by omega
  have g1 : A / P % 18446744073709551616 < 18446744073709551616 := by omega
  have e : A = (A % P + P * (A / P % 18446744073709551616)) + P * 18446744073709551616 * (A / P / 18446744073709551616) := by
    generalize A / P % 18446744073709551616 = u at *
    generalize A / P / 18446744073709551616 = v at *
    generalize A / P = q at *
    generalize A % P = r at *
    subst e2; grind
  generalize A / P % 18446744073709551616 = u at *
  generalize A / P / 18446744073709551616 = v at *
  generalize A % P = r at *
  rw [e, Int.add_mul_emod_self_left]
  refine Int.emod_eq_of_lt (Int.add_nonneg h0 (Int.mul_nonneg (Int.le_of_lt hP) g0)) ?_
  have h2 : P * (u + 1) ≤ P * 18446744073709551616 := Int.mul_le_mul_of_nonneg_left (by omega) (Int.le_of_lt hP)
  have h3 : P * (u + 1) = P * u + P := by grind
  omega
theorem lt_parts {P a b u v : Int} (hP : 0 < P) (ha : 0 ≤ a) (ha' : a < P) (hb : 0 ≤ b) (hb' : b < P) (h : u ≠ v) : a + P * u < b + P * v ↔ u < v := by
  constructor
  · intro h1
    by_cases c : u < v
    · exact c
    · have h2 : P * (v + 1) ≤ P * u := Int.mul_le_mul_of_nonneg_left (by omega) (Int.le_of_lt hP)
      have h3 : P * (v + 1) = P * v + P := by grind
      omega
  · intro c
    have h2 : P * (u + 1) ≤ P * v := Int.mul_le_mul_of_nonneg_left (by omega) (Int.le_of_lt hP)
    have h3 : P * (u + 1) = P * u + P := by grind
    omega
theorem cm_step0 (A B : Int) (k : Nat) (h : sg (lim A k) (lim B k) = 0) : cm A B (k + 1) = cm A B k := by
  have e := sg_zero h
  unfold lim at e
  unfold cm
  have hp : (0 : Int) < 18446744073709551616 ^ k := Int.pow_pos (by omega)
  rw [Int.pow_succ, mod_split A _ hp, mod_split B _ hp, e]
  apply sg_same <;> omega
theorem cm_step1 (A B : Int) (k : Nat) (h : ¬ sg (lim A k) (lim B k) = 0) : cm A B (k + 1) = sg (lim A k) (lim B k) := by
  have e : lim A k ≠ lim B k := fun e => h (by rw [e]; unfold sg; simp)
  unfold lim at e ⊢
  unfold cm
  have hp : (0 : Int) < 18446744073709551616 ^ k := Int.pow_pos (by omega)
  rw [Int.pow_succ, mod_split A _ hp, mod_split B _ hp]
  have a0 := Int.emod_nonneg A (Int.ne_of_gt hp)
  have a1 := Int.emod_lt_of_pos A hp
  have b0 := Int.emod_nonneg B (Int.ne_of_gt hp)
  have b1 := Int.emod_lt_of_pos B hp
  exact sg_same (lt_parts hp a0 a1 b0 b1 e) (lt_parts hp b0 b1 a0 a1 (Ne.symm e))
theorem bne_t {x : Int} (h : (x != 0) = true) : ¬ x = 0 := by simpa using h
theorem bne_f {x : Int} (h : (x != 0) = false) : x = 0 := by simpa using h
theorem cm_zero (A B : Int) : cm A B 0 = 0 := by unfold cm sg; simp [Int.emod_one]
theorem cm_four (A B : Int) (hA : 0 ≤ A) (hA' : A < top256) (hB : 0 ≤ B) (hB' : B < top256) : cm A B 4 = sg A B := by
  unfold cm
  have e : (18446744073709551616 : Int) ^ 4 = top256 := by decide
  rw [e, Int.emod_eq_of_lt hA hA', Int.emod_eq_of_lt hB hB']

set_option maxHeartbeats 4000000 in
theorem cmp_raw (A B : Int) (w : World) :
    Calls Try.prog 63 #[nv A, nv B] w fun e w' => e = .returned (.int .i64 (cm A B 4)) ∧ Below w.heap.size w w' := by
  go_enter Try.func63, Try.ntmps63
  go_wp2
  go_loop [5, 10] (fun s i => ∃ k : Nat, k ≤ 4 ∧ i = .int .i64 k ∧ s = .int .i64 (cm A B k)) (fun _ i => 4 - (intOf i).toNat)
  case atStart => exact ⟨0, by omega, rfl, by rw [cm_zero]⟩
  case round =>
    obtain ⟨k, hk, rfl, rfl⟩ := hrel
    have hk5 : k = 0 ∨ k = 1 ∨ k = 2 ∨ k = 3 ∨ k = 4 := by omega
    rcases hk5 with h | h | h | h | h
    rotate_right
    · subst h
      clear hk
      go_wp2
      go_returns
      exact ⟨rfl, by go_grown⟩
    all_goals
      subst h
      clear hk
    all_goals go_wp2_with (go_at_call 95; refine (compare_any _ _ _).mono ?_; rintro e w' ⟨rfl, rfl⟩)
    all_goals first
      | exact ⟨⟨1, by omega, rfl, congrArg (Value.int IntKind.i64) (cm_step1 A B 0 (bne_t (by assumption))).symm⟩, by simp [intOf]⟩
      | exact ⟨⟨1, by omega, rfl, congrArg (Value.int IntKind.i64) (cm_step0 A B 0 (bne_f (by assumption))).symm⟩, by simp [intOf]⟩
      | exact ⟨⟨2, by omega, rfl, congrArg (Value.int IntKind.i64) (cm_step1 A B 1 (bne_t (by assumption))).symm⟩, by simp [intOf]⟩
      | exact ⟨⟨2, by omega, rfl, congrArg (Value.int IntKind.i64) (cm_step0 A B 1 (bne_f (by assumption))).symm⟩, by simp [intOf]⟩
      | exact ⟨⟨3, by omega, rfl, congrArg (Value.int IntKind.i64) (cm_step1 A B 2 (bne_t (by assumption))).symm⟩, by simp [intOf]⟩
      | exact ⟨⟨3, by omega, rfl, congrArg (Value.int IntKind.i64) (cm_step0 A B 2 (bne_f (by assumption))).symm⟩, by simp [intOf]⟩
      | exact ⟨⟨4, by omega, rfl, congrArg (Value.int IntKind.i64) (cm_step1 A B 3 (bne_t (by assumption))).symm⟩, by simp [intOf]⟩
      | exact ⟨⟨4, by omega, rfl, congrArg (Value.int IntKind.i64) (cm_step0 A B 3 (bne_f (by assumption))).symm⟩, by simp [intOf]⟩

theorem cmp_any (A B : Int) (hA : 0 ≤ A) (hA' : A < top256) (hB : 0 ≤ B) (hB' : B < top256) (w : World) :
    Calls Try.prog 63 #[nv A, nv B] w fun e w' => e = .returned (.int .i64 (sg A B)) ∧ Below w.heap.size w w' := by
  rw [← cm_four A B hA hA' hB hB']
  exact cmp_raw A B w
end Go.Proofs.Ytpigofooblmdhaa
