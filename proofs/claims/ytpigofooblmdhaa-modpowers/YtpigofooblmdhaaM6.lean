/- Plain arithmetic: a quotient bit by bit. -/
import Derived.Test.YtpigofooblmdhaaM4
import Derived.Test.YtpigofooblmdhaaR3
set_option linter.all false
namespace Go.Proofs.Ytpigofooblmdhaa
open Go.RowKit
/-- What is left of the bits from k on. -/
def rk (F M : Int) (k : Nat) : Int := F / 2 ^ k % M
/-- The quotient's bits from k on, in their places. -/
def qk (F M : Int) (k : Nat) : Int := F / M / 2 ^ k * 2 ^ k
theorem half_div (F : Int) (m : Nat) : F / 2 ^ m = 2 * (F / 2 ^ (m + 1)) + F / 2 ^ m % 2 := by
  rw [div_pow_add F m 1]
  have : (2 : Int) ^ 1 = 2 := rfl
  rw [this]; omega
theorem rk_bd (F M : Int) (k : Nat) (hM : 0 < M) : 0 ≤ rk F M k ∧ rk F M k < M := ⟨Int.emod_nonneg _ (Int.ne_of_gt hM), Int.emod_lt_of_pos _ hM⟩
theorem step_div (F M : Int) (m : Nat) (hM : 0 < M) :
    (rk F M m = if M ≤ 2 * rk F M (m + 1) + F / 2 ^ m % 2 then 2 * rk F M (m + 1) + F / 2 ^ m % 2 - M else 2 * rk F M (m + 1) + F / 2 ^ m % 2) ∧
    (qk F M m = qk F M (m + 1) + (if M ≤ 2 * rk F M (m + 1) + F / 2 ^ m % 2 then 2 ^ m else 0)) := by
  have hh := half_div F m
  have b0 : 0 ≤ F / 2 ^ m % 2 := by omega
  have b1 : F / 2 ^ m % 2 ≤ 1 := by omega
  have r := rk_bd F M (m + 1) hM
  have e := Int.mul_ediv_add_emod (F / 2 ^ (m + 1)) M
  have er : F / 2 ^ (m + 1) % M = rk F M (m + 1) := rfl
  rw [er] at e
  have em : rk F M m = F / 2 ^ m % M := rfl
  have hp : (0 : Int) < 2 ^ m := Int.pow_pos (by omega)
  have q1 : F / M / 2 ^ m = F / 2 ^ m / M := by
    rw [Int.ediv_ediv_of_nonneg (Int.le_of_lt hM), Int.mul_comm, ← Int.ediv_ediv_of_nonneg (Int.le_of_lt hp)]
  have hp1 : (0 : Int) < 2 ^ (m + 1) := Int.pow_pos (by omega)
  have q2 : F / M / 2 ^ (m + 1) = F / 2 ^ (m + 1) / M := by
    rw [Int.ediv_ediv_of_nonneg (Int.le_of_lt hM), Int.mul_comm, ← Int.ediv_ediv_of_nonneg (Int.le_of_lt hp1)]
  have ep : (2 : Int) ^ (m + 1) = 2 ^ m * 2 := Int.pow_succ _ _
  unfold qk
  rw [em, q1, q2, ep]
  rw [ep] at hh e
  generalize F / 2 ^ m % 2 = b at *
  generalize F / 2 ^ m = X at *
  generalize F / (2 ^ m * 2) = G at *
  generalize rk F M (m + 1) = R at *
  generalize G / M = g at *
  have eX : X = (2 * R + b) + M * (2 * g) := by
    have : M * (2 * g) = 2 * (M * g) := by grind
    omega
  have xm : X % M = (2 * R + b) % M := by rw [eX, Int.add_mul_emod_self_left]
  have xd : X / M = (2 * R + b) / M + 2 * g := by rw [eX, Int.add_mul_ediv_left _ _ (Int.ne_of_gt hM)]
  rw [xm, xd]
  by_cases c : M ≤ 2 * R + b
  · rw [if_pos c, if_pos c]
    have e1 : 2 * R + b = (2 * R + b - M) + M * 1 := by omega
    have d : (2 * R + b) / M = 1 := by rw [e1, Int.add_mul_ediv_left _ _ (Int.ne_of_gt hM), Int.ediv_eq_zero_of_lt (by omega) (by omega)]; rfl
    have d2 : (2 * R + b) % M = 2 * R + b - M := by
      conv => lhs; rw [e1]
      rw [Int.add_mul_emod_self_left, Int.emod_eq_of_lt (by omega) (by omega)]
    rw [d, d2]
    exact ⟨rfl, by grind⟩
  · rw [if_neg c, if_neg c, Int.ediv_eq_zero_of_lt (by omega) (by omega), Int.emod_eq_of_lt (by omega) (by omega)]
    exact ⟨rfl, by grind⟩
theorem qk_mult (F M : Int) (k : Nat) : ∃ h, qk F M k = h * 2 ^ k := ⟨_, rfl⟩
theorem lim_pow (m j : Nat) : lim (2 ^ m) j = if j = m / 64 then 2 ^ (m % 64) else 0 := by
  have hk : (0 : Int) < 2 ^ (64 * j) := Int.pow_pos (by omega)
  unfold lim
  rw [beta_pow]
  by_cases c : j = m / 64
  · rw [if_pos c]
    have e : (2 : Int) ^ m = 2 ^ (m % 64) * 2 ^ (64 * j) := by rw [← Int.pow_add]; congr 1; omega
    rw [e, Int.mul_ediv_cancel _ (Int.ne_of_gt hk)]
    refine Int.emod_eq_of_lt (Int.le_of_lt (Int.pow_pos (by omega))) ?_
    have h : (2 : Nat) ^ (m % 64) < 2 ^ 64 := Nat.pow_lt_pow_right (by omega) (by omega)
    have h1 : ((2 ^ (m % 64) : Nat) : Int) < ((2 ^ 64 : Nat) : Int) := Int.ofNat_lt.2 h
    have h2 : ((2 ^ (m % 64) : Nat) : Int) = 2 ^ (m % 64) := by push_cast; rfl
    have h3 : ((2 ^ 64 : Nat) : Int) = 18446744073709551616 := rfl
    omega
  · rw [if_neg c]
    by_cases d : m < 64 * j
    · have : (2 : Int) ^ m < 2 ^ (64 * j) := by
        have := Nat.pow_lt_pow_right (a := 2) (by omega) d
        exact_mod_cast this
      rw [Int.ediv_eq_zero_of_lt (Int.le_of_lt (Int.pow_pos (by omega))) this]; rfl
    · have e : (2 : Int) ^ m = 2 ^ (m - 64 * j - 64) * 18446744073709551616 * 2 ^ (64 * j) := by
        have e64 : (18446744073709551616 : Int) = 2 ^ 64 := rfl
        rw [e64, ← Int.pow_add, ← Int.pow_add]; congr 1; omega
      rw [e, Int.mul_ediv_cancel _ (Int.ne_of_gt hk), Int.mul_emod_left]
theorem q_set (F M : Int) (m j : Nat) (hM : 0 < M) (hF : 0 ≤ F) (c : M ≤ 2 * rk F M (m + 1) + F / 2 ^ m % 2) :
    lim (qk F M m) j = if j = m / 64 then bits .or .u64 (lim (qk F M (m + 1)) j) (2 ^ (m % 64)) else lim (qk F M (m + 1)) j := by
  obtain ⟨h, hq⟩ : ∃ h, qk F M (m + 1) = h * 2 ^ (m + 1) ∧ 0 ≤ h := ⟨F / M / 2 ^ (m + 1), rfl, Int.ediv_nonneg (Int.ediv_nonneg hF (Int.le_of_lt hM)) (Int.le_of_lt (Int.pow_pos (by omega)))⟩
  have st := (step_div F M m hM).2
  rw [if_pos c] at st
  have lt : (2 : Int) ^ m < 2 ^ (m + 1) := by
    have := Nat.pow_lt_pow_right (a := 2) (by omega) (show m < m + 1 by omega)
    exact_mod_cast this
  have o := or_lims (2 ^ m) h (m + 1) j (Int.le_of_lt (Int.pow_pos (by omega))) lt hq.2
  rw [← hq.1] at o
  rw [st, Int.add_comm, ← o, lim_pow]
  have hc : ∀ a b, bits .or .u64 a b = bits .or .u64 b a := fun a b => by simp only [bits, BitVec.or_comm]
  by_cases e : j = m / 64
  · rw [if_pos e, if_pos e, hc]
  · rw [if_neg e, if_neg e, hc]
    exact or_zero _ (lim_nn _ _) (lim_lt _ _)
theorem q_keep (F M : Int) (m : Nat) (hM : 0 < M) (c : ¬ M ≤ 2 * rk F M (m + 1) + F / 2 ^ m % 2) : qk F M m = qk F M (m + 1) := by
  have st := (step_div F M m hM).2
  rw [if_neg c, Int.add_zero] at st
  exact st
/-- A bit laid beneath an even number. -/
theorem or_bit (T b : Int) (hT : T % 2 = 0) (h0 : 0 ≤ b) (h1 : b ≤ 1) : bits .or .u64 (lim T 0) b = lim (T + b) 0 ∧ lim (T + b) 1 = lim T 1 ∧ lim (T + b) 2 = lim T 2 ∧ lim (T + b) 3 = lim T 3 := by
  have l0 := lim_nn T 0
  have l1 := lim_lt T 0
  have e := lim0 T
  have e64 : (2 : Int) ^ 64 = 18446744073709551616 := rfl
  have e2 : (2 : Int) ^ 1 = 2 := rfl
  refine ⟨?_, ?_, ?_, ?_⟩
  · rw [bits_join .u64 64 (by decide) wraps_u64_64 1 (lim T 0) b l0 (by rw [e2]; omega) (by omega) h0 (by omega) (by omega), lim0, lim0]; omega
  · rw [lim1, lim1]; omega
  · rw [lim2, lim2]; omega
  · rw [lim3, lim3]; omega
end Go.Proofs.Ytpigofooblmdhaa
