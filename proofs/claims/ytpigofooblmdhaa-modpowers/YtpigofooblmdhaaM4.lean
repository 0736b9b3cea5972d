/- Plain arithmetic under num.Div: shifted numbers part by part; a quotient digit by digit. -/
import Derived.Test.YtpigofooblmdhaaM1
import Derived.Test.YtpigofooblmdhaaM3
set_option linter.all false
namespace Go.Proofs.Ytpigofooblmdhaa
open Go.RowKit
theorem beta_pow (k : Nat) : (18446744073709551616 : Int) ^ k = 2 ^ (64 * k) := by
  have e : (18446744073709551616 : Int) = 2 ^ 64 := rfl
  rw [e, ← Int.pow_mul]
theorem lim_add4 (N : Int) (k : Nat) : lim N (k + 4) = lim (N / top256) k := by
  unfold lim
  have e : (18446744073709551616 : Int) ^ (k + 4) = top256 * 18446744073709551616 ^ k := by
    rw [Int.pow_add, Int.mul_comm]; rfl
  rw [e, Int.ediv_ediv_of_nonneg (by decide)]
theorem lim_zero_of_lt {N : Int} {k t : Nat} (h0 : 0 ≤ N) (h : N < 2 ^ t) (ht : t ≤ 64 * k) : lim N k = 0 := by
  unfold lim
  rw [beta_pow]
  have : (2 : Int) ^ t ≤ 2 ^ (64 * k) := by
    have := Nat.pow_le_pow_right (n := 2) (by omega) ht
    exact_mod_cast this
  rw [Int.ediv_eq_zero_of_lt h0 (by omega)]; rfl
/-- Two numbers whose bits lie apart, joined part by part. -/
theorem or_lims (X h : Int) (s k : Nat) (hX : 0 ≤ X) (hX' : X < 2 ^ s) (hh : 0 ≤ h) : bits .or .u64 (lim X k) (lim (h * 2 ^ s) k) = lim (X + h * 2 ^ s) k := by
  have hs : (0 : Int) < 2 ^ s := Int.pow_pos (by omega)
  have hk : (0 : Int) < 2 ^ (64 * k) := Int.pow_pos (by omega)
  have or0 : ∀ y : Int, 0 ≤ y → y < 18446744073709551616 → bits .or .u64 0 y = y := fun y h0 h1 => by
    have hc : bits .or .u64 0 y = bits .or .u64 y 0 := by simp only [bits, BitVec.or_comm]
    rw [hc]; exact or_zero y h0 h1
  by_cases c1 : s ≤ 64 * k
  · rw [lim_zero_of_lt hX hX' c1, or0 _ (lim_nn _ _) (lim_lt _ _)]
    unfold lim
    rw [beta_pow]
    have e : 64 * k = s + (64 * k - s) := by omega
    rw [e, div_pow_add, div_pow_add, Int.mul_ediv_cancel _ (Int.ne_of_gt hs), Int.add_mul_ediv_right _ _ (Int.ne_of_gt hs), Int.ediv_eq_zero_of_lt hX hX', Int.zero_add]
  · have e : (2 : Int) ^ s = 2 ^ (s - 64 * k) * 2 ^ (64 * k) := by rw [← Int.pow_add]; congr 1; omega
    have e2 : h * 2 ^ s / 2 ^ (64 * k) = h * 2 ^ (s - 64 * k) := by rw [e, ← Int.mul_assoc, Int.mul_ediv_cancel _ (Int.ne_of_gt hk)]
    have e3 : (X + h * 2 ^ s) / 2 ^ (64 * k) = X / 2 ^ (64 * k) + h * 2 ^ (s - 64 * k) := by
      rw [e, ← Int.mul_assoc, Int.add_mul_ediv_right _ _ (Int.ne_of_gt hk)]
    have hXk : 0 ≤ X / 2 ^ (64 * k) := Int.ediv_nonneg hX (Int.le_of_lt hk)
    have hXk' : X / 2 ^ (64 * k) < 2 ^ (s - 64 * k) := Int.ediv_lt_of_lt_mul hk (by rw [← e]; exact hX')
    unfold lim
    rw [beta_pow, e2, e3]
    generalize X / 2 ^ (64 * k) = x at *
    by_cases c2 : 64 ≤ s - 64 * k
    · have e4 : (2 : Int) ^ (s - 64 * k) = 2 ^ (s - 64 * k - 64) * 18446744073709551616 := by
        have e5 : s - 64 * k = (s - 64 * k - 64) + 64 := by omega
        rw [e5, Int.pow_add]
        have e6 : s - 64 * k - 64 + 64 - 64 = s - 64 * k - 64 := by omega
        rw [e6]; rfl
      rw [e4, ← Int.mul_assoc, Int.mul_emod_left, Int.add_mul_emod_self_right]
      exact or_zero _ (by omega) (by omega)
    · have T0 : (0 : Int) < 2 ^ (s - 64 * k) := Int.pow_pos (by omega)
      have S0 : (0 : Int) < 2 ^ (64 - (s - 64 * k)) := Int.pow_pos (by omega)
      have TS := pow_split (s - 64 * k) (by omega)
      have T64 : (2 : Int) ^ (s - 64 * k) ≤ 2 ^ 64 := by
        have := Nat.pow_le_pow_right (n := 2) (by omega) (show s - 64 * k ≤ 64 by omega)
        exact_mod_cast this
      have m1 : h * 2 ^ (s - 64 * k) % 18446744073709551616 = h % 2 ^ (64 - (s - 64 * k)) * 2 ^ (s - 64 * k) := by
        have := mul_mod_right' h (2 ^ (64 - (s - 64 * k))) (2 ^ (s - 64 * k)) S0 T0
        rw [Int.mul_comm (2 ^ (64 - (s - 64 * k))), TS] at this
        exact this
      have h0 := Int.emod_nonneg h (Int.ne_of_gt S0)
      have h1 := Int.emod_lt_of_pos h S0
      have x64 : x % 18446744073709551616 = x := Int.emod_eq_of_lt hXk (by have : (2 : Int) ^ 64 = 18446744073709551616 := rfl; omega)
      have p0 : 0 ≤ h % 2 ^ (64 - (s - 64 * k)) * 2 ^ (s - 64 * k) := Int.mul_nonneg h0 (Int.le_of_lt T0)
      have p1 : (h % 2 ^ (64 - (s - 64 * k)) + 1) * 2 ^ (s - 64 * k) ≤ 18446744073709551616 := by
        rw [← TS, Int.mul_comm (2 ^ (s - 64 * k))]
        exact Int.mul_le_mul_of_nonneg_right (by omega) (Int.le_of_lt T0)
      have p2 : (h % 2 ^ (64 - (s - 64 * k)) + 1) * 2 ^ (s - 64 * k) = h % 2 ^ (64 - (s - 64 * k)) * 2 ^ (s - 64 * k) + 2 ^ (s - 64 * k) := by grind
      have sum : (x + h * 2 ^ (s - 64 * k)) % 18446744073709551616 = x + h % 2 ^ (64 - (s - 64 * k)) * 2 ^ (s - 64 * k) := by
        rw [Int.add_emod, m1, x64]
        exact Int.emod_eq_of_lt (by omega) (by omega)
      rw [sum, m1, x64]
      have hc : bits .or .u64 x (h % 2 ^ (64 - (s - 64 * k)) * 2 ^ (s - 64 * k)) = bits .or .u64 (h % 2 ^ (64 - (s - 64 * k)) * 2 ^ (s - 64 * k)) x := by simp only [bits, BitVec.or_comm]
      have e64 : (2 : Int) ^ 64 = 18446744073709551616 := rfl
      rw [hc, bits_join .u64 64 (by decide) wraps_u64_64 (s - 64 * k) _ _ p0 (Int.mul_emod_left _ _) (by omega) hXk hXk' (by omega)]
      omega

/-- What the parts from j on leave, divided by D. -/
def rem (F D : Int) (j : Nat) : Int := F / 18446744073709551616 ^ j % D
theorem digit_eq (F D : Int) (j : Nat) (hD : 0 < D) :
    (rem F D (j + 1) * 18446744073709551616 + lim F j) % D = rem F D j ∧ (rem F D (j + 1) * 18446744073709551616 + lim F j) / D = lim (F / D) j := by
  have hp : (0 : Int) < 18446744073709551616 ^ j := Int.pow_pos (by omega)
  have e1 : F / 18446744073709551616 ^ (j + 1) = F / 18446744073709551616 ^ j / 18446744073709551616 := by
    rw [Int.pow_succ, Int.ediv_ediv_of_nonneg (Int.le_of_lt hp)]
  have e2 : F / D / 18446744073709551616 ^ j = F / 18446744073709551616 ^ j / D := by
    rw [Int.ediv_ediv_of_nonneg (Int.le_of_lt hD), Int.mul_comm, ← Int.ediv_ediv_of_nonneg (Int.le_of_lt hp)]
  unfold rem
  have el : lim F j = F / 18446744073709551616 ^ j % 18446744073709551616 := rfl
  have eq : lim (F / D) j = F / D / 18446744073709551616 ^ j % 18446744073709551616 := rfl
  rw [el, eq, e1, e2]
  generalize F / 18446744073709551616 ^ j = G at *
  have g1 := Int.mul_ediv_add_emod G 18446744073709551616
  have f0 : 0 ≤ G % 18446744073709551616 := by omega
  have f1 : G % 18446744073709551616 < 18446744073709551616 := by omega
  generalize G / 18446744073709551616 = Gh at *
  generalize G % 18446744073709551616 = f at *
  have g2 := Int.mul_ediv_add_emod Gh D
  have r0 := Int.emod_nonneg Gh (Int.ne_of_gt hD)
  have r1 := Int.emod_lt_of_pos Gh hD
  generalize Gh / D = q at *
  generalize Gh % D = r at *
  have e : G = (r * 18446744073709551616 + f) + D * (q * 18446744073709551616) := by
    have : D * (q * 18446744073709551616) = D * q * 18446744073709551616 := by grind
    omega
  have d0 : 0 ≤ (r * 18446744073709551616 + f) / D := Int.ediv_nonneg (by omega) (Int.le_of_lt hD)
  have d1 : (r * 18446744073709551616 + f) / D < 18446744073709551616 := Int.ediv_lt_of_lt_mul hD (by omega)
  rw [e, Int.add_mul_emod_self_left, Int.add_mul_ediv_left _ _ (Int.ne_of_gt hD)]
  exact ⟨rfl, by omega⟩
end Go.Proofs.Ytpigofooblmdhaa
