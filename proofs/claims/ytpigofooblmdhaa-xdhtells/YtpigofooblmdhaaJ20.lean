/- What the reference's Div answers, for any numbers but a divisor of 0. -/
import Derived.Test.YtpigofooblmdhaaJ19
import Derived.Test.YtpigofooblmdhaaJ9
set_option linter.all false
set_option maxRecDepth 100000
namespace Go.Proofs.Ytpigofooblmdhaa
open Go.RowKit
theorem nz24 (M : Int) (hM : 0 < M) (hM' : M < top256) : (lim M 0 == 0 && (lim M 1 == 0 && (lim M 2 == 0 && lim M 3 == 0))) = false := by
  have v := V4_lim M (Int.le_of_lt hM) hM'
  unfold V4 at v
  by_cases c0 : lim M 0 = 0
  · by_cases c1 : lim M 1 = 0
    · by_cases c2 : lim M 2 = 0
      · by_cases c3 : lim M 3 = 0
        · rw [c0, c1, c2, c3] at v; omega
        · simp [c3]
      · simp [c2]
    · simp [c1]
  · simp [c0]
theorem bit_lo (lo hi : Int) (m : Nat) (h : m < 256) : (lo + hi * top256) / 2 ^ m % 2 = lo / 2 ^ m % 2 := by
  obtain ⟨d, hd⟩ : ∃ d, 256 = m + 1 + d := ⟨255 - m, by omega⟩
  have e : top256 = 2 ^ d * 2 * 2 ^ m := by rw [top_pow, hd, Int.pow_add, Int.pow_succ]; grind
  rw [e, ← Int.mul_assoc, Int.add_mul_ediv_right _ _ (Int.ne_of_gt (Int.pow_pos (by omega))), ← Int.mul_assoc]
  generalize hi * 2 ^ d = x
  generalize lo / 2 ^ m = y
  omega
theorem bit_hi (lo hi : Int) (m : Nat) (h0 : 0 ≤ lo) (h1 : lo < top256) : (lo + hi * top256) / 2 ^ (m + 256) % 2 = hi / 2 ^ m % 2 := by
  have tp : (0 : Int) < top256 := by decide
  rw [Int.pow_add, Int.mul_comm (2 ^ m) (2 ^ 256), ← top_pow, ← Int.ediv_ediv_of_nonneg (Int.le_of_lt tp), Int.add_mul_ediv_right _ _ (Int.ne_of_gt tp), Int.ediv_eq_zero_of_lt h0 h1, Int.zero_add]
theorem refDiv_any (lo hi M : Int) (hl : 0 ≤ lo) (hl' : lo < top256) (hh : 0 ≤ hi) (hh' : hi < top256) (hM : 0 < M) (hM' : M < top256) (w : World) :
    Calls Try.prog 60 #[nv lo, nv hi, nv M] w fun e w' => e = .returned (.tuple #[nv ((lo + hi * top256) / M), nv ((lo + hi * top256) / M / top256), nv ((lo + hi * top256) % M), .int .i64 0]) ∧ Below w.heap.size w w' := by
  have tp : (0 : Int) < top256 := by decide
  have F0 : 0 ≤ lo + hi * top256 := Int.add_nonneg hl (Int.mul_nonneg hh (Int.le_of_lt tp))
  have F1 : lo + hi * top256 < top256 * top256 := by
    have a : hi * top256 ≤ (top256 - 1) * top256 := Int.mul_le_mul_of_nonneg_right (by omega) (Int.le_of_lt tp)
    have b : (top256 - 1) * top256 = top256 * top256 - top256 := by rw [Int.sub_mul, Int.one_mul]
    omega
  have hz := nz24 M hM hM'
  refine refDiv_raw lo hi M (lo + hi * top256) w F0 F1 hz hM hM' ?_ ?_
  · intro m W hm
    rw [bit_lo lo hi m hm]
    exact refBit_in lo m (m / 64) (m % 64) (by omega) (by omega) (by omega) W
  · intro m W h1 h2
    obtain ⟨n, rfl⟩ : ∃ n, m = n + 256 := ⟨m - 256, by omega⟩
    rw [bit_hi lo hi n hl hl', show ((n + 256 : Nat) : Int) - 256 = (n : Int) by omega]
    exact refBit_in hi n (n / 64) (n % 64) (by omega) (by omega) (by omega) W
end Go.Proofs.Ytpigofooblmdhaa
