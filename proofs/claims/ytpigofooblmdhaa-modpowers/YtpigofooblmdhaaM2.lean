/- Plain arithmetic: a quotient's half by a guess that is put right (Knuth's), as math/bits.Div64 reckons it. -/
import Derived.Test.YtpigofooblmdhaaB0
set_option linter.all false
namespace Go.Proofs.Ytpigofooblmdhaa
open Go.RowKit
/-- Where the guess stands: q times the divisor's upper half and r is U; the true digit is no greater than q. -/
def HL (U u y y1 q r : Int) : Prop := q * y1 + r = U ∧ 0 ≤ r ∧ r < 4294967296 ∧ q ≤ 4294967297 ∧ (U * 4294967296 + u) / y ≤ q
theorem dig_nn {U u y : Int} (hU : 0 ≤ U) (hu : 0 ≤ u) (hy : 0 < y) : 0 ≤ (U * 4294967296 + u) / y := Int.ediv_nonneg (by omega) (by omega)
theorem dig_lt {U u y : Int} (hUy : U < y) (hu' : u < 4294967296) (hy : 0 < y) : (U * 4294967296 + u) / y < 4294967296 :=
  Int.ediv_lt_of_lt_mul hy (by omega)
theorem hl_start {U u y y1 y0 : Int} (hU : 0 ≤ U) (hUy : U < y) (hu' : u < 4294967296) (ey : y = y1 * 4294967296 + y0) (hy1 : 2147483648 ≤ y1) (hy1' : y1 < 4294967296) (hy0 : 0 ≤ y0) (hy0' : y0 < 4294967296) :
    HL U u y y1 (U / y1) (U - U / y1 * y1) ∧ 0 ≤ U / y1 * y1 ∧ U / y1 * y1 ≤ U := by
  have e := Int.mul_ediv_add_emod U y1
  have m0 := Int.emod_nonneg U (by omega : y1 ≠ 0)
  have m1 := Int.emod_lt_of_pos U (by omega : 0 < y1)
  have q0 : 0 ≤ U / y1 := Int.ediv_nonneg hU (by omega)
  rw [Int.mul_comm] at e
  have hy : 0 < y := by omega
  have dl := dig_lt hUy hu' hy
  generalize U / y1 = q at *
  generalize U % y1 = r at *
  have p0 : 0 ≤ q * y1 := Int.mul_nonneg q0 (by omega)
  refine ⟨⟨by omega, by omega, by omega, ?_, ?_⟩, p0, by omega⟩
  · skip
    by_cases c : q ≤ 4294967297
    · exact c
    · have h2 : 4294967298 * y1 ≤ q * y1 := Int.mul_le_mul_of_nonneg_right (by omega) (by omega)
      omega
  · skip
    by_cases c : 4294967296 ≤ q
    · omega
    · have : (U * 4294967296 + u) / y < q + 1 := Int.ediv_lt_of_lt_mul hy (by
        have h1 : (q + 1) * y = (q * y1 + y1) * 4294967296 + (q + 1) * y0 := by rw [ey]; grind
        have h2 : 0 ≤ (q + 1) * y0 := Int.mul_nonneg (by omega) hy0
        have h3 : U + 1 ≤ q * y1 + y1 := by omega
        have h4 : (U + 1) * 4294967296 ≤ (q * y1 + y1) * 4294967296 := Int.mul_le_mul_of_nonneg_right h3 (by omega)
        omega)
      omega
theorem hl_over {U u y y1 y0 q r : Int} (H : HL U u y y1 q r) (hU : 0 ≤ U) (hUy : U < y) (hu : 0 ≤ u) (hu' : u < 4294967296) (ey : y = y1 * 4294967296 + y0) (hy : 0 < y)
    (t : 4294967296 ≤ q ∨ 4294967296 * r + u < q * y0) : (U * 4294967296 + u) / y ≤ q - 1 ∧ 1 ≤ q := by
  obtain ⟨e, r0, r1, q1, d⟩ := H
  have dn := dig_nn hU hu hy
  have dl := dig_lt hUy hu' hy
  have : (U * 4294967296 + u) / y < q := by
    rcases t with t | t
    · omega
    · refine Int.ediv_lt_of_lt_mul hy ?_
      have h1 : q * y = q * y1 * 4294967296 + q * y0 := by rw [ey]; grind
      rw [h1]
      omega
  omega
theorem hl_step {U u y y1 y0 q r : Int} (H : HL U u y y1 q r) (hU : 0 ≤ U) (hUy : U < y) (hu : 0 ≤ u) (hu' : u < 4294967296) (ey : y = y1 * 4294967296 + y0) (hy : 0 < y) (hy1 : 0 ≤ y1)
    (t : 4294967296 ≤ q ∨ 4294967296 * r + u < q * y0) (hr : r + y1 < 4294967296) : HL U u y y1 (q - 1) (r + y1) := by
  have o := hl_over H hU hUy hu hu' ey hy t
  obtain ⟨e, r0, r1, q1, d⟩ := H
  have h1 : (q - 1) * y1 = q * y1 - y1 := by grind
  exact ⟨by omega, by omega, by omega, by omega, by omega⟩
theorem hl_break {U u y y1 y0 q r : Int} (H : HL U u y y1 q r) (hU : 0 ≤ U) (hUy : U < y) (hu : 0 ≤ u) (hu' : u < 4294967296) (ey : y = y1 * 4294967296 + y0) (hy : 0 < y) (hy0 : 0 ≤ y0) (hy0' : y0 < 4294967296)
    (t : 4294967296 ≤ q ∨ 4294967296 * r + u < q * y0) (hr : 4294967296 ≤ r + y1) : q - 1 = (U * 4294967296 + u) / y := by
  have o := hl_over H hU hUy hu hu' ey hy t
  obtain ⟨e, r0, r1, q1, d⟩ := H
  have : q - 1 ≤ (U * 4294967296 + u) / y := by
    refine (Int.le_ediv_iff_mul_le hy).2 ?_
    have h1 : (q - 1) * y = (q * y1 - y1) * 4294967296 + (q - 1) * y0 := by rw [ey]; grind
    have h2 : (q - 1) * y0 ≤ 4294967296 * 4294967295 := Int.mul_le_mul (by omega) (by omega) hy0 (by omega)
    rw [h1]
    omega
  omega
theorem hl_exit {U u y y1 y0 q r : Int} (H : HL U u y y1 q r) (ey : y = y1 * 4294967296 + y0) (hy : 0 < y)
    (t : q * y0 ≤ 4294967296 * r + u) : q = (U * 4294967296 + u) / y := by
  obtain ⟨e, r0, r1, q1, d⟩ := H
  have : q ≤ (U * 4294967296 + u) / y := by
    refine (Int.le_ediv_iff_mul_le hy).2 ?_
    have h1 : q * y = q * y1 * 4294967296 + q * y0 := by rw [ey]; grind
    rw [h1]
    omega
  omega
/-- What is left behind a digit, reckoned modulo 2^64. -/
theorem left_wrap {U u y Q : Int} (hU : 0 ≤ U) (hu : 0 ≤ u) (hy : 0 < y) (hy' : y < 18446744073709551616) (hQ : Q = (U * 4294967296 + u) / y) :
    IntKind.u64.wrap (IntKind.u64.wrap (IntKind.u64.wrap (U * 4294967296) + u) - IntKind.u64.wrap (Q * y)) = (U * 4294967296 + u) % y := by
  have e := Int.mul_ediv_add_emod (U * 4294967296 + u) y
  have m0 := Int.emod_nonneg (U * 4294967296 + u) (by omega : y ≠ 0)
  have m1 := Int.emod_lt_of_pos (U * 4294967296 + u) hy
  rw [← hQ, Int.mul_comm] at e
  simp only [IntKind.wrap_u64]
  generalize Q * y = p at *
  generalize (U * 4294967296 + u) % y = m at *
  omega
theorem two_digits {hi lo y u1 u0 U2 : Int} (hy : 0 < y) (el : lo = u1 * 4294967296 + u0) (hU2 : U2 = (hi * 4294967296 + u1) % y) :
    (hi * 18446744073709551616 + lo) / y = (hi * 4294967296 + u1) / y * 4294967296 + (U2 * 4294967296 + u0) / y ∧ (hi * 18446744073709551616 + lo) % y = (U2 * 4294967296 + u0) % y := by
  have e := Int.mul_ediv_add_emod (hi * 4294967296 + u1) y
  rw [← hU2] at e
  have h : hi * 18446744073709551616 + lo = (U2 * 4294967296 + u0) + y * ((hi * 4294967296 + u1) / y * 4294967296) := by
    generalize (hi * 4294967296 + u1) / y = q at *
    subst el
    have : y * (q * 4294967296) = y * q * 4294967296 := by grind
    omega
  rw [h, Int.add_mul_ediv_left _ _ (Int.ne_of_gt hy), Int.add_mul_emod_self_left]
  exact ⟨by omega, rfl⟩
end Go.Proofs.Ytpigofooblmdhaa
