/- What the reference's Rem answers, for any numbers. -/
import Derived.Test.YtphcpdfaijcjjaaJ6
import Derived.Test.YtphcpdfaijcjjaaJ14
import Derived.Test.YtphcpdfaijcjjaaJ8
import Derived.Test.YtphcpdfaijcjjaaJ3
import Derived.Test.YtphcpdfaijcjjaaJ17
set_option linter.all false
set_option maxRecDepth 100000
namespace Go.Proofs.Ytphcpdfaijcjjaa
open Go.RowKit Go.Sort
theorem lim_half (R : Int) (k : Nat) : lim (R / 2) k = lim R k / 2 + lim R (k + 1) % 2 * 9223372036854775808 := by
  unfold lim
  have e1 : R / 2 / 18446744073709551616 ^ k = R / 18446744073709551616 ^ k / 2 := by
    rw [Int.ediv_ediv_of_nonneg (by omega), Int.ediv_ediv_of_nonneg (Int.le_of_lt (Int.pow_pos (by omega))), Int.mul_comm]
  have e2 : R / 18446744073709551616 ^ (k + 1) = R / 18446744073709551616 ^ k / 18446744073709551616 := by
    rw [Int.pow_succ, Int.ediv_ediv_of_nonneg (Int.le_of_lt (Int.pow_pos (by omega)))]
  rw [e1, e2]
  generalize R / 18446744073709551616 ^ k = Y
  omega
/-- A number on its way to its half: the first k parts are done. -/
def hv (R : Int) (k j : Nat) : Value := .int .u64 (if j < k then lim (R / 2) j else lim R j)
section
attribute [local go_sem] eq24
end
theorem V4_hi {M : Int} (h0 : 0 ≤ M) (h1 : M < top256) : lim M 3 = M / 6277101735386680763835789423207666416102355444464034512896 := by
  rw [lim3]; unfold top256 at h1; omega
theorem V5_lim (X : Int) (h0 : 0 ≤ X) (h1 : X < 2 * top256) : V4 (lim X 0) (lim X 1) (lim X 2) (lim X 3) + top256 * lim X 4 = X := by
  rw [lim0, lim1, lim2, lim3, lim4]; unfold V4 top256 at *; omega
/-- Nine parts of two numbers of four, and one. -/
def f9 (A Bv d : Int) (j : Nat) : Int := if j < 4 then lim A j else if j = 8 then d else lim Bv (j - 4)
theorem f9_pt (A Bv d : Int) (d0 : 0 ≤ d) (d1 : d ≤ 1) : Pt (f9 A Bv d) := fun j => by
  unfold f9; split
  · exact ⟨lim_nn _ _, lim_lt _ _⟩
  · split
    · omega
    · exact ⟨lim_nn _ _, lim_lt _ _⟩
theorem f9_ps (A Bv d : Int) : ps (f9 A Bv d) 9 = V4 (lim A 0) (lim A 1) (lim A 2) (lim A 3) + top256 * V4 (lim Bv 0) (lim Bv 1) (lim Bv 2) (lim Bv 3) + top256 * top256 * d := by
  have e : top256 * top256 = (18446744073709551616 : Int) ^ 8 := by decide
  rw [e]
  simp [ps, f9, V4, top256]
  omega
theorem f9_up (A Bv d : Int) (d1 : d ≤ 1) : ps (fr (f9 A Bv d) 5) 4 < 57896044618658097711785492504343953926634992332820282019728792003956564819968 := by
  have a := lim_lt Bv 1
  have b := lim_lt Bv 2
  have c := lim_lt Bv 3
  simp [ps, fr, f9]
  omega
end Go.Proofs.Ytphcpdfaijcjjaa
