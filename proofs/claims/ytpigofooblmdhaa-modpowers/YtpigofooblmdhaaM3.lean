/- Plain arithmetic: a digit of a quotient by a guess, and what is left; arrays in worlds that are written out. -/
import Derived.Test.YtpigofooblmdhaaN13
import Derived.Test.YtpigofooblmdhaaB1
set_option linter.all false
namespace Go.Proofs.Ytpigofooblmdhaa
open Go.RowKit
theorem Arr.mk4 {w : World} {b : Nat} {f : Nat → Value} (h0 : w.cell? ⟨b, 0, none⟩ = some (f 0)) (h1 : w.cell? ⟨b, 1, none⟩ = some (f 1)) (h2 : w.cell? ⟨b, 2, none⟩ = some (f 2)) (h3 : w.cell? ⟨b, 3, none⟩ = some (f 3))
    (z0 : w.frozen? ⟨b, 0, none⟩ = false) (z1 : w.frozen? ⟨b, 1, none⟩ = false) (z2 : w.frozen? ⟨b, 2, none⟩ = false) (z3 : w.frozen? ⟨b, 3, none⟩ = false) : Arr w b 4 f := by
  intro j hj
  have h : j = 0 ∨ j = 1 ∨ j = 2 ∨ j = 3 := by omega
  rcases h with h | h | h | h <;> subst h
  · exact ⟨h0, z0⟩
  · exact ⟨h1, z1⟩
  · exact ⟨h2, z2⟩
  · exact ⟨h3, z3⟩
theorem lim_mod (N : Int) (k : Nat) (hk : k < 4) : lim (N % top256) k = lim N k := by
  have h : k = 0 ∨ k = 1 ∨ k = 2 ∨ k = 3 := by omega
  unfold top256
  rcases h with h | h | h | h <;> subst h
  · rw [lim0, lim0]; omega
  · rw [lim1, lim1]; omega
  · rw [lim2, lim2]; omega
  · rw [lim3, lim3]; omega
theorem nv_mod (N : Int) : nv (N % top256) = nv N := by
  simp only [nv, lim_mod N 0 (by omega), lim_mod N 1 (by omega), lim_mod N 2 (by omega), lim_mod N 3 (by omega)]
theorem gs_bd (R D : Int) (h : 9223372036854775808 ≤ lim D 3) : 0 ≤ gs R D ∧ gs R D < 18446744073709551616 := by
  have r3 := lim_nn R 3
  have r2 := lim_nn R 2
  have r2' := lim_lt R 2
  unfold gs
  split
  · omega
  · refine ⟨Int.ediv_nonneg (by omega) (by omega), Int.ediv_lt_of_lt_mul (by omega) ?_⟩
    omega
/-- The guess is never too small. -/
theorem gs_ge (R x D : Int) (hR : 0 ≤ R) (hRD : R < D) (hD' : D < top256) (hx : 0 ≤ x) (hx' : x < 18446744073709551616) (h : 9223372036854775808 ≤ lim D 3) : R * 18446744073709551616 + x - gs R D * D < D := by
  have r3 := lim_nn R 3
  have r2 := lim_nn R 2
  have vR := V4_lim R hR (Int.lt_trans hRD hD')
  have vD := V4_lim D (by omega) hD'
  have a0 := lim_nn R 0
  have a0' := lim_lt R 0
  have a1 := lim_nn R 1
  have a1' := lim_lt R 1
  have d0 := lim_nn D 0
  have d1 := lim_nn D 1
  have d2 := lim_nn D 2
  unfold gs
  split
  · omega
  · have d3 : 0 < lim D 3 := by omega
    have e := Int.mul_ediv_add_emod (lim R 3 * 18446744073709551616 + lim R 2) (lim D 3)
    have m := Int.emod_lt_of_pos (lim R 3 * 18446744073709551616 + lim R 2) d3
    have q0 : 0 ≤ (lim R 3 * 18446744073709551616 + lim R 2) / lim D 3 := Int.ediv_nonneg (by omega) (by omega)
    generalize (lim R 3 * 18446744073709551616 + lim R 2) / lim D 3 = q at *
    generalize (lim R 3 * 18446744073709551616 + lim R 2) % lim D 3 = mm at *
    have k1 : (q + 1) * (6277101735386680763835789423207666416102355444464034512896 * lim D 3) ≤ (q + 1) * D := by
      refine Int.mul_le_mul_of_nonneg_left ?_ (by omega)
      unfold V4 at vD; omega
    have k2 : (q + 1) * (6277101735386680763835789423207666416102355444464034512896 * lim D 3) = 6277101735386680763835789423207666416102355444464034512896 * (lim D 3 * q + lim D 3) := by grind
    have k3 : (q + 1) * D = q * D + D := by grind
    unfold V4 at vR
    omega
end Go.Proofs.Ytpigofooblmdhaa
