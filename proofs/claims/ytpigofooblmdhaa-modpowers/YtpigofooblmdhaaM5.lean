/- What num.Mul answers, for any two numbers. -/
import Derived.Test.YtpigofooblmdhaaN5
import Derived.Test.YtpigofooblmdhaaN9
import Derived.Test.YtpigofooblmdhaaM4
set_option linter.all false
namespace Go.Proofs.Ytpigofooblmdhaa
open Go.RowKit
theorem idxM (N : Int) (k : Nat) (hk : k < 4) (w : World) : (Instr.index 24 (nv N) (.int .i64 (k : Int))).run Try.prog w = .ok (.int .u64 (lim N k)) w := by
  have h : k = 0 ∨ k = 1 ∨ k = 2 ∨ k = 3 := by omega
  rcases h with h | h | h | h <;> subst h
  · exact idx24_0 _ _ _ _ w
  · exact idx24_1 _ _ _ _ w
  · exact idx24_2 _ _ _ _ w
  · exact idx24_3 _ _ _ _ w
/-- The number of eight parts. -/
def S8 (f : Nat → Int) : Int := f 0 + 18446744073709551616 * f 1 + 340282366920938463463374607431768211456 * f 2 + 6277101735386680763835789423207666416102355444464034512896 * f 3 + 115792089237316195423570985008687907853269984665640564039457584007913129639936 * f 4 + 2135987035920910082395021706169552114602704522356652769947041607822219725780640550022962086936576 * f 5 + 39402006196394479212279040100143613805079739270465446667948293404245721771497210611414266254884915640806627990306816 * f 6 + 726838724295606890549323807888004534353641360687318060281490199180639288113397923326191050713763565560762521606266177933534601628614656 * f 7
def upd (f : Nat → Int) (k : Nat) (v : Int) : Nat → Int := fun j => if j = k then v else f j
theorem S8_upd (f : Nat → Int) (k : Nat) (v : Int) (hk : k < 8) : S8 (upd f k v) = S8 f + (v - f k) * 18446744073709551616 ^ k := by
  have h : k = 0 ∨ k = 1 ∨ k = 2 ∨ k = 3 ∨ k = 4 ∨ k = 5 ∨ k = 6 ∨ k = 7 := by omega
  rcases h with h | h | h | h | h | h | h | h <;> subst h <;> simp [S8, upd] <;> omega
theorem lims8 (f : Nat → Int) (h : ∀ j, j < 8 → 0 ≤ f j ∧ f j < 18446744073709551616) (j : Nat) (hj : j < 8) : lim (S8 f) j = f j := by
  have h0 := h 0 (by omega)
  have h1 := h 1 (by omega)
  have h2 := h 2 (by omega)
  have h3 := h 3 (by omega)
  have h4 := h 4 (by omega)
  have h5 := h 5 (by omega)
  have h6 := h 6 (by omega)
  have h7 := h 7 (by omega)
  clear h
  have e : S8 f = V4 (f 0) (f 1) (f 2) (f 3) + 115792089237316195423570985008687907853269984665640564039457584007913129639936 * V4 (f 4) (f 5) (f 6) (f 7) := by unfold S8 V4; omega
  obtain ⟨k0, k1, k2, k3⟩ := lims_of h0.1 h0.2 h1.1 h1.2 h2.1 h2.2 h3.1 h3.2 e
  have b := V4_bd h0.1 h0.2 h1.1 h1.2 h2.1 h2.2 h3.1 h3.2
  have e2 : S8 f / top256 = V4 (f 4) (f 5) (f 6) (f 7) + 115792089237316195423570985008687907853269984665640564039457584007913129639936 * 0 := by rw [e]; unfold top256; omega
  obtain ⟨k4, k5, k6, k7⟩ := lims_of h4.1 h4.2 h5.1 h5.2 h6.1 h6.2 h7.1 h7.2 e2
  have l4 := lim_add4 (S8 f) 0
  have l5 := lim_add4 (S8 f) 1
  have l6 := lim_add4 (S8 f) 2
  have l7 := lim_add4 (S8 f) 3
  have hc : j = 0 ∨ j = 1 ∨ j = 2 ∨ j = 3 ∨ j = 4 ∨ j = 5 ∨ j = 6 ∨ j = 7 := by omega
  rcases hc with hc | hc | hc | hc | hc | hc | hc | hc <;> subst hc
  · exact k0
  · exact k1
  · exact k2
  · exact k3
  · exact l4.trans k4
  · exact l5.trans k5
  · exact l6.trans k6
  · exact l7.trans k7
/-- Where a product stands: the first i parts of A, times B, and of the i-th part the first j parts of B. -/
def PI (A B : Int) (i j : Nat) (f : Nat → Int) (c : Int) : Prop :=
  (∀ t, t < 8 → 0 ≤ f t ∧ f t < 18446744073709551616) ∧ (∀ t, i + 4 ≤ t → t < 8 → f t = 0) ∧ 0 ≤ c ∧ c < 18446744073709551616 ∧
  S8 f + c * 18446744073709551616 ^ (i + j) = A % 18446744073709551616 ^ i * B + lim A i * (B % 18446744073709551616 ^ j) * 18446744073709551616 ^ i
theorem PI.inner {A B : Int} {i j : Nat} {f : Nat → Int} {c lo hi : Int} (h : PI A B i j f c) (hi4 : i < 4) (hj : j < 4) (l0 : 0 ≤ lo) (l1 : lo < 18446744073709551616) (g0 : 0 ≤ hi) (g1 : hi < 18446744073709551616)
    (e : lim A i * lim B j + f (i + j) + c = lo + 18446744073709551616 * hi) : PI A B i (j + 1) (upd f (i + j) lo) hi := by
  obtain ⟨a, b, c0, c1, d⟩ := h
  refine ⟨fun t ht => ?_, fun t ht ht8 => ?_, g0, g1, ?_⟩
  · unfold upd; split
    · omega
    · exact a t ht
  · unfold upd; rw [if_neg (by omega)]; exact b t ht ht8
  · have hp : (0 : Int) < 18446744073709551616 ^ j := Int.pow_pos (by omega)
    have em : B % 18446744073709551616 ^ (j + 1) = B % 18446744073709551616 ^ j + 18446744073709551616 ^ j * lim B j := by
      rw [Int.pow_succ, mod_split B _ hp]; rfl
    have ep : (18446744073709551616 : Int) ^ (i + (j + 1)) = 18446744073709551616 ^ (i + j) * 18446744073709551616 := by
      rw [← Nat.add_assoc, Int.pow_succ]
    have eq : (18446744073709551616 : Int) ^ (i + j) = 18446744073709551616 ^ i * 18446744073709551616 ^ j := Int.pow_add _ _ _
    rw [S8_upd f (i + j) lo (by omega), em, ep]
    rw [eq] at d ⊢
    generalize (18446744073709551616 : Int) ^ i = P at *
    generalize (18446744073709551616 : Int) ^ j = Q at *
    generalize S8 f = s at *
    generalize A % P = am at *
    generalize B % Q = bm at *
    generalize lim A i = x at *
    generalize lim B j = y at *
    generalize f (i + j) = ft at *
    have h1 : (lo - ft) * (P * Q) + hi * (P * Q * 18446744073709551616) = (lo + 18446744073709551616 * hi - ft) * (P * Q) := by grind
    have h2 : lo + 18446744073709551616 * hi - ft = x * y + c := by omega
    rw [h2] at h1
    grind
theorem PI.outer {A B : Int} {i : Nat} {f : Nat → Int} {c : Int} (h : PI A B i 4 f c) (hi4 : i < 4) (hB : 0 ≤ B) (hB' : B < top256) : PI A B (i + 1) 0 (upd f (i + 4) c) 0 := by
  obtain ⟨a, b, c0, c1, d⟩ := h
  refine ⟨fun t ht => ?_, fun t ht ht8 => ?_, by omega, by omega, ?_⟩
  · unfold upd; split
    · omega
    · exact a t ht
  · unfold upd; rw [if_neg (by omega)]; exact b t (by omega) ht8
  · have hp : (0 : Int) < 18446744073709551616 ^ i := Int.pow_pos (by omega)
    have em : A % 18446744073709551616 ^ (i + 1) = A % 18446744073709551616 ^ i + 18446744073709551616 ^ i * lim A i := by
      rw [Int.pow_succ, mod_split A _ hp]; rfl
    have e4 : (18446744073709551616 : Int) ^ 4 = top256 := by decide
    rw [e4, Int.emod_eq_of_lt hB hB'] at d
    rw [S8_upd f (i + 4) c (by omega), em, b (i + 4) (by omega) (by omega), Int.pow_zero, Int.emod_one, Int.zero_mul, Int.mul_zero, Int.zero_mul]
    generalize (18446744073709551616 : Int) ^ (i + 4) = P4 at *
    generalize (18446744073709551616 : Int) ^ i = P at *
    generalize A % P = am at *
    generalize lim A i = x at *
    grind
theorem PI.start (A B : Int) : PI A B 0 0 (fun _ => 0) 0 := by
  refine ⟨fun t ht => by simp, fun t _ _ => rfl, by omega, by omega, ?_⟩
  simp [S8, Int.emod_one]
theorem PI.done {A B : Int} {f : Nat → Int} (h : PI A B 4 0 f 0) (hA : 0 ≤ A) (hA' : A < top256) (j : Nat) (hj : j < 8) : f j = lim (A * B) j := by
  obtain ⟨a, b, c0, c1, d⟩ := h
  have e4 : (18446744073709551616 : Int) ^ 4 = top256 := by decide
  rw [e4, Int.emod_eq_of_lt hA hA', Int.pow_zero, Int.emod_one, Int.zero_mul, Int.mul_zero, Int.zero_mul, Int.add_zero, Int.add_zero] at d
  rw [← d]
  exact (lims8 f a j hj).symm
end Go.Proofs.Ytpigofooblmdhaa
