/- What num.Sub answers, for any two numbers. -/
import Derived.Test.YtpigofooblmdhaaJ2
set_option linter.all false
namespace Go.Proofs.Ytpigofooblmdhaa
open Go.RowKit
attribute [local go_sem] idx24_0 idx24_1 idx24_2 idx24_3
def bor (A B : Int) : Int := if A < B then 1 else 0
set_option maxHeartbeats 1000000 in
theorem sub_raw (a0 a1 a2 a3 b0 b1 b2 b3 s0 s1 s2 s3 c0 c1 c2 c3 : Int) (w : World)
    (h0 : ∀ w, (callFunc 94 #[.int .u64 a0, .int .u64 b0, .int .u64 0]).run Try.prog w = .ok (.value (.tuple #[.int .u64 s0, .int .u64 c0])) w)
    (h1 : ∀ w, (callFunc 94 #[.int .u64 a1, .int .u64 b1, .int .u64 c0]).run Try.prog w = .ok (.value (.tuple #[.int .u64 s1, .int .u64 c1])) w)
    (h2 : ∀ w, (callFunc 94 #[.int .u64 a2, .int .u64 b2, .int .u64 c1]).run Try.prog w = .ok (.value (.tuple #[.int .u64 s2, .int .u64 c2])) w)
    (h3 : ∀ w, (callFunc 94 #[.int .u64 a3, .int .u64 b3, .int .u64 c2]).run Try.prog w = .ok (.value (.tuple #[.int .u64 s3, .int .u64 c3])) w) :
    Calls Try.prog 64 #[.agg #[.int .u64 a0, .int .u64 a1, .int .u64 a2, .int .u64 a3], .agg #[.int .u64 b0, .int .u64 b1, .int .u64 b2, .int .u64 b3]] w fun e w' =>
      e = .returned (.tuple #[.agg #[.int .u64 s0, .int .u64 s1, .int .u64 s2, .int .u64 s3], .int .u64 c3]) ∧ Below w.heap.size w w' := by
  go_enter Try.func64, Try.ntmps64
  go_wp2
  go_rounds 5
  go_region
  go_wp2
  go_returns
  exact ⟨rfl, by go_grown⟩
theorem sub_any (A B : Int) (hA : 0 ≤ A) (hA' : A < top256) (hB : 0 ≤ B) (hB' : B < top256) (w : World) :
    Calls Try.prog 64 #[nv A, nv B] w fun e w' => e = .returned (.tuple #[nv (A - B), .int .u64 (bor A B)]) ∧ Below w.heap.size w w' := by
  have va := V4_lim A hA hA'
  have vb := V4_lim B hB hB'
  obtain ⟨s0, c0, hs0, hs0', hc0, hc0', e0, h0⟩ := ex47 (lim A 0) (lim B 0) 0 (lim_nn _ _) (lim_lt _ _) (lim_nn _ _) (lim_lt _ _) (by omega) (by omega)
  obtain ⟨s1, c1, hs1, hs1', hc1, hc1', e1, h1⟩ := ex47 (lim A 1) (lim B 1) c0 (lim_nn _ _) (lim_lt _ _) (lim_nn _ _) (lim_lt _ _) hc0 hc0'
  obtain ⟨s2, c2, hs2, hs2', hc2, hc2', e2, h2⟩ := ex47 (lim A 2) (lim B 2) c1 (lim_nn _ _) (lim_lt _ _) (lim_nn _ _) (lim_lt _ _) hc1 hc1'
  obtain ⟨s3, c3, hs3, hs3', hc3, hc3', e3, h3⟩ := ex47 (lim A 3) (lim B 3) c2 (lim_nn _ _) (lim_lt _ _) (lim_nn _ _) (lim_lt _ _) hc2 hc2'
  have hN : A - B = V4 s0 s1 s2 s3 + 115792089237316195423570985008687907853269984665640564039457584007913129639936 * (-c3) := by
    rw [← va, ← vb]; unfold V4; omega
  obtain ⟨k0, k1, k2, k3⟩ := lims_of hs0 hs0' hs1 hs1' hs2 hs2' hs3 hs3' hN
  have k4 : bor A B = c3 := by
    have := V4_bd hs0 hs0' hs1 hs1' hs2 hs2' hs3 hs3'
    unfold bor; split <;> omega
  refine (sub_raw _ _ _ _ _ _ _ _ s0 s1 s2 s3 c0 c1 c2 c3 w h0 h1 h2 h3).mono fun e w' h => ?_
  simp only [nv, k0, k1, k2, k3, k4]
  exact h
end Go.Proofs.Ytpigofooblmdhaa
