/- What num.without answers. -/
import Derived.Test.YtpigofooblmdhaaJ4
set_option linter.all false
namespace Go.Proofs.Ytpigofooblmdhaa
open Go.RowKit
attribute [local go_sem] idx24_0 idx24_1 idx24_2 idx24_3
set_option maxHeartbeats 8000000 in
theorem without_raw (a0 a1 a2 a3 x q b0 b1 b2 b3 r0 r1 r2 r3 c0 c1 c2 c3 : Int) (w : World)
    (H0 : ∀ (b b' : Nat) (w : World), w.cell? ⟨b, 0, none⟩ = some (.int .u64 q) → w.cell? ⟨b', 0, none⟩ = some (.int .u64 0) → w.frozen? ⟨b', 0, none⟩ = false → Calls Try.prog 117 #[.int .u64 x, .int .u64 b0, .pointer (some ⟨b, 0, none⟩), .pointer (some ⟨b', 0, none⟩)] w fun e w' => e = .returned (.int .u64 r0) ∧ w' = w.setCell ⟨b', 0, none⟩ (.int .u64 c0))
    (H1 : ∀ (b b' : Nat) (w : World), w.cell? ⟨b, 0, none⟩ = some (.int .u64 q) → w.cell? ⟨b', 0, none⟩ = some (.int .u64 c0) → w.frozen? ⟨b', 0, none⟩ = false → Calls Try.prog 117 #[.int .u64 a0, .int .u64 b1, .pointer (some ⟨b, 0, none⟩), .pointer (some ⟨b', 0, none⟩)] w fun e w' => e = .returned (.int .u64 r1) ∧ w' = w.setCell ⟨b', 0, none⟩ (.int .u64 c1))
    (H2 : ∀ (b b' : Nat) (w : World), w.cell? ⟨b, 0, none⟩ = some (.int .u64 q) → w.cell? ⟨b', 0, none⟩ = some (.int .u64 c1) → w.frozen? ⟨b', 0, none⟩ = false → Calls Try.prog 117 #[.int .u64 a1, .int .u64 b2, .pointer (some ⟨b, 0, none⟩), .pointer (some ⟨b', 0, none⟩)] w fun e w' => e = .returned (.int .u64 r2) ∧ w' = w.setCell ⟨b', 0, none⟩ (.int .u64 c2))
    (H3 : ∀ (b b' : Nat) (w : World), w.cell? ⟨b, 0, none⟩ = some (.int .u64 q) → w.cell? ⟨b', 0, none⟩ = some (.int .u64 c2) → w.frozen? ⟨b', 0, none⟩ = false → Calls Try.prog 117 #[.int .u64 a2, .int .u64 b3, .pointer (some ⟨b, 0, none⟩), .pointer (some ⟨b', 0, none⟩)] w fun e w' => e = .returned (.int .u64 r3) ∧ w' = w.setCell ⟨b', 0, none⟩ (.int .u64 c3)) :
    Calls Try.prog 109 #[.agg #[.int .u64 a0, .int .u64 a1, .int .u64 a2, .int .u64 a3], .int .u64 x, .int .u64 q, .agg #[.int .u64 b0, .int .u64 b1, .int .u64 b2, .int .u64 b3]] w fun e w' =>
      e = .returned (.tuple #[.agg #[.int .u64 r0, .int .u64 r1, .int .u64 r2, .int .u64 r3], .int .u64 (IntKind.u64.wrap (c3 - a3))]) ∧ Below w.heap.size w w' := by
  go_enter Try.func109, Try.ntmps109
  go_wp2
  refine wp_loop_rounds 5 ?_
  repeat any_goals (rw [rounds_succ]; go_wp2_with (go_at_call 117; go_must (apply Calls.mono); go_must (focus (first | with_reducible apply H0 | with_reducible apply H1 | with_reducible apply H2 | with_reducible apply H3) <;> (simp [go_sem]; done)); go_must (rintro e w' ⟨rfl, rfl⟩)))
  clear H0 H1 H2 H3
  go_region
  go_wp2
  go_returns
  exact ⟨rfl, by go_grown⟩
theorem without_any (R x q D : Int) (hR : 0 ≤ R) (hR' : R < top256) (hx : 0 ≤ x) (hx' : x < 18446744073709551616) (hq : 0 ≤ q) (hq' : q < 18446744073709551616) (hD : 0 ≤ D) (hD' : D < top256) (w : World) :
    Calls Try.prog 109 #[nv R, .int .u64 x, .int .u64 q, nv D] w fun e w' =>
      e = .returned (.tuple #[nv (R * 18446744073709551616 + x - q * D), .int .u64 (IntKind.u64.wrap (-((R * 18446744073709551616 + x - q * D) / top256)))]) ∧ Below w.heap.size w w' := by
  have va := V4_lim R hR hR'
  have vb := V4_lim D hD hD'
  obtain ⟨r0, c0, hr0, hr0', hc0, hc0', e0, h0⟩ := subStep x (lim D 0) q 0 hx hx' (lim_nn _ _) (lim_lt _ _) hq hq' (by omega) (by omega)
  obtain ⟨r1, c1, hr1, hr1', hc1, hc1', e1, h1⟩ := subStep (lim R 0) (lim D 1) q c0 (lim_nn _ _) (lim_lt _ _) (lim_nn _ _) (lim_lt _ _) hq hq' hc0 hc0'
  obtain ⟨r2, c2, hr2, hr2', hc2, hc2', e2, h2⟩ := subStep (lim R 1) (lim D 2) q c1 (lim_nn _ _) (lim_lt _ _) (lim_nn _ _) (lim_lt _ _) hq hq' hc1 hc1'
  obtain ⟨r3, c3, hr3, hr3', hc3, hc3', e3, h3⟩ := subStep (lim R 2) (lim D 3) q c2 (lim_nn _ _) (lim_lt _ _) (lim_nn _ _) (lim_lt _ _) hq hq' hc2 hc2'
  have hN : R * 18446744073709551616 + x - q * D = V4 r0 r1 r2 r3 + 115792089237316195423570985008687907853269984665640564039457584007913129639936 * (lim R 3 - c3) := by
    have eq : q * D = q * lim D 0 + 18446744073709551616 * (q * lim D 1) + 340282366920938463463374607431768211456 * (q * lim D 2) + 6277101735386680763835789423207666416102355444464034512896 * (q * lim D 3) := by
      conv => lhs; rw [← vb]
      unfold V4; grind
    rw [eq]
    conv => lhs; rw [← va]
    unfold V4
    omega
  obtain ⟨k0, k1, k2, k3⟩ := lims_of hr0 hr0' hr1 hr1' hr2 hr2' hr3 hr3' hN
  have k4 : -((R * 18446744073709551616 + x - q * D) / top256) = c3 - lim R 3 := by
    have := V4_bd hr0 hr0' hr1 hr1' hr2 hr2' hr3 hr3'
    rw [hN]; unfold top256; omega
  refine (without_raw _ _ _ _ x q _ _ _ _ r0 r1 r2 r3 c0 c1 c2 c3 w h0 h1 h2 h3).mono fun e w' h => ?_
  rw [k4]
  simp only [nv, k0, k1, k2, k3]
  exact h
end Go.Proofs.Ytpigofooblmdhaa
