/- What num.guess and num.without answer. -/
import Derived.Test.YtpigofooblmdhaaN12
import Derived.Test.YtpigofooblmdhaaN3
set_option linter.all false
namespace Go.Proofs.Ytpigofooblmdhaa
open Go.RowKit
attribute [local go_sem] idx24_0 idx24_1 idx24_2 idx24_3
theorem div64_any (hi lo y : Int) (h0 : 0 ≤ hi) (hhi : hi < y) (l0 : 0 ≤ lo) (l1 : lo < 18446744073709551616) (h : 9223372036854775808 ≤ y) (h1 : y < 18446744073709551616) (w : World) :
    Calls Try.prog 93 #[.int .u64 hi, .int .u64 lo, .int .u64 y] w fun e w' => e = .returned (.tuple #[.int .u64 ((hi * 18446744073709551616 + lo) / y), .int .u64 ((hi * 18446744073709551616 + lo) % y)]) ∧ Below w.heap.size w w' := by
  by_cases c : hi = 0
  · subst c
    have := div64_zero lo y l0 l1 h h1 w
    simpa using this
  · have my := and_low32 y (by omega) h1
    have ml := and_low32 lo l0 l1
    have hy : 0 < y := by omega
    have eU := Int.emod_nonneg (hi * 4294967296 + lo / 4294967296) (by omega : y ≠ 0)
    have eU' := Int.emod_lt_of_pos (hi * 4294967296 + lo / 4294967296) hy
    have D := two_digits (hi := hi) (lo := lo) (u1 := lo / 4294967296) (u0 := lo % 4294967296) hy (by omega) rfl
    have core := div64_core hi lo y _ _ _ _ _ _ _ _ w (by omega) hhi l0 l1 h h1 rfl my rfl ml (show Hid _ from (by omega : y = y / 4294967296 * 4294967296 + y % 4294967296)) (by omega) (by omega) (by omega) (by omega) (by omega) (by omega) (by omega) (by omega)
      (show Hid _ from rfl) (show Hid _ from rfl) (dig_nn h0 (by omega) hy) (dig_lt hhi (by omega) hy) (dig_nn eU (by omega) hy) (dig_lt eU' (by omega) hy) eU eU'
      (left_wrap h0 (by omega) hy h1 rfl) (left_wrap eU (by omega) hy h1 rfl)
    refine core.mono fun e w' hh => ?_
    obtain ⟨he, hw⟩ := hh
    subst hw
    rw [D.1, D.2]
    exact ⟨he, Below.refl _ _⟩

/-- A guess of a quotient's part, by the topmost parts. -/
def gs (R D : Int) : Int := if lim D 3 ≤ lim R 3 then 18446744073709551615 else (lim R 3 * 18446744073709551616 + lim R 2) / lim D 3
set_option maxHeartbeats 2000000 in
theorem guess_any (R D : Int) (h : 9223372036854775808 ≤ lim D 3) (w : World) :
    Calls Try.prog 108 #[nv R, nv D] w fun e w' => e = .returned (.int .u64 (gs R D)) ∧ Below w.heap.size w w' := by
  unfold gs
  by_cases c : lim D 3 ≤ lim R 3
  · rw [if_pos c]
    go_enter Try.func108, Try.ntmps108
    go_wp2
    go_returns
    exact ⟨rfl, by go_grown⟩
  · rw [if_neg c]
    have K := fun W => div64_any (lim R 3) (lim R 2) (lim D 3) (lim_nn _ _) (by omega) (lim_nn _ _) (lim_lt _ _) h (lim_lt _ _) W
    go_enter Try.func108, Try.ntmps108
    go_wp2_with (go_at_call 93; refine (K _).mono ?_; rintro e w' ⟨rfl, hb⟩)
    go_returns
    exact ⟨rfl, (((Below.refl _ _).alloc (Nat.le_refl _) _).alloc (by simp) _).trans (hb.mono (by simp; omega))⟩

theorem subStep (x y q c : Int) (hx : 0 ≤ x) (hx1 : x < 18446744073709551616) (hy : 0 ≤ y) (hy1 : y < 18446744073709551616) (hq : 0 ≤ q) (hq1 : q < 18446744073709551616) (hc : 0 ≤ c) (hc1 : c < 18446744073709551616) :
    ∃ r d : Int, 0 ≤ r ∧ r < 18446744073709551616 ∧ 0 ≤ d ∧ d < 18446744073709551616 ∧ x - q * y - c = r - 18446744073709551616 * d ∧
      ∀ (b b' : Nat) (w : World), w.cell? ⟨b, 0, none⟩ = some (.int .u64 q) → w.cell? ⟨b', 0, none⟩ = some (.int .u64 c) → w.frozen? ⟨b', 0, none⟩ = false →
        Calls Try.prog 117 #[.int .u64 x, .int .u64 y, .pointer (some ⟨b, 0, none⟩), .pointer (some ⟨b', 0, none⟩)] w fun e w' => e = .returned (.int .u64 r) ∧ w' = w.setCell ⟨b', 0, none⟩ (.int .u64 d) := by
  have hp := mul_hi_bd q y hq hq1 hy hy1
  obtain ⟨h, l, hh, hh', hl, hl', e, M⟩ := ex49 q y hq hq1 hy hy1
  obtain ⟨l1, c1, hl1, hl1', hc1, hc1', e1, A1⟩ := ex45 l c 0 hl hl' hc (by omega) (by omega) (by omega)
  obtain ⟨r, b0, hr, hr', hb, hb', e2, A2⟩ := ex47 x l1 0 hx hx1 hl1 hl1' (by omega) (by omega)
  have hno : h + c1 + b0 < 18446744073709551616 := by omega
  refine ⟨r, h + c1 + b0, by omega, by omega, by omega, by omega, by omega, fun b b' w hcell hcell' hfz => ?_⟩
  clear e e1 e2 hp hx hx1 hy hy1 hq hq1
  have b1 : h + c1 ≤ 18446744073709551615 := by omega
  have b2 : h + c1 + b0 ≤ 18446744073709551615 := by omega
  go_enter Try.func117, Try.ntmps117
  go_wp2_with (go_at_call 86; refine (M _).mono ?_; rintro e w' ⟨rfl, rfl⟩)
  go_returns
  exact ⟨rfl, rfl⟩
end Go.Proofs.Ytpigofooblmdhaa
