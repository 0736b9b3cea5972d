/- What math/bits.Mul64 and the step of num.Mul answer. -/
import Derived.Test.YtpigofooblmdhaaB0
import Derived.Laws.MathBits
set_option linter.all false
namespace Go.Proofs.Ytpigofooblmdhaa
open Go.RowKit
theorem mul_hi_bd (x y : Int) (hx : 0 ≤ x) (hx1 : x < 18446744073709551616) (hy : 0 ≤ y) (hy1 : y < 18446744073709551616) : 0 ≤ x * y ∧ x * y ≤ 340282366920938463426481119284349108225 := by
  refine ⟨Int.mul_nonneg hx hy, ?_⟩
  have := Int.mul_le_mul (show x ≤ 18446744073709551615 by omega) (show y ≤ 18446744073709551615 by omega) hy (by omega : (0 : Int) ≤ 18446744073709551615)
  simpa using this

set_option maxHeartbeats 1000000 in
theorem mul64_any (x y : Int) (hx : 0 ≤ x) (hx1 : x < 18446744073709551616) (hy : 0 ≤ y) (hy1 : y < 18446744073709551616) (w : World) :
    Calls Try.prog 86 #[.int .u64 x, .int .u64 y] w fun e w' => e = .returned (.tuple #[.int .u64 (x * y / 18446744073709551616), .int .u64 (x * y % 18446744073709551616)]) ∧ w' = w := by
  have m := mul64_arith x y hx hx1 hy hy1
  have ax := and_low32 x hx hx1
  have ay := and_low32 y hy hy1
  have HX : Hid (bits .and .u64 x 4294967295 = x % 4294967296) := ax
  have HY : Hid (bits .and .u64 y 4294967295 = y % 4294967296) := ay
  have HM := (show Hid _ from m)
  clear ax ay m
  go_enter Try.func86, Try.ntmps86
  go_wp2
  go_returns
  refine ⟨?_, rfl⟩
  have ax := HX.out
  have ay := HY.out
  have m := HM.out
  rw [ax, ay]
  simp only [IntKind.wrap_u64]
  rw [and_low32 _ (by omega) (by omega), m]
  rfl

theorem ex49 (x y : Int) (hx : 0 ≤ x) (hx1 : x < 18446744073709551616) (hy : 0 ≤ y) (hy1 : y < 18446744073709551616) :
    ∃ hi lo : Int, 0 ≤ hi ∧ hi < 18446744073709551615 ∧ 0 ≤ lo ∧ lo < 18446744073709551616 ∧ x * y = lo + 18446744073709551616 * hi ∧
      ∀ w, Calls Try.prog 86 #[.int .u64 x, .int .u64 y] w fun e w' => e = .returned (.tuple #[.int .u64 hi, .int .u64 lo]) ∧ w' = w := by
  have := mul_hi_bd x y hx hx1 hy hy1
  exact ⟨_, _, by omega, by omega, by omega, by omega, by omega, fun w => mul64_any x y hx hx1 hy hy1 w⟩

/-- One step of a product: x times y, s and what is carried; the low part is handed back, the high part is carried on. -/
theorem mulStep (x y s c : Int) (hx : 0 ≤ x) (hx1 : x < 18446744073709551616) (hy : 0 ≤ y) (hy1 : y < 18446744073709551616) (hs : 0 ≤ s) (hs1 : s < 18446744073709551616) (hc : 0 ≤ c) (hc1 : c < 18446744073709551616) :
    ∃ lo hi : Int, 0 ≤ lo ∧ lo < 18446744073709551616 ∧ 0 ≤ hi ∧ hi < 18446744073709551616 ∧ x * y + s + c = lo + 18446744073709551616 * hi ∧
      ∀ (b : Nat) (w : World), w.cell? ⟨b, 0, none⟩ = some (.int .u64 c) → w.frozen? ⟨b, 0, none⟩ = false →
        Calls Try.prog 85 #[.int .u64 x, .int .u64 y, .int .u64 s, .pointer (some ⟨b, 0, none⟩)] w fun e w' => e = .returned (.int .u64 lo) ∧ w' = w.setCell ⟨b, 0, none⟩ (.int .u64 hi) := by
  have hp := mul_hi_bd x y hx hx1 hy hy1
  obtain ⟨h, l, hh, hh', hl, hl', e, M⟩ := ex49 x y hx hx1 hy hy1
  obtain ⟨l1, c1, hl1, hl1', hc1, hc1', e1, A1⟩ := ex45 l s 0 hl hl' hs hs1 (by omega) (by omega)
  obtain ⟨l2, c2, hl2, hl2', hc2, hc2', e2, A2⟩ := ex45 l1 c 0 hl1 hl1' hc (by omega) (by omega) (by omega)
  have hno : h + c1 + c2 < 18446744073709551616 := by omega
  refine ⟨l2, h + c1 + c2, by omega, by omega, by omega, by omega, by omega, fun b w hcell hfz => ?_⟩
  clear e e1 e2 hp hx hx1 hy hy1 hs hs1
  have b1 : h + c1 ≤ 18446744073709551615 := by omega
  have b2 : h + c1 + c2 ≤ 18446744073709551615 := by omega
  go_enter Try.func85, Try.ntmps85
  go_wp2_with (go_at_call 86; refine (M _).mono ?_; rintro e w' ⟨rfl, rfl⟩)
  go_returns
  refine ⟨rfl, ?_⟩
  rfl
end Go.Proofs.Ytpigofooblmdhaa
