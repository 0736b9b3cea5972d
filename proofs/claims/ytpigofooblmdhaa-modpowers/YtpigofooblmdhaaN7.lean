/- What cmp.Compare at uint64 and num.Cmp answer. -/
import Derived.Test.YtpigofooblmdhaaB0
set_option linter.all false
namespace Go.Proofs.Ytpigofooblmdhaa
open Go.RowKit
attribute [local go_sem] idx24_0 idx24_1 idx24_2 idx24_3
def sg (x y : Int) : Int := if x < y then -1 else if y < x then 1 else 0
set_option maxHeartbeats 1000000 in
theorem compare_any (x y : Int) (w : World) : Calls Try.prog 95 #[.int .u64 x, .int .u64 y] w fun e w' => e = .returned (.int .i64 (sg x y)) ∧ w' = w := by
  unfold sg
  by_cases h : x < y
  · rw [if_pos h]
    go_enter Try.func95, Try.ntmps95
    go_wp2
    go_returns
    exact ⟨rfl, rfl⟩
  · rw [if_neg h]
    by_cases h2 : y < x
    · rw [if_pos h2]
      go_enter Try.func95, Try.ntmps95
      go_wp2
      go_returns
      exact ⟨rfl, rfl⟩
    · rw [if_neg h2]
      go_enter Try.func95, Try.ntmps95
      go_wp2
      go_returns
      exact ⟨rfl, rfl⟩
end Go.Proofs.Ytpigofooblmdhaa
