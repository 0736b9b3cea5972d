/- What the primes' functions answer, in mod and in the reference. -/
import Derived.Test.YtpigofooblmdhaaGreatA5
import Derived.Test.YtpigofooblmdhaaGreatF0
set_option linter.all false
set_option maxRecDepth 100000
namespace Go.Proofs.YtpigofooblmdhaaGreat
open Go.RowKit Go.Sort
theorem k21 (w : World) : Calls Tryz.prog 34 #[] w fun e w' => e = .returned (.agg #[.int .u64 18446744073709551597, .int .u64 18446744073709551615, .int .u64 18446744073709551615, .int .u64 9223372036854775807]) ∧ Below w.heap.size w w' := by
  go_enter Tryz.func34, Tryz.ntmps34
  go_wp2
  go_returns
  exact ⟨rfl, by go_grown⟩
theorem k22 (w : World) : Calls Tryz.prog 43 #[] w fun e w' => e = .returned (.agg #[.int .u64 18446744073709551597, .int .u64 18446744073709551615, .int .u64 18446744073709551615, .int .u64 9223372036854775807]) ∧ Below w.heap.size w w' := by
  go_enter Tryz.func43, Tryz.ntmps43
  go_wp2
  go_returns
  exact ⟨rfl, by go_grown⟩
end Go.Proofs.YtpigofooblmdhaaGreat
