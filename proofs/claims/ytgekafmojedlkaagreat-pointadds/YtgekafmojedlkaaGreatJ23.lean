/- What the primes' functions answer, in mod and in the reference. -/
import Derived.Test.YtgekafmojedlkaaGreatJ22
import Derived.Test.YtgekafmojedlkaaGreatJ2
set_option linter.all false
set_option maxRecDepth 100000
namespace Go.Proofs.YtgekafmojedlkaaGreat
open Go.RowKit Go.Sort
theorem k23 (w : World) : Calls Tryz.prog 49 #[] w fun e w' => e = .returned (.agg #[.int .u64 18446744073709551615, .int .u64 4294967295, .int .u64 0, .int .u64 18446744069414584321]) ∧ Below w.heap.size w w' := by
  go_enter Tryz.func49, Tryz.ntmps49
  go_wp2
  go_returns
  exact ⟨rfl, by go_grown⟩
theorem k24 (w : World) : Calls Tryz.prog 35 #[] w fun e w' => e = .returned (.agg #[.int .u64 18446744073709551615, .int .u64 4294967295, .int .u64 0, .int .u64 18446744069414584321]) ∧ Below w.heap.size w w' := by
  go_enter Tryz.func35, Tryz.ntmps35
  go_wp2
  go_returns
  exact ⟨rfl, by go_grown⟩
end Go.Proofs.YtgekafmojedlkaaGreat
