/- Small numbers that came in as arguments, opened. -/
import Derived.Test.YtiagdffbfomlfaaDoorF1
set_option linter.all false
namespace Go.Proofs.YtiagdffbfomlfaaDoor
open Go.ChangeShapes Go.WideShapes Go.ChangeAt Go.RowKit
theorem bounds16 {n : Int} (h : (Lit.int .u16 n).wf = true) : 0 ≤ n ∧ n < 65536 := by
  simp only [Lit.wf, IntKind.min, IntKind.max, IntKind.signed, IntKind.bits, Bool.and_eq_true, decide_eq_true_eq] at h
  simp at h
  omega
end Go.Proofs.YtiagdffbfomlfaaDoor
