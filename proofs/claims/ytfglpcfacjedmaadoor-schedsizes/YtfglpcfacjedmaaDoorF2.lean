/- Small numbers that came in as arguments, opened. -/
import Derived.Test.YtfglpcfacjedmaaDoorF1
set_option linter.all false
namespace Go.Proofs.YtfglpcfacjedmaaDoor
open Go.ChangeShapes Go.WideShapes Go.ChangeAt Go.RowKit
theorem bounds16 {n : Int} (h : (Lit.int .u16 n).wf = true) : 0 ≤ n ∧ n < 65536 := by
  simp only [Lit.wf, IntKind.min, IntKind.max, IntKind.signed, IntKind.bits, Bool.and_eq_true, decide_eq_true_eq] at h
  simp at h
  omega
end Go.Proofs.YtfglpcfacjedmaaDoor
