/- KeTells, by what the program's functions do. -/
import Derived.Test.YtcicjjenkebnfaaL1
set_option linter.all false
set_option maxRecDepth 100000
namespace Go.Proofs.Ytcicjjenkebnfaa
open Go.RowKit Go.Shelf Go.Sort Go.Lib
theorem tpR_len (s : ByteArray) : (tpR s).length ≤ s.size := by
  unfold tpR
  split
  · rw [tpL_len, len_list]; omega
  · exact Nat.zero_le _
end Go.Proofs.Ytcicjjenkebnfaa
