/- The reference: Find, Unknown. -/
import Derived.Test.YtcicjjenkebnfaaK3
set_option linter.all false
set_option maxRecDepth 100000
namespace Go.Proofs.Ytcicjjenkebnfaa
open Go.RowKit Go.Shelf Go.Sort Go.Lib
/-- Those of a kind among the first. -/
theorem fdL_take (l : List Ke) (k : Int) (j : Nat) (r : Ke) (h : l[j]? = some r) : fdL (l.take (j + 1)) k = if r.k = k then fdL (l.take j) k ++ [r] else fdL (l.take j) k := by
  rw [take_snoc' l j r h]
  unfold fdL
  rw [List.filter_append]
  by_cases hk : r.k = k
  · rw [if_pos hk]
    simp [hk]
  · rw [if_neg hk]
    simp [hk]
theorem fdL_len (l : List Ke) (k : Int) : (fdL l k).length ≤ l.length := List.length_filter_le _ _
theorem flK_len (l : List Ke) : (flK l).length = 3 * l.length := by
  induction l with
  | nil => rfl
  | cons r l ih => show (flK l).length + 1 + 1 + 1 = _; rw [ih, List.length_cons]; omega
theorem unB_0 {r : Ke} (h : r.c = false) : unB r = false := by unfold unB; rw [h]; rfl
end Go.Proofs.Ytcicjjenkebnfaa
