/- What the reference's product and Mul answer, for any numbers. -/
import Derived.Test.YtphcpdfaijcjjaaJ18
set_option linter.all false
set_option maxRecDepth 100000
namespace Go.Proofs.Ytphcpdfaijcjjaa
open Go.RowKit Go.Sort
/-- What holds of memory at the head of each round of product's loops. -/
def PR (w wr : World) (A Bv : Int) (f : Nat → Int) : Prop :=
  Below w.heap.size w wr ∧ w.heap.size + 1 + 1 + 1 + 1 < wr.heap.size ∧ Arr wr w.heap.size 4 (fun j => .int .u64 (lim A j)) ∧ Arr wr (w.heap.size + 1) 4 (fun j => .int .u64 (lim Bv j)) ∧ Arr wr (w.heap.size + 1 + 1) 4 (fun _ => .int .u64 0) ∧ Arr wr (w.heap.size + 1 + 1 + 1) 4 (fun _ => .int .u64 0) ∧ Arr wr (w.heap.size + 1 + 1 + 1 + 1) 8 (fun j => .int .u64 (f j))
theorem PR.put {w wr : World} {A Bv : Int} {f : Nat → Int} (h : PR w wr A Bv f) (k : Nat) (hk : k < 8) (v : Int) : PR w (wr.setCell ⟨w.heap.size + 1 + 1 + 1 + 1, k, none⟩ (.int .u64 v)) A Bv (upd f k v) := by
  obtain ⟨a, b, c1, c2, c3, c4, c5⟩ := h
  refine ⟨a.setCell (by show _ ≤ w.heap.size + 1 + 1 + 1 + 1; omega) _, by rw [size_set]; exact b, c1.other (by omega) _, c2.other (by omega) _, c3.other (by omega) _, c4.other (by omega) _, (c5.set k hk _).congr ?_⟩
  intro j hj
  unfold upd
  by_cases e : j = k
  · rw [if_pos e, if_pos e]
  · rw [if_neg e, if_neg e]
theorem PR.call {w wr w1 : World} {A Bv : Int} {f : Nat → Int} (h : PR w wr A Bv f) (hb : Below wr.heap.size wr w1) : PR w w1 A Bv f := by
  obtain ⟨a, b, c1, c2, c3, c4, c5⟩ := h
  exact ⟨a.trans (hb.mono a.size), Nat.lt_of_lt_of_le b hb.size, c1.below hb (by omega), c2.below hb (by omega), c3.below hb (by omega), c4.below hb (by omega), c5.below hb b⟩
end Go.Proofs.Ytphcpdfaijcjjaa
