/- What the reference's Div answers. -/
import Derived.Deep.RegionHeld3
import Derived.Deep.CutRange
import Derived.Test.YtphcpdfaijcjjaaJ8
import Derived.Test.YtphcpdfaijcjjaaJ3
import Derived.Test.YtphcpdfaijcjjaaJ5
import Derived.Test.YtphcpdfaijcjjaaJ11
set_option linter.all false
namespace Go.Proofs.Ytphcpdfaijcjjaa
open Go.RowKit
/-- What holds of memory, but for what is left so far, throughout each round of the reference's Div. -/
def QS (w wr : World) (lo hi M Qv : Int) : Prop :=
  Below w.heap.size w wr ∧ w.heap.size + 1 + 1 + 1 + 1 + 1 + 1 + 1 < wr.heap.size ∧ Arr wr (w.heap.size) 4 (fun j => .int .u64 (lim lo j)) ∧ Arr wr (w.heap.size + 1) 4 (fun j => .int .u64 (lim hi j)) ∧ Arr wr (w.heap.size + 1 + 1) 4 (fun j => .int .u64 (lim M j)) ∧ Arr wr (w.heap.size + 1 + 1 + 1) 4 (fun _ => .int .u64 0) ∧ Arr wr (w.heap.size + 1 + 1 + 1 + 1) 4 (fun _ => .int .u64 0) ∧ Arr wr (w.heap.size + 1 + 1 + 1 + 1 + 1) 4 (fun _ => .int .u64 0) ∧ Arr wr (w.heap.size + 1 + 1 + 1 + 1 + 1 + 1 + 1) 8 (fun j => .int .u64 (lim Qv j))
theorem QS.below {w wr w' : World} {lo hi M Qv : Int} (h : QS w wr lo hi M Qv) (hb : Below wr.heap.size wr w') : QS w w' lo hi M Qv := by
  obtain ⟨a, b, c0, c1, c2, c3, c4, c5, c7⟩ := h
  have := hb.size
  exact ⟨a.trans (hb.mono a.size), by omega, c0.below hb (by omega), c1.below hb (by omega), c2.below hb (by omega), c3.below hb (by omega), c4.below hb (by omega), c5.below hb (by omega), c7.below hb (by omega)⟩
theorem QS.drew {w wr : World} {lo hi M Qv : Int} (h : QS w wr lo hi M Qv) : QS w wr.drew lo hi M Qv := by
  obtain ⟨a, b, c0, c1, c2, c3, c4, c5, c7⟩ := h
  exact ⟨a.drew, b, c0.drew, c1.drew, c2.drew, c3.drew, c4.drew, c5.drew, c7.drew⟩
theorem QS.setr {w wr : World} {lo hi M Qv : Int} (h : QS w wr lo hi M Qv) (k : Nat) (v : Value) : QS w (wr.setCell ⟨w.heap.size + 1 + 1 + 1 + 1 + 1 + 1, k, none⟩ v) lo hi M Qv := by
  obtain ⟨a, b, c0, c1, c2, c3, c4, c5, c7⟩ := h
  exact ⟨a.setCell (by show _ ≤ w.heap.size + 1 + 1 + 1 + 1 + 1 + 1; omega) _, by rw [size_set]; exact b, c0.other (by omega) _, c1.other (by omega) _, c2.other (by omega) _, c3.other (by omega) _, c4.other (by omega) _, c5.other (by omega) _, c7.other (by omega) _⟩
theorem QS.setq {w wr : World} {lo hi M Qv Qw : Int} (h : QS w wr lo hi M Qv) (k : Nat) (hk : k < 8) (v : Int) (hq : ∀ j, j < 8 → lim Qw j = if j = k then v else lim Qv j) : QS w (wr.setCell ⟨w.heap.size + 1 + 1 + 1 + 1 + 1 + 1 + 1, k, none⟩ (.int .u64 v)) lo hi M Qw := by
  obtain ⟨a, b, c0, c1, c2, c3, c4, c5, c7⟩ := h
  refine ⟨a.setCell (by show _ ≤ w.heap.size + 1 + 1 + 1 + 1 + 1 + 1 + 1; omega) _, by rw [size_set]; exact b, c0.other (by omega) _, c1.other (by omega) _, c2.other (by omega) _, c3.other (by omega) _, c4.other (by omega) _, c5.other (by omega) _, (c7.set k hk _).congr ?_⟩
  intro j hj
  rw [hq j hj]
  by_cases e : j = k
  · rw [if_pos e, if_pos e]
  · rw [if_neg e, if_neg e]
theorem QS.keep {w wr : World} {lo hi M Qv Qw : Int} (h : QS w wr lo hi M Qv) (e : Qw = Qv) : QS w wr lo hi M Qw := by rw [e]; exact h
attribute [local go_sem] eq24
end Go.Proofs.Ytphcpdfaijcjjaa
