/- Arrays of the call's own, in worlds that are letters: what lies in a block, and what of it stays behind calls, stores and new blocks. -/
import Derived.Test.YtndfcecimckioaaRows
import Derived.WalkKit
import Derived.WalkSpells
import Derived.WalkLawsBesides
import Derived.Handy
import Derived.Laws.Externs
set_option linter.all false
namespace Go.Proofs.Ytndfcecimckioaa
open Go.RowKit
/-- The first n cells of block b hold f and may be written. -/
def Arr (w : World) (b n : Nat) (f : Nat → Value) : Prop := ∀ j, j < n → w.cell? ⟨b, j, none⟩ = some (f j) ∧ w.frozen? ⟨b, j, none⟩ = false
theorem Arr.c {w : World} {b n : Nat} {f : Nat → Value} (h : Arr w b n f) (j : Nat) (hj : j < n) : w.cell? ⟨b, j, none⟩ = some (f j) := (h j hj).1
theorem Arr.z {w : World} {b n : Nat} {f : Nat → Value} (h : Arr w b n f) (j : Nat) (hj : j < n) : w.frozen? ⟨b, j, none⟩ = false := (h j hj).2
theorem Arr.below {w w' : World} {b n B : Nat} {f : Nat → Value} (h : Arr w b n f) (hb : Below B w w') (hlt : b < B) : Arr w' b n f := fun j hj =>
  ⟨(hb.cell (p := ⟨b, j, none⟩) hlt).trans (h j hj).1, (hb.frozen (p := ⟨b, j, none⟩) hlt).trans (h j hj).2⟩
theorem Arr.set {w : World} {b n : Nat} {f : Nat → Value} (h : Arr w b n f) (k : Nat) (hk : k < n) (v : Value) : Arr (w.setCell ⟨b, k, none⟩ v) b n (fun j => if j = k then v else f j) := fun j hj => by
  refine ⟨?_, by rw [World.frozen?_setCell]; exact (h j hj).2⟩
  by_cases e : j = k
  · subst e; show _ = some (if j = j then v else f j); rw [if_pos rfl]; exact World.cell?_setCell_same _ _ _ (h j hj).1
  · show _ = some (if j = k then v else f j); rw [if_neg e, World.cell?_setCell_other _ _ _ _ (by intro hh; injection hh with _ h2; exact e h2.symm)]; exact (h j hj).1
theorem Arr.other {w : World} {b n : Nat} {f : Nat → Value} (h : Arr w b n f) {b' k : Nat} (hne : b' ≠ b) (v : Value) : Arr (w.setCell ⟨b', k, none⟩ v) b n f := fun j hj =>
  ⟨by rw [World.cell?_setCell_other _ _ _ _ (by intro hh; injection hh with h1 _; exact hne h1)]; exact (h j hj).1, by rw [World.frozen?_setCell]; exact (h j hj).2⟩
theorem Arr.alloc {w : World} {b n : Nat} {f : Nat → Value} (h : Arr w b n f) (hlt : b < w.heap.size) (o : Obj) : Arr (w.alloc o) b n f := fun j hj =>
  ⟨(World.cell?_alloc_past (w := w) o b j hlt).trans (h j hj).1, (World.frozen?_alloc_past (w := w) o b j hlt).trans (h j hj).2⟩
theorem Arr.drew {w : World} {b n : Nat} {f : Nat → Value} (h : Arr w b n f) : Arr w.drew b n f := h
theorem Arr.new (w : World) (c : Array Value) (T : TypeId) (b : Nat) (hb : b = w.heap.size) (f : Nat → Value) (n : Nat) (hf : ∀ j, j < n → c[j]? = some (f j)) : Arr (w.alloc (.cells c T)) b n f := fun j hj =>
  ⟨(World.cell?_alloc_at (w := w) c T b j hb).trans (hf j hj), World.frozen?_alloc_at (w := w) c T b j hb⟩
theorem Arr.congr {w : World} {b n : Nat} {f g : Nat → Value} (h : Arr w b n f) (e : ∀ j, j < n → f j = g j) : Arr w b n g := fun j hj => ⟨(h j hj).1.trans (by rw [e j hj]), (h j hj).2⟩
theorem size_set (w : World) (a : Addr) (v : Value) : (w.setCell a v).heap.size = w.heap.size := by simp [World.setCell]
end Go.Proofs.Ytndfcecimckioaa
