/- What the reference's tail answers: what is left of nine parts. -/
import Derived.Lib.QuietBelow
import Derived.BigQuiet
import Derived.Test.YtphcpdfaijcjjaaJ5
import Derived.Test.YtphcpdfaijcjjaaJ3
set_option linter.all false
namespace Go.Proofs.Ytphcpdfaijcjjaa
open Go.RowKit Go.Sort
/-- What holds of memory at the head of each round of tail's loops. -/
def TR (w wr : World) (M : Int) (f : Nat → Int) : Prop :=
  Below w.heap.size w wr ∧ w.heap.size + 1 + 1 < wr.heap.size ∧ Arr wr w.heap.size 9 (fun j => .int .u64 (f j)) ∧ Arr wr (w.heap.size + 1) 4 (fun j => .int .u64 (lim M j)) ∧ Arr wr (w.heap.size + 1 + 1) 4 (fun _ => .int .u64 0)
theorem TR.put {w wr : World} {M : Int} {f : Nat → Int} (h : TR w wr M f) (k : Nat) (hk : k < 9) (v : Int) : TR w (wr.setCell ⟨w.heap.size, k, none⟩ (.int .u64 v)) M (upd f k v) := by
  obtain ⟨a, b, c1, c2, c3⟩ := h
  refine ⟨a.setCell (by show _ ≤ w.heap.size; omega) _, by rw [size_set]; exact b, (c1.set k hk _).congr ?_, c2.other (by omega) _, c3.other (by omega) _⟩
  intro j hj
  unfold upd
  by_cases e : j = k
  · rw [if_pos e, if_pos e]
  · rw [if_neg e, if_neg e]
theorem TR.call {w wr w1 : World} {M : Int} {f : Nat → Int} (h : TR w wr M f) (hb : Below wr.heap.size wr w1) : TR w w1 M f := by
  obtain ⟨a, b, c1, c2, c3⟩ := h
  exact ⟨a.trans (hb.mono a.size), Nat.lt_of_lt_of_le b hb.size, c1.below hb (by omega), c2.below hb (by omega), c3.below hb b⟩
theorem TR.drew {w wr : World} {M : Int} {f : Nat → Int} (h : TR w wr M f) : TR w wr.drew M f := h.call (Below.drew (Below.refl _ _))
/-- What stands in the window, by a world's own cells: it grows while M is put back. -/
def cI (w : World) (b j : Nat) : Int := match w.cell? ⟨b, j, none⟩ with
  | some (.int _ n) => n
  | _ => 0
def wz (w : World) (b i : Nat) (M bb : Int) : Nat := (18446744073709551616 ^ 5 + M - (ps (fr (cI w b) i) 5 - bb * 18446744073709551616 ^ 5)).toNat
theorem TR.wz {w wr : World} {M : Int} {f : Nat → Int} (h : TR w wr M f) (i : Nat) (hi : i < 5) (bb : Int) : wz wr w.heap.size i M bb = (18446744073709551616 ^ 5 + M - (ps (fr f i) 5 - bb * 18446744073709551616 ^ 5)).toNat := by
  unfold Go.Proofs.Ytphcpdfaijcjjaa.wz
  rw [ps_congr (f := fr (cI wr w.heap.size) i) (g := fr f i) 5]
  intro j hj
  unfold fr cI
  rw [h.2.2.1.c (i + j) (by omega)]
theorem Arr.mk9 {w : World} {b : Nat} {f : Nat → Value} (h0 : w.cell? ⟨b, 0, none⟩ = some (f 0)) (h1 : w.cell? ⟨b, 1, none⟩ = some (f 1)) (h2 : w.cell? ⟨b, 2, none⟩ = some (f 2)) (h3 : w.cell? ⟨b, 3, none⟩ = some (f 3))
    (h4 : w.cell? ⟨b, 4, none⟩ = some (f 4)) (h5 : w.cell? ⟨b, 5, none⟩ = some (f 5)) (h6 : w.cell? ⟨b, 6, none⟩ = some (f 6)) (h7 : w.cell? ⟨b, 7, none⟩ = some (f 7)) (h8 : w.cell? ⟨b, 8, none⟩ = some (f 8)) (z : ∀ j, j < 9 → w.frozen? ⟨b, j, none⟩ = false) : Arr w b 9 f := by
  intro j hj
  refine ⟨?_, z j hj⟩
  have h : j = 0 ∨ j = 1 ∨ j = 2 ∨ j = 3 ∨ j = 4 ∨ j = 5 ∨ j = 6 ∨ j = 7 ∨ j = 8 := by omega
  rcases h with h | h | h | h | h | h | h | h | h <;> subst h <;> assumption
end Go.Proofs.Ytphcpdfaijcjjaa
