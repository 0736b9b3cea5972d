/- A law on regions that draw their order: operations that only read or call, then plain ones (they touch no world, and may come up among the last), then others in their order. -/
import Derived.Test.YtndfcecimckioaaZ5
set_option linter.all false
set_option autoImplicit false
namespace Go.Proofs.Ytndfcecimckioaa
open Go Go.Sort Go.RowKit
section
variable {P : Program}
theorem wp_region_plain_tail {id : Nat} {Q : Exit → Act → World → Prop} {a : Act} {w : World} {l : List Oper} (m p : Nat) (E F : Array Bool) (hm : P.follows .mixedOrders = true)
    (hQ : ∀ c d v a w, Q (.panic c) (Act.put a d v) w → Q (.panic c) a w)
    (hB : (Region.noSelect l.toArray && decide (m + p ≤ l.length) && lexE .any l.toArray m E m 0 (Array.replicate l.length false) && (Region.ready .any l.toArray E).all (fun j => decide (m ≤ j)) &&
      pureB .any l.toArray F p m E && Region.seqB .any l.toArray (l.length - (m + p)) (m + p) F) = true)
    (h : wpQuiet P l.toArray (fun w' => ∃ p : Regrown, w' = grow (redrawn w p.d) p.os) (fun a' => ∃ b, pureTo P l.toArray ((l.drop m).take p) a' b ∧ ∀ w', (∃ p : Regrown, w' = grow (redrawn w p.d) p.os) → wpList P l.toArray Q (l.drop (m + p)) b w') (l.take m) a) :
    (Code.region id l.toArray true).wp P Q a w := by
  simp only [Bool.and_eq_true, decide_eq_true_eq] at hB
  obtain ⟨⟨⟨⟨⟨sel, hn⟩, lex⟩, hE⟩, pb⟩, sq⟩ := hB
  have tl : (l.take m).length = m := by rw [List.length_take]; omega
  have tp : ((l.drop m).take p).length = p := by rw [List.length_take, List.length_drop]; omega
  have dl : (l.drop (m + p)).length = l.length - (m + p) := by rw [List.length_drop]
  have hE' : ∀ j, j ∈ Region.ready .any l.toArray E → m ≤ j := fun j hj => by
    have := List.all_eq_true.1 hE j hj
    simpa using this
  have H := QL.lexE (P := P) (C := fun w' => ∃ p : Regrown, w' = grow (redrawn w p.d) p.os) (md := .any) (n := m) sel hE' (l.take m) 0 (Array.replicate l.length false) a (fun j hj => by
    rw [tl] at hj
    simp [hj]) (by rw [tl]; exact lex) h
  rw [tl] at H
  have K := QL.any (Q := Q) (g := l.length - (m + p) + p) (fun ls a' w' hw' hL => by
    obtain ⟨rfl, b, hb, ht⟩ := hL
    have t := wpAny_of_seq (md := .any) (P := P) (Q' := Q) (l.drop (m + p)) (m + p) F b w' (fun j => by simp [List.getElem?_drop]) (by rw [dl]; exact sq) (ht w' hw')
    rw [dl] at t
    have r := pure_any hQ sel t ((l.drop m).take p) m ls a' (fun j hj => by rw [tp] at hj; simp [hj]) (by rw [tp]; exact pb) hb
    rw [tp] at r
    exact r) m _ a _ ⟨⟨w.drawn + 1, #[]⟩, by rw [grow_empty]⟩ H
  have sz : l.toArray.size = l.length := by simp
  rw [show m + (l.length - (m + p) + p) = l.toArray.size by omega, ← sz] at K
  exact wp_region_any hm K
end
end Go.Proofs.Ytndfcecimckioaa
