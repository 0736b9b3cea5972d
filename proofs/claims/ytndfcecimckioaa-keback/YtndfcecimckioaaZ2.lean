/- The law of Z1 inside a round of a range over a function. -/
import Derived.Test.YtndfcecimckioaaZ1
import Derived.OrdersIn
import Derived.RangeFuncCalls
import Derived.TacticsInMore
set_option linter.all false
set_option autoImplicit false
namespace Go.Proofs.Ytndfcecimckioaa
open Go Go.Sort Go.RowKit
section
variable {P : Program} {ops : Array Oper} {md : Region.Mode} {C : World → Prop} {l m : Nat}
/-- No operation is a defer statement. -/
def noDefer (ops : Array Oper) : Bool := ops.all fun o => match o.op with
  | .defer _ => false
  | _ => true
theorem noDefer_at (h : noDefer ops = true) {i : Nat} {o : Oper} (hi : ops[i]? = some o) : ∀ c, o.op ≠ .defer c := fun c e => by
  have t := Array.all_eq_true.1 h i (Array.getElem?_eq_some_iff.1 hi).1
  have e2 : ops[i]'(Array.getElem?_eq_some_iff.1 hi).1 = o := (Array.getElem?_eq_some_iff.1 hi).2
  rw [e2, e] at t
  cases t
theorem quiet_in {o : Oper} {a : Act} {K : Act → Prop} {K' : Act → World → Prop} {Q : Exit → Act → World → Prop} {w : World} (nd : ∀ c, o.op ≠ .defer c) (hw : C w) (h : ∀ a w', C w' → K a → K' a w')
    (hh : o.quiet P a C K) : o.wpIn (Fence.wide.inRound l) m P a w K' Q := by
  obtain ⟨v, h1, h2⟩ := hh
  have h3 := h1 w hw
  refine ⟨fun _ _ => trivial, ?_⟩
  rw [Oper.semAt_eq _ _ _ nd]
  unfold Oper.quietAt at h3
  generalize (execOp a.eval o).run P w = r at *
  cases r with
  | halt x w' => cases h3
  | ok x w' =>
    cases x with
    | value u =>
      obtain ⟨e1, e2⟩ := h3
      rw [e1, e2]; exact h _ _ hw h2
    | skip =>
      obtain ⟨e1, e2⟩ := h3
      subst e2
      rw [e1]; exact h _ _ hw h2
    | enter f args =>
      obtain ⟨e1, hc⟩ := h3
      rw [e1]
      rw [Oper.uponIn_enter]
      refine ⟨fun hd => ?_, CallsIn.inRound l (callsIn_wide.2 (hc.mono ?_))⟩
      · simp [Fence.wide] at hd
      · rintro e w2 ⟨rfl, hw2⟩
        exact h _ _ hw2 h2
    | _ => cases h3
theorem QL.anyIn {n g : Nat} {L : Array Bool → Act → Prop} {Q : Exit → Act → World → Prop} (nd : noDefer ops = true) (hL : ∀ ls a w, C w → L ls a → wpAnyIn (Fence.wide.inRound l) m P md ops Q g ls a w) (f : Nat) :
    ∀ ls a w, C w → QL P md ops C n L f ls a → wpAnyIn (Fence.wide.inRound l) m P md ops Q (f + g) ls a w := by
  induction f with
  | zero => intro ls a w hw h; rw [Nat.zero_add]; exact hL _ _ _ hw h
  | succ f ih =>
    intro ls a w hw h
    rw [Nat.succ_add_eq_add_succ]
    refine ⟨fun e => absurd e h.1, fun i hi => ?_⟩
    have q := (h.2 i hi).2
    unfold qOp at q
    unfold wpOpIn
    split
    · rename_i ho; simp only [ho] at q; exact ih _ _ _ hw q
    · rename_i o ho
      simp only [ho] at q
      split
      · rename_i hwt; simp only [hwt, if_true] at q; exact quiet_in (noDefer_at nd ho) hw (fun a' w' hw' h' => ih _ a' w' hw' h') q
      · rename_i hwt; simp only [hwt] at q; exact ⟨fun _ _ => trivial, ih _ _ _ hw q⟩
theorem seq_in {F : Fence} {Q : Exit → Act → World → Prop} (r : List Oper) : ∀ (k : Nat) (ls : Array Bool) (a : Act) (w : World), (∀ j, r[j]? = ops[k + j]?) →
    Region.seqB md ops r.length k ls = true → wpListIn F m P ops Q r a w → wpAnyIn F m P md ops Q r.length ls a w := by
  induction r with
  | nil => intro k ls a w _ hB h; exact ⟨by simpa [Region.seqB] using hB, h⟩
  | cons o r ih =>
    intro k ls a w hl hB h
    have h0 : ops[k]? = some o := by simpa using (hl 0).symm
    simp only [List.length_cons, Region.seqB, Bool.and_eq_true, decide_eq_true_eq] at hB
    refine ⟨fun e => (by rw [hB.1] at e; cases e), fun i hi => ?_⟩
    rw [hB.1] at hi
    obtain rfl : i = k := by simpa using hi
    have t : wpOpIn F m P ops Q i (wpListIn F m P ops Q r) a w := by unfold wpOpIn; simp only [h0]; exact h
    refine wpOpIn_mono (fun a' w' h' => ih (i + 1) _ a' w' (fun j => ?_) hB.2 h') t
    have t := hl (j + 1)
    rw [List.getElem?_cons_succ] at t
    rw [t]; congr 1; omega
theorem wpIn_region_below_tail {id : Nat} {Q : Exit → Act → World → Prop} {a : Act} {w : World} {r : List Oper} (n : Nat) (hm : P.follows .mixedOrders = true) (hB : (noDefer r.toArray && Region.lexTailB .any r.toArray n) = true)
    (h : wpQuiet P r.toArray (fun w' => ∃ p : Regrown, w' = grow (redrawn w p.d) p.os) (fun a' => ∀ w', (∃ p : Regrown, w' = grow (redrawn w p.d) p.os) → wpListIn (Fence.wide.inRound l) m P r.toArray Q (r.drop n) a' w') (r.take n) a) :
    (Code.region id r.toArray true).wpIn (Fence.wide.inRound l) m P Q a w := by
  simp only [Region.lexTailB, Bool.and_eq_true, decide_eq_true_eq] at hB
  obtain ⟨nd, ⟨⟨⟨sel, hn⟩, hs⟩, hc⟩, lex⟩ := hB
  have ln : n < r.length := by simpa using hn
  have tl : (r.take n).length = n := by rw [List.length_take]; omega
  have dl : (r.drop n).length = r.toArray.size - n := by rw [List.length_drop]; simp
  have i0 : HeadInv .any r.toArray n (Array.replicate r.toArray.size false) :=
    ⟨by simp, fun j oj _ hl => (by rw [getD_replicate_false] at hl; cases hl), fun t _ ht => getD_in (by simpa using ht) (getD_replicate_false _ _)⟩
  have H := QL.lex (P := P) (md := .any) (g := r.toArray.size - n) sel hs hc hn (r.take n) 0 _ a (fun j hj => by
    rw [tl] at hj
    simp [hj]) (by rw [tl]; omega) i0 (by rw [tl]; exact lex) h
  have K := QL.anyIn (l := l) (m := m) (Q := Q) (g := r.toArray.size - n) nd (fun ls a' w' hw' hL => by
    have t := seq_in (md := .any) (P := P) (m := m) (F := Fence.wide.inRound l) (Q := Q) (r.drop n) n ls a' w' (fun j => by simp [List.getElem?_drop]) (by rw [dl]; exact hL.1) (hL.2 w' hw')
    rwa [dl] at t) _ _ a { w with drawn := w.drawn + 1 } ⟨⟨w.drawn + 1, #[]⟩, by rw [grow_empty]; rfl⟩ H
  rw [tl, show n + (r.toArray.size - n) = r.toArray.size by omega] at K
  exact wpIn_region_any hm K
end
end Go.Proofs.Ytndfcecimckioaa
