/- A law on regions that draw their order: operations that only read, or call what leaves all that was there as it was, and behind all of them a fixed row of others (stores): one walk in the order of the text. -/
import Derived.StillTail
import Derived.Deep.Quiet
import Derived.Lib.QuietBelow
import Derived.BigQuiet
set_option linter.all false
set_option autoImplicit false
namespace Go.Proofs.Ytndfcecimckioaa
open Go Go.Sort Go.RowKit
section
variable {P : Program} {ops : Array Oper} {md : Region.Mode} {C : World → Prop}
/-- Of the operations below n any that may come up; then L. -/
def QL (P : Program) (md : Region.Mode) (ops : Array Oper) (C : World → Prop) (n : Nat) (L : Array Bool → Act → Prop) : Nat → Array Bool → Act → Prop
  | 0 => L
  | f + 1 => fun ls a => Region.ready md ops ls ≠ [] ∧ ∀ i, i ∈ Region.ready md ops ls → i < n ∧ qOp P ops C i (QL P md ops C n L f (ls.setIfInBounds i true)) a
theorem QL.any {n g : Nat} {L : Array Bool → Act → Prop} {Q : Exit → Act → World → Prop} (hL : ∀ ls a w, C w → L ls a → wpAny P md ops Q g ls a w) (f : Nat) :
    ∀ ls a w, C w → QL P md ops C n L f ls a → wpAny P md ops Q (f + g) ls a w := by
  induction f with
  | zero => intro ls a w hw h; rw [Nat.zero_add]; exact hL _ _ _ hw h
  | succ f ih =>
    intro ls a w hw h
    rw [Nat.succ_add_eq_add_succ]
    exact ⟨fun e => absurd e h.1, fun i hi => wpOp_of_qOp hw (fun a' w' hw' h' => ih _ a' w' hw' h') (h.2 i hi).2⟩
theorem QL.first {n i : Nat} {o : Oper} {v : Value} {L : Array Bool → Act → Prop} (hi : ops[i]? = some o) (hin : i < n) (hn : n < ops.size)
    (sel : ∀ (j : Nat) (p : Oper) cs b, ops[j]? = some p → p.op ≠ .select cs b) (hs : Region.sinkB md ops n = true) (hc : Region.chainB md ops n = true)
    (hL : ∀ ls a, L ls a → ∀ j, j ∈ Region.ready md ops ls → n ≤ j) (f : Nat) :
    ∀ ls a, HeadInv md ops n ls →
      (∀ j p, ops[j]? = some p → j ≠ i → ls.getD j true = false → (∀ e ∈ p.after, Region.binds md e = true → e.on ≠ i) → o.apart ops p = true) →
      i ∈ Region.ready md ops ls → YieldsIn P ops C o v a → QL P md ops C n L f (ls.setIfInBounds i true) (a.put o.dst v) → QL P md ops C n L (f + 1) ls a := by
  have low : ∀ ls, HeadInv md ops n ls → i ∈ Region.ready md ops ls → ∀ j, j ∈ Region.ready md ops ls → j < n := fun ls inv hr j hj =>
    Nat.lt_of_not_le fun hle => tail_waits hs hc hn inv _ i rfl hin (mem_ready.1 hr).1 j hle hj
  have non : ∀ ls, i ∈ Region.ready md ops ls → Region.ready md ops ls ≠ [] := fun ls hr e => by rw [e] at hr; cases hr
  induction f with
  | zero =>
    intro ls a inv _ hr hy H
    refine ⟨non ls hr, fun j hj => ⟨low ls inv hr j hj, ?_⟩⟩
    by_cases e : j = i
    · subst e; exact hy.qOp hi H
    · exact absurd (hL _ _ H j (ready_mono hj e)) (Nat.not_le.2 (low ls inv hr j hj))
  | succ f ih =>
    intro ls a inv free hr hy H
    refine ⟨non ls hr, fun j hj => ⟨low ls inv hr j hj, ?_⟩⟩
    by_cases e : j = i
    · subst e; exact hy.qOp hi H
    · obtain ⟨ju, p, hp, all⟩ := mem_ready.1 hj
      have noti : ∀ e ∈ p.after, Region.binds md e = true → e.on ≠ i := fun x hx hb he => by
        have t := all x hx hb
        rw [he, getD_both (mem_ready.1 hr).1] at t
        cases t
      have st := qOp_put hp (free j p hp e ju noti) (fun cs b => sel i o cs b hi) (fun cs b => sel j p cs b hp) hy (H.2 j (ready_mono hj e)).2
      refine qOp_mono (fun a' h3 => ih _ a' (inv.set hj (low ls inv hr j hj)) (fun k q hk hki hu hno => ?_) (ready_mono hr (fun c => e c.symm)) h3.1 ?_) st
      · refine free k q hk hki ?_ hno
        by_cases c : j = k
        · subst c; exact ju
        · rwa [getD_set_ne true c] at hu
      · rw [Array.setIfInBounds_comm _ _ e]; exact h3.2
theorem QL.lex {n g : Nat} {R : Act → Prop} (sel : Region.noSelect ops = true) (hs : Region.sinkB md ops n = true) (hc : Region.chainB md ops n = true) (hn : n < ops.size) (l : List Oper) :
    ∀ (k : Nat) (ls : Array Bool) (a : Act), (∀ j, j < l.length → l[j]? = ops[k + j]?) → k + l.length = n → HeadInv md ops n ls → Region.lexHead md ops g l.length k ls = true → wpQuiet P ops C R l a →
      QL P md ops C n (fun ls' a' => Region.seqB md ops g n ls' = true ∧ R a') l.length ls a := by
  induction l with
  | nil =>
    intro k ls a _ hk _ hB h
    obtain rfl : k = n := hk
    exact ⟨hB, h⟩
  | cons o l ih =>
    intro k ls a hl hk inv hB h
    have h0 : ops[k]? = some o := by simpa using (hl 0 (Nat.succ_pos _)).symm
    have kn : k < n := by rw [← hk]; exact Nat.lt_add_of_pos_right (Nat.succ_pos _)
    simp only [List.length_cons, Region.lexHead, Bool.and_eq_true] at hB
    have rk : k ∈ Region.ready md ops ls := by simpa using hB.1.1
    have q : qOp P ops C k (wpQuiet P ops C R l) a := by unfold qOp; simp only [h0]; exact h
    obtain ⟨v, hy, hK⟩ := yieldsIn_of_qOp h0 q
    refine QL.first h0 kn hn (Region.noSelect_spec sel) hs hc (fun ls' a' x => seqB_ready x.1) l.length ls a inv (Region.free_spec h0 hB.1.2) rk hy ?_
    refine ih (k + 1) _ _ (fun j hj => ?_) (by rw [← hk, List.length_cons]; omega) (inv.set rk kn) hB.2 hK
    have t := hl (j + 1) (by simpa using hj)
    rw [List.getElem?_cons_succ] at t
    rw [t]; congr 1; omega
/-- The law: the first n operations quiet in the class C, what is behind them in its own order. -/
theorem wp_region_quiet_tail {id : Nat} {Q : Exit → Act → World → Prop} {a : Act} {w : World} {l : List Oper} (n : Nat) (hm : P.follows .mixedOrders = true) (hB : Region.lexTailB .any l.toArray n = true)
    (hC : C { w with drawn := w.drawn + 1 }) (h : wpQuiet P l.toArray C (fun a' => ∀ w', C w' → wpList P l.toArray Q (l.drop n) a' w') (l.take n) a) : (Code.region id l.toArray true).wp P Q a w := by
  simp only [Region.lexTailB, Bool.and_eq_true, decide_eq_true_eq] at hB
  obtain ⟨⟨⟨⟨sel, hn⟩, hs⟩, hc⟩, lex⟩ := hB
  have ln : n < l.length := by simpa using hn
  have tl : (l.take n).length = n := by rw [List.length_take]; omega
  have dl : (l.drop n).length = l.toArray.size - n := by rw [List.length_drop]; simp
  have i0 : HeadInv .any l.toArray n (Array.replicate l.toArray.size false) :=
    ⟨by simp, fun j oj _ hl => (by rw [getD_replicate_false] at hl; cases hl), fun t _ ht => getD_in (by simpa using ht) (getD_replicate_false _ _)⟩
  have H := QL.lex (P := P) (C := C) (md := .any) (g := l.toArray.size - n) sel hs hc hn (l.take n) 0 _ a (fun j hj => by
    rw [tl] at hj
    simp [hj]) (by rw [tl]; omega) i0 (by rw [tl]; exact lex) h
  have K := QL.any (Q := Q) (g := l.toArray.size - n) (fun ls a' w' hw' hL => by
    have t := wpAny_of_seq (md := .any) (P := P) (Q' := Q) (l.drop n) n ls a' w' (fun j => by simp [List.getElem?_drop]) (by rw [dl]; exact hL.1) (hL.2 w' hw')
    rwa [dl] at t) _ _ a _ hC H
  rw [tl, show n + (l.toArray.size - n) = l.toArray.size by omega] at K
  exact wp_region_any hm K
/-- The same at the class 'what was there is as it was'. -/
theorem wp_region_below_tail {id : Nat} {Q : Exit → Act → World → Prop} {a : Act} {w : World} {l : List Oper} (n : Nat) (hm : P.follows .mixedOrders = true) (hB : Region.lexTailB .any l.toArray n = true)
    (h : wpQuiet P l.toArray (fun w' => ∃ p : Regrown, w' = grow (redrawn w p.d) p.os) (fun a' => ∀ w', (∃ p : Regrown, w' = grow (redrawn w p.d) p.os) → wpList P l.toArray Q (l.drop n) a' w') (l.take n) a) : (Code.region id l.toArray true).wp P Q a w :=
  wp_region_quiet_tail (C := fun w' => ∃ p : Regrown, w' = grow (redrawn w p.d) p.os) n hm hB ⟨⟨w.drawn + 1, #[]⟩, by rw [grow_empty]; rfl⟩ h
end
end Go.Proofs.Ytndfcecimckioaa
