/- A law on regions that draw their order: plain operations at the head (they touch no world, and may come up late), then operations that only read or call, then others in their order. -/
import Derived.Test.YtndfcecimckioaaZ9
set_option linter.all false
set_option autoImplicit false
namespace Go.Proofs.Ytndfcecimckioaa
open Go Go.Sort Go.RowKit
section
variable {P : Program} {ops : Array Oper} {md : Region.Mode} {C : World → Prop}
/-- Each operation from p on below n has one behind it, up to n, that waits for it. -/
def sinkP (md : Region.Mode) (ops : Array Oper) (p n : Nat) : Bool := (List.range n).all fun i => decide (i < p) || (List.range (n + 1)).any fun j => decide (i < j) && Region.waitsFor md ops j i
theorem tail_last {p n : Nat} {ls : Array Bool} (hs : sinkP md ops p n = true) (hc : Region.chainB md ops n = true) (inv : HeadInv md ops n ls) {t : Nat} (ht : n ≤ t) (hr : t ∈ Region.ready md ops ls) :
    ∀ d i, n - i = d → p ≤ i → i < n → ls.getD i false = true := by
  obtain ⟨_, ot, hot, hall⟩ := mem_ready.1 hr
  have tl : t < ops.size := (Array.getElem?_eq_some_iff.1 hot).1
  have tn : t = n := by
    rcases Nat.lt_or_ge n t with h | h
    · have c := List.all_eq_true.1 hc t (List.mem_range.2 tl)
      simp only [Bool.or_eq_true, decide_eq_true_eq] at c
      rcases c with c | c
      · omega
      · obtain ⟨o, ho, e, he, hb, on⟩ := Region.waitsFor_spec c
        obtain rfl : o = ot := Option.some.inj (ho.symm.trans hot)
        have x := hall e he hb
        rw [on, getD_both (inv.tail (t - 1) (by omega) (by omega))] at x
        cases x
    · omega
  subst tn
  intro d
  induction d using Nat.strongRecOn with
  | _ d ih =>
    intro i hd hp hi
    have s := List.all_eq_true.1 hs i (List.mem_range.2 hi)
    simp only [Bool.or_eq_true, decide_eq_true_eq] at s
    rcases s with s | s
    · omega
    · obtain ⟨j, hj, s⟩ := List.any_eq_true.1 s
      simp only [Bool.and_eq_true, decide_eq_true_eq] at s
      obtain ⟨o, ho, e, he, hb, on⟩ := Region.waitsFor_spec s.2
      have jt : j < t + 1 := List.mem_range.1 hj
      rcases Nat.lt_or_ge j t with h | h
      · have x := inv.closed j o ho (ih (t - j) (by omega) j rfl (by omega) h) e he hb
        rwa [on] at x
      · obtain rfl : j = t := by omega
        obtain rfl : o = ot := Option.some.inj (ho.symm.trans hot)
        have x := hall e he hb
        rwa [on] at x
theorem QL.firstP {p n i : Nat} {o : Oper} {v : Value} {L : Array Bool → Act → Prop} (hi : ops[i]? = some o) (hin : i < n) (hip : p ≤ i)
    (sel : ∀ (j : Nat) (p : Oper) cs b, ops[j]? = some p → p.op ≠ .select cs b) (hs : sinkP md ops p n = true) (hc : Region.chainB md ops n = true)
    (hL : ∀ ls a, L ls a → ∀ j, j ∈ Region.ready md ops ls → n ≤ j) (f : Nat) :
    ∀ ls a, HeadInv md ops n ls →
      (∀ j p, ops[j]? = some p → j ≠ i → ls.getD j true = false → (∀ e ∈ p.after, Region.binds md e = true → e.on ≠ i) → o.apart ops p = true) →
      i ∈ Region.ready md ops ls → YieldsIn P ops C o v a → QL P md ops C n L f (ls.setIfInBounds i true) (a.put o.dst v) → QL P md ops C n L (f + 1) ls a := by
  have low : ∀ ls, HeadInv md ops n ls → i ∈ Region.ready md ops ls → ∀ j, j ∈ Region.ready md ops ls → j < n := fun ls inv hr j hj =>
    Nat.lt_of_not_le fun hle => by
      have x := tail_last hs hc inv hle hj _ i rfl hip hin
      rw [getD_both (mem_ready.1 hr).1] at x
      cases x
  have non : ∀ ls, i ∈ Region.ready md ops ls → Region.ready md ops ls ≠ [] := fun ls hr e => by rw [e] at hr; cases hr
  induction f with
  | zero =>
    intro ls a inv _ hr hy H
    refine ⟨non ls hr, fun j hj => ⟨low ls inv hr j hj, ?_⟩⟩
    by_cases e : j = i
    · subst e; exact hy.qOp hi H
    · exact absurd (hL _ _ H j (ready_mono hj e)) (Nat.not_le.2 (low ls inv hr j hj))
  | succ f ih =>
    intro ls a inv free hr hy H
    refine ⟨non ls hr, fun j hj => ⟨low ls inv hr j hj, ?_⟩⟩
    by_cases e : j = i
    · subst e; exact hy.qOp hi H
    · obtain ⟨ju, p, hp, all⟩ := mem_ready.1 hj
      have noti : ∀ e ∈ p.after, Region.binds md e = true → e.on ≠ i := fun x hx hb he => by
        have t := all x hx hb
        rw [he, getD_both (mem_ready.1 hr).1] at t
        cases t
      have st := qOp_put hp (free j p hp e ju noti) (fun cs b => sel i o cs b hi) (fun cs b => sel j p cs b hp) hy (H.2 j (ready_mono hj e)).2
      refine qOp_mono (fun a' h3 => ih _ a' (inv.set hj (low ls inv hr j hj)) (fun k q hk hki hu hno => ?_) (ready_mono hr (fun c => e c.symm)) h3.1 ?_) st
      · refine free k q hk hki ?_ hno
        by_cases c : j = k
        · subst c; exact ju
        · rwa [getD_set_ne true c] at hu
      · rw [Array.setIfInBounds_comm _ _ e]; exact h3.2
theorem QL.lexP {p n g : Nat} {R : Act → Prop} (sel : Region.noSelect ops = true) (hs : sinkP md ops p n = true) (hc : Region.chainB md ops n = true) (l : List Oper) :
    ∀ (k : Nat) (ls : Array Bool) (a : Act), (∀ j, j < l.length → l[j]? = ops[k + j]?) → k + l.length = n → p ≤ k → HeadInv md ops n ls → Region.lexHead md ops g l.length k ls = true → wpQuiet P ops C R l a →
      QL P md ops C n (fun ls' a' => Region.seqB md ops g n ls' = true ∧ R a') l.length ls a := by
  induction l with
  | nil =>
    intro k ls a _ hk _ _ hB h
    obtain rfl : k = n := hk
    exact ⟨hB, h⟩
  | cons o l ih =>
    intro k ls a hl hk hp inv hB h
    have h0 : ops[k]? = some o := by simpa using (hl 0 (Nat.succ_pos _)).symm
    have kn : k < n := by rw [← hk]; exact Nat.lt_add_of_pos_right (Nat.succ_pos _)
    simp only [List.length_cons, Region.lexHead, Bool.and_eq_true] at hB
    have rk : k ∈ Region.ready md ops ls := by simpa using hB.1.1
    have q : qOp P ops C k (wpQuiet P ops C R l) a := by unfold qOp; simp only [h0]; exact h
    obtain ⟨v, hy, hK⟩ := yieldsIn_of_qOp h0 q
    refine QL.firstP h0 kn hp (Region.noSelect_spec sel) hs hc (fun ls' a' x => seqB_ready x.1) l.length ls a inv (Region.free_spec h0 hB.1.2) rk hy ?_
    refine ih (k + 1) _ _ (fun j hj => ?_) (by rw [← hk, List.length_cons]; omega) (by omega) (inv.set rk kn) hB.2 hK
    have t := hl (j + 1) (by simpa using hj)
    rw [List.getElem?_cons_succ] at t
    rw [t]; congr 1; omega
theorem pureB_inv {n : Nat} {F : Array Bool} : ∀ (f k : Nat) (ls : Array Bool), k + f ≤ n → HeadInv md ops n ls → pureB md ops F f k ls = true → HeadInv md ops n F := by
  intro f
  induction f with
  | zero => intro k ls _ inv h; have e : ls = F := by simpa [pureB] using h
            rw [← e]; exact inv
  | succ f ih =>
    intro k ls hk inv h
    simp only [pureB, Bool.and_eq_true] at h
    exact ih (k + 1) _ (by omega) (inv.set (by simpa using h.1.1) (by omega)) h.2
theorem wp_region_head_tail {id : Nat} {Q : Exit → Act → World → Prop} {a : Act} {w : World} {l : List Oper} (p m : Nat) (F : Array Bool) (hm : P.follows .mixedOrders = true)
    (hQ : ∀ c d v a w, Q (.panic c) (Act.put a d v) w → Q (.panic c) a w)
    (hB : (Region.noSelect l.toArray && decide (p + m < l.length) && pureB .any l.toArray F p 0 (Array.replicate l.length false) && sinkP .any l.toArray p (p + m) && Region.chainB .any l.toArray (p + m) &&
      Region.lexHead .any l.toArray (l.length - (p + m)) m p F) = true) (b : Act)
    (hp : pureTo P l.toArray (l.take p) a b)
    (h : wpQuiet P l.toArray (fun w' => ∃ p : Regrown, w' = grow (redrawn w p.d) p.os) (fun a' => ∀ w', (∃ p : Regrown, w' = grow (redrawn w p.d) p.os) → wpList P l.toArray Q (l.drop (p + m)) a' w') ((l.drop p).take m) b) :
    (Code.region id l.toArray true).wp P Q a w := by
  simp only [Bool.and_eq_true, decide_eq_true_eq] at hB
  obtain ⟨⟨⟨⟨⟨sel, hn⟩, pb⟩, sk⟩, ch⟩, lex⟩ := hB
  have sz : l.toArray.size = l.length := by simp
  have tl : ((l.drop p).take m).length = m := by rw [List.length_take, List.length_drop]; omega
  have tp : (l.take p).length = p := by rw [List.length_take]; omega
  have dl : (l.drop (p + m)).length = l.length - (p + m) := by rw [List.length_drop]
  have i0 : HeadInv .any l.toArray (p + m) (Array.replicate l.length false) :=
    ⟨by simp, fun j oj _ hl => (by rw [getD_replicate_false] at hl; cases hl), fun t _ ht => getD_in (by simpa using ht) (getD_replicate_false _ _)⟩
  have iF := pureB_inv p 0 _ (by omega) i0 pb
  have H := QL.lexP (P := P) (C := fun w' => ∃ p : Regrown, w' = grow (redrawn w p.d) p.os) (md := .any) (g := l.length - (p + m)) sel sk ch ((l.drop p).take m) p F b (fun j hj => by
    rw [tl] at hj
    simp [hj]) (by rw [tl]) (Nat.le_refl _) iF (by rw [tl]; exact lex) h
  rw [tl] at H
  have K := QL.any (Q := Q) (g := l.length - (p + m)) (fun ls a' w' hw' hL => by
    have t := wpAny_of_seq (md := .any) (P := P) (Q' := Q) (l.drop (p + m)) (p + m) ls a' w' (fun j => by simp [List.getElem?_drop]) (by rw [dl]; exact hL.1) (hL.2 w' hw')
    rw [dl] at t
    exact t) m _ b { w with drawn := w.drawn + 1 } ⟨⟨w.drawn + 1, #[]⟩, by rw [grow_empty]; rfl⟩ H
  have r := pure_any hQ sel K (l.take p) 0 (Array.replicate l.length false) a (fun j hj => by rw [tp] at hj; simp [hj]) (by rw [tp]; exact pb) hp
  rw [tp] at r
  rw [show m + (l.length - (p + m)) + p = l.toArray.size by omega, ← sz] at r
  exact wp_region_any hm r
end
end Go.Proofs.Ytndfcecimckioaa
