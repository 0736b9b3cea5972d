/- A law on regions that draw their order: operations that only read or call, then plain ones (they touch no world), one that makes a variable (it may come up at any time), then others in their order. -/
import Derived.Test.YtndfcecimckioaaZ4
set_option linter.all false
set_option autoImplicit false
namespace Go.Proofs.Ytndfcecimckioaa
open Go Go.Sort Go.RowKit
section
variable {P : Program} {ops : Array Oper} {md : Region.Mode} {C : World → Prop} {n : Nat} {L : Array Bool → Act → Prop}
/-- Whatever comes up in f steps is below n. -/
def exB (md : Region.Mode) (ops : Array Oper) (n : Nat) : Nat → Array Bool → Bool
  | 0, _ => true
  | f + 1, ls => (Region.ready md ops ls).all fun i => decide (i < n) && exB md ops n f (ls.setIfInBounds i true)
theorem exB.step {f : Nat} {ls : Array Bool} (h : exB md ops n (f + 1) ls = true) {i : Nat} (hi : i ∈ Region.ready md ops ls) : i < n ∧ exB md ops n f (ls.setIfInBounds i true) = true := by
  unfold exB at h
  have := List.all_eq_true.1 h i hi
  simpa using this
theorem QL.first' {i : Nat} {o : Oper} {v : Value} (hi : ops[i]? = some o)
    (sel : ∀ (j : Nat) (p : Oper) cs b, ops[j]? = some p → p.op ≠ .select cs b)
    (hL : ∀ ls a, L ls a → ∀ j, j ∈ Region.ready md ops ls → n ≤ j) (f : Nat) :
    ∀ ls a, exB md ops n (f + 1) ls = true →
      (∀ j p, ops[j]? = some p → j ≠ i → ls.getD j true = false → (∀ e ∈ p.after, Region.binds md e = true → e.on ≠ i) → o.apart ops p = true) →
      i ∈ Region.ready md ops ls → YieldsIn P ops C o v a → QL P md ops C n L f (ls.setIfInBounds i true) (a.put o.dst v) → QL P md ops C n L (f + 1) ls a := by
  have non : ∀ ls, i ∈ Region.ready md ops ls → Region.ready md ops ls ≠ [] := fun ls hr e => by rw [e] at hr; cases hr
  induction f with
  | zero =>
    intro ls a ex _ hr hy H
    refine ⟨non ls hr, fun j hj => ⟨(exB.step ex hj).1, ?_⟩⟩
    by_cases e : j = i
    · subst e; exact hy.qOp hi H
    · exact absurd (hL _ _ H j (ready_mono hj e)) (Nat.not_le.2 (exB.step ex hj).1)
  | succ f ih =>
    intro ls a ex free hr hy H
    refine ⟨non ls hr, fun j hj => ⟨(exB.step ex hj).1, ?_⟩⟩
    by_cases e : j = i
    · subst e; exact hy.qOp hi H
    · obtain ⟨ju, p, hp, all⟩ := mem_ready.1 hj
      have noti : ∀ e ∈ p.after, Region.binds md e = true → e.on ≠ i := fun x hx hb he => by
        have t := all x hx hb
        rw [he, getD_both (mem_ready.1 hr).1] at t
        cases t
      have st := qOp_put hp (free j p hp e ju noti) (fun cs b => sel i o cs b hi) (fun cs b => sel j p cs b hp) hy (H.2 j (ready_mono hj e)).2
      refine qOp_mono (fun a' h3 => ih _ a' (exB.step ex hj).2 (fun k q hk hki hu hno => ?_) (ready_mono hr (fun c => e c.symm)) h3.1 ?_) st
      · refine free k q hk hki ?_ hno
        by_cases c : j = k
        · subst c; exact ju
        · rwa [getD_set_ne true c] at hu
      · rw [Array.setIfInBounds_comm _ _ e]; exact h3.2
/-- The order of the text for the first operations; E is what is through behind them. -/
def lexE (md : Region.Mode) (ops : Array Oper) (n : Nat) (E : Array Bool) : Nat → Nat → Array Bool → Bool
  | 0, _, ls => decide (ls = E)
  | f + 1, k, ls => (Region.ready md ops ls).contains k && Region.free md ops ls k && exB md ops n (f + 1) ls && lexE md ops n E f (k + 1) (ls.setIfInBounds k true)
theorem QL.lexE {E : Array Bool} {R : Act → Prop} (sel : Region.noSelect ops = true) (hE : ∀ j, j ∈ Region.ready md ops E → n ≤ j) (l : List Oper) :
    ∀ (k : Nat) (ls : Array Bool) (a : Act), (∀ j, j < l.length → l[j]? = ops[k + j]?) → lexE md ops n E l.length k ls = true → wpQuiet P ops C R l a →
      QL P md ops C n (fun ls' a' => ls' = E ∧ R a') l.length ls a := by
  induction l with
  | nil =>
    intro k ls a _ hB h
    exact ⟨by simpa [Go.Proofs.Ytndfcecimckioaa.lexE] using hB, h⟩
  | cons o l ih =>
    intro k ls a hl hB h
    have h0 : ops[k]? = some o := by simpa using (hl 0 (Nat.succ_pos _)).symm
    simp only [List.length_cons, Go.Proofs.Ytndfcecimckioaa.lexE, Bool.and_eq_true] at hB
    have rk : k ∈ Region.ready md ops ls := by simpa using hB.1.1.1
    have q : qOp P ops C k (wpQuiet P ops C R l) a := by unfold qOp; simp only [h0]; exact h
    obtain ⟨v, hy, hK⟩ := yieldsIn_of_qOp h0 q
    refine QL.first' h0 (Region.noSelect_spec sel) (fun ls' a' x => by rw [x.1]; exact hE) l.length ls a hB.1.2 (Region.free_spec h0 hB.1.1.2) rk hy ?_
    refine ih (k + 1) _ _ (fun j hj => ?_) hB.2 hK
    have t := hl (j + 1) (by simpa using hj)
    rw [List.getElem?_cons_succ] at t
    rw [t]; congr 1; omega
/-- Operations that touch no world take a to b. -/
def pureTo (P : Program) (ops : Array Oper) : List Oper → Act → Act → Prop
  | [], a, b => a = b
  | o :: l, a, b => ∃ v, Yields P ops o v a ∧ pureTo P ops l (a.put o.dst v) b
def pureB (md : Region.Mode) (ops : Array Oper) (E : Array Bool) : Nat → Nat → Array Bool → Bool
  | 0, _, ls => decide (ls = E)
  | f + 1, k, ls => (Region.ready md ops ls).contains k && Region.free md ops ls k && pureB md ops E f (k + 1) (ls.setIfInBounds k true)
theorem pure_any {Q : Exit → Act → World → Prop} (hQ : ∀ c d v a w, Q (.panic c) (Act.put a d v) w → Q (.panic c) a w) (sel : Region.noSelect ops = true) {E : Array Bool} {b : Act} {w : World} {g : Nat} (fin : wpAny P md ops Q g E b w) (l : List Oper) :
    ∀ (k : Nat) (ls : Array Bool) (a : Act), (∀ j, j < l.length → l[j]? = ops[k + j]?) → pureB md ops E l.length k ls = true → pureTo P ops l a b → wpAny P md ops Q (g + l.length) ls a w := by
  induction l with
  | nil =>
    intro k ls a _ hB h
    have e1 : ls = E := by simpa [pureB] using hB
    have e2 : a = b := h
    rw [e1, e2]
    exact fin
  | cons o l ih =>
    intro k ls a hl hB h
    have h0 : ops[k]? = some o := by simpa using (hl 0 (Nat.succ_pos _)).symm
    simp only [List.length_cons, pureB, Bool.and_eq_true] at hB
    have rk : k ∈ Region.ready md ops ls := by simpa using hB.1.1
    obtain ⟨v, hy, hK⟩ := h
    refine wpAny_first h0 (Region.noSelect_spec sel) (fun c a w => hQ c _ _ a w) _ ls a w (Region.free_spec h0 hB.1.2) rk hy ?_
    refine ih (k + 1) _ _ (fun j hj => ?_) hB.2 hK
    have t := hl (j + 1) (by simpa using hj)
    rw [List.getElem?_cons_succ] at t
    rw [t]; congr 1; omega
theorem one_left2 {Q : Exit → Act → World → Prop} {m g α : Nat} {x : Oper} {obj : Obj} {aF : Act} {w : World} {N : Nat} (hxa : ops[α]? = some x) (hα : m ≤ α) (xe : x.after = #[]) (xg : x.guard = none)
    (sel : ∀ (j : Nat) (p : Oper) cs b, ops[j]? = some p → p.op ≠ .select cs b)
    (hal : ∀ (a : Act) (w : World), (execOp a.eval x).run P w = .ok (.value (.pointer (some ⟨w.heap.size, 0, none⟩))) (w.alloc obj))
    (fact : ∀ j o, j < m → ops[j]? = some o → ∃ d, o.dst = some d ∧ d < N ∧ x.apart ops o = true ∧ ∀ i p, i < m → i ≠ j → ops[i]? = some p → p.dst ≠ some d)
    (hLa : ∀ ls a, L ls a → a = aF)
    (fin1 : ∀ ls b x1, ls.getD α true = false → L (ls.setIfInBounds α true) b → Below w.heap.size w x1 → wpAny P .any ops Q (g + 1) ls b x1)
    (fin2 : ∀ ls x1 w2, L ls aF → Below w.heap.size w x1 → Below (x1.alloc obj).heap.size (x1.alloc obj) w2 → wpAny P .any ops Q g ls (aF.put x.dst (.pointer (some ⟨x1.heap.size, 0, none⟩))) w2) (f : Nat) :
    ∀ ls b (x1 : World), b.tmps.size = N → Below w.heap.size w x1 → ls.getD α true = false →
      (∀ W, Below w.heap.size w W → QL P .any ops (CW W) m L f (ls.setIfInBounds α true) b) → wpAny P .any ops Q (f + 1 + g) ls b x1 := by
  have am : ∀ ls : Array Bool, ls.getD α true = false → α ∈ Region.ready .any ops ls := fun ls hu => mem_ready.2 ⟨hu, x, hxa, fun e he => by rw [xe] at he; simp at he⟩
  have post : ∀ f ls b (x1 w2 : World), Below w.heap.size w x1 → CW (x1.alloc obj) w2 → QL P .any ops (CW (x1.alloc obj)) m L f ls b →
      wpAny P .any ops Q (f + g) ls (b.put x.dst (.pointer (some ⟨x1.heap.size, 0, none⟩))) w2 := by
    intro f ls b x1 w2 hx1 hw2 hq
    have sh := QL.shift' (x := x) (p := .pointer (some ⟨x1.heap.size, 0, none⟩)) (m := m) (fun i o hi ho => by
      obtain ⟨_, _, _, t, _⟩ := fact i o hi ho
      exact t) sel f ls b (fun i h1 h2 => by omega) hq
    refine QL.any (Q := Q) (g := g) (fun ls' a' w' hw' hL' => ?_) f ls _ w2 hw2 sh
    obtain ⟨a0, hq1, rfl⟩ := hL'
    obtain rfl := hLa _ _ hq1
    exact fin2 ls' x1 w' hq1 hx1 (cw_bel hw')
  induction f with
  | zero =>
    intro ls b x1 hb hx1 hu ht
    rw [show 0 + 1 + g = g + 1 by omega]
    exact fin1 ls b x1 hu (ht x1 hx1) hx1
  | succ f ih =>
    intro ls b x1 hb hx1 hu ht
    rw [show f + 1 + 1 + g = f + 1 + g + 1 by omega]
    refine ⟨fun e => absurd (am ls hu) (by rw [e]; simp), fun i hi => ?_⟩
    by_cases c : i = α
    · subst c
      unfold wpOp
      simp only [hxa]
      rw [if_pos (by unfold Region.wanted; rw [xg])]
      left
      unfold Oper.wp
      rw [hal]
      exact post (f + 1) (ls.setIfInBounds i true) b x1 (x1.alloc obj) hx1 (cw_self _) (ht _ (hx1.alloc hx1.size _))
    · have hi2 := ready_mono (i := α) hi c
      have iln : i < m := ((ht x1 hx1).2 i hi2).1
      obtain ⟨iu, o, hoo, _⟩ := mem_ready.1 hi
      obtain ⟨d, hd, hdb, _, dis⟩ := fact i o iln hoo
      have st := T.step (w := w) (aF := aF) hLa ht hi2 hoo hd (by rw [hb]; exact hdb) (fun j p hj hju hne hp => dis j p hj hne hp)
      have yq := (st x1 hx1).1.qOp hoo (K := fun a' => a' = b.put o.dst (aF.tmps.getD d undef)) rfl
      refine wpOp_of_qOp (cw_self x1) (fun a' w' hw' e => ?_) yq
      rw [e]
      refine ih _ _ w' (by rw [put_size]; exact hb) (hx1.trans ((cw_bel hw').mono hx1.size)) (by rw [getD_set_ne true c]; exact hu) (fun W hW => ?_)
      rw [Array.setIfInBounds_comm _ _ c]
      exact (st W hW).2
/-- What is asked of the operations' make. -/
def allocB3 (ops : Array Oper) (m α N : Nat) : Bool :=
  match ops[α]? with
  | none => false
  | some x => x.after.isEmpty && x.guard.isNone && (List.range m).all fun j => match ops[j]? with
    | none => false
    | some p => (match p.dst with
      | none => false
      | some d => decide (d < N)) && x.apart ops p && (List.range m).all fun i => i == j || match ops[i]? with
        | none => true
        | some q => q.dst != p.dst
theorem flag_back {ls : Array Bool} {α : Nat} (hu : ls.getD α true = false) : ls = (ls.setIfInBounds α true).setIfInBounds α false := by
  have lt := flag_lt hu
  apply Array.ext
  · simp
  · intro i h1 h2
    by_cases c : α = i
    · subst c
      simp [lt] at hu
      simp [hu]
    · rw [Array.getElem_setIfInBounds_ne (by simpa using h1) c, Array.getElem_setIfInBounds_ne h1 c]
theorem wp_region_pure_tail {id : Nat} {Q : Exit → Act → World → Prop} {a : Act} {w : World} {l : List Oper} (m p : Nat) (E F : Array Bool) (hm : P.follows .mixedOrders = true)
    (hQ : ∀ c d v a w, Q (.panic c) (Act.put a d v) w → Q (.panic c) a w)
    (hB : (Region.noSelect l.toArray && decide (m + p + 1 ≤ l.length) && lexE .any l.toArray m E m 0 ((Array.replicate l.length false).setIfInBounds (m + p) true) && (Region.ready .any l.toArray E).all (fun j => decide (m ≤ j)) &&
      pureB .any l.toArray (F.setIfInBounds (m + p) true) p m E && pureB .any l.toArray F p m (E.setIfInBounds (m + p) false) && decide (Region.ready .any l.toArray F = [m + p]) && Region.seqB .any l.toArray (l.length - (m + p + 1)) (m + p + 1) (F.setIfInBounds (m + p) true)) = true)
    (hA : allocB3 l.toArray m (m + p) a.tmps.size = true) (obj : Obj) (x : Oper) (hx : l[m + p]? = some x)
    (hal : ∀ (a : Act) (w : World), (execOp a.eval x).run P w = .ok (.value (.pointer (some ⟨w.heap.size, 0, none⟩))) (w.alloc obj)) (aF aG : Act)
    (h : ∀ W, Below w.heap.size w W → wpQuiet P l.toArray (CW W) (fun a' => a' = aF) (l.take m) a)
    (hp : pureTo P l.toArray ((l.drop m).take p) aF aG) (hp' : ∀ v, pureTo P l.toArray ((l.drop m).take p) (aF.put x.dst v) (aG.put x.dst v))
    (hT : ∀ w1 w2, Below w.heap.size w w1 → Below (w1.alloc obj).heap.size (w1.alloc obj) w2 → wpList P l.toArray Q (l.drop (m + p + 1)) (aG.put x.dst (.pointer (some ⟨w1.heap.size, 0, none⟩))) w2) :
    (Code.region id l.toArray true).wp P Q a w := by
  simp only [Bool.and_eq_true, decide_eq_true_eq] at hB
  obtain ⟨⟨⟨⟨⟨⟨⟨sel, hn⟩, lex⟩, hE⟩, pb1⟩, pb2⟩, hF⟩, sq⟩ := hB
  have hxa : l.toArray[m + p]? = some x := by simpa using hx
  unfold allocB3 at hA
  rw [hxa] at hA
  simp only [Bool.and_eq_true, List.all_eq_true, List.mem_range] at hA
  obtain ⟨⟨xe, xg⟩, hall⟩ := hA
  have xe' : x.after = #[] := by simpa using xe
  have xg' : x.guard = none := by simpa using xg
  have hz : l.toArray.size = l.length := by simp
  have tl : (l.take m).length = m := by rw [List.length_take]; omega
  have tp : ((l.drop m).take p).length = p := by rw [List.length_take, List.length_drop]; omega
  have spec := Region.noSelect_spec sel
  have fact : ∀ j o, j < m → l.toArray[j]? = some o → ∃ d, o.dst = some d ∧ d < a.tmps.size ∧ x.apart l.toArray o = true ∧ ∀ i p, i < m → i ≠ j → l.toArray[i]? = some p → p.dst ≠ some d := by
    intro j o hj ho
    have t := hall j hj
    rw [ho] at t
    simp only [Bool.and_eq_true] at t
    obtain ⟨⟨t1, t2⟩, t3⟩ := t
    cases hd : o.dst with
    | none => rw [hd] at t1; cases t1
    | some d =>
      rw [hd] at t1
      refine ⟨d, rfl, by simpa using t1, t2, fun i p hi hne hp => ?_⟩
      have u := List.all_eq_true.1 t3 i (List.mem_range.2 hi)
      rw [hp] at u
      simp only [Bool.or_eq_true, beq_iff_eq, bne_iff_ne] at u
      rcases u with u | u
      · exact absurd u hne
      · rw [hd] at u; exact u
  let g := l.length - (m + p + 1)
  have dl : (l.drop (m + p + 1)).length = g := by rw [List.length_drop]
  have r0 : (Array.replicate l.length false).getD (m + p) true = false := getD_in (by simp; omega) (getD_replicate_false _ _)
  have pl : ∀ j, j < ((l.drop m).take p).length → ((l.drop m).take p)[j]? = l.toArray[m + j]? := fun j hj => by
    rw [tp] at hj
    simp [List.getElem?_take, hj, List.getElem?_drop]
  have tail : ∀ w1 w2, Below w.heap.size w w1 → Below (w1.alloc obj).heap.size (w1.alloc obj) w2 → wpAny P .any l.toArray Q g (F.setIfInBounds (m + p) true) (aG.put x.dst (.pointer (some ⟨w1.heap.size, 0, none⟩))) w2 := fun w1 w2 h1 h2 => by
    have t := wpAny_of_seq (md := .any) (P := P) (ops := l.toArray) (Q' := Q) (l.drop (m + p + 1)) (m + p + 1) (F.setIfInBounds (m + p) true) (aG.put x.dst (.pointer (some ⟨w1.heap.size, 0, none⟩))) w2 (fun j => by simp [List.getElem?_drop]) (by rw [dl]; exact sq) (hT w1 w2 h1 h2)
    rwa [dl] at t
  have fin := one_left2 (P := P) (Q := Q) (m := m) (g := g + p) (α := m + p) (aF := aF) (w := w) (N := a.tmps.size) (L := fun ls' a' => ls' = E ∧ a' = aF) hxa (by omega) xe' xg' spec hal fact (fun _ _ h => h.2)
    (fun ls b x1 hu hL hx1 => by
      have e : ls = E.setIfInBounds (m + p) false := by rw [flag_back hu, hL.1]
      rw [e, hL.2]
      have t := pure_any (P := P) (md := .any) (ops := l.toArray) hQ sel (E := F) (b := aG) (w := x1) (g := g + 1) (by
        refine ⟨fun e => (by rw [hF] at e; cases e), fun i hi => ?_⟩
        rw [hF] at hi
        obtain rfl : i = m + p := by simpa using hi
        unfold wpOp
        simp only [hxa]
        rw [if_pos (by unfold Region.wanted; rw [xg'])]
        left
        unfold Oper.wp
        rw [hal]
        exact tail x1 _ hx1 (Below.refl _ _)) ((l.drop m).take p) m (E.setIfInBounds (m + p) false) aF pl (by rw [tp]; exact pb2) hp
      rw [tp] at t
      rw [show g + p + 1 = g + 1 + p by omega]
      exact t)
    (fun ls x1 w2 hL hx1 hw2 => by
      rw [hL.1]
      have t := pure_any (P := P) (md := .any) (ops := l.toArray) hQ sel (tail x1 w2 hx1 hw2) ((l.drop m).take p) m E _ pl (by rw [tp]; exact pb1) (hp' _)
      rw [tp] at t
      exact t) m (Array.replicate l.length false) a { w with drawn := w.drawn + 1 } rfl (Below.drew (Below.refl _ _)) r0 (fun W hW => by
      have t := QL.lexE (P := P) (C := CW W) (md := .any) (n := m) (E := E) sel (fun j hj => by simpa using List.all_eq_true.1 hE j hj) (l.take m) 0 _ a (fun j hj => by
        rw [tl] at hj
        simp [hj]) (by rw [tl]; exact lex) (h W hW)
      rw [tl] at t
      exact t)
  rw [show m + 1 + (g + p) = l.toArray.size by rw [hz]; omega] at fin
  refine wp_region_any hm ?_
  rw [hz]
  rw [hz] at fin
  exact fin
end
end Go.Proofs.Ytndfcecimckioaa
