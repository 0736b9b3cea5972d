/- A law on regions that draw their order: operations that only read or call, then two that make variables (they may come up at any time), then stores. -/
import Derived.Test.YtndfcecimckioaaZ3
set_option linter.all false
set_option autoImplicit false
namespace Go.Proofs.Ytndfcecimckioaa
open Go Go.Sort Go.RowKit
section
variable {P : Program} {ops : Array Oper} {md : Region.Mode} {C : World → Prop} {n : Nat} {L : Array Bool → Act → Prop}
theorem QL.shift' {x : Oper} {p : Value} {m : Nat} (ap : ∀ i o, i < m → ops[i]? = some o → x.apart ops o = true) (sel : ∀ (j : Nat) (p : Oper) cs b, ops[j]? = some p → p.op ≠ .select cs b) (f : Nat) :
    ∀ ls a, (∀ i, m ≤ i → i < n → ls.getD i true = true) → QL P md ops C n L f ls a → QL P md ops C n (fun ls' a' => ∃ a0, L ls' a0 ∧ a' = a0.put x.dst p) f ls (a.put x.dst p) := by
  induction f with
  | zero => intro ls a _ h; exact ⟨a, h, rfl⟩
  | succ f ih =>
    intro ls a hα h
    refine ⟨h.1, fun i hi => ⟨(h.2 i hi).1, ?_⟩⟩
    obtain ⟨iu, o, ho, _⟩ := mem_ready.1 hi
    have lt : i < m := Nat.lt_of_not_le fun c => by rw [hα i c (h.2 i hi).1] at iu; cases iu
    refine qOp_mono (fun a' ⟨a0, h0, e⟩ => ?_) (qOp_shift (p := p) ho (ap i o lt ho) (fun cs b => sel i o cs b ho) (h.2 i hi).2)
    rw [e]
    refine ih _ _ (fun j hj hn => ?_) h0
    rw [getD_set_ne true (by omega)]; exact hα j hj hn
/-- The order of the text, c operations behind the first ones being through. -/
def lexC (md : Region.Mode) (ops : Array Oper) (g c : Nat) : Nat → Nat → Array Bool → Bool
  | 0, k, ls => Region.seqB md ops g (k + c) ls
  | f + 1, k, ls => (Region.ready md ops ls).contains k && Region.free md ops ls k && lexC md ops g c f (k + 1) (ls.setIfInBounds k true)
theorem QL.lexC {g c : Nat} {R : Act → Prop} (sel : Region.noSelect ops = true) (hs : Region.sinkB md ops n = true) (hc : Region.chainB md ops n = true) (hn : n < ops.size) (l : List Oper) :
    ∀ (k : Nat) (ls : Array Bool) (a : Act), (∀ j, j < l.length → l[j]? = ops[k + j]?) → k + l.length + c = n → HeadInv md ops n ls → lexC md ops g c l.length k ls = true → wpQuiet P ops C R l a →
      QL P md ops C n (fun ls' a' => Region.seqB md ops g n ls' = true ∧ R a') l.length ls a := by
  induction l with
  | nil =>
    intro k ls a _ hk _ hB h
    obtain rfl : k + c = n := hk
    exact ⟨hB, h⟩
  | cons o l ih =>
    intro k ls a hl hk inv hB h
    have h0 : ops[k]? = some o := by simpa using (hl 0 (Nat.succ_pos _)).symm
    have kn : k < n := by rw [List.length_cons] at hk; omega
    simp only [List.length_cons, Go.Proofs.Ytndfcecimckioaa.lexC, Bool.and_eq_true] at hB
    have rk : k ∈ Region.ready md ops ls := by simpa using hB.1.1
    have q : qOp P ops C k (wpQuiet P ops C R l) a := by unfold qOp; simp only [h0]; exact h
    obtain ⟨v, hy, hK⟩ := yieldsIn_of_qOp h0 q
    refine QL.first h0 kn hn (Region.noSelect_spec sel) hs hc (fun ls' a' x => seqB_ready x.1) l.length ls a inv (Region.free_spec h0 hB.1.2) rk hy ?_
    refine ih (k + 1) _ _ (fun j hj => ?_) (by rw [← hk, List.length_cons]; omega) (inv.set rk kn) hB.2 hK
    have t := hl (j + 1) (by simpa using hj)
    rw [List.getElem?_cons_succ] at t
    rw [t]; congr 1; omega
theorem flag_lt {ls : Array Bool} {m : Nat} (hu : ls.getD m true = false) : m < ls.size := by
  rcases Nat.lt_or_ge m ls.size with y | y
  · exact y
  · simp [Array.getElem?_eq_none y] at hu
/-- One alloc is left: the rest of the region, from any state in which the quiet operations still go as they should. -/
theorem one_left {Q : Exit → Act → World → Prop} {m g α : Nat} {x : Oper} {obj : Obj} {aF : Act} {w : World} {N : Nat} {tl : List Oper} (hxa : ops[α]? = some x) (hα : m ≤ α) (hαn : α < n) (xe : x.after = #[]) (xg : x.guard = none)
    (sel : ∀ (j : Nat) (p : Oper) cs b, ops[j]? = some p → p.op ≠ .select cs b) (hs : Region.sinkB .any ops n = true) (hc : Region.chainB .any ops n = true) (hn : n < ops.size)
    (hal : ∀ (a : Act) (w : World), (execOp a.eval x).run P w = .ok (.value (.pointer (some ⟨w.heap.size, 0, none⟩))) (w.alloc obj))
    (fact : ∀ j o, j < m → ops[j]? = some o → ∃ d, o.dst = some d ∧ d < N ∧ x.apart ops o = true ∧ ∀ i p, i < m → i ≠ j → ops[i]? = some p → p.dst ≠ some d)
    (htl : ∀ j, tl[j]? = ops[n + j]?) (hg : tl.length = g)
    (hT : ∀ w1 w2, Below w.heap.size w w1 → Below (w1.alloc obj).heap.size (w1.alloc obj) w2 → wpList P ops Q tl (aF.put x.dst (.pointer (some ⟨w1.heap.size, 0, none⟩))) w2) (f : Nat) :
    ∀ ls b (x1 : World), b.tmps.size = N → Below w.heap.size w x1 → HeadInv .any ops n ls → ls.getD α true = false → (∀ i, m ≤ i → i < n → i ≠ α → ls.getD i true = true) →
      (∀ W, Below w.heap.size w W → QL P .any ops (CW W) n (fun ls' a' => Region.seqB .any ops g n ls' = true ∧ a' = aF) f (ls.setIfInBounds α true) b) → wpAny P .any ops Q (f + 1 + g) ls b x1 := by
  have am : ∀ ls : Array Bool, ls.getD α true = false → α ∈ Region.ready .any ops ls := fun ls hu => mem_ready.2 ⟨hu, x, hxa, fun e he => by rw [xe] at he; simp at he⟩
  have post : ∀ f ls b (x1 w2 : World), (∀ i, m ≤ i → i < n → ls.getD i true = true) → Below w.heap.size w x1 → CW (x1.alloc obj) w2 → QL P .any ops (CW (x1.alloc obj)) n (fun ls' a' => Region.seqB .any ops g n ls' = true ∧ a' = aF) f ls b →
      wpAny P .any ops Q (f + g) ls (b.put x.dst (.pointer (some ⟨x1.heap.size, 0, none⟩))) w2 := by
    intro f ls b x1 w2 hu hx1 hw2 hq
    have sh := QL.shift' (x := x) (p := .pointer (some ⟨x1.heap.size, 0, none⟩)) (m := m) (fun i o hi ho => by
      obtain ⟨_, _, _, t, _⟩ := fact i o hi ho
      exact t) sel f ls b hu hq
    refine QL.any (Q := Q) (g := g) (fun ls' a' w' hw' hL' => ?_) f ls _ w2 hw2 sh
    obtain ⟨a0, ⟨hq1, rfl⟩, rfl⟩ := hL'
    have t := wpAny_of_seq (md := .any) (P := P) (ops := ops) (Q' := Q) tl n ls' (a0.put x.dst (.pointer (some ⟨x1.heap.size, 0, none⟩))) w' htl (by rw [hg]; exact hq1)
      (hT x1 w' hx1 (cw_bel hw'))
    rwa [hg] at t
  have setα : ∀ ls : Array Bool, ls.getD α true = false → (∀ i, m ≤ i → i < n → i ≠ α → ls.getD i true = true) → ∀ i, m ≤ i → i < n → (ls.setIfInBounds α true).getD i true = true := by
    intro ls hu ho i hi hn
    by_cases c : i = α
    · subst c; simp [flag_lt hu]
    · rw [getD_set_ne true (fun e => c e.symm)]; exact ho i hi hn c
  induction f with
  | zero =>
    intro ls b x1 hb hx1 inv hu ho ht
    rw [show 0 + 1 + g = g + 1 by omega]
    refine ⟨fun e => absurd (am ls hu) (by rw [e]; simp), fun i hi => ?_⟩
    by_cases c : i = α
    · subst c
      unfold wpOp
      simp only [hxa]
      rw [if_pos (by unfold Region.wanted; rw [xg])]
      left
      unfold Oper.wp
      rw [hal]
      have := post 0 (ls.setIfInBounds i true) b x1 (x1.alloc obj) (setα ls hu ho) hx1 (cw_self _) (ht _ (hx1.alloc hx1.size _))
      rw [Nat.zero_add] at this
      exact this
    · have q := ht x1 hx1
      exact absurd hi (tail_waits hs hc hn inv _ α rfl hαn hu i (seqB_ready q.1 i (ready_mono hi c)))
  | succ f ih =>
    intro ls b x1 hb hx1 inv hu ho ht
    rw [show f + 1 + 1 + g = f + 1 + g + 1 by omega]
    refine ⟨fun e => absurd (am ls hu) (by rw [e]; simp), fun i hi => ?_⟩
    by_cases c : i = α
    · subst c
      unfold wpOp
      simp only [hxa]
      rw [if_pos (by unfold Region.wanted; rw [xg])]
      left
      unfold Oper.wp
      rw [hal]
      exact post (f + 1) (ls.setIfInBounds i true) b x1 (x1.alloc obj) (setα ls hu ho) hx1 (cw_self _) (ht _ (hx1.alloc hx1.size _))
    · have hi2 := ready_mono (i := α) hi c
      have iln : i < n := ((ht x1 hx1).2 i hi2).1
      obtain ⟨iu, o, hoo, _⟩ := mem_ready.1 hi
      have ilt : i < m := Nat.lt_of_not_le fun k => by rw [ho i k iln c] at iu; cases iu
      obtain ⟨d, hd, hdb, _, dis⟩ := fact i o ilt hoo
      have st := T.step (w := w) (aF := aF) (fun _ _ h => h.2) ht hi2 hoo hd (by rw [hb]; exact hdb) (fun j p hj hju hne hp => by
        have jlt : j < m := Nat.lt_of_not_le fun k => by rw [setα ls hu ho j k hj] at hju; cases hju
        exact dis j p jlt hne hp)
      have yq := (st x1 hx1).1.qOp hoo (K := fun a' => a' = b.put o.dst (aF.tmps.getD d undef)) rfl
      refine wpOp_of_qOp (cw_self x1) (fun a' w' hw' e => ?_) yq
      rw [e]
      refine ih _ _ w' (by rw [put_size]; exact hb) (hx1.trans ((cw_bel hw').mono hx1.size)) (inv.set hi iln) (by rw [getD_set_ne true c]; exact hu) (fun j hj hjn hjα => by rw [getD_set_ne true (by omega)]; exact ho j hj hjn hjα) (fun W hW => ?_)
      rw [Array.setIfInBounds_comm _ _ c]
      exact (st W hW).2
theorem QL.weaken {L' : Array Bool → Act → Prop} (hw : ∀ ls a, L ls a → L' ls a) (f : Nat) : ∀ ls a, QL P md ops C n L f ls a → QL P md ops C n L' f ls a := by
  induction f with
  | zero => intro ls a h; exact hw _ _ h
  | succ f ih => intro ls a h; exact ⟨h.1, fun i hi => ⟨(h.2 i hi).1, qOp_mono (fun a' h3 => ih _ _ h3) (h.2 i hi).2⟩⟩
/-- What is asked of the operations' make. -/
def allocB2 (ops : Array Oper) (m N : Nat) : Bool :=
  match ops[m]?, ops[m + 1]? with
  | some x, some y => x.after.isEmpty && x.guard.isNone && y.after.isEmpty && y.guard.isNone && (List.range m).all fun j => match ops[j]? with
    | none => false
    | some p => (match p.dst with
      | none => false
      | some d => decide (d < N)) && x.apart ops p && y.apart ops p && (List.range m).all fun i => i == j || match ops[i]? with
        | none => true
        | some q => q.dst != p.dst
  | _, _ => false
theorem wp_region_alloc2_tail {id : Nat} {Q : Exit → Act → World → Prop} {a : Act} {w : World} {l : List Oper} (m : Nat) (hm : P.follows .mixedOrders = true)
    (hB : (Region.noSelect l.toArray && decide (m + 2 < l.length) && Region.sinkB .any l.toArray (m + 2) && Region.chainB .any l.toArray (m + 2) && lexC .any l.toArray (l.length - (m + 2)) 2 m 0 (((Array.replicate l.length false).setIfInBounds (m + 1) true).setIfInBounds m true)) = true)
    (hA : allocB2 l.toArray m a.tmps.size = true) (ox oy : Obj) (x y : Oper) (hx : l[m]? = some x) (hy : l[m + 1]? = some y)
    (hal : ∀ (a : Act) (w : World), (execOp a.eval x).run P w = .ok (.value (.pointer (some ⟨w.heap.size, 0, none⟩))) (w.alloc ox))
    (hbl : ∀ (a : Act) (w : World), (execOp a.eval y).run P w = .ok (.value (.pointer (some ⟨w.heap.size, 0, none⟩))) (w.alloc oy)) (aF : Act)
    (h : ∀ W, Below w.heap.size w W → wpQuiet P l.toArray (CW W) (fun a' => a' = aF) (l.take m) a)
    (hT1 : ∀ w1 w2 w3, Below w.heap.size w w1 → Below (w1.alloc ox).heap.size (w1.alloc ox) w2 → Below (w2.alloc oy).heap.size (w2.alloc oy) w3 →
      wpList P l.toArray Q (l.drop (m + 2)) ((aF.put x.dst (.pointer (some ⟨w1.heap.size, 0, none⟩))).put y.dst (.pointer (some ⟨w2.heap.size, 0, none⟩))) w3)
    (hT2 : ∀ w1 w2 w3, Below w.heap.size w w1 → Below (w1.alloc oy).heap.size (w1.alloc oy) w2 → Below (w2.alloc ox).heap.size (w2.alloc ox) w3 →
      wpList P l.toArray Q (l.drop (m + 2)) ((aF.put y.dst (.pointer (some ⟨w1.heap.size, 0, none⟩))).put x.dst (.pointer (some ⟨w2.heap.size, 0, none⟩))) w3) :
    (Code.region id l.toArray true).wp P Q a w := by
  simp only [Bool.and_eq_true, decide_eq_true_eq] at hB
  obtain ⟨⟨⟨⟨sel, hn⟩, hs⟩, hc⟩, lex⟩ := hB
  have hxa : l.toArray[m]? = some x := by simpa using hx
  have hya : l.toArray[m + 1]? = some y := by simpa using hy
  unfold allocB2 at hA
  rw [hxa, hya] at hA
  simp only [Bool.and_eq_true, List.all_eq_true, List.mem_range] at hA
  obtain ⟨⟨⟨⟨xe, xg⟩, ye⟩, yg⟩, hall⟩ := hA
  have xe' : x.after = #[] := by simpa using xe
  have xg' : x.guard = none := by simpa using xg
  have ye' : y.after = #[] := by simpa using ye
  have yg' : y.guard = none := by simpa using yg
  have hz : l.toArray.size = l.length := by simp
  have hn' : m + 2 < l.toArray.size := by rw [hz]; exact hn
  have tl : (l.take m).length = m := by rw [List.length_take]; omega
  have spec := Region.noSelect_spec sel
  have fact : ∀ j o, j < m → l.toArray[j]? = some o → ∃ d, o.dst = some d ∧ d < a.tmps.size ∧ x.apart l.toArray o = true ∧ y.apart l.toArray o = true ∧ ∀ i p, i < m → i ≠ j → l.toArray[i]? = some p → p.dst ≠ some d := by
    intro j o hj ho
    have t := hall j hj
    rw [ho] at t
    simp only [Bool.and_eq_true] at t
    obtain ⟨⟨⟨t1, t2⟩, t2'⟩, t3⟩ := t
    cases hd : o.dst with
    | none => rw [hd] at t1; cases t1
    | some d =>
      rw [hd] at t1
      refine ⟨d, rfl, by simpa using t1, t2, t2', fun i p hi hne hp => ?_⟩
      have u := List.all_eq_true.1 t3 i (List.mem_range.2 hi)
      rw [hp] at u
      simp only [Bool.or_eq_true, beq_iff_eq, bne_iff_ne] at u
      rcases u with u | u
      · exact absurd u hne
      · rw [hd] at u; exact u
  have factx : ∀ j o, j < m → l.toArray[j]? = some o → ∃ d, o.dst = some d ∧ d < a.tmps.size ∧ x.apart l.toArray o = true ∧ ∀ i p, i < m → i ≠ j → l.toArray[i]? = some p → p.dst ≠ some d := fun j o hj ho => by
    obtain ⟨d, h1, h2, h3, _, h5⟩ := fact j o hj ho
    exact ⟨d, h1, h2, h3, h5⟩
  have facty : ∀ j o, j < m → l.toArray[j]? = some o → ∃ d, o.dst = some d ∧ d < a.tmps.size ∧ y.apart l.toArray o = true ∧ ∀ i p, i < m → i ≠ j → l.toArray[i]? = some p → p.dst ≠ some d := fun j o hj ho => by
    obtain ⟨d, h1, h2, _, h3, h5⟩ := fact j o hj ho
    exact ⟨d, h1, h2, h3, h5⟩
  let g := l.length - (m + 2)
  have dl : (l.drop (m + 2)).length = g := by rw [List.length_drop]
  have htl : ∀ j, (l.drop (m + 2))[j]? = l.toArray[m + 2 + j]? := fun j => by simp [List.getElem?_drop]
  let L0 : Array Bool → Act → Prop := fun ls' a' => Region.seqB .any l.toArray g (m + 2) ls' = true ∧ a' = aF
  have i0 : HeadInv .any l.toArray (m + 2) (Array.replicate l.length false) :=
    ⟨by simp, fun j oj _ hl => (by rw [getD_replicate_false] at hl; cases hl), fun t _ ht => getD_in (by simpa using ht) (getD_replicate_false _ _)⟩
  have ax : ∀ ls : Array Bool, ls.getD m true = false → m ∈ Region.ready .any l.toArray ls := fun ls hu => mem_ready.2 ⟨hu, x, hxa, fun e he => by rw [xe'] at he; simp at he⟩
  have ay : ∀ ls : Array Bool, ls.getD (m + 1) true = false → m + 1 ∈ Region.ready .any l.toArray ls := fun ls hu => mem_ready.2 ⟨hu, y, hya, fun e he => by rw [ye'] at he; simp at he⟩
  have r0 : (Array.replicate l.length false).getD m true = false := getD_in (by simp; omega) (getD_replicate_false _ _)
  have r1 : (Array.replicate l.length false).getD (m + 1) true = false := getD_in (by simp; omega) (getD_replicate_false _ _)
  have T0 : ∀ W, Below w.heap.size w W → QL P .any l.toArray (CW W) (m + 2) L0 m (((Array.replicate l.length false).setIfInBounds (m + 1) true).setIfInBounds m true) a := fun W hW => by
    have t := QL.lexC (P := P) (C := CW W) (md := .any) (g := g) (c := 2) (n := m + 2) sel hs hc hn' (l.take m) 0 _ a (fun j hj => by
      rw [tl] at hj
      simp [hj]) (by rw [tl]; omega) ((i0.set (ay _ r1) (by omega)).set (ax _ (by rw [getD_set_ne true (by omega)]; exact r0)) (by omega)) (by rw [tl]; exact lex) (h W hW)
    rw [tl] at t
    exact t
  -- the first of the two comes up
  have goX : ∀ f ls b (x1 : World), b.tmps.size = a.tmps.size → Below w.heap.size w x1 → HeadInv .any l.toArray (m + 2) ls → ls.getD m true = false → ls.getD (m + 1) true = false →
      (∀ W, Below w.heap.size w W → QL P .any l.toArray (CW W) (m + 2) L0 f ((ls.setIfInBounds (m + 1) true).setIfInBounds m true) b) → wpOp P l.toArray Q m (wpAny P .any l.toArray Q (f + 1 + g) (ls.setIfInBounds m true)) b x1 := by
    intro f ls b x1 hb hx1 inv hu hv ht
    unfold wpOp
    simp only [hxa]
    rw [if_pos (by unfold Region.wanted; rw [xg'])]
    left
    unfold Oper.wp
    rw [hal]
    refine one_left (P := P) (n := m + 2) (m := m) (g := g) (α := m + 1) (x := y) (obj := oy) (aF := aF.put x.dst (.pointer (some ⟨x1.heap.size, 0, none⟩))) (w := x1.alloc ox) (N := a.tmps.size) (tl := l.drop (m + 2)) hya (by omega) (by omega) ye' yg' spec hs hc hn' hbl facty htl dl
      (fun w1 w2 h1 h2 => hT1 x1 w1 w2 hx1 h1 h2) f (ls.setIfInBounds m true) _ (x1.alloc ox) (by rw [put_size]; exact hb) (Below.refl _ _) (inv.set (ax ls hu) (by omega)) (by rw [getD_set_ne true (by omega)]; exact hv)
      (fun i h1 h2 h3 => by
        have : i = m := by omega
        subst this
        simp [flag_lt hu]) (fun W hW => ?_)
    have q := ht W ((hx1.alloc hx1.size ox).trans (hW.mono (by have := (hx1.alloc hx1.size ox).size; omega)))
    have sh := QL.shift' (x := x) (p := .pointer (some ⟨x1.heap.size, 0, none⟩)) (m := m) (fun i o hi ho => by
      obtain ⟨_, _, _, t, _⟩ := factx i o hi ho
      exact t) spec f _ b (fun i h1 h2 => by
        by_cases c : i = m
        · subst c; simp [flag_lt hu]
        · have : i = m + 1 := by omega
          subst this
          rw [getD_set_ne true (by omega)]; simp [flag_lt hv]) q
    rw [Array.setIfInBounds_comm _ _ (by omega)] at sh
    refine QL.weaken (fun ls' a' hl => ?_) f _ _ sh
    obtain ⟨a0, ⟨q1, rfl⟩, rfl⟩ := hl
    exact ⟨q1, rfl⟩
  have goY : ∀ f ls b (x1 : World), b.tmps.size = a.tmps.size → Below w.heap.size w x1 → HeadInv .any l.toArray (m + 2) ls → ls.getD m true = false → ls.getD (m + 1) true = false →
      (∀ W, Below w.heap.size w W → QL P .any l.toArray (CW W) (m + 2) L0 f ((ls.setIfInBounds (m + 1) true).setIfInBounds m true) b) → wpOp P l.toArray Q (m + 1) (wpAny P .any l.toArray Q (f + 1 + g) (ls.setIfInBounds (m + 1) true)) b x1 := by
    intro f ls b x1 hb hx1 inv hu hv ht
    unfold wpOp
    simp only [hya]
    rw [if_pos (by unfold Region.wanted; rw [yg'])]
    left
    unfold Oper.wp
    rw [hbl]
    refine one_left (P := P) (n := m + 2) (m := m) (g := g) (α := m) (x := x) (obj := ox) (aF := aF.put y.dst (.pointer (some ⟨x1.heap.size, 0, none⟩))) (w := x1.alloc oy) (N := a.tmps.size) (tl := l.drop (m + 2)) hxa (by omega) (by omega) xe' xg' spec hs hc hn' hal factx htl dl
      (fun w1 w2 h1 h2 => hT2 x1 w1 w2 hx1 h1 h2) f (ls.setIfInBounds (m + 1) true) _ (x1.alloc oy) (by rw [put_size]; exact hb) (Below.refl _ _) (inv.set (ay ls hv) (by omega)) (by rw [getD_set_ne true (by omega)]; exact hu)
      (fun i h1 h2 h3 => by
        have : i = m + 1 := by omega
        subst this
        simp [flag_lt hv]) (fun W hW => ?_)
    have q := ht W ((hx1.alloc hx1.size oy).trans (hW.mono (by have := (hx1.alloc hx1.size oy).size; omega)))
    have sh := QL.shift' (x := y) (p := .pointer (some ⟨x1.heap.size, 0, none⟩)) (m := m) (fun i o hi ho => by
      obtain ⟨_, _, _, t, _⟩ := facty i o hi ho
      exact t) spec f _ b (fun i h1 h2 => by
        by_cases c : i = m
        · subst c; simp [flag_lt hu]
        · have : i = m + 1 := by omega
          subst this
          rw [getD_set_ne true (by omega)]; simp [flag_lt hv]) q
    refine QL.weaken (fun ls' a' hl => ?_) f _ _ sh
    obtain ⟨a0, ⟨q1, rfl⟩, rfl⟩ := hl
    exact ⟨q1, rfl⟩
  have pre : ∀ f ls b (x1 : World), b.tmps.size = a.tmps.size → Below w.heap.size w x1 → HeadInv .any l.toArray (m + 2) ls → ls.getD m true = false → ls.getD (m + 1) true = false →
      (∀ W, Below w.heap.size w W → QL P .any l.toArray (CW W) (m + 2) L0 f ((ls.setIfInBounds (m + 1) true).setIfInBounds m true) b) → wpAny P .any l.toArray Q (f + 2 + g) ls b x1 := by
    intro f
    induction f with
    | zero =>
      intro ls b x1 hb hx1 inv hu hv ht
      rw [show 0 + 2 + g = 0 + 1 + g + 1 by omega]
      refine ⟨fun e => absurd (ax ls hu) (by rw [e]; simp), fun i hi => ?_⟩
      by_cases c : i = m
      · subst c; exact goX 0 ls b x1 hb hx1 inv hu hv ht
      by_cases c2 : i = m + 1
      · subst c2; exact goY 0 ls b x1 hb hx1 inv hu hv ht
      · have q := ht x1 hx1
        exact absurd hi (tail_waits hs hc hn' inv _ m rfl (by omega) hu i (seqB_ready q.1 i (ready_mono (ready_mono hi c2) c)))
    | succ f ih =>
      intro ls b x1 hb hx1 inv hu hv ht
      rw [show f + 1 + 2 + g = f + 1 + 1 + g + 1 by omega]
      refine ⟨fun e => absurd (ax ls hu) (by rw [e]; simp), fun i hi => ?_⟩
      by_cases c : i = m
      · subst c; exact goX (f + 1) ls b x1 hb hx1 inv hu hv ht
      by_cases c2 : i = m + 1
      · subst c2; exact goY (f + 1) ls b x1 hb hx1 inv hu hv ht
      · have hi2 := ready_mono (ready_mono hi c2) c
        have ilt : i < m := by have := ((ht x1 hx1).2 i hi2).1; omega
        obtain ⟨iu, o, ho, _⟩ := mem_ready.1 hi
        obtain ⟨d, hd, hdb, _, _, dis⟩ := fact i o ilt ho
        have st := T.step (w := w) (aF := aF) (fun _ _ h => h.2) ht hi2 ho hd (by rw [hb]; exact hdb) (fun j p hj hju hne hp => by
          by_cases cm : j = m
          · subst cm; simp [flag_lt hu] at hju
          by_cases cm2 : j = m + 1
          · subst cm2; rw [getD_set_ne true (by omega)] at hju; simp [flag_lt hv] at hju
          · exact dis j p (by omega) hne hp)
        have yq := (st x1 hx1).1.qOp ho (K := fun a' => a' = b.put o.dst (aF.tmps.getD d undef)) rfl
        refine wpOp_of_qOp (cw_self x1) (fun a' w' hw' e => ?_) yq
        rw [e]
        refine ih _ _ w' (by rw [put_size]; exact hb) (hx1.trans ((cw_bel hw').mono hx1.size)) (inv.set hi (by omega)) (by rw [getD_set_ne true c]; exact hu) (by rw [getD_set_ne true c2]; exact hv) (fun W hW => ?_)
        rw [Array.setIfInBounds_comm _ _ c2, Array.setIfInBounds_comm _ _ c]
        exact (st W hW).2
  have fin := pre m (Array.replicate l.length false) a { w with drawn := w.drawn + 1 } rfl (Below.drew (Below.refl _ _)) i0 r0 r1 T0
  rw [show m + 2 + g = l.toArray.size by rw [hz]; omega] at fin
  refine wp_region_any hm ?_
  rw [hz]
  rw [hz] at fin
  exact fin
end
end Go.Proofs.Ytndfcecimckioaa
