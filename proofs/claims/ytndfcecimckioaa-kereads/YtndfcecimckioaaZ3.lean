/- A law on regions that draw their order: operations that only read or call, then one that makes a variable (it may come up at any time), then stores. -/
import Derived.Test.YtndfcecimckioaaZ1
set_option linter.all false
set_option autoImplicit false
namespace Go.Proofs.Ytndfcecimckioaa
open Go Go.Sort Go.RowKit
section
variable {P : Program} {ops : Array Oper} {md : Region.Mode} {C : World → Prop} {n : Nat} {L : Array Bool → Act → Prop}
/-- W, with whatever was laid behind it. -/
abbrev CW (W : World) : World → Prop := fun w' => ∃ p : Regrown, w' = grow (redrawn W p.d) p.os
theorem cw_self (W : World) : CW W W := ⟨⟨W.drawn, #[]⟩, by rw [grow_empty]; rfl⟩
theorem cw_bel {W w' : World} (h : CW W w') : Below W.heap.size W w' := by obtain ⟨p, rfl⟩ := h; exact below_regrown _ _ _
theorem put_size (a : Act) (d : Option Tmp) (v : Value) : (a.put d v).tmps.size = a.tmps.size := by cases d <;> simp [Act.put]
theorem put_get (a : Act) (d : Nat) (v : Value) (h : d < a.tmps.size) : (a.put (some d) v).tmps.getD d undef = v := by simp [Act.put, h]
theorem put_oth (a : Act) (x : Option Tmp) (d : Nat) (v : Value) (h : x ≠ some d) : (a.put x v).tmps.getD d undef = a.tmps.getD d undef := by
  cases x with
  | none => rfl
  | some e =>
    have ne : e ≠ d := fun c => h (by rw [c])
    simp [Act.put, Array.getElem?_setIfInBounds_ne ne]
theorem QL.pin {aF : Act} (hL : ∀ ls a, L ls a → a = aF) (d : Nat) (f : Nat) : ∀ ls a, (∀ i o, i < n → ls.getD i true = false → ops[i]? = some o → o.dst ≠ some d) → QL P md ops C n L f ls a →
    a.tmps.getD d undef = aF.tmps.getD d undef := by
  induction f with
  | zero => intro ls a _ h; rw [hL _ _ h]
  | succ f ih =>
    intro ls a hd h
    cases hr : Region.ready md ops ls with
    | nil => exact absurd hr h.1
    | cons i r =>
      have hi : i ∈ Region.ready md ops ls := by rw [hr]; exact List.mem_cons_self
      obtain ⟨iu, o, ho, _⟩ := mem_ready.1 hi
      obtain ⟨v, _, hK⟩ := yieldsIn_of_qOp ho (h.2 i hi).2
      have t := ih _ _ (fun j p hj hu hp => by
        by_cases c : i = j
        · subst c
          have hlt : i < ls.size := by
            rcases Nat.lt_or_ge i ls.size with x | x
            · exact x
            · simp [Array.getElem?_eq_none x] at iu
          simp [hlt] at hu
        · rw [getD_set_ne true c] at hu
          exact hd j p hj hu hp) hK
      rw [put_oth _ _ _ _ (hd i o (h.2 i hi).1 iu ho)] at t
      exact t
theorem T.step {w : World} {aF : Act} (hL : ∀ ls a, L ls a → a = aF) {f : Nat} {ls : Array Bool} {a : Act} (h : ∀ W, Below w.heap.size w W → QL P md ops (CW W) n L (f + 1) ls a) {j d : Nat} {o : Oper}
    (hj : j ∈ Region.ready md ops ls) (ho : ops[j]? = some o) (hd : o.dst = some d) (hb : d < a.tmps.size) (dis : ∀ i p, i < n → ls.getD i true = false → i ≠ j → ops[i]? = some p → p.dst ≠ some d) :
    ∀ W, Below w.heap.size w W → YieldsIn P ops (CW W) o (aF.tmps.getD d undef) a ∧ QL P md ops (CW W) n L f (ls.setIfInBounds j true) (a.put o.dst (aF.tmps.getD d undef)) := by
  intro W hW
  obtain ⟨v, hy, hK⟩ := yieldsIn_of_qOp ho ((h W hW).2 j hj).2
  have ju := (mem_ready.1 hj).1
  have hlt : j < ls.size := by
    rcases Nat.lt_or_ge j ls.size with x | x
    · exact x
    · simp [Array.getElem?_eq_none x] at ju
  have e : v = aF.tmps.getD d undef := by
    rw [← QL.pin hL d f _ _ (fun i p hi hu hp => ?_) hK, hd, put_get _ _ _ hb]
    by_cases c : i = j
    · subst c; simp [hlt] at hu
    · rw [getD_set_ne true (fun x => c x.symm)] at hu
      exact dis i p hi hu c hp
  rw [← e]
  exact ⟨hy, hK⟩
theorem qOp_shift {x o : Oper} {p : Value} {i : Nat} (ho : ops[i]? = some o) (hap : x.apart ops o = true) (hs : ∀ cs b, o.op ≠ .select cs b) {K : Act → Prop} {a : Act} (h : qOp P ops C i K a) :
    qOp P ops C i (fun a' => ∃ a0, K a0 ∧ a' = a0.put x.dst p) (a.put x.dst p) := by
  obtain ⟨h1, h2, h3⟩ := Oper.apart_spec hap
  unfold qOp at *
  simp only [ho] at *
  rw [wanted_put o a x.dst p h1]
  split
  · rename_i hw
    simp only [hw, if_true] at h
    obtain ⟨u, hu, hn⟩ := h
    refine ⟨u, fun w hw' => ?_, _, hn, Act.put_comm a p u h2⟩
    have t := hu w hw'
    unfold Oper.quietAt at *
    rwa [execOp_put o hs a x.dst p h1]
  · rename_i hw
    simp only [hw] at h
    exact ⟨_, h, Act.put_comm a p undef h2⟩
theorem QL.shift {x : Oper} {p : Value} {α : Nat} (ap : ∀ i o, i < n → i ≠ α → ops[i]? = some o → x.apart ops o = true) (sel : ∀ (j : Nat) (p : Oper) cs b, ops[j]? = some p → p.op ≠ .select cs b) (f : Nat) :
    ∀ ls a, ls.getD α true = true → QL P md ops C n L f ls a → QL P md ops C n (fun ls' a' => ∃ a0, L ls' a0 ∧ a' = a0.put x.dst p) f ls (a.put x.dst p) := by
  induction f with
  | zero => intro ls a _ h; exact ⟨a, h, rfl⟩
  | succ f ih =>
    intro ls a hα h
    refine ⟨h.1, fun i hi => ⟨(h.2 i hi).1, ?_⟩⟩
    obtain ⟨iu, o, ho, _⟩ := mem_ready.1 hi
    have ne : i ≠ α := fun c => by rw [c, hα] at iu; cases iu
    refine qOp_mono (fun a' ⟨a0, h0, e⟩ => ?_) (qOp_shift (p := p) ho (ap i o (h.2 i hi).1 ne ho) (fun cs b => sel i o cs b ho) (h.2 i hi).2)
    rw [e]
    exact ih _ _ (by rw [getD_set_ne true ne]; exact hα) h0
/-- The order of the text, the operation behind the first ones being through. -/
def lexA (md : Region.Mode) (ops : Array Oper) (g : Nat) : Nat → Nat → Array Bool → Bool
  | 0, k, ls => Region.seqB md ops g (k + 1) ls
  | f + 1, k, ls => (Region.ready md ops ls).contains k && Region.free md ops ls k && lexA md ops g f (k + 1) (ls.setIfInBounds k true)
theorem QL.lexA {g : Nat} {R : Act → Prop} (sel : Region.noSelect ops = true) (hs : Region.sinkB md ops n = true) (hc : Region.chainB md ops n = true) (hn : n < ops.size) (l : List Oper) :
    ∀ (k : Nat) (ls : Array Bool) (a : Act), (∀ j, j < l.length → l[j]? = ops[k + j]?) → k + l.length + 1 = n → HeadInv md ops n ls → lexA md ops g l.length k ls = true → wpQuiet P ops C R l a →
      QL P md ops C n (fun ls' a' => Region.seqB md ops g n ls' = true ∧ R a') l.length ls a := by
  induction l with
  | nil =>
    intro k ls a _ hk _ hB h
    obtain rfl : k + 1 = n := hk
    exact ⟨hB, h⟩
  | cons o l ih =>
    intro k ls a hl hk inv hB h
    have h0 : ops[k]? = some o := by simpa using (hl 0 (Nat.succ_pos _)).symm
    have kn : k < n := by rw [List.length_cons] at hk; omega
    simp only [List.length_cons, Go.Proofs.Ytndfcecimckioaa.lexA, Bool.and_eq_true] at hB
    have rk : k ∈ Region.ready md ops ls := by simpa using hB.1.1
    have q : qOp P ops C k (wpQuiet P ops C R l) a := by unfold qOp; simp only [h0]; exact h
    obtain ⟨v, hy, hK⟩ := yieldsIn_of_qOp h0 q
    refine QL.first h0 kn hn (Region.noSelect_spec sel) hs hc (fun ls' a' x => seqB_ready x.1) l.length ls a inv (Region.free_spec h0 hB.1.2) rk hy ?_
    refine ih (k + 1) _ _ (fun j hj => ?_) (by rw [← hk, List.length_cons]; omega) (inv.set rk kn) hB.2 hK
    have t := hl (j + 1) (by simpa using hj)
    rw [List.getElem?_cons_succ] at t
    rw [t]; congr 1; omega
/-- What is asked of the operations' make. -/
def allocB (ops : Array Oper) (m N : Nat) : Bool :=
  match ops[m]? with
  | none => false
  | some x => x.after.isEmpty && x.guard.isNone && (List.range m).all fun j => match ops[j]? with
    | none => false
    | some p => (match p.dst with
      | none => false
      | some d => decide (d < N)) && x.apart ops p && (List.range m).all fun i => i == j || match ops[i]? with
        | none => true
        | some q => q.dst != p.dst
theorem wp_region_alloc_tail {id : Nat} {Q : Exit → Act → World → Prop} {a : Act} {w : World} {l : List Oper} (m : Nat) (hm : P.follows .mixedOrders = true)
    (hB : (Region.noSelect l.toArray && decide (m + 1 < l.length) && Region.sinkB .any l.toArray (m + 1) && Region.chainB .any l.toArray (m + 1) && lexA .any l.toArray (l.length - (m + 1)) m 0 ((Array.replicate l.length false).setIfInBounds m true)) = true)
    (hA : allocB l.toArray m a.tmps.size = true) (obj : Obj) (x : Oper) (hx : l[m]? = some x)
    (hal : ∀ (a : Act) (w : World), (execOp a.eval x).run P w = .ok (.value (.pointer (some ⟨w.heap.size, 0, none⟩))) (w.alloc obj)) (aF : Act)
    (h : ∀ W, Below w.heap.size w W → wpQuiet P l.toArray (CW W) (fun a' => a' = aF) (l.take m) a)
    (hT : ∀ w1 w2, Below w.heap.size w w1 → Below (w1.alloc obj).heap.size (w1.alloc obj) w2 → wpList P l.toArray Q (l.drop (m + 1)) (aF.put x.dst (.pointer (some ⟨w1.heap.size, 0, none⟩))) w2) :
    (Code.region id l.toArray true).wp P Q a w := by
  simp only [Bool.and_eq_true, decide_eq_true_eq] at hB
  obtain ⟨⟨⟨⟨sel, hn⟩, hs⟩, hc⟩, lex⟩ := hB
  have hxa : l.toArray[m]? = some x := by simpa using hx
  unfold allocB at hA
  rw [hxa] at hA
  simp only [Bool.and_eq_true, List.all_eq_true, List.mem_range] at hA
  obtain ⟨⟨xe, xg⟩, hall⟩ := hA
  have xe' : x.after = #[] := by simpa using xe
  have xg' : x.guard = none := by simpa using xg
  have hz : l.toArray.size = l.length := by simp
  have hn' : m + 1 < l.toArray.size := by rw [hz]; exact hn
  have tl : (l.take m).length = m := by rw [List.length_take]; omega
  have spec := Region.noSelect_spec sel
  have fact : ∀ j o, j < m → l.toArray[j]? = some o → ∃ d, o.dst = some d ∧ d < a.tmps.size ∧ x.apart l.toArray o = true ∧ ∀ i p, i < m → i ≠ j → l.toArray[i]? = some p → p.dst ≠ some d := by
    intro j o hj ho
    have t := hall j hj
    rw [ho] at t
    simp only [Bool.and_eq_true] at t
    obtain ⟨⟨t1, t2⟩, t3⟩ := t
    cases hd : o.dst with
    | none => rw [hd] at t1; cases t1
    | some d =>
      rw [hd] at t1
      refine ⟨d, rfl, by simpa using t1, t2, fun i p hi hne hp => ?_⟩
      have u := List.all_eq_true.1 t3 i (List.mem_range.2 hi)
      rw [hp] at u
      simp only [Bool.or_eq_true, beq_iff_eq, bne_iff_ne] at u
      rcases u with u | u
      · exact absurd u hne
      · rw [hd] at u; exact u
  let g := l.length - (m + 1)
  let L0 : Array Bool → Act → Prop := fun ls' a' => Region.seqB .any l.toArray g (m + 1) ls' = true ∧ a' = aF
  have hL : ∀ ls a, L0 ls a → a = aF := fun _ _ h => h.2
  have i0 : HeadInv .any l.toArray (m + 1) (Array.replicate l.length false) :=
    ⟨by simp, fun j oj _ hl => (by rw [getD_replicate_false] at hl; cases hl), fun t _ ht => getD_in (by simpa using ht) (getD_replicate_false _ _)⟩
  have am : ∀ ls : Array Bool, ls.getD m true = false → m ∈ Region.ready .any l.toArray ls := fun ls hu => mem_ready.2 ⟨hu, x, hxa, fun e he => by rw [xe'] at he; simp at he⟩
  have mlt : ∀ ls : Array Bool, ls.getD m true = false → m < ls.size := fun ls hu => by
    rcases Nat.lt_or_ge m ls.size with y | y
    · exact y
    · simp [Array.getElem?_eq_none y] at hu
  have r0 : (Array.replicate l.length false).getD m true = false := getD_in (by simp; omega) (getD_replicate_false _ _)
  have T0 : ∀ W, Below w.heap.size w W → QL P .any l.toArray (CW W) (m + 1) L0 m ((Array.replicate l.length false).setIfInBounds m true) a := fun W hW => by
    have t := QL.lexA (P := P) (C := CW W) (md := .any) (g := g) (n := m + 1) sel hs hc hn' (l.take m) 0 _ a (fun j hj => by
      rw [tl] at hj
      simp [hj]) (by rw [tl]; omega) (i0.set (am _ r0) (by omega)) (by rw [tl]; exact lex) (h W hW)
    rw [tl] at t
    exact t
  have post : ∀ f ls b (x1 w2 : World), ls.getD m true = true → Below w.heap.size w x1 → CW (x1.alloc obj) w2 → QL P .any l.toArray (CW (x1.alloc obj)) (m + 1) L0 f ls b →
      wpAny P .any l.toArray Q (f + g) ls (b.put x.dst (.pointer (some ⟨x1.heap.size, 0, none⟩))) w2 := by
    intro f ls b x1 w2 hu hx1 hw2 hq
    have sh := QL.shift (x := x) (p := .pointer (some ⟨x1.heap.size, 0, none⟩)) (α := m) (fun i o hi hne ho => by
      obtain ⟨_, _, _, t, _⟩ := fact i o (by omega) ho
      exact t) spec f ls b hu hq
    refine QL.any (Q := Q) (g := g) (fun ls' a' w' hw' hL' => ?_) f ls _ w2 hw2 sh
    obtain ⟨a0, ⟨hq1, rfl⟩, rfl⟩ := hL'
    have dl : (l.drop (m + 1)).length = g := by rw [List.length_drop]
    have t := wpAny_of_seq (md := .any) (P := P) (ops := l.toArray) (Q' := Q) (l.drop (m + 1)) (m + 1) ls' (a0.put x.dst (.pointer (some ⟨x1.heap.size, 0, none⟩))) w' (fun j => by simp [List.getElem?_drop]) (by rw [dl]; exact hq1)
      (hT x1 w' hx1 (cw_bel hw'))
    rwa [dl] at t
  have pre : ∀ f ls b (x1 : World), b.tmps.size = a.tmps.size → Below w.heap.size w x1 → HeadInv .any l.toArray (m + 1) ls → ls.getD m true = false →
      (∀ W, Below w.heap.size w W → QL P .any l.toArray (CW W) (m + 1) L0 f (ls.setIfInBounds m true) b) → wpAny P .any l.toArray Q (f + 1 + g) ls b x1 := by
    intro f
    induction f with
    | zero =>
      intro ls b x1 hb hx1 inv hu ht
      rw [show 0 + 1 + g = g + 1 by omega]
      refine ⟨fun e => absurd (am ls hu) (by rw [e]; simp), fun i hi => ?_⟩
      by_cases c : i = m
      · subst c
        unfold wpOp
        simp only [hxa]
        rw [if_pos (by unfold Region.wanted; rw [xg'])]
        left
        unfold Oper.wp
        rw [hal]
        have := post 0 (ls.setIfInBounds i true) b x1 (x1.alloc obj) (by simp [mlt ls hu]) hx1 (cw_self _) (ht _ (hx1.alloc hx1.size _))
        rw [Nat.zero_add] at this
        exact this
      · have q := ht x1 hx1
        exact absurd hi (tail_waits hs hc hn' inv _ m rfl (by omega) hu i (seqB_ready q.1 i (ready_mono hi c)))
    | succ f ih =>
      intro ls b x1 hb hx1 inv hu ht
      rw [show f + 1 + 1 + g = f + 1 + g + 1 by omega]
      refine ⟨fun e => absurd (am ls hu) (by rw [e]; simp), fun i hi => ?_⟩
      by_cases c : i = m
      · subst c
        unfold wpOp
        simp only [hxa]
        rw [if_pos (by unfold Region.wanted; rw [xg'])]
        left
        unfold Oper.wp
        rw [hal]
        exact post (f + 1) (ls.setIfInBounds i true) b x1 (x1.alloc obj) (by simp [mlt ls hu]) hx1 (cw_self _) (ht _ (hx1.alloc hx1.size _))
      · have hi2 := ready_mono (i := m) hi c
        have ilt : i < m := by have := ((ht x1 hx1).2 i hi2).1; omega
        obtain ⟨iu, o, ho, _⟩ := mem_ready.1 hi
        obtain ⟨d, hd, hdb, _, dis⟩ := fact i o ilt ho
        have st := T.step (w := w) (aF := aF) hL ht hi2 ho hd (by rw [hb]; exact hdb) (fun j p hj hju hne hp => by
          by_cases cm : j = m
          · subst cm; simp [mlt ls hu] at hju
          · exact dis j p (by omega) hne hp)
        have yq := (st x1 hx1).1.qOp ho (K := fun a' => a' = b.put o.dst (aF.tmps.getD d undef)) rfl
        refine wpOp_of_qOp (cw_self x1) (fun a' w' hw' e => ?_) yq
        rw [e]
        refine ih _ _ w' (by rw [put_size]; exact hb) (hx1.trans ((cw_bel hw').mono hx1.size)) (inv.set hi (by omega)) (by rw [getD_set_ne true c]; exact hu) (fun W hW => ?_)
        rw [Array.setIfInBounds_comm _ _ c]
        exact (st W hW).2
  have fin := pre m (Array.replicate l.length false) a { w with drawn := w.drawn + 1 } rfl (Below.drew (Below.refl _ _)) i0 r0 T0
  rw [show m + 1 + g = l.toArray.size by rw [hz]; omega] at fin
  refine wp_region_any hm ?_
  rw [hz]
  rw [hz] at fin
  exact fin
end
end Go.Proofs.Ytndfcecimckioaa
