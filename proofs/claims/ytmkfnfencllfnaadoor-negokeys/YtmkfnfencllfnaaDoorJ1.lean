/- Texts joined: Z1, Z2, Z3, Z4, Z5, Z9, Z10, Z12, Z13, Z14. -/
import Derived.StillTail
import Derived.Deep.Quiet
import Derived.Lib.QuietBelow
import Derived.BigQuiet
import Derived.OrdersIn
import Derived.RangeFuncCalls
import Derived.TacticsInMore
/- A law on regions that draw their order: operations that only read, or call what leaves all that was there as it was, and behind all of them a fixed row of others (stores): one walk in the order of the text. -/
set_option linter.all false
set_option autoImplicit false
namespace Go.Proofs.YtmkfnfencllfnaaDoor
open Go Go.Sort Go.RowKit
section
variable {P : Program} {ops : Array Oper} {md : Region.Mode} {C : World → Prop}
/-- Of the operations below n any that may come up; then L. -/
def QL (P : Program) (md : Region.Mode) (ops : Array Oper) (C : World → Prop) (n : Nat) (L : Array Bool → Act → Prop) : Nat → Array Bool → Act → Prop
  | 0 => L
  | f + 1 => fun ls a => Region.ready md ops ls ≠ [] ∧ ∀ i, i ∈ Region.ready md ops ls → i < n ∧ qOp P ops C i (QL P md ops C n L f (ls.setIfInBounds i true)) a
theorem QL.any {n g : Nat} {L : Array Bool → Act → Prop} {Q : Exit → Act → World → Prop} (hL : ∀ ls a w, C w → L ls a → wpAny P md ops Q g ls a w) (f : Nat) :
    ∀ ls a w, C w → QL P md ops C n L f ls a → wpAny P md ops Q (f + g) ls a w := by
  induction f with
  | zero => intro ls a w hw h; rw [Nat.zero_add]; exact hL _ _ _ hw h
  | succ f ih =>
    intro ls a w hw h
    rw [Nat.succ_add_eq_add_succ]
    exact ⟨fun e => absurd e h.1, fun i hi => wpOp_of_qOp hw (fun a' w' hw' h' => ih _ a' w' hw' h') (h.2 i hi).2⟩
theorem QL.first {n i : Nat} {o : Oper} {v : Value} {L : Array Bool → Act → Prop} (hi : ops[i]? = some o) (hin : i < n) (hn : n < ops.size)
    (sel : ∀ (j : Nat) (p : Oper) cs b, ops[j]? = some p → p.op ≠ .select cs b) (hs : Region.sinkB md ops n = true) (hc : Region.chainB md ops n = true)
    (hL : ∀ ls a, L ls a → ∀ j, j ∈ Region.ready md ops ls → n ≤ j) (f : Nat) :
    ∀ ls a, HeadInv md ops n ls →
      (∀ j p, ops[j]? = some p → j ≠ i → ls.getD j true = false → (∀ e ∈ p.after, Region.binds md e = true → e.on ≠ i) → o.apart ops p = true) →
      i ∈ Region.ready md ops ls → YieldsIn P ops C o v a → QL P md ops C n L f (ls.setIfInBounds i true) (a.put o.dst v) → QL P md ops C n L (f + 1) ls a := by
  have low : ∀ ls, HeadInv md ops n ls → i ∈ Region.ready md ops ls → ∀ j, j ∈ Region.ready md ops ls → j < n := fun ls inv hr j hj =>
    Nat.lt_of_not_le fun hle => tail_waits hs hc hn inv _ i rfl hin (mem_ready.1 hr).1 j hle hj
  have non : ∀ ls, i ∈ Region.ready md ops ls → Region.ready md ops ls ≠ [] := fun ls hr e => by rw [e] at hr; cases hr
  induction f with
  | zero =>
    intro ls a inv _ hr hy H
    refine ⟨non ls hr, fun j hj => ⟨low ls inv hr j hj, ?_⟩⟩
    by_cases e : j = i
    · subst e; exact hy.qOp hi H
    · exact absurd (hL _ _ H j (ready_mono hj e)) (Nat.not_le.2 (low ls inv hr j hj))
  | succ f ih =>
    intro ls a inv free hr hy H
    refine ⟨non ls hr, fun j hj => ⟨low ls inv hr j hj, ?_⟩⟩
    by_cases e : j = i
    · subst e; exact hy.qOp hi H
    · obtain ⟨ju, p, hp, all⟩ := mem_ready.1 hj
      have noti : ∀ e ∈ p.after, Region.binds md e = true → e.on ≠ i := fun x hx hb he => by
        have t := all x hx hb
        rw [he, getD_both (mem_ready.1 hr).1] at t
        cases t
      have st := qOp_put hp (free j p hp e ju noti) (fun cs b => sel i o cs b hi) (fun cs b => sel j p cs b hp) hy (H.2 j (ready_mono hj e)).2
      refine qOp_mono (fun a' h3 => ih _ a' (inv.set hj (low ls inv hr j hj)) (fun k q hk hki hu hno => ?_) (ready_mono hr (fun c => e c.symm)) h3.1 ?_) st
      · refine free k q hk hki ?_ hno
        by_cases c : j = k
        · subst c; exact ju
        · rwa [getD_set_ne true c] at hu
      · rw [Array.setIfInBounds_comm _ _ e]; exact h3.2
theorem QL.lex {n g : Nat} {R : Act → Prop} (sel : Region.noSelect ops = true) (hs : Region.sinkB md ops n = true) (hc : Region.chainB md ops n = true) (hn : n < ops.size) (l : List Oper) :
    ∀ (k : Nat) (ls : Array Bool) (a : Act), (∀ j, j < l.length → l[j]? = ops[k + j]?) → k + l.length = n → HeadInv md ops n ls → Region.lexHead md ops g l.length k ls = true → wpQuiet P ops C R l a →
      QL P md ops C n (fun ls' a' => Region.seqB md ops g n ls' = true ∧ R a') l.length ls a := by
  induction l with
  | nil =>
    intro k ls a _ hk _ hB h
    obtain rfl : k = n := hk
    exact ⟨hB, h⟩
  | cons o l ih =>
    intro k ls a hl hk inv hB h
    have h0 : ops[k]? = some o := by simpa using (hl 0 (Nat.succ_pos _)).symm
    have kn : k < n := by rw [← hk]; exact Nat.lt_add_of_pos_right (Nat.succ_pos _)
    simp only [List.length_cons, Region.lexHead, Bool.and_eq_true] at hB
    have rk : k ∈ Region.ready md ops ls := by simpa using hB.1.1
    have q : qOp P ops C k (wpQuiet P ops C R l) a := by unfold qOp; simp only [h0]; exact h
    obtain ⟨v, hy, hK⟩ := yieldsIn_of_qOp h0 q
    refine QL.first h0 kn hn (Region.noSelect_spec sel) hs hc (fun ls' a' x => seqB_ready x.1) l.length ls a inv (Region.free_spec h0 hB.1.2) rk hy ?_
    refine ih (k + 1) _ _ (fun j hj => ?_) (by rw [← hk, List.length_cons]; omega) (inv.set rk kn) hB.2 hK
    have t := hl (j + 1) (by simpa using hj)
    rw [List.getElem?_cons_succ] at t
    rw [t]; congr 1; omega
/-- The law: the first n operations quiet in the class C, what is behind them in its own order. -/
theorem wp_region_quiet_tail {id : Nat} {Q : Exit → Act → World → Prop} {a : Act} {w : World} {l : List Oper} (n : Nat) (hm : P.follows .mixedOrders = true) (hB : Region.lexTailB .any l.toArray n = true)
    (hC : C { w with drawn := w.drawn + 1 }) (h : wpQuiet P l.toArray C (fun a' => ∀ w', C w' → wpList P l.toArray Q (l.drop n) a' w') (l.take n) a) : (Code.region id l.toArray true).wp P Q a w := by
  simp only [Region.lexTailB, Bool.and_eq_true, decide_eq_true_eq] at hB
  obtain ⟨⟨⟨⟨sel, hn⟩, hs⟩, hc⟩, lex⟩ := hB
  have ln : n < l.length := by simpa using hn
  have tl : (l.take n).length = n := by rw [List.length_take]; omega
  have dl : (l.drop n).length = l.toArray.size - n := by rw [List.length_drop]; simp
  have i0 : HeadInv .any l.toArray n (Array.replicate l.toArray.size false) :=
    ⟨by simp, fun j oj _ hl => (by rw [getD_replicate_false] at hl; cases hl), fun t _ ht => getD_in (by simpa using ht) (getD_replicate_false _ _)⟩
  have H := QL.lex (P := P) (C := C) (md := .any) (g := l.toArray.size - n) sel hs hc hn (l.take n) 0 _ a (fun j hj => by
    rw [tl] at hj
    simp [hj]) (by rw [tl]; omega) i0 (by rw [tl]; exact lex) h
  have K := QL.any (Q := Q) (g := l.toArray.size - n) (fun ls a' w' hw' hL => by
    have t := wpAny_of_seq (md := .any) (P := P) (Q' := Q) (l.drop n) n ls a' w' (fun j => by simp [List.getElem?_drop]) (by rw [dl]; exact hL.1) (hL.2 w' hw')
    rwa [dl] at t) _ _ a _ hC H
  rw [tl, show n + (l.toArray.size - n) = l.toArray.size by omega] at K
  exact wp_region_any hm K
/-- The same at the class 'what was there is as it was'. -/
theorem wp_region_below_tail {id : Nat} {Q : Exit → Act → World → Prop} {a : Act} {w : World} {l : List Oper} (n : Nat) (hm : P.follows .mixedOrders = true) (hB : Region.lexTailB .any l.toArray n = true)
    (h : wpQuiet P l.toArray (fun w' => ∃ p : Regrown, w' = grow (redrawn w p.d) p.os) (fun a' => ∀ w', (∃ p : Regrown, w' = grow (redrawn w p.d) p.os) → wpList P l.toArray Q (l.drop n) a' w') (l.take n) a) : (Code.region id l.toArray true).wp P Q a w :=
  wp_region_quiet_tail (C := fun w' => ∃ p : Regrown, w' = grow (redrawn w p.d) p.os) n hm hB ⟨⟨w.drawn + 1, #[]⟩, by rw [grow_empty]; rfl⟩ h
end
end Go.Proofs.YtmkfnfencllfnaaDoor
/- The law of Z1 inside a round of a range over a function. -/
set_option linter.all false
set_option autoImplicit false
namespace Go.Proofs.YtmkfnfencllfnaaDoor
open Go Go.Sort Go.RowKit
section
variable {P : Program} {ops : Array Oper} {md : Region.Mode} {C : World → Prop} {l m : Nat}
/-- No operation is a defer statement. -/
def noDefer (ops : Array Oper) : Bool := ops.all fun o => match o.op with
  | .defer _ => false
  | _ => true
theorem noDefer_at (h : noDefer ops = true) {i : Nat} {o : Oper} (hi : ops[i]? = some o) : ∀ c, o.op ≠ .defer c := fun c e => by
  have t := Array.all_eq_true.1 h i (Array.getElem?_eq_some_iff.1 hi).1
  have e2 : ops[i]'(Array.getElem?_eq_some_iff.1 hi).1 = o := (Array.getElem?_eq_some_iff.1 hi).2
  rw [e2, e] at t
  cases t
theorem quiet_in {o : Oper} {a : Act} {K : Act → Prop} {K' : Act → World → Prop} {Q : Exit → Act → World → Prop} {w : World} (nd : ∀ c, o.op ≠ .defer c) (hw : C w) (h : ∀ a w', C w' → K a → K' a w')
    (hh : o.quiet P a C K) : o.wpIn (Fence.wide.inRound l) m P a w K' Q := by
  obtain ⟨v, h1, h2⟩ := hh
  have h3 := h1 w hw
  refine ⟨fun _ _ => trivial, ?_⟩
  rw [Oper.semAt_eq _ _ _ nd]
  unfold Oper.quietAt at h3
  generalize (execOp a.eval o).run P w = r at *
  cases r with
  | halt x w' => cases h3
  | ok x w' =>
    cases x with
    | value u =>
      obtain ⟨e1, e2⟩ := h3
      rw [e1, e2]; exact h _ _ hw h2
    | skip =>
      obtain ⟨e1, e2⟩ := h3
      subst e2
      rw [e1]; exact h _ _ hw h2
    | enter f args =>
      obtain ⟨e1, hc⟩ := h3
      rw [e1]
      rw [Oper.uponIn_enter]
      refine ⟨fun hd => ?_, CallsIn.inRound l (callsIn_wide.2 (hc.mono ?_))⟩
      · simp [Fence.wide] at hd
      · rintro e w2 ⟨rfl, hw2⟩
        exact h _ _ hw2 h2
    | _ => cases h3
theorem QL.anyIn {n g : Nat} {L : Array Bool → Act → Prop} {Q : Exit → Act → World → Prop} (nd : noDefer ops = true) (hL : ∀ ls a w, C w → L ls a → wpAnyIn (Fence.wide.inRound l) m P md ops Q g ls a w) (f : Nat) :
    ∀ ls a w, C w → QL P md ops C n L f ls a → wpAnyIn (Fence.wide.inRound l) m P md ops Q (f + g) ls a w := by
  induction f with
  | zero => intro ls a w hw h; rw [Nat.zero_add]; exact hL _ _ _ hw h
  | succ f ih =>
    intro ls a w hw h
    rw [Nat.succ_add_eq_add_succ]
    refine ⟨fun e => absurd e h.1, fun i hi => ?_⟩
    have q := (h.2 i hi).2
    unfold qOp at q
    unfold wpOpIn
    split
    · rename_i ho; simp only [ho] at q; exact ih _ _ _ hw q
    · rename_i o ho
      simp only [ho] at q
      split
      · rename_i hwt; simp only [hwt, if_true] at q; exact quiet_in (noDefer_at nd ho) hw (fun a' w' hw' h' => ih _ a' w' hw' h') q
      · rename_i hwt; simp only [hwt] at q; exact ⟨fun _ _ => trivial, ih _ _ _ hw q⟩
theorem seq_in {F : Fence} {Q : Exit → Act → World → Prop} (r : List Oper) : ∀ (k : Nat) (ls : Array Bool) (a : Act) (w : World), (∀ j, r[j]? = ops[k + j]?) →
    Region.seqB md ops r.length k ls = true → wpListIn F m P ops Q r a w → wpAnyIn F m P md ops Q r.length ls a w := by
  induction r with
  | nil => intro k ls a w _ hB h; exact ⟨by simpa [Region.seqB] using hB, h⟩
  | cons o r ih =>
    intro k ls a w hl hB h
    have h0 : ops[k]? = some o := by simpa using (hl 0).symm
    simp only [List.length_cons, Region.seqB, Bool.and_eq_true, decide_eq_true_eq] at hB
    refine ⟨fun e => (by rw [hB.1] at e; cases e), fun i hi => ?_⟩
    rw [hB.1] at hi
    obtain rfl : i = k := by simpa using hi
    have t : wpOpIn F m P ops Q i (wpListIn F m P ops Q r) a w := by unfold wpOpIn; simp only [h0]; exact h
    refine wpOpIn_mono (fun a' w' h' => ih (i + 1) _ a' w' (fun j => ?_) hB.2 h') t
    have t := hl (j + 1)
    rw [List.getElem?_cons_succ] at t
    rw [t]; congr 1; omega
theorem wpIn_region_below_tail {id : Nat} {Q : Exit → Act → World → Prop} {a : Act} {w : World} {r : List Oper} (n : Nat) (hm : P.follows .mixedOrders = true) (hB : (noDefer r.toArray && Region.lexTailB .any r.toArray n) = true)
    (h : wpQuiet P r.toArray (fun w' => ∃ p : Regrown, w' = grow (redrawn w p.d) p.os) (fun a' => ∀ w', (∃ p : Regrown, w' = grow (redrawn w p.d) p.os) → wpListIn (Fence.wide.inRound l) m P r.toArray Q (r.drop n) a' w') (r.take n) a) :
    (Code.region id r.toArray true).wpIn (Fence.wide.inRound l) m P Q a w := by
  simp only [Region.lexTailB, Bool.and_eq_true, decide_eq_true_eq] at hB
  obtain ⟨nd, ⟨⟨⟨sel, hn⟩, hs⟩, hc⟩, lex⟩ := hB
  have ln : n < r.length := by simpa using hn
  have tl : (r.take n).length = n := by rw [List.length_take]; omega
  have dl : (r.drop n).length = r.toArray.size - n := by rw [List.length_drop]; simp
  have i0 : HeadInv .any r.toArray n (Array.replicate r.toArray.size false) :=
    ⟨by simp, fun j oj _ hl => (by rw [getD_replicate_false] at hl; cases hl), fun t _ ht => getD_in (by simpa using ht) (getD_replicate_false _ _)⟩
  have H := QL.lex (P := P) (md := .any) (g := r.toArray.size - n) sel hs hc hn (r.take n) 0 _ a (fun j hj => by
    rw [tl] at hj
    simp [hj]) (by rw [tl]; omega) i0 (by rw [tl]; exact lex) h
  have K := QL.anyIn (l := l) (m := m) (Q := Q) (g := r.toArray.size - n) nd (fun ls a' w' hw' hL => by
    have t := seq_in (md := .any) (P := P) (m := m) (F := Fence.wide.inRound l) (Q := Q) (r.drop n) n ls a' w' (fun j => by simp [List.getElem?_drop]) (by rw [dl]; exact hL.1) (hL.2 w' hw')
    rwa [dl] at t) _ _ a { w with drawn := w.drawn + 1 } ⟨⟨w.drawn + 1, #[]⟩, by rw [grow_empty]; rfl⟩ H
  rw [tl, show n + (r.toArray.size - n) = r.toArray.size by omega] at K
  exact wpIn_region_any hm K
end
end Go.Proofs.YtmkfnfencllfnaaDoor
/- A law on regions that draw their order: operations that only read or call, then one that makes a variable (it may come up at any time), then stores. -/
set_option linter.all false
set_option autoImplicit false
namespace Go.Proofs.YtmkfnfencllfnaaDoor
open Go Go.Sort Go.RowKit
section
variable {P : Program} {ops : Array Oper} {md : Region.Mode} {C : World → Prop} {n : Nat} {L : Array Bool → Act → Prop}
/-- W, with whatever was laid behind it. -/
abbrev CW (W : World) : World → Prop := fun w' => ∃ p : Regrown, w' = grow (redrawn W p.d) p.os
theorem cw_self (W : World) : CW W W := ⟨⟨W.drawn, #[]⟩, by rw [grow_empty]; rfl⟩
theorem cw_bel {W w' : World} (h : CW W w') : Below W.heap.size W w' := by obtain ⟨p, rfl⟩ := h; exact below_regrown _ _ _
theorem put_size (a : Act) (d : Option Tmp) (v : Value) : (a.put d v).tmps.size = a.tmps.size := by cases d <;> simp [Act.put]
theorem put_get (a : Act) (d : Nat) (v : Value) (h : d < a.tmps.size) : (a.put (some d) v).tmps.getD d undef = v := by simp [Act.put, h]
theorem put_oth (a : Act) (x : Option Tmp) (d : Nat) (v : Value) (h : x ≠ some d) : (a.put x v).tmps.getD d undef = a.tmps.getD d undef := by
  cases x with
  | none => rfl
  | some e =>
    have ne : e ≠ d := fun c => h (by rw [c])
    simp [Act.put, Array.getElem?_setIfInBounds_ne ne]
theorem QL.pin {aF : Act} (hL : ∀ ls a, L ls a → a = aF) (d : Nat) (f : Nat) : ∀ ls a, (∀ i o, i < n → ls.getD i true = false → ops[i]? = some o → o.dst ≠ some d) → QL P md ops C n L f ls a →
    a.tmps.getD d undef = aF.tmps.getD d undef := by
  induction f with
  | zero => intro ls a _ h; rw [hL _ _ h]
  | succ f ih =>
    intro ls a hd h
    cases hr : Region.ready md ops ls with
    | nil => exact absurd hr h.1
    | cons i r =>
      have hi : i ∈ Region.ready md ops ls := by rw [hr]; exact List.mem_cons_self
      obtain ⟨iu, o, ho, _⟩ := mem_ready.1 hi
      obtain ⟨v, _, hK⟩ := yieldsIn_of_qOp ho (h.2 i hi).2
      have t := ih _ _ (fun j p hj hu hp => by
        by_cases c : i = j
        · subst c
          have hlt : i < ls.size := by
            rcases Nat.lt_or_ge i ls.size with x | x
            · exact x
            · simp [Array.getElem?_eq_none x] at iu
          simp [hlt] at hu
        · rw [getD_set_ne true c] at hu
          exact hd j p hj hu hp) hK
      rw [put_oth _ _ _ _ (hd i o (h.2 i hi).1 iu ho)] at t
      exact t
theorem T.step {w : World} {aF : Act} (hL : ∀ ls a, L ls a → a = aF) {f : Nat} {ls : Array Bool} {a : Act} (h : ∀ W, Below w.heap.size w W → QL P md ops (CW W) n L (f + 1) ls a) {j d : Nat} {o : Oper}
    (hj : j ∈ Region.ready md ops ls) (ho : ops[j]? = some o) (hd : o.dst = some d) (hb : d < a.tmps.size) (dis : ∀ i p, i < n → ls.getD i true = false → i ≠ j → ops[i]? = some p → p.dst ≠ some d) :
    ∀ W, Below w.heap.size w W → YieldsIn P ops (CW W) o (aF.tmps.getD d undef) a ∧ QL P md ops (CW W) n L f (ls.setIfInBounds j true) (a.put o.dst (aF.tmps.getD d undef)) := by
  intro W hW
  obtain ⟨v, hy, hK⟩ := yieldsIn_of_qOp ho ((h W hW).2 j hj).2
  have ju := (mem_ready.1 hj).1
  have hlt : j < ls.size := by
    rcases Nat.lt_or_ge j ls.size with x | x
    · exact x
    · simp [Array.getElem?_eq_none x] at ju
  have e : v = aF.tmps.getD d undef := by
    rw [← QL.pin hL d f _ _ (fun i p hi hu hp => ?_) hK, hd, put_get _ _ _ hb]
    by_cases c : i = j
    · subst c; simp [hlt] at hu
    · rw [getD_set_ne true (fun x => c x.symm)] at hu
      exact dis i p hi hu c hp
  rw [← e]
  exact ⟨hy, hK⟩
theorem qOp_shift {x o : Oper} {p : Value} {i : Nat} (ho : ops[i]? = some o) (hap : x.apart ops o = true) (hs : ∀ cs b, o.op ≠ .select cs b) {K : Act → Prop} {a : Act} (h : qOp P ops C i K a) :
    qOp P ops C i (fun a' => ∃ a0, K a0 ∧ a' = a0.put x.dst p) (a.put x.dst p) := by
  obtain ⟨h1, h2, h3⟩ := Oper.apart_spec hap
  unfold qOp at *
  simp only [ho] at *
  rw [wanted_put o a x.dst p h1]
  split
  · rename_i hw
    simp only [hw, if_true] at h
    obtain ⟨u, hu, hn⟩ := h
    refine ⟨u, fun w hw' => ?_, _, hn, Act.put_comm a p u h2⟩
    have t := hu w hw'
    unfold Oper.quietAt at *
    rwa [execOp_put o hs a x.dst p h1]
  · rename_i hw
    simp only [hw] at h
    exact ⟨_, h, Act.put_comm a p undef h2⟩
theorem QL.shift {x : Oper} {p : Value} {α : Nat} (ap : ∀ i o, i < n → i ≠ α → ops[i]? = some o → x.apart ops o = true) (sel : ∀ (j : Nat) (p : Oper) cs b, ops[j]? = some p → p.op ≠ .select cs b) (f : Nat) :
    ∀ ls a, ls.getD α true = true → QL P md ops C n L f ls a → QL P md ops C n (fun ls' a' => ∃ a0, L ls' a0 ∧ a' = a0.put x.dst p) f ls (a.put x.dst p) := by
  induction f with
  | zero => intro ls a _ h; exact ⟨a, h, rfl⟩
  | succ f ih =>
    intro ls a hα h
    refine ⟨h.1, fun i hi => ⟨(h.2 i hi).1, ?_⟩⟩
    obtain ⟨iu, o, ho, _⟩ := mem_ready.1 hi
    have ne : i ≠ α := fun c => by rw [c, hα] at iu; cases iu
    refine qOp_mono (fun a' ⟨a0, h0, e⟩ => ?_) (qOp_shift (p := p) ho (ap i o (h.2 i hi).1 ne ho) (fun cs b => sel i o cs b ho) (h.2 i hi).2)
    rw [e]
    exact ih _ _ (by rw [getD_set_ne true ne]; exact hα) h0
/-- The order of the text, the operation behind the first ones being through. -/
def lexA (md : Region.Mode) (ops : Array Oper) (g : Nat) : Nat → Nat → Array Bool → Bool
  | 0, k, ls => Region.seqB md ops g (k + 1) ls
  | f + 1, k, ls => (Region.ready md ops ls).contains k && Region.free md ops ls k && lexA md ops g f (k + 1) (ls.setIfInBounds k true)
theorem QL.lexA {g : Nat} {R : Act → Prop} (sel : Region.noSelect ops = true) (hs : Region.sinkB md ops n = true) (hc : Region.chainB md ops n = true) (hn : n < ops.size) (l : List Oper) :
    ∀ (k : Nat) (ls : Array Bool) (a : Act), (∀ j, j < l.length → l[j]? = ops[k + j]?) → k + l.length + 1 = n → HeadInv md ops n ls → lexA md ops g l.length k ls = true → wpQuiet P ops C R l a →
      QL P md ops C n (fun ls' a' => Region.seqB md ops g n ls' = true ∧ R a') l.length ls a := by
  induction l with
  | nil =>
    intro k ls a _ hk _ hB h
    obtain rfl : k + 1 = n := hk
    exact ⟨hB, h⟩
  | cons o l ih =>
    intro k ls a hl hk inv hB h
    have h0 : ops[k]? = some o := by simpa using (hl 0 (Nat.succ_pos _)).symm
    have kn : k < n := by rw [List.length_cons] at hk; omega
    simp only [List.length_cons, Go.Proofs.YtmkfnfencllfnaaDoor.lexA, Bool.and_eq_true] at hB
    have rk : k ∈ Region.ready md ops ls := by simpa using hB.1.1
    have q : qOp P ops C k (wpQuiet P ops C R l) a := by unfold qOp; simp only [h0]; exact h
    obtain ⟨v, hy, hK⟩ := yieldsIn_of_qOp h0 q
    refine QL.first h0 kn hn (Region.noSelect_spec sel) hs hc (fun ls' a' x => seqB_ready x.1) l.length ls a inv (Region.free_spec h0 hB.1.2) rk hy ?_
    refine ih (k + 1) _ _ (fun j hj => ?_) (by rw [← hk, List.length_cons]; omega) (inv.set rk kn) hB.2 hK
    have t := hl (j + 1) (by simpa using hj)
    rw [List.getElem?_cons_succ] at t
    rw [t]; congr 1; omega
/-- What is asked of the operations' make. -/
def allocB (ops : Array Oper) (m N : Nat) : Bool :=
  match ops[m]? with
  | none => false
  | some x => x.after.isEmpty && x.guard.isNone && (List.range m).all fun j => match ops[j]? with
    | none => false
    | some p => (match p.dst with
      | none => false
      | some d => decide (d < N)) && x.apart ops p && (List.range m).all fun i => i == j || match ops[i]? with
        | none => true
        | some q => q.dst != p.dst
theorem wp_region_alloc_tail {id : Nat} {Q : Exit → Act → World → Prop} {a : Act} {w : World} {l : List Oper} (m : Nat) (hm : P.follows .mixedOrders = true)
    (hB : (Region.noSelect l.toArray && decide (m + 1 < l.length) && Region.sinkB .any l.toArray (m + 1) && Region.chainB .any l.toArray (m + 1) && lexA .any l.toArray (l.length - (m + 1)) m 0 ((Array.replicate l.length false).setIfInBounds m true)) = true)
    (hA : allocB l.toArray m a.tmps.size = true) (obj : Obj) (x : Oper) (hx : l[m]? = some x)
    (hal : ∀ (a : Act) (w : World), (execOp a.eval x).run P w = .ok (.value (.pointer (some ⟨w.heap.size, 0, none⟩))) (w.alloc obj)) (aF : Act)
    (h : ∀ W, Below w.heap.size w W → wpQuiet P l.toArray (CW W) (fun a' => a' = aF) (l.take m) a)
    (hT : ∀ w1 w2, Below w.heap.size w w1 → Below (w1.alloc obj).heap.size (w1.alloc obj) w2 → wpList P l.toArray Q (l.drop (m + 1)) (aF.put x.dst (.pointer (some ⟨w1.heap.size, 0, none⟩))) w2) :
    (Code.region id l.toArray true).wp P Q a w := by
  simp only [Bool.and_eq_true, decide_eq_true_eq] at hB
  obtain ⟨⟨⟨⟨sel, hn⟩, hs⟩, hc⟩, lex⟩ := hB
  have hxa : l.toArray[m]? = some x := by simpa using hx
  unfold allocB at hA
  rw [hxa] at hA
  simp only [Bool.and_eq_true, List.all_eq_true, List.mem_range] at hA
  obtain ⟨⟨xe, xg⟩, hall⟩ := hA
  have xe' : x.after = #[] := by simpa using xe
  have xg' : x.guard = none := by simpa using xg
  have hz : l.toArray.size = l.length := by simp
  have hn' : m + 1 < l.toArray.size := by rw [hz]; exact hn
  have tl : (l.take m).length = m := by rw [List.length_take]; omega
  have spec := Region.noSelect_spec sel
  have fact : ∀ j o, j < m → l.toArray[j]? = some o → ∃ d, o.dst = some d ∧ d < a.tmps.size ∧ x.apart l.toArray o = true ∧ ∀ i p, i < m → i ≠ j → l.toArray[i]? = some p → p.dst ≠ some d := by
    intro j o hj ho
    have t := hall j hj
    rw [ho] at t
    simp only [Bool.and_eq_true] at t
    obtain ⟨⟨t1, t2⟩, t3⟩ := t
    cases hd : o.dst with
    | none => rw [hd] at t1; cases t1
    | some d =>
      rw [hd] at t1
      refine ⟨d, rfl, by simpa using t1, t2, fun i p hi hne hp => ?_⟩
      have u := List.all_eq_true.1 t3 i (List.mem_range.2 hi)
      rw [hp] at u
      simp only [Bool.or_eq_true, beq_iff_eq, bne_iff_ne] at u
      rcases u with u | u
      · exact absurd u hne
      · rw [hd] at u; exact u
  let g := l.length - (m + 1)
  let L0 : Array Bool → Act → Prop := fun ls' a' => Region.seqB .any l.toArray g (m + 1) ls' = true ∧ a' = aF
  have hL : ∀ ls a, L0 ls a → a = aF := fun _ _ h => h.2
  have i0 : HeadInv .any l.toArray (m + 1) (Array.replicate l.length false) :=
    ⟨by simp, fun j oj _ hl => (by rw [getD_replicate_false] at hl; cases hl), fun t _ ht => getD_in (by simpa using ht) (getD_replicate_false _ _)⟩
  have am : ∀ ls : Array Bool, ls.getD m true = false → m ∈ Region.ready .any l.toArray ls := fun ls hu => mem_ready.2 ⟨hu, x, hxa, fun e he => by rw [xe'] at he; simp at he⟩
  have mlt : ∀ ls : Array Bool, ls.getD m true = false → m < ls.size := fun ls hu => by
    rcases Nat.lt_or_ge m ls.size with y | y
    · exact y
    · simp [Array.getElem?_eq_none y] at hu
  have r0 : (Array.replicate l.length false).getD m true = false := getD_in (by simp; omega) (getD_replicate_false _ _)
  have T0 : ∀ W, Below w.heap.size w W → QL P .any l.toArray (CW W) (m + 1) L0 m ((Array.replicate l.length false).setIfInBounds m true) a := fun W hW => by
    have t := QL.lexA (P := P) (C := CW W) (md := .any) (g := g) (n := m + 1) sel hs hc hn' (l.take m) 0 _ a (fun j hj => by
      rw [tl] at hj
      simp [hj]) (by rw [tl]; omega) (i0.set (am _ r0) (by omega)) (by rw [tl]; exact lex) (h W hW)
    rw [tl] at t
    exact t
  have post : ∀ f ls b (x1 w2 : World), ls.getD m true = true → Below w.heap.size w x1 → CW (x1.alloc obj) w2 → QL P .any l.toArray (CW (x1.alloc obj)) (m + 1) L0 f ls b →
      wpAny P .any l.toArray Q (f + g) ls (b.put x.dst (.pointer (some ⟨x1.heap.size, 0, none⟩))) w2 := by
    intro f ls b x1 w2 hu hx1 hw2 hq
    have sh := QL.shift (x := x) (p := .pointer (some ⟨x1.heap.size, 0, none⟩)) (α := m) (fun i o hi hne ho => by
      obtain ⟨_, _, _, t, _⟩ := fact i o (by omega) ho
      exact t) spec f ls b hu hq
    refine QL.any (Q := Q) (g := g) (fun ls' a' w' hw' hL' => ?_) f ls _ w2 hw2 sh
    obtain ⟨a0, ⟨hq1, rfl⟩, rfl⟩ := hL'
    have dl : (l.drop (m + 1)).length = g := by rw [List.length_drop]
    have t := wpAny_of_seq (md := .any) (P := P) (ops := l.toArray) (Q' := Q) (l.drop (m + 1)) (m + 1) ls' (a0.put x.dst (.pointer (some ⟨x1.heap.size, 0, none⟩))) w' (fun j => by simp [List.getElem?_drop]) (by rw [dl]; exact hq1)
      (hT x1 w' hx1 (cw_bel hw'))
    rwa [dl] at t
  have pre : ∀ f ls b (x1 : World), b.tmps.size = a.tmps.size → Below w.heap.size w x1 → HeadInv .any l.toArray (m + 1) ls → ls.getD m true = false →
      (∀ W, Below w.heap.size w W → QL P .any l.toArray (CW W) (m + 1) L0 f (ls.setIfInBounds m true) b) → wpAny P .any l.toArray Q (f + 1 + g) ls b x1 := by
    intro f
    induction f with
    | zero =>
      intro ls b x1 hb hx1 inv hu ht
      rw [show 0 + 1 + g = g + 1 by omega]
      refine ⟨fun e => absurd (am ls hu) (by rw [e]; simp), fun i hi => ?_⟩
      by_cases c : i = m
      · subst c
        unfold wpOp
        simp only [hxa]
        rw [if_pos (by unfold Region.wanted; rw [xg'])]
        left
        unfold Oper.wp
        rw [hal]
        have := post 0 (ls.setIfInBounds i true) b x1 (x1.alloc obj) (by simp [mlt ls hu]) hx1 (cw_self _) (ht _ (hx1.alloc hx1.size _))
        rw [Nat.zero_add] at this
        exact this
      · have q := ht x1 hx1
        exact absurd hi (tail_waits hs hc hn' inv _ m rfl (by omega) hu i (seqB_ready q.1 i (ready_mono hi c)))
    | succ f ih =>
      intro ls b x1 hb hx1 inv hu ht
      rw [show f + 1 + 1 + g = f + 1 + g + 1 by omega]
      refine ⟨fun e => absurd (am ls hu) (by rw [e]; simp), fun i hi => ?_⟩
      by_cases c : i = m
      · subst c
        unfold wpOp
        simp only [hxa]
        rw [if_pos (by unfold Region.wanted; rw [xg'])]
        left
        unfold Oper.wp
        rw [hal]
        exact post (f + 1) (ls.setIfInBounds i true) b x1 (x1.alloc obj) (by simp [mlt ls hu]) hx1 (cw_self _) (ht _ (hx1.alloc hx1.size _))
      · have hi2 := ready_mono (i := m) hi c
        have ilt : i < m := by have := ((ht x1 hx1).2 i hi2).1; omega
        obtain ⟨iu, o, ho, _⟩ := mem_ready.1 hi
        obtain ⟨d, hd, hdb, _, dis⟩ := fact i o ilt ho
        have st := T.step (w := w) (aF := aF) hL ht hi2 ho hd (by rw [hb]; exact hdb) (fun j p hj hju hne hp => by
          by_cases cm : j = m
          · subst cm; simp [mlt ls hu] at hju
          · exact dis j p (by omega) hne hp)
        have yq := (st x1 hx1).1.qOp ho (K := fun a' => a' = b.put o.dst (aF.tmps.getD d undef)) rfl
        refine wpOp_of_qOp (cw_self x1) (fun a' w' hw' e => ?_) yq
        rw [e]
        refine ih _ _ w' (by rw [put_size]; exact hb) (hx1.trans ((cw_bel hw').mono hx1.size)) (inv.set hi (by omega)) (by rw [getD_set_ne true c]; exact hu) (fun W hW => ?_)
        rw [Array.setIfInBounds_comm _ _ c]
        exact (st W hW).2
  have fin := pre m (Array.replicate l.length false) a { w with drawn := w.drawn + 1 } rfl (Below.drew (Below.refl _ _)) i0 r0 T0
  rw [show m + 1 + g = l.toArray.size by rw [hz]; omega] at fin
  refine wp_region_any hm ?_
  rw [hz]
  rw [hz] at fin
  exact fin
end
end Go.Proofs.YtmkfnfencllfnaaDoor
/- A law on regions that draw their order: operations that only read or call, then two that make variables (they may come up at any time), then stores. -/
set_option linter.all false
set_option autoImplicit false
namespace Go.Proofs.YtmkfnfencllfnaaDoor
open Go Go.Sort Go.RowKit
section
variable {P : Program} {ops : Array Oper} {md : Region.Mode} {C : World → Prop} {n : Nat} {L : Array Bool → Act → Prop}
theorem QL.shift' {x : Oper} {p : Value} {m : Nat} (ap : ∀ i o, i < m → ops[i]? = some o → x.apart ops o = true) (sel : ∀ (j : Nat) (p : Oper) cs b, ops[j]? = some p → p.op ≠ .select cs b) (f : Nat) :
    ∀ ls a, (∀ i, m ≤ i → i < n → ls.getD i true = true) → QL P md ops C n L f ls a → QL P md ops C n (fun ls' a' => ∃ a0, L ls' a0 ∧ a' = a0.put x.dst p) f ls (a.put x.dst p) := by
  induction f with
  | zero => intro ls a _ h; exact ⟨a, h, rfl⟩
  | succ f ih =>
    intro ls a hα h
    refine ⟨h.1, fun i hi => ⟨(h.2 i hi).1, ?_⟩⟩
    obtain ⟨iu, o, ho, _⟩ := mem_ready.1 hi
    have lt : i < m := Nat.lt_of_not_le fun c => by rw [hα i c (h.2 i hi).1] at iu; cases iu
    refine qOp_mono (fun a' ⟨a0, h0, e⟩ => ?_) (qOp_shift (p := p) ho (ap i o lt ho) (fun cs b => sel i o cs b ho) (h.2 i hi).2)
    rw [e]
    refine ih _ _ (fun j hj hn => ?_) h0
    rw [getD_set_ne true (by omega)]; exact hα j hj hn
/-- The order of the text, c operations behind the first ones being through. -/
def lexC (md : Region.Mode) (ops : Array Oper) (g c : Nat) : Nat → Nat → Array Bool → Bool
  | 0, k, ls => Region.seqB md ops g (k + c) ls
  | f + 1, k, ls => (Region.ready md ops ls).contains k && Region.free md ops ls k && lexC md ops g c f (k + 1) (ls.setIfInBounds k true)
theorem QL.lexC {g c : Nat} {R : Act → Prop} (sel : Region.noSelect ops = true) (hs : Region.sinkB md ops n = true) (hc : Region.chainB md ops n = true) (hn : n < ops.size) (l : List Oper) :
    ∀ (k : Nat) (ls : Array Bool) (a : Act), (∀ j, j < l.length → l[j]? = ops[k + j]?) → k + l.length + c = n → HeadInv md ops n ls → lexC md ops g c l.length k ls = true → wpQuiet P ops C R l a →
      QL P md ops C n (fun ls' a' => Region.seqB md ops g n ls' = true ∧ R a') l.length ls a := by
  induction l with
  | nil =>
    intro k ls a _ hk _ hB h
    obtain rfl : k + c = n := hk
    exact ⟨hB, h⟩
  | cons o l ih =>
    intro k ls a hl hk inv hB h
    have h0 : ops[k]? = some o := by simpa using (hl 0 (Nat.succ_pos _)).symm
    have kn : k < n := by rw [List.length_cons] at hk; omega
    simp only [List.length_cons, Go.Proofs.YtmkfnfencllfnaaDoor.lexC, Bool.and_eq_true] at hB
    have rk : k ∈ Region.ready md ops ls := by simpa using hB.1.1
    have q : qOp P ops C k (wpQuiet P ops C R l) a := by unfold qOp; simp only [h0]; exact h
    obtain ⟨v, hy, hK⟩ := yieldsIn_of_qOp h0 q
    refine QL.first h0 kn hn (Region.noSelect_spec sel) hs hc (fun ls' a' x => seqB_ready x.1) l.length ls a inv (Region.free_spec h0 hB.1.2) rk hy ?_
    refine ih (k + 1) _ _ (fun j hj => ?_) (by rw [← hk, List.length_cons]; omega) (inv.set rk kn) hB.2 hK
    have t := hl (j + 1) (by simpa using hj)
    rw [List.getElem?_cons_succ] at t
    rw [t]; congr 1; omega
theorem flag_lt {ls : Array Bool} {m : Nat} (hu : ls.getD m true = false) : m < ls.size := by
  rcases Nat.lt_or_ge m ls.size with y | y
  · exact y
  · simp [Array.getElem?_eq_none y] at hu
/-- One alloc is left: the rest of the region, from any state in which the quiet operations still go as they should. -/
theorem one_left {Q : Exit → Act → World → Prop} {m g α : Nat} {x : Oper} {obj : Obj} {aF : Act} {w : World} {N : Nat} {tl : List Oper} (hxa : ops[α]? = some x) (hα : m ≤ α) (hαn : α < n) (xe : x.after = #[]) (xg : x.guard = none)
    (sel : ∀ (j : Nat) (p : Oper) cs b, ops[j]? = some p → p.op ≠ .select cs b) (hs : Region.sinkB .any ops n = true) (hc : Region.chainB .any ops n = true) (hn : n < ops.size)
    (hal : ∀ (a : Act) (w : World), (execOp a.eval x).run P w = .ok (.value (.pointer (some ⟨w.heap.size, 0, none⟩))) (w.alloc obj))
    (fact : ∀ j o, j < m → ops[j]? = some o → ∃ d, o.dst = some d ∧ d < N ∧ x.apart ops o = true ∧ ∀ i p, i < m → i ≠ j → ops[i]? = some p → p.dst ≠ some d)
    (htl : ∀ j, tl[j]? = ops[n + j]?) (hg : tl.length = g)
    (hT : ∀ w1 w2, Below w.heap.size w w1 → Below (w1.alloc obj).heap.size (w1.alloc obj) w2 → wpList P ops Q tl (aF.put x.dst (.pointer (some ⟨w1.heap.size, 0, none⟩))) w2) (f : Nat) :
    ∀ ls b (x1 : World), b.tmps.size = N → Below w.heap.size w x1 → HeadInv .any ops n ls → ls.getD α true = false → (∀ i, m ≤ i → i < n → i ≠ α → ls.getD i true = true) →
      (∀ W, Below w.heap.size w W → QL P .any ops (CW W) n (fun ls' a' => Region.seqB .any ops g n ls' = true ∧ a' = aF) f (ls.setIfInBounds α true) b) → wpAny P .any ops Q (f + 1 + g) ls b x1 := by
  have am : ∀ ls : Array Bool, ls.getD α true = false → α ∈ Region.ready .any ops ls := fun ls hu => mem_ready.2 ⟨hu, x, hxa, fun e he => by rw [xe] at he; simp at he⟩
  have post : ∀ f ls b (x1 w2 : World), (∀ i, m ≤ i → i < n → ls.getD i true = true) → Below w.heap.size w x1 → CW (x1.alloc obj) w2 → QL P .any ops (CW (x1.alloc obj)) n (fun ls' a' => Region.seqB .any ops g n ls' = true ∧ a' = aF) f ls b →
      wpAny P .any ops Q (f + g) ls (b.put x.dst (.pointer (some ⟨x1.heap.size, 0, none⟩))) w2 := by
    intro f ls b x1 w2 hu hx1 hw2 hq
    have sh := QL.shift' (x := x) (p := .pointer (some ⟨x1.heap.size, 0, none⟩)) (m := m) (fun i o hi ho => by
      obtain ⟨_, _, _, t, _⟩ := fact i o hi ho
      exact t) sel f ls b hu hq
    refine QL.any (Q := Q) (g := g) (fun ls' a' w' hw' hL' => ?_) f ls _ w2 hw2 sh
    obtain ⟨a0, ⟨hq1, rfl⟩, rfl⟩ := hL'
    have t := wpAny_of_seq (md := .any) (P := P) (ops := ops) (Q' := Q) tl n ls' (a0.put x.dst (.pointer (some ⟨x1.heap.size, 0, none⟩))) w' htl (by rw [hg]; exact hq1)
      (hT x1 w' hx1 (cw_bel hw'))
    rwa [hg] at t
  have setα : ∀ ls : Array Bool, ls.getD α true = false → (∀ i, m ≤ i → i < n → i ≠ α → ls.getD i true = true) → ∀ i, m ≤ i → i < n → (ls.setIfInBounds α true).getD i true = true := by
    intro ls hu ho i hi hn
    by_cases c : i = α
    · subst c; simp [flag_lt hu]
    · rw [getD_set_ne true (fun e => c e.symm)]; exact ho i hi hn c
  induction f with
  | zero =>
    intro ls b x1 hb hx1 inv hu ho ht
    rw [show 0 + 1 + g = g + 1 by omega]
    refine ⟨fun e => absurd (am ls hu) (by rw [e]; simp), fun i hi => ?_⟩
    by_cases c : i = α
    · subst c
      unfold wpOp
      simp only [hxa]
      rw [if_pos (by unfold Region.wanted; rw [xg])]
      left
      unfold Oper.wp
      rw [hal]
      have := post 0 (ls.setIfInBounds i true) b x1 (x1.alloc obj) (setα ls hu ho) hx1 (cw_self _) (ht _ (hx1.alloc hx1.size _))
      rw [Nat.zero_add] at this
      exact this
    · have q := ht x1 hx1
      exact absurd hi (tail_waits hs hc hn inv _ α rfl hαn hu i (seqB_ready q.1 i (ready_mono hi c)))
  | succ f ih =>
    intro ls b x1 hb hx1 inv hu ho ht
    rw [show f + 1 + 1 + g = f + 1 + g + 1 by omega]
    refine ⟨fun e => absurd (am ls hu) (by rw [e]; simp), fun i hi => ?_⟩
    by_cases c : i = α
    · subst c
      unfold wpOp
      simp only [hxa]
      rw [if_pos (by unfold Region.wanted; rw [xg])]
      left
      unfold Oper.wp
      rw [hal]
      exact post (f + 1) (ls.setIfInBounds i true) b x1 (x1.alloc obj) (setα ls hu ho) hx1 (cw_self _) (ht _ (hx1.alloc hx1.size _))
    · have hi2 := ready_mono (i := α) hi c
      have iln : i < n := ((ht x1 hx1).2 i hi2).1
      obtain ⟨iu, o, hoo, _⟩ := mem_ready.1 hi
      have ilt : i < m := Nat.lt_of_not_le fun k => by rw [ho i k iln c] at iu; cases iu
      obtain ⟨d, hd, hdb, _, dis⟩ := fact i o ilt hoo
      have st := T.step (w := w) (aF := aF) (fun _ _ h => h.2) ht hi2 hoo hd (by rw [hb]; exact hdb) (fun j p hj hju hne hp => by
        have jlt : j < m := Nat.lt_of_not_le fun k => by rw [setα ls hu ho j k hj] at hju; cases hju
        exact dis j p jlt hne hp)
      have yq := (st x1 hx1).1.qOp hoo (K := fun a' => a' = b.put o.dst (aF.tmps.getD d undef)) rfl
      refine wpOp_of_qOp (cw_self x1) (fun a' w' hw' e => ?_) yq
      rw [e]
      refine ih _ _ w' (by rw [put_size]; exact hb) (hx1.trans ((cw_bel hw').mono hx1.size)) (inv.set hi iln) (by rw [getD_set_ne true c]; exact hu) (fun j hj hjn hjα => by rw [getD_set_ne true (by omega)]; exact ho j hj hjn hjα) (fun W hW => ?_)
      rw [Array.setIfInBounds_comm _ _ c]
      exact (st W hW).2
theorem QL.weaken {L' : Array Bool → Act → Prop} (hw : ∀ ls a, L ls a → L' ls a) (f : Nat) : ∀ ls a, QL P md ops C n L f ls a → QL P md ops C n L' f ls a := by
  induction f with
  | zero => intro ls a h; exact hw _ _ h
  | succ f ih => intro ls a h; exact ⟨h.1, fun i hi => ⟨(h.2 i hi).1, qOp_mono (fun a' h3 => ih _ _ h3) (h.2 i hi).2⟩⟩
/-- What is asked of the operations' make. -/
def allocB2 (ops : Array Oper) (m N : Nat) : Bool :=
  match ops[m]?, ops[m + 1]? with
  | some x, some y => x.after.isEmpty && x.guard.isNone && y.after.isEmpty && y.guard.isNone && (List.range m).all fun j => match ops[j]? with
    | none => false
    | some p => (match p.dst with
      | none => false
      | some d => decide (d < N)) && x.apart ops p && y.apart ops p && (List.range m).all fun i => i == j || match ops[i]? with
        | none => true
        | some q => q.dst != p.dst
  | _, _ => false
theorem wp_region_alloc2_tail {id : Nat} {Q : Exit → Act → World → Prop} {a : Act} {w : World} {l : List Oper} (m : Nat) (hm : P.follows .mixedOrders = true)
    (hB : (Region.noSelect l.toArray && decide (m + 2 < l.length) && Region.sinkB .any l.toArray (m + 2) && Region.chainB .any l.toArray (m + 2) && lexC .any l.toArray (l.length - (m + 2)) 2 m 0 (((Array.replicate l.length false).setIfInBounds (m + 1) true).setIfInBounds m true)) = true)
    (hA : allocB2 l.toArray m a.tmps.size = true) (ox oy : Obj) (x y : Oper) (hx : l[m]? = some x) (hy : l[m + 1]? = some y)
    (hal : ∀ (a : Act) (w : World), (execOp a.eval x).run P w = .ok (.value (.pointer (some ⟨w.heap.size, 0, none⟩))) (w.alloc ox))
    (hbl : ∀ (a : Act) (w : World), (execOp a.eval y).run P w = .ok (.value (.pointer (some ⟨w.heap.size, 0, none⟩))) (w.alloc oy)) (aF : Act)
    (h : ∀ W, Below w.heap.size w W → wpQuiet P l.toArray (CW W) (fun a' => a' = aF) (l.take m) a)
    (hT1 : ∀ w1 w2 w3, Below w.heap.size w w1 → Below (w1.alloc ox).heap.size (w1.alloc ox) w2 → Below (w2.alloc oy).heap.size (w2.alloc oy) w3 →
      wpList P l.toArray Q (l.drop (m + 2)) ((aF.put x.dst (.pointer (some ⟨w1.heap.size, 0, none⟩))).put y.dst (.pointer (some ⟨w2.heap.size, 0, none⟩))) w3)
    (hT2 : ∀ w1 w2 w3, Below w.heap.size w w1 → Below (w1.alloc oy).heap.size (w1.alloc oy) w2 → Below (w2.alloc ox).heap.size (w2.alloc ox) w3 →
      wpList P l.toArray Q (l.drop (m + 2)) ((aF.put y.dst (.pointer (some ⟨w1.heap.size, 0, none⟩))).put x.dst (.pointer (some ⟨w2.heap.size, 0, none⟩))) w3) :
    (Code.region id l.toArray true).wp P Q a w := by
  simp only [Bool.and_eq_true, decide_eq_true_eq] at hB
  obtain ⟨⟨⟨⟨sel, hn⟩, hs⟩, hc⟩, lex⟩ := hB
  have hxa : l.toArray[m]? = some x := by simpa using hx
  have hya : l.toArray[m + 1]? = some y := by simpa using hy
  unfold allocB2 at hA
  rw [hxa, hya] at hA
  simp only [Bool.and_eq_true, List.all_eq_true, List.mem_range] at hA
  obtain ⟨⟨⟨⟨xe, xg⟩, ye⟩, yg⟩, hall⟩ := hA
  have xe' : x.after = #[] := by simpa using xe
  have xg' : x.guard = none := by simpa using xg
  have ye' : y.after = #[] := by simpa using ye
  have yg' : y.guard = none := by simpa using yg
  have hz : l.toArray.size = l.length := by simp
  have hn' : m + 2 < l.toArray.size := by rw [hz]; exact hn
  have tl : (l.take m).length = m := by rw [List.length_take]; omega
  have spec := Region.noSelect_spec sel
  have fact : ∀ j o, j < m → l.toArray[j]? = some o → ∃ d, o.dst = some d ∧ d < a.tmps.size ∧ x.apart l.toArray o = true ∧ y.apart l.toArray o = true ∧ ∀ i p, i < m → i ≠ j → l.toArray[i]? = some p → p.dst ≠ some d := by
    intro j o hj ho
    have t := hall j hj
    rw [ho] at t
    simp only [Bool.and_eq_true] at t
    obtain ⟨⟨⟨t1, t2⟩, t2'⟩, t3⟩ := t
    cases hd : o.dst with
    | none => rw [hd] at t1; cases t1
    | some d =>
      rw [hd] at t1
      refine ⟨d, rfl, by simpa using t1, t2, t2', fun i p hi hne hp => ?_⟩
      have u := List.all_eq_true.1 t3 i (List.mem_range.2 hi)
      rw [hp] at u
      simp only [Bool.or_eq_true, beq_iff_eq, bne_iff_ne] at u
      rcases u with u | u
      · exact absurd u hne
      · rw [hd] at u; exact u
  have factx : ∀ j o, j < m → l.toArray[j]? = some o → ∃ d, o.dst = some d ∧ d < a.tmps.size ∧ x.apart l.toArray o = true ∧ ∀ i p, i < m → i ≠ j → l.toArray[i]? = some p → p.dst ≠ some d := fun j o hj ho => by
    obtain ⟨d, h1, h2, h3, _, h5⟩ := fact j o hj ho
    exact ⟨d, h1, h2, h3, h5⟩
  have facty : ∀ j o, j < m → l.toArray[j]? = some o → ∃ d, o.dst = some d ∧ d < a.tmps.size ∧ y.apart l.toArray o = true ∧ ∀ i p, i < m → i ≠ j → l.toArray[i]? = some p → p.dst ≠ some d := fun j o hj ho => by
    obtain ⟨d, h1, h2, _, h3, h5⟩ := fact j o hj ho
    exact ⟨d, h1, h2, h3, h5⟩
  let g := l.length - (m + 2)
  have dl : (l.drop (m + 2)).length = g := by rw [List.length_drop]
  have htl : ∀ j, (l.drop (m + 2))[j]? = l.toArray[m + 2 + j]? := fun j => by simp [List.getElem?_drop]
  let L0 : Array Bool → Act → Prop := fun ls' a' => Region.seqB .any l.toArray g (m + 2) ls' = true ∧ a' = aF
  have i0 : HeadInv .any l.toArray (m + 2) (Array.replicate l.length false) :=
    ⟨by simp, fun j oj _ hl => (by rw [getD_replicate_false] at hl; cases hl), fun t _ ht => getD_in (by simpa using ht) (getD_replicate_false _ _)⟩
  have ax : ∀ ls : Array Bool, ls.getD m true = false → m ∈ Region.ready .any l.toArray ls := fun ls hu => mem_ready.2 ⟨hu, x, hxa, fun e he => by rw [xe'] at he; simp at he⟩
  have ay : ∀ ls : Array Bool, ls.getD (m + 1) true = false → m + 1 ∈ Region.ready .any l.toArray ls := fun ls hu => mem_ready.2 ⟨hu, y, hya, fun e he => by rw [ye'] at he; simp at he⟩
  have r0 : (Array.replicate l.length false).getD m true = false := getD_in (by simp; omega) (getD_replicate_false _ _)
  have r1 : (Array.replicate l.length false).getD (m + 1) true = false := getD_in (by simp; omega) (getD_replicate_false _ _)
  have T0 : ∀ W, Below w.heap.size w W → QL P .any l.toArray (CW W) (m + 2) L0 m (((Array.replicate l.length false).setIfInBounds (m + 1) true).setIfInBounds m true) a := fun W hW => by
    have t := QL.lexC (P := P) (C := CW W) (md := .any) (g := g) (c := 2) (n := m + 2) sel hs hc hn' (l.take m) 0 _ a (fun j hj => by
      rw [tl] at hj
      simp [hj]) (by rw [tl]; omega) ((i0.set (ay _ r1) (by omega)).set (ax _ (by rw [getD_set_ne true (by omega)]; exact r0)) (by omega)) (by rw [tl]; exact lex) (h W hW)
    rw [tl] at t
    exact t
  -- the first of the two comes up
  have goX : ∀ f ls b (x1 : World), b.tmps.size = a.tmps.size → Below w.heap.size w x1 → HeadInv .any l.toArray (m + 2) ls → ls.getD m true = false → ls.getD (m + 1) true = false →
      (∀ W, Below w.heap.size w W → QL P .any l.toArray (CW W) (m + 2) L0 f ((ls.setIfInBounds (m + 1) true).setIfInBounds m true) b) → wpOp P l.toArray Q m (wpAny P .any l.toArray Q (f + 1 + g) (ls.setIfInBounds m true)) b x1 := by
    intro f ls b x1 hb hx1 inv hu hv ht
    unfold wpOp
    simp only [hxa]
    rw [if_pos (by unfold Region.wanted; rw [xg'])]
    left
    unfold Oper.wp
    rw [hal]
    refine one_left (P := P) (n := m + 2) (m := m) (g := g) (α := m + 1) (x := y) (obj := oy) (aF := aF.put x.dst (.pointer (some ⟨x1.heap.size, 0, none⟩))) (w := x1.alloc ox) (N := a.tmps.size) (tl := l.drop (m + 2)) hya (by omega) (by omega) ye' yg' spec hs hc hn' hbl facty htl dl
      (fun w1 w2 h1 h2 => hT1 x1 w1 w2 hx1 h1 h2) f (ls.setIfInBounds m true) _ (x1.alloc ox) (by rw [put_size]; exact hb) (Below.refl _ _) (inv.set (ax ls hu) (by omega)) (by rw [getD_set_ne true (by omega)]; exact hv)
      (fun i h1 h2 h3 => by
        have : i = m := by omega
        subst this
        simp [flag_lt hu]) (fun W hW => ?_)
    have q := ht W ((hx1.alloc hx1.size ox).trans (hW.mono (by have := (hx1.alloc hx1.size ox).size; omega)))
    have sh := QL.shift' (x := x) (p := .pointer (some ⟨x1.heap.size, 0, none⟩)) (m := m) (fun i o hi ho => by
      obtain ⟨_, _, _, t, _⟩ := factx i o hi ho
      exact t) spec f _ b (fun i h1 h2 => by
        by_cases c : i = m
        · subst c; simp [flag_lt hu]
        · have : i = m + 1 := by omega
          subst this
          rw [getD_set_ne true (by omega)]; simp [flag_lt hv]) q
    rw [Array.setIfInBounds_comm _ _ (by omega)] at sh
    refine QL.weaken (fun ls' a' hl => ?_) f _ _ sh
    obtain ⟨a0, ⟨q1, rfl⟩, rfl⟩ := hl
    exact ⟨q1, rfl⟩
  have goY : ∀ f ls b (x1 : World), b.tmps.size = a.tmps.size → Below w.heap.size w x1 → HeadInv .any l.toArray (m + 2) ls → ls.getD m true = false → ls.getD (m + 1) true = false →
      (∀ W, Below w.heap.size w W → QL P .any l.toArray (CW W) (m + 2) L0 f ((ls.setIfInBounds (m + 1) true).setIfInBounds m true) b) → wpOp P l.toArray Q (m + 1) (wpAny P .any l.toArray Q (f + 1 + g) (ls.setIfInBounds (m + 1) true)) b x1 := by
    intro f ls b x1 hb hx1 inv hu hv ht
    unfold wpOp
    simp only [hya]
    rw [if_pos (by unfold Region.wanted; rw [yg'])]
    left
    unfold Oper.wp
    rw [hbl]
    refine one_left (P := P) (n := m + 2) (m := m) (g := g) (α := m) (x := x) (obj := ox) (aF := aF.put y.dst (.pointer (some ⟨x1.heap.size, 0, none⟩))) (w := x1.alloc oy) (N := a.tmps.size) (tl := l.drop (m + 2)) hxa (by omega) (by omega) xe' xg' spec hs hc hn' hal factx htl dl
      (fun w1 w2 h1 h2 => hT2 x1 w1 w2 hx1 h1 h2) f (ls.setIfInBounds (m + 1) true) _ (x1.alloc oy) (by rw [put_size]; exact hb) (Below.refl _ _) (inv.set (ay ls hv) (by omega)) (by rw [getD_set_ne true (by omega)]; exact hu)
      (fun i h1 h2 h3 => by
        have : i = m + 1 := by omega
        subst this
        simp [flag_lt hv]) (fun W hW => ?_)
    have q := ht W ((hx1.alloc hx1.size oy).trans (hW.mono (by have := (hx1.alloc hx1.size oy).size; omega)))
    have sh := QL.shift' (x := y) (p := .pointer (some ⟨x1.heap.size, 0, none⟩)) (m := m) (fun i o hi ho => by
      obtain ⟨_, _, _, t, _⟩ := facty i o hi ho
      exact t) spec f _ b (fun i h1 h2 => by
        by_cases c : i = m
        · subst c; simp [flag_lt hu]
        · have : i = m + 1 := by omega
          subst this
          rw [getD_set_ne true (by omega)]; simp [flag_lt hv]) q
    refine QL.weaken (fun ls' a' hl => ?_) f _ _ sh
    obtain ⟨a0, ⟨q1, rfl⟩, rfl⟩ := hl
    exact ⟨q1, rfl⟩
  have pre : ∀ f ls b (x1 : World), b.tmps.size = a.tmps.size → Below w.heap.size w x1 → HeadInv .any l.toArray (m + 2) ls → ls.getD m true = false → ls.getD (m + 1) true = false →
      (∀ W, Below w.heap.size w W → QL P .any l.toArray (CW W) (m + 2) L0 f ((ls.setIfInBounds (m + 1) true).setIfInBounds m true) b) → wpAny P .any l.toArray Q (f + 2 + g) ls b x1 := by
    intro f
    induction f with
    | zero =>
      intro ls b x1 hb hx1 inv hu hv ht
      rw [show 0 + 2 + g = 0 + 1 + g + 1 by omega]
      refine ⟨fun e => absurd (ax ls hu) (by rw [e]; simp), fun i hi => ?_⟩
      by_cases c : i = m
      · subst c; exact goX 0 ls b x1 hb hx1 inv hu hv ht
      by_cases c2 : i = m + 1
      · subst c2; exact goY 0 ls b x1 hb hx1 inv hu hv ht
      · have q := ht x1 hx1
        exact absurd hi (tail_waits hs hc hn' inv _ m rfl (by omega) hu i (seqB_ready q.1 i (ready_mono (ready_mono hi c2) c)))
    | succ f ih =>
      intro ls b x1 hb hx1 inv hu hv ht
      rw [show f + 1 + 2 + g = f + 1 + 1 + g + 1 by omega]
      refine ⟨fun e => absurd (ax ls hu) (by rw [e]; simp), fun i hi => ?_⟩
      by_cases c : i = m
      · subst c; exact goX (f + 1) ls b x1 hb hx1 inv hu hv ht
      by_cases c2 : i = m + 1
      · subst c2; exact goY (f + 1) ls b x1 hb hx1 inv hu hv ht
      · have hi2 := ready_mono (ready_mono hi c2) c
        have ilt : i < m := by have := ((ht x1 hx1).2 i hi2).1; omega
        obtain ⟨iu, o, ho, _⟩ := mem_ready.1 hi
        obtain ⟨d, hd, hdb, _, _, dis⟩ := fact i o ilt ho
        have st := T.step (w := w) (aF := aF) (fun _ _ h => h.2) ht hi2 ho hd (by rw [hb]; exact hdb) (fun j p hj hju hne hp => by
          by_cases cm : j = m
          · subst cm; simp [flag_lt hu] at hju
          by_cases cm2 : j = m + 1
          · subst cm2; rw [getD_set_ne true (by omega)] at hju; simp [flag_lt hv] at hju
          · exact dis j p (by omega) hne hp)
        have yq := (st x1 hx1).1.qOp ho (K := fun a' => a' = b.put o.dst (aF.tmps.getD d undef)) rfl
        refine wpOp_of_qOp (cw_self x1) (fun a' w' hw' e => ?_) yq
        rw [e]
        refine ih _ _ w' (by rw [put_size]; exact hb) (hx1.trans ((cw_bel hw').mono hx1.size)) (inv.set hi (by omega)) (by rw [getD_set_ne true c]; exact hu) (by rw [getD_set_ne true c2]; exact hv) (fun W hW => ?_)
        rw [Array.setIfInBounds_comm _ _ c2, Array.setIfInBounds_comm _ _ c]
        exact (st W hW).2
  have fin := pre m (Array.replicate l.length false) a { w with drawn := w.drawn + 1 } rfl (Below.drew (Below.refl _ _)) i0 r0 r1 T0
  rw [show m + 2 + g = l.toArray.size by rw [hz]; omega] at fin
  refine wp_region_any hm ?_
  rw [hz]
  rw [hz] at fin
  exact fin
end
end Go.Proofs.YtmkfnfencllfnaaDoor
/- A law on regions that draw their order: operations that only read or call, then plain ones (they touch no world), one that makes a variable (it may come up at any time), then others in their order. -/
set_option linter.all false
set_option autoImplicit false
namespace Go.Proofs.YtmkfnfencllfnaaDoor
open Go Go.Sort Go.RowKit
section
variable {P : Program} {ops : Array Oper} {md : Region.Mode} {C : World → Prop} {n : Nat} {L : Array Bool → Act → Prop}
/-- Whatever comes up in f steps is below n. -/
def exB (md : Region.Mode) (ops : Array Oper) (n : Nat) : Nat → Array Bool → Bool
  | 0, _ => true
  | f + 1, ls => (Region.ready md ops ls).all fun i => decide (i < n) && exB md ops n f (ls.setIfInBounds i true)
theorem exB.step {f : Nat} {ls : Array Bool} (h : exB md ops n (f + 1) ls = true) {i : Nat} (hi : i ∈ Region.ready md ops ls) : i < n ∧ exB md ops n f (ls.setIfInBounds i true) = true := by
  unfold exB at h
  have := List.all_eq_true.1 h i hi
  simpa using this
theorem QL.first' {i : Nat} {o : Oper} {v : Value} (hi : ops[i]? = some o)
    (sel : ∀ (j : Nat) (p : Oper) cs b, ops[j]? = some p → p.op ≠ .select cs b)
    (hL : ∀ ls a, L ls a → ∀ j, j ∈ Region.ready md ops ls → n ≤ j) (f : Nat) :
    ∀ ls a, exB md ops n (f + 1) ls = true →
      (∀ j p, ops[j]? = some p → j ≠ i → ls.getD j true = false → (∀ e ∈ p.after, Region.binds md e = true → e.on ≠ i) → o.apart ops p = true) →
      i ∈ Region.ready md ops ls → YieldsIn P ops C o v a → QL P md ops C n L f (ls.setIfInBounds i true) (a.put o.dst v) → QL P md ops C n L (f + 1) ls a := by
  have non : ∀ ls, i ∈ Region.ready md ops ls → Region.ready md ops ls ≠ [] := fun ls hr e => by rw [e] at hr; cases hr
  induction f with
  | zero =>
    intro ls a ex _ hr hy H
    refine ⟨non ls hr, fun j hj => ⟨(exB.step ex hj).1, ?_⟩⟩
    by_cases e : j = i
    · subst e; exact hy.qOp hi H
    · exact absurd (hL _ _ H j (ready_mono hj e)) (Nat.not_le.2 (exB.step ex hj).1)
  | succ f ih =>
    intro ls a ex free hr hy H
    refine ⟨non ls hr, fun j hj => ⟨(exB.step ex hj).1, ?_⟩⟩
    by_cases e : j = i
    · subst e; exact hy.qOp hi H
    · obtain ⟨ju, p, hp, all⟩ := mem_ready.1 hj
      have noti : ∀ e ∈ p.after, Region.binds md e = true → e.on ≠ i := fun x hx hb he => by
        have t := all x hx hb
        rw [he, getD_both (mem_ready.1 hr).1] at t
        cases t
      have st := qOp_put hp (free j p hp e ju noti) (fun cs b => sel i o cs b hi) (fun cs b => sel j p cs b hp) hy (H.2 j (ready_mono hj e)).2
      refine qOp_mono (fun a' h3 => ih _ a' (exB.step ex hj).2 (fun k q hk hki hu hno => ?_) (ready_mono hr (fun c => e c.symm)) h3.1 ?_) st
      · refine free k q hk hki ?_ hno
        by_cases c : j = k
        · subst c; exact ju
        · rwa [getD_set_ne true c] at hu
      · rw [Array.setIfInBounds_comm _ _ e]; exact h3.2
/-- The order of the text for the first operations; E is what is through behind them. -/
def lexE (md : Region.Mode) (ops : Array Oper) (n : Nat) (E : Array Bool) : Nat → Nat → Array Bool → Bool
  | 0, _, ls => decide (ls = E)
  | f + 1, k, ls => (Region.ready md ops ls).contains k && Region.free md ops ls k && exB md ops n (f + 1) ls && lexE md ops n E f (k + 1) (ls.setIfInBounds k true)
theorem QL.lexE {E : Array Bool} {R : Act → Prop} (sel : Region.noSelect ops = true) (hE : ∀ j, j ∈ Region.ready md ops E → n ≤ j) (l : List Oper) :
    ∀ (k : Nat) (ls : Array Bool) (a : Act), (∀ j, j < l.length → l[j]? = ops[k + j]?) → lexE md ops n E l.length k ls = true → wpQuiet P ops C R l a →
      QL P md ops C n (fun ls' a' => ls' = E ∧ R a') l.length ls a := by
  induction l with
  | nil =>
    intro k ls a _ hB h
    exact ⟨by simpa [Go.Proofs.YtmkfnfencllfnaaDoor.lexE] using hB, h⟩
  | cons o l ih =>
    intro k ls a hl hB h
    have h0 : ops[k]? = some o := by simpa using (hl 0 (Nat.succ_pos _)).symm
    simp only [List.length_cons, Go.Proofs.YtmkfnfencllfnaaDoor.lexE, Bool.and_eq_true] at hB
    have rk : k ∈ Region.ready md ops ls := by simpa using hB.1.1.1
    have q : qOp P ops C k (wpQuiet P ops C R l) a := by unfold qOp; simp only [h0]; exact h
    obtain ⟨v, hy, hK⟩ := yieldsIn_of_qOp h0 q
    refine QL.first' h0 (Region.noSelect_spec sel) (fun ls' a' x => by rw [x.1]; exact hE) l.length ls a hB.1.2 (Region.free_spec h0 hB.1.1.2) rk hy ?_
    refine ih (k + 1) _ _ (fun j hj => ?_) hB.2 hK
    have t := hl (j + 1) (by simpa using hj)
    rw [List.getElem?_cons_succ] at t
    rw [t]; congr 1; omega
/-- Operations that touch no world take a to b. -/
def pureTo (P : Program) (ops : Array Oper) : List Oper → Act → Act → Prop
  | [], a, b => a = b
  | o :: l, a, b => ∃ v, Yields P ops o v a ∧ pureTo P ops l (a.put o.dst v) b
def pureB (md : Region.Mode) (ops : Array Oper) (E : Array Bool) : Nat → Nat → Array Bool → Bool
  | 0, _, ls => decide (ls = E)
  | f + 1, k, ls => (Region.ready md ops ls).contains k && Region.free md ops ls k && pureB md ops E f (k + 1) (ls.setIfInBounds k true)
theorem pure_any {Q : Exit → Act → World → Prop} (hQ : ∀ c d v a w, Q (.panic c) (Act.put a d v) w → Q (.panic c) a w) (sel : Region.noSelect ops = true) {E : Array Bool} {b : Act} {w : World} {g : Nat} (fin : wpAny P md ops Q g E b w) (l : List Oper) :
    ∀ (k : Nat) (ls : Array Bool) (a : Act), (∀ j, j < l.length → l[j]? = ops[k + j]?) → pureB md ops E l.length k ls = true → pureTo P ops l a b → wpAny P md ops Q (g + l.length) ls a w := by
  induction l with
  | nil =>
    intro k ls a _ hB h
    have e1 : ls = E := by simpa [pureB] using hB
    have e2 : a = b := h
    rw [e1, e2]
    exact fin
  | cons o l ih =>
    intro k ls a hl hB h
    have h0 : ops[k]? = some o := by simpa using (hl 0 (Nat.succ_pos _)).symm
    simp only [List.length_cons, pureB, Bool.and_eq_true] at hB
    have rk : k ∈ Region.ready md ops ls := by simpa using hB.1.1
    obtain ⟨v, hy, hK⟩ := h
    refine wpAny_first h0 (Region.noSelect_spec sel) (fun c a w => hQ c _ _ a w) _ ls a w (Region.free_spec h0 hB.1.2) rk hy ?_
    refine ih (k + 1) _ _ (fun j hj => ?_) hB.2 hK
    have t := hl (j + 1) (by simpa using hj)
    rw [List.getElem?_cons_succ] at t
    rw [t]; congr 1; omega
theorem one_left2 {Q : Exit → Act → World → Prop} {m g α : Nat} {x : Oper} {obj : Obj} {aF : Act} {w : World} {N : Nat} (hxa : ops[α]? = some x) (hα : m ≤ α) (xe : x.after = #[]) (xg : x.guard = none)
    (sel : ∀ (j : Nat) (p : Oper) cs b, ops[j]? = some p → p.op ≠ .select cs b)
    (hal : ∀ (a : Act) (w : World), (execOp a.eval x).run P w = .ok (.value (.pointer (some ⟨w.heap.size, 0, none⟩))) (w.alloc obj))
    (fact : ∀ j o, j < m → ops[j]? = some o → ∃ d, o.dst = some d ∧ d < N ∧ x.apart ops o = true ∧ ∀ i p, i < m → i ≠ j → ops[i]? = some p → p.dst ≠ some d)
    (hLa : ∀ ls a, L ls a → a = aF)
    (fin1 : ∀ ls b x1, ls.getD α true = false → L (ls.setIfInBounds α true) b → Below w.heap.size w x1 → wpAny P .any ops Q (g + 1) ls b x1)
    (fin2 : ∀ ls x1 w2, L ls aF → Below w.heap.size w x1 → Below (x1.alloc obj).heap.size (x1.alloc obj) w2 → wpAny P .any ops Q g ls (aF.put x.dst (.pointer (some ⟨x1.heap.size, 0, none⟩))) w2) (f : Nat) :
    ∀ ls b (x1 : World), b.tmps.size = N → Below w.heap.size w x1 → ls.getD α true = false →
      (∀ W, Below w.heap.size w W → QL P .any ops (CW W) m L f (ls.setIfInBounds α true) b) → wpAny P .any ops Q (f + 1 + g) ls b x1 := by
  have am : ∀ ls : Array Bool, ls.getD α true = false → α ∈ Region.ready .any ops ls := fun ls hu => mem_ready.2 ⟨hu, x, hxa, fun e he => by rw [xe] at he; simp at he⟩
  have post : ∀ f ls b (x1 w2 : World), Below w.heap.size w x1 → CW (x1.alloc obj) w2 → QL P .any ops (CW (x1.alloc obj)) m L f ls b →
      wpAny P .any ops Q (f + g) ls (b.put x.dst (.pointer (some ⟨x1.heap.size, 0, none⟩))) w2 := by
    intro f ls b x1 w2 hx1 hw2 hq
    have sh := QL.shift' (x := x) (p := .pointer (some ⟨x1.heap.size, 0, none⟩)) (m := m) (fun i o hi ho => by
      obtain ⟨_, _, _, t, _⟩ := fact i o hi ho
      exact t) sel f ls b (fun i h1 h2 => by omega) hq
    refine QL.any (Q := Q) (g := g) (fun ls' a' w' hw' hL' => ?_) f ls _ w2 hw2 sh
    obtain ⟨a0, hq1, rfl⟩ := hL'
    obtain rfl := hLa _ _ hq1
    exact fin2 ls' x1 w' hq1 hx1 (cw_bel hw')
  induction f with
  | zero =>
    intro ls b x1 hb hx1 hu ht
    rw [show 0 + 1 + g = g + 1 by omega]
    exact fin1 ls b x1 hu (ht x1 hx1) hx1
  | succ f ih =>
    intro ls b x1 hb hx1 hu ht
    rw [show f + 1 + 1 + g = f + 1 + g + 1 by omega]
    refine ⟨fun e => absurd (am ls hu) (by rw [e]; simp), fun i hi => ?_⟩
    by_cases c : i = α
    · subst c
      unfold wpOp
      simp only [hxa]
      rw [if_pos (by unfold Region.wanted; rw [xg])]
      left
      unfold Oper.wp
      rw [hal]
      exact post (f + 1) (ls.setIfInBounds i true) b x1 (x1.alloc obj) hx1 (cw_self _) (ht _ (hx1.alloc hx1.size _))
    · have hi2 := ready_mono (i := α) hi c
      have iln : i < m := ((ht x1 hx1).2 i hi2).1
      obtain ⟨iu, o, hoo, _⟩ := mem_ready.1 hi
      obtain ⟨d, hd, hdb, _, dis⟩ := fact i o iln hoo
      have st := T.step (w := w) (aF := aF) hLa ht hi2 hoo hd (by rw [hb]; exact hdb) (fun j p hj hju hne hp => dis j p hj hne hp)
      have yq := (st x1 hx1).1.qOp hoo (K := fun a' => a' = b.put o.dst (aF.tmps.getD d undef)) rfl
      refine wpOp_of_qOp (cw_self x1) (fun a' w' hw' e => ?_) yq
      rw [e]
      refine ih _ _ w' (by rw [put_size]; exact hb) (hx1.trans ((cw_bel hw').mono hx1.size)) (by rw [getD_set_ne true c]; exact hu) (fun W hW => ?_)
      rw [Array.setIfInBounds_comm _ _ c]
      exact (st W hW).2
/-- What is asked of the operations' make. -/
def allocB3 (ops : Array Oper) (m α N : Nat) : Bool :=
  match ops[α]? with
  | none => false
  | some x => x.after.isEmpty && x.guard.isNone && (List.range m).all fun j => match ops[j]? with
    | none => false
    | some p => (match p.dst with
      | none => false
      | some d => decide (d < N)) && x.apart ops p && (List.range m).all fun i => i == j || match ops[i]? with
        | none => true
        | some q => q.dst != p.dst
theorem flag_back {ls : Array Bool} {α : Nat} (hu : ls.getD α true = false) : ls = (ls.setIfInBounds α true).setIfInBounds α false := by
  have lt := flag_lt hu
  apply Array.ext
  · simp
  · intro i h1 h2
    by_cases c : α = i
    · subst c
      simp [lt] at hu
      simp [hu]
    · rw [Array.getElem_setIfInBounds_ne (by simpa using h1) c, Array.getElem_setIfInBounds_ne h1 c]
theorem wp_region_pure_tail {id : Nat} {Q : Exit → Act → World → Prop} {a : Act} {w : World} {l : List Oper} (m p : Nat) (E F : Array Bool) (hm : P.follows .mixedOrders = true)
    (hQ : ∀ c d v a w, Q (.panic c) (Act.put a d v) w → Q (.panic c) a w)
    (hB : (Region.noSelect l.toArray && decide (m + p + 1 ≤ l.length) && lexE .any l.toArray m E m 0 ((Array.replicate l.length false).setIfInBounds (m + p) true) && (Region.ready .any l.toArray E).all (fun j => decide (m ≤ j)) &&
      pureB .any l.toArray (F.setIfInBounds (m + p) true) p m E && pureB .any l.toArray F p m (E.setIfInBounds (m + p) false) && decide (Region.ready .any l.toArray F = [m + p]) && Region.seqB .any l.toArray (l.length - (m + p + 1)) (m + p + 1) (F.setIfInBounds (m + p) true)) = true)
    (hA : allocB3 l.toArray m (m + p) a.tmps.size = true) (obj : Obj) (x : Oper) (hx : l[m + p]? = some x)
    (hal : ∀ (a : Act) (w : World), (execOp a.eval x).run P w = .ok (.value (.pointer (some ⟨w.heap.size, 0, none⟩))) (w.alloc obj)) (aF aG : Act)
    (h : ∀ W, Below w.heap.size w W → wpQuiet P l.toArray (CW W) (fun a' => a' = aF) (l.take m) a)
    (hp : pureTo P l.toArray ((l.drop m).take p) aF aG) (hp' : ∀ v, pureTo P l.toArray ((l.drop m).take p) (aF.put x.dst v) (aG.put x.dst v))
    (hT : ∀ w1 w2, Below w.heap.size w w1 → Below (w1.alloc obj).heap.size (w1.alloc obj) w2 → wpList P l.toArray Q (l.drop (m + p + 1)) (aG.put x.dst (.pointer (some ⟨w1.heap.size, 0, none⟩))) w2) :
    (Code.region id l.toArray true).wp P Q a w := by
  simp only [Bool.and_eq_true, decide_eq_true_eq] at hB
  obtain ⟨⟨⟨⟨⟨⟨⟨sel, hn⟩, lex⟩, hE⟩, pb1⟩, pb2⟩, hF⟩, sq⟩ := hB
  have hxa : l.toArray[m + p]? = some x := by simpa using hx
  unfold allocB3 at hA
  rw [hxa] at hA
  simp only [Bool.and_eq_true, List.all_eq_true, List.mem_range] at hA
  obtain ⟨⟨xe, xg⟩, hall⟩ := hA
  have xe' : x.after = #[] := by simpa using xe
  have xg' : x.guard = none := by simpa using xg
  have hz : l.toArray.size = l.length := by simp
  have tl : (l.take m).length = m := by rw [List.length_take]; omega
  have tp : ((l.drop m).take p).length = p := by rw [List.length_take, List.length_drop]; omega
  have spec := Region.noSelect_spec sel
  have fact : ∀ j o, j < m → l.toArray[j]? = some o → ∃ d, o.dst = some d ∧ d < a.tmps.size ∧ x.apart l.toArray o = true ∧ ∀ i p, i < m → i ≠ j → l.toArray[i]? = some p → p.dst ≠ some d := by
    intro j o hj ho
    have t := hall j hj
    rw [ho] at t
    simp only [Bool.and_eq_true] at t
    obtain ⟨⟨t1, t2⟩, t3⟩ := t
    cases hd : o.dst with
    | none => rw [hd] at t1; cases t1
    | some d =>
      rw [hd] at t1
      refine ⟨d, rfl, by simpa using t1, t2, fun i p hi hne hp => ?_⟩
      have u := List.all_eq_true.1 t3 i (List.mem_range.2 hi)
      rw [hp] at u
      simp only [Bool.or_eq_true, beq_iff_eq, bne_iff_ne] at u
      rcases u with u | u
      · exact absurd u hne
      · rw [hd] at u; exact u
  let g := l.length - (m + p + 1)
  have dl : (l.drop (m + p + 1)).length = g := by rw [List.length_drop]
  have r0 : (Array.replicate l.length false).getD (m + p) true = false := getD_in (by simp; omega) (getD_replicate_false _ _)
  have pl : ∀ j, j < ((l.drop m).take p).length → ((l.drop m).take p)[j]? = l.toArray[m + j]? := fun j hj => by
    rw [tp] at hj
    simp [List.getElem?_take, hj, List.getElem?_drop]
  have tail : ∀ w1 w2, Below w.heap.size w w1 → Below (w1.alloc obj).heap.size (w1.alloc obj) w2 → wpAny P .any l.toArray Q g (F.setIfInBounds (m + p) true) (aG.put x.dst (.pointer (some ⟨w1.heap.size, 0, none⟩))) w2 := fun w1 w2 h1 h2 => by
    have t := wpAny_of_seq (md := .any) (P := P) (ops := l.toArray) (Q' := Q) (l.drop (m + p + 1)) (m + p + 1) (F.setIfInBounds (m + p) true) (aG.put x.dst (.pointer (some ⟨w1.heap.size, 0, none⟩))) w2 (fun j => by simp [List.getElem?_drop]) (by rw [dl]; exact sq) (hT w1 w2 h1 h2)
    rwa [dl] at t
  have fin := one_left2 (P := P) (Q := Q) (m := m) (g := g + p) (α := m + p) (aF := aF) (w := w) (N := a.tmps.size) (L := fun ls' a' => ls' = E ∧ a' = aF) hxa (by omega) xe' xg' spec hal fact (fun _ _ h => h.2)
    (fun ls b x1 hu hL hx1 => by
      have e : ls = E.setIfInBounds (m + p) false := by rw [flag_back hu, hL.1]
      rw [e, hL.2]
      have t := pure_any (P := P) (md := .any) (ops := l.toArray) hQ sel (E := F) (b := aG) (w := x1) (g := g + 1) (by
        refine ⟨fun e => (by rw [hF] at e; cases e), fun i hi => ?_⟩
        rw [hF] at hi
        obtain rfl : i = m + p := by simpa using hi
        unfold wpOp
        simp only [hxa]
        rw [if_pos (by unfold Region.wanted; rw [xg'])]
        left
        unfold Oper.wp
        rw [hal]
        exact tail x1 _ hx1 (Below.refl _ _)) ((l.drop m).take p) m (E.setIfInBounds (m + p) false) aF pl (by rw [tp]; exact pb2) hp
      rw [tp] at t
      rw [show g + p + 1 = g + 1 + p by omega]
      exact t)
    (fun ls x1 w2 hL hx1 hw2 => by
      rw [hL.1]
      have t := pure_any (P := P) (md := .any) (ops := l.toArray) hQ sel (tail x1 w2 hx1 hw2) ((l.drop m).take p) m E _ pl (by rw [tp]; exact pb1) (hp' _)
      rw [tp] at t
      exact t) m (Array.replicate l.length false) a { w with drawn := w.drawn + 1 } rfl (Below.drew (Below.refl _ _)) r0 (fun W hW => by
      have t := QL.lexE (P := P) (C := CW W) (md := .any) (n := m) (E := E) sel (fun j hj => by simpa using List.all_eq_true.1 hE j hj) (l.take m) 0 _ a (fun j hj => by
        rw [tl] at hj
        simp [hj]) (by rw [tl]; exact lex) (h W hW)
      rw [tl] at t
      exact t)
  rw [show m + 1 + (g + p) = l.toArray.size by rw [hz]; omega] at fin
  refine wp_region_any hm ?_
  rw [hz]
  rw [hz] at fin
  exact fin
end
end Go.Proofs.YtmkfnfencllfnaaDoor
/- A law on regions that draw their order: operations that only read or call, then plain ones (they touch no world, and may come up among the last), then others in their order. -/
set_option linter.all false
set_option autoImplicit false
namespace Go.Proofs.YtmkfnfencllfnaaDoor
open Go Go.Sort Go.RowKit
section
variable {P : Program}
theorem wp_region_plain_tail {id : Nat} {Q : Exit → Act → World → Prop} {a : Act} {w : World} {l : List Oper} (m p : Nat) (E F : Array Bool) (hm : P.follows .mixedOrders = true)
    (hQ : ∀ c d v a w, Q (.panic c) (Act.put a d v) w → Q (.panic c) a w)
    (hB : (Region.noSelect l.toArray && decide (m + p ≤ l.length) && lexE .any l.toArray m E m 0 (Array.replicate l.length false) && (Region.ready .any l.toArray E).all (fun j => decide (m ≤ j)) &&
      pureB .any l.toArray F p m E && Region.seqB .any l.toArray (l.length - (m + p)) (m + p) F) = true)
    (h : wpQuiet P l.toArray (fun w' => ∃ p : Regrown, w' = grow (redrawn w p.d) p.os) (fun a' => ∃ b, pureTo P l.toArray ((l.drop m).take p) a' b ∧ ∀ w', (∃ p : Regrown, w' = grow (redrawn w p.d) p.os) → wpList P l.toArray Q (l.drop (m + p)) b w') (l.take m) a) :
    (Code.region id l.toArray true).wp P Q a w := by
  simp only [Bool.and_eq_true, decide_eq_true_eq] at hB
  obtain ⟨⟨⟨⟨⟨sel, hn⟩, lex⟩, hE⟩, pb⟩, sq⟩ := hB
  have tl : (l.take m).length = m := by rw [List.length_take]; omega
  have tp : ((l.drop m).take p).length = p := by rw [List.length_take, List.length_drop]; omega
  have dl : (l.drop (m + p)).length = l.length - (m + p) := by rw [List.length_drop]
  have hE' : ∀ j, j ∈ Region.ready .any l.toArray E → m ≤ j := fun j hj => by
    have := List.all_eq_true.1 hE j hj
    simpa using this
  have H := QL.lexE (P := P) (C := fun w' => ∃ p : Regrown, w' = grow (redrawn w p.d) p.os) (md := .any) (n := m) sel hE' (l.take m) 0 (Array.replicate l.length false) a (fun j hj => by
    rw [tl] at hj
    simp [hj]) (by rw [tl]; exact lex) h
  rw [tl] at H
  have K := QL.any (Q := Q) (g := l.length - (m + p) + p) (fun ls a' w' hw' hL => by
    obtain ⟨rfl, b, hb, ht⟩ := hL
    have t := wpAny_of_seq (md := .any) (P := P) (Q' := Q) (l.drop (m + p)) (m + p) F b w' (fun j => by simp [List.getElem?_drop]) (by rw [dl]; exact sq) (ht w' hw')
    rw [dl] at t
    have r := pure_any hQ sel t ((l.drop m).take p) m ls a' (fun j hj => by rw [tp] at hj; simp [hj]) (by rw [tp]; exact pb) hb
    rw [tp] at r
    exact r) m _ a _ ⟨⟨w.drawn + 1, #[]⟩, by rw [grow_empty]⟩ H
  have sz : l.toArray.size = l.length := by simp
  rw [show m + (l.length - (m + p) + p) = l.toArray.size by omega, ← sz] at K
  exact wp_region_any hm K
end
end Go.Proofs.YtmkfnfencllfnaaDoor
/- A law on regions that draw their order: plain operations at the head (they touch no world, and may come up late), then operations that only read or call, then others in their order. -/
set_option linter.all false
set_option autoImplicit false
namespace Go.Proofs.YtmkfnfencllfnaaDoor
open Go Go.Sort Go.RowKit
section
variable {P : Program} {ops : Array Oper} {md : Region.Mode} {C : World → Prop}
/-- Each operation from p on below n has one behind it, up to n, that waits for it. -/
def sinkP (md : Region.Mode) (ops : Array Oper) (p n : Nat) : Bool := (List.range n).all fun i => decide (i < p) || (List.range (n + 1)).any fun j => decide (i < j) && Region.waitsFor md ops j i
theorem tail_last {p n : Nat} {ls : Array Bool} (hs : sinkP md ops p n = true) (hc : Region.chainB md ops n = true) (inv : HeadInv md ops n ls) {t : Nat} (ht : n ≤ t) (hr : t ∈ Region.ready md ops ls) :
    ∀ d i, n - i = d → p ≤ i → i < n → ls.getD i false = true := by
  obtain ⟨_, ot, hot, hall⟩ := mem_ready.1 hr
  have tl : t < ops.size := (Array.getElem?_eq_some_iff.1 hot).1
  have tn : t = n := by
    rcases Nat.lt_or_ge n t with h | h
    · have c := List.all_eq_true.1 hc t (List.mem_range.2 tl)
      simp only [Bool.or_eq_true, decide_eq_true_eq] at c
      rcases c with c | c
      · omega
      · obtain ⟨o, ho, e, he, hb, on⟩ := Region.waitsFor_spec c
        obtain rfl : o = ot := Option.some.inj (ho.symm.trans hot)
        have x := hall e he hb
        rw [on, getD_both (inv.tail (t - 1) (by omega) (by omega))] at x
        cases x
    · omega
  subst tn
  intro d
  induction d using Nat.strongRecOn with
  | _ d ih =>
    intro i hd hp hi
    have s := List.all_eq_true.1 hs i (List.mem_range.2 hi)
    simp only [Bool.or_eq_true, decide_eq_true_eq] at s
    rcases s with s | s
    · omega
    · obtain ⟨j, hj, s⟩ := List.any_eq_true.1 s
      simp only [Bool.and_eq_true, decide_eq_true_eq] at s
      obtain ⟨o, ho, e, he, hb, on⟩ := Region.waitsFor_spec s.2
      have jt : j < t + 1 := List.mem_range.1 hj
      rcases Nat.lt_or_ge j t with h | h
      · have x := inv.closed j o ho (ih (t - j) (by omega) j rfl (by omega) h) e he hb
        rwa [on] at x
      · obtain rfl : j = t := by omega
        obtain rfl : o = ot := Option.some.inj (ho.symm.trans hot)
        have x := hall e he hb
        rwa [on] at x
theorem QL.firstP {p n i : Nat} {o : Oper} {v : Value} {L : Array Bool → Act → Prop} (hi : ops[i]? = some o) (hin : i < n) (hip : p ≤ i)
    (sel : ∀ (j : Nat) (p : Oper) cs b, ops[j]? = some p → p.op ≠ .select cs b) (hs : sinkP md ops p n = true) (hc : Region.chainB md ops n = true)
    (hL : ∀ ls a, L ls a → ∀ j, j ∈ Region.ready md ops ls → n ≤ j) (f : Nat) :
    ∀ ls a, HeadInv md ops n ls →
      (∀ j p, ops[j]? = some p → j ≠ i → ls.getD j true = false → (∀ e ∈ p.after, Region.binds md e = true → e.on ≠ i) → o.apart ops p = true) →
      i ∈ Region.ready md ops ls → YieldsIn P ops C o v a → QL P md ops C n L f (ls.setIfInBounds i true) (a.put o.dst v) → QL P md ops C n L (f + 1) ls a := by
  have low : ∀ ls, HeadInv md ops n ls → i ∈ Region.ready md ops ls → ∀ j, j ∈ Region.ready md ops ls → j < n := fun ls inv hr j hj =>
    Nat.lt_of_not_le fun hle => by
      have x := tail_last hs hc inv hle hj _ i rfl hip hin
      rw [getD_both (mem_ready.1 hr).1] at x
      cases x
  have non : ∀ ls, i ∈ Region.ready md ops ls → Region.ready md ops ls ≠ [] := fun ls hr e => by rw [e] at hr; cases hr
  induction f with
  | zero =>
    intro ls a inv _ hr hy H
    refine ⟨non ls hr, fun j hj => ⟨low ls inv hr j hj, ?_⟩⟩
    by_cases e : j = i
    · subst e; exact hy.qOp hi H
    · exact absurd (hL _ _ H j (ready_mono hj e)) (Nat.not_le.2 (low ls inv hr j hj))
  | succ f ih =>
    intro ls a inv free hr hy H
    refine ⟨non ls hr, fun j hj => ⟨low ls inv hr j hj, ?_⟩⟩
    by_cases e : j = i
    · subst e; exact hy.qOp hi H
    · obtain ⟨ju, p, hp, all⟩ := mem_ready.1 hj
      have noti : ∀ e ∈ p.after, Region.binds md e = true → e.on ≠ i := fun x hx hb he => by
        have t := all x hx hb
        rw [he, getD_both (mem_ready.1 hr).1] at t
        cases t
      have st := qOp_put hp (free j p hp e ju noti) (fun cs b => sel i o cs b hi) (fun cs b => sel j p cs b hp) hy (H.2 j (ready_mono hj e)).2
      refine qOp_mono (fun a' h3 => ih _ a' (inv.set hj (low ls inv hr j hj)) (fun k q hk hki hu hno => ?_) (ready_mono hr (fun c => e c.symm)) h3.1 ?_) st
      · refine free k q hk hki ?_ hno
        by_cases c : j = k
        · subst c; exact ju
        · rwa [getD_set_ne true c] at hu
      · rw [Array.setIfInBounds_comm _ _ e]; exact h3.2
theorem QL.lexP {p n g : Nat} {R : Act → Prop} (sel : Region.noSelect ops = true) (hs : sinkP md ops p n = true) (hc : Region.chainB md ops n = true) (l : List Oper) :
    ∀ (k : Nat) (ls : Array Bool) (a : Act), (∀ j, j < l.length → l[j]? = ops[k + j]?) → k + l.length = n → p ≤ k → HeadInv md ops n ls → Region.lexHead md ops g l.length k ls = true → wpQuiet P ops C R l a →
      QL P md ops C n (fun ls' a' => Region.seqB md ops g n ls' = true ∧ R a') l.length ls a := by
  induction l with
  | nil =>
    intro k ls a _ hk _ _ hB h
    obtain rfl : k = n := hk
    exact ⟨hB, h⟩
  | cons o l ih =>
    intro k ls a hl hk hp inv hB h
    have h0 : ops[k]? = some o := by simpa using (hl 0 (Nat.succ_pos _)).symm
    have kn : k < n := by rw [← hk]; exact Nat.lt_add_of_pos_right (Nat.succ_pos _)
    simp only [List.length_cons, Region.lexHead, Bool.and_eq_true] at hB
    have rk : k ∈ Region.ready md ops ls := by simpa using hB.1.1
    have q : qOp P ops C k (wpQuiet P ops C R l) a := by unfold qOp; simp only [h0]; exact h
    obtain ⟨v, hy, hK⟩ := yieldsIn_of_qOp h0 q
    refine QL.firstP h0 kn hp (Region.noSelect_spec sel) hs hc (fun ls' a' x => seqB_ready x.1) l.length ls a inv (Region.free_spec h0 hB.1.2) rk hy ?_
    refine ih (k + 1) _ _ (fun j hj => ?_) (by rw [← hk, List.length_cons]; omega) (by omega) (inv.set rk kn) hB.2 hK
    have t := hl (j + 1) (by simpa using hj)
    rw [List.getElem?_cons_succ] at t
    rw [t]; congr 1; omega
theorem pureB_inv {n : Nat} {F : Array Bool} : ∀ (f k : Nat) (ls : Array Bool), k + f ≤ n → HeadInv md ops n ls → pureB md ops F f k ls = true → HeadInv md ops n F := by
  intro f
  induction f with
  | zero => intro k ls _ inv h; have e : ls = F := by simpa [pureB] using h
            rw [← e]; exact inv
  | succ f ih =>
    intro k ls hk inv h
    simp only [pureB, Bool.and_eq_true] at h
    exact ih (k + 1) _ (by omega) (inv.set (by simpa using h.1.1) (by omega)) h.2
theorem wp_region_head_tail {id : Nat} {Q : Exit → Act → World → Prop} {a : Act} {w : World} {l : List Oper} (p m : Nat) (F : Array Bool) (hm : P.follows .mixedOrders = true)
    (hQ : ∀ c d v a w, Q (.panic c) (Act.put a d v) w → Q (.panic c) a w)
    (hB : (Region.noSelect l.toArray && decide (p + m < l.length) && pureB .any l.toArray F p 0 (Array.replicate l.length false) && sinkP .any l.toArray p (p + m) && Region.chainB .any l.toArray (p + m) &&
      Region.lexHead .any l.toArray (l.length - (p + m)) m p F) = true) (b : Act)
    (hp : pureTo P l.toArray (l.take p) a b)
    (h : wpQuiet P l.toArray (fun w' => ∃ p : Regrown, w' = grow (redrawn w p.d) p.os) (fun a' => ∀ w', (∃ p : Regrown, w' = grow (redrawn w p.d) p.os) → wpList P l.toArray Q (l.drop (p + m)) a' w') ((l.drop p).take m) b) :
    (Code.region id l.toArray true).wp P Q a w := by
  simp only [Bool.and_eq_true, decide_eq_true_eq] at hB
  obtain ⟨⟨⟨⟨⟨sel, hn⟩, pb⟩, sk⟩, ch⟩, lex⟩ := hB
  have sz : l.toArray.size = l.length := by simp
  have tl : ((l.drop p).take m).length = m := by rw [List.length_take, List.length_drop]; omega
  have tp : (l.take p).length = p := by rw [List.length_take]; omega
  have dl : (l.drop (p + m)).length = l.length - (p + m) := by rw [List.length_drop]
  have i0 : HeadInv .any l.toArray (p + m) (Array.replicate l.length false) :=
    ⟨by simp, fun j oj _ hl => (by rw [getD_replicate_false] at hl; cases hl), fun t _ ht => getD_in (by simpa using ht) (getD_replicate_false _ _)⟩
  have iF := pureB_inv p 0 _ (by omega) i0 pb
  have H := QL.lexP (P := P) (C := fun w' => ∃ p : Regrown, w' = grow (redrawn w p.d) p.os) (md := .any) (g := l.length - (p + m)) sel sk ch ((l.drop p).take m) p F b (fun j hj => by
    rw [tl] at hj
    simp [hj]) (by rw [tl]) (Nat.le_refl _) iF (by rw [tl]; exact lex) h
  rw [tl] at H
  have K := QL.any (Q := Q) (g := l.length - (p + m)) (fun ls a' w' hw' hL => by
    have t := wpAny_of_seq (md := .any) (P := P) (Q' := Q) (l.drop (p + m)) (p + m) ls a' w' (fun j => by simp [List.getElem?_drop]) (by rw [dl]; exact hL.1) (hL.2 w' hw')
    rw [dl] at t
    exact t) m _ b { w with drawn := w.drawn + 1 } ⟨⟨w.drawn + 1, #[]⟩, by rw [grow_empty]; rfl⟩ H
  have r := pure_any hQ sel K (l.take p) 0 (Array.replicate l.length false) a (fun j hj => by rw [tp] at hj; simp [hj]) (by rw [tp]; exact pb) hp
  rw [tp] at r
  rw [show m + (l.length - (p + m)) + p = l.toArray.size by omega, ← sz] at r
  exact wp_region_any hm r
end
end Go.Proofs.YtmkfnfencllfnaaDoor
/- A law on regions that draw their order: plain operations that may come up at any time (they touch no world) are taken first; then those that only read or call; then others in their order. -/
set_option linter.all false
set_option autoImplicit false
namespace Go.Proofs.YtmkfnfencllfnaaDoor
open Go Go.Sort Go.RowKit
section
variable {P : Program}
theorem wp_region_float_tail {id : Nat} {Q : Exit → Act → World → Prop} {a : Act} {w : World} {l : List Oper} (m p : Nat) (E F : Array Bool) (hm : P.follows .mixedOrders = true)
    (hQ : ∀ c d v a w, Q (.panic c) (Act.put a d v) w → Q (.panic c) a w)
    (hB : (Region.noSelect l.toArray && decide (m + p ≤ l.length) && lexE .any l.toArray m E m 0 F && (Region.ready .any l.toArray E).all (fun j => decide (m ≤ j)) &&
      pureB .any l.toArray F p m (Array.replicate l.length false) && Region.seqB .any l.toArray (l.length - (m + p)) (m + p) E) = true) (b : Act)
    (hp : pureTo P l.toArray ((l.drop m).take p) a b)
    (h : wpQuiet P l.toArray (fun w' => ∃ p : Regrown, w' = grow (redrawn w p.d) p.os) (fun a' => ∀ w', (∃ p : Regrown, w' = grow (redrawn w p.d) p.os) → wpList P l.toArray Q (l.drop (m + p)) a' w') (l.take m) b) :
    (Code.region id l.toArray true).wp P Q a w := by
  simp only [Bool.and_eq_true, decide_eq_true_eq] at hB
  obtain ⟨⟨⟨⟨⟨sel, hn⟩, lex⟩, hE⟩, pb⟩, sq⟩ := hB
  have tl : (l.take m).length = m := by rw [List.length_take]; omega
  have tp : ((l.drop m).take p).length = p := by rw [List.length_take, List.length_drop]; omega
  have dl : (l.drop (m + p)).length = l.length - (m + p) := by rw [List.length_drop]
  have hE' : ∀ j, j ∈ Region.ready .any l.toArray E → m ≤ j := fun j hj => by
    have := List.all_eq_true.1 hE j hj
    simpa using this
  have H := QL.lexE (P := P) (C := fun w' => ∃ p : Regrown, w' = grow (redrawn w p.d) p.os) (md := .any) (n := m) sel hE' (l.take m) 0 F b (fun j hj => by
    rw [tl] at hj
    simp [hj]) (by rw [tl]; exact lex) h
  rw [tl] at H
  have K := QL.any (Q := Q) (g := l.length - (m + p)) (fun ls a' w' hw' hL => by
    obtain ⟨rfl, ht⟩ := hL
    have t := wpAny_of_seq (md := .any) (P := P) (Q' := Q) (l.drop (m + p)) (m + p) ls a' w' (fun j => by simp [List.getElem?_drop]) (by rw [dl]; exact sq) (ht w' hw')
    rw [dl] at t
    exact t) m _ b _ ⟨⟨w.drawn + 1, #[]⟩, by rw [grow_empty]⟩ H
  have r := pure_any hQ sel K ((l.drop m).take p) m (Array.replicate l.length false) a (fun j hj => by rw [tp] at hj; simp [hj]) (by rw [tp]; exact pb) hp
  rw [tp] at r
  have sz : l.toArray.size = l.length := by simp
  rw [show m + (l.length - (m + p)) + p = l.toArray.size by omega, ← sz] at r
  exact wp_region_any hm r
end
end Go.Proofs.YtmkfnfencllfnaaDoor
/- A law on regions that draw their order: each of the first operations gives, in whatever order they come up, a value that has its property (it may tell of new blocks) and lets the world but grow; then others in their order. -/
set_option linter.all false
set_option autoImplicit false
namespace Go.Proofs.YtmkfnfencllfnaaDoor
open Go Go.Sort Go.RowKit
section
variable {P : Program}
/-- What an operation does: it lets the world but grow, and what it gives is as φ says. -/
def Stp (P : Program) (w : World) (φ : Value → World → Prop) : Result Next → Prop
  | .ok (.value u) w' => Below w.heap.size w w' ∧ φ u w'
  | .ok (.enter f args) w' => w' = w ∧ Calls P f args w (fun e w'' => ∃ u, e = .returned u ∧ Below w.heap.size w w'' ∧ φ u w'')
  | _ => False
theorem Stp.wp {o : Oper} {a : Act} {w : World} {φ : Value → World → Prop} {K : Act → World → Prop} {Q : Exit → Act → World → Prop} (h : Stp P w φ ((execOp a.eval o).run P w))
    (hk : ∀ u w', Below w.heap.size w w' → φ u w' → K (a.put o.dst u) w') : o.wp P a w K Q := by
  unfold Oper.wp
  generalize (execOp a.eval o).run P w = r at *
  cases r with
  | ok n w' =>
    cases n <;> simp only [Stp] at h <;> simp only [Oper.upon]
    case value u => exact hk u w' h.1 h.2
    case enter f args =>
      obtain ⟨rfl, hc⟩ := h
      exact hc.mono fun e w'' ⟨u, he, hb, hf⟩ => by subst he; exact hk u w'' hb hf
  | halt x w' => simp only [Stp] at h
def dOf (l : List Oper) (i : Nat) : Tmp := (l[i]?.bind (·.dst)).getD 0
def puts (a : Act) : List Oper → Nat → (Nat → Value) → Act
  | [], _, _ => a
  | o :: l, k, x => puts (a.put o.dst (x k)) l (k + 1) x
/-- What is asked of the operations' make. -/
def relB (l : List Oper) (n N : Nat) : Bool :=
  decide (n < l.length) && Region.noSelect l.toArray && Region.sinkB .any l.toArray n && Region.chainB .any l.toArray n && Region.seqB .any l.toArray (l.length - n) n (Array.replicate n true ++ Array.replicate (l.length - n) false) &&
  (List.range n).all fun i => match l[i]? with
    | none => false
    | some o => o.guard.isNone && (o.after.all fun e => !(Region.binds .any e) || decide (e.on < i)) && (match o.dst with
      | none => false
      | some d => decide (d < N) && (List.range n).all fun j => j == i || match l[j]? with
        | none => false
        | some p => p.dst != some d) && (o.looksAt l.toArray).all fun t => (List.range n).all fun j => match l[j]? with
        | none => false
        | some p => p.dst != some t || Region.waitsFor .any l.toArray i j
structure RelS (l : List Oper) (n N : Nat) : Prop where
  ln : n < l.length
  sel : Region.noSelect l.toArray = true
  snk : Region.sinkB .any l.toArray n = true
  chn : Region.chainB .any l.toArray n = true
  sq : Region.seqB .any l.toArray (l.length - n) n (Array.replicate n true ++ Array.replicate (l.length - n) false) = true
  op : ∀ i, i < n → ∃ o, l[i]? = some o ∧ o.guard = none ∧ (∀ e ∈ o.after, Region.binds .any e = true → e.on < i) ∧ o.dst = some (dOf l i) ∧ dOf l i < N ∧
    (∀ j, j < n → j ≠ i → dOf l j ≠ dOf l i) ∧ ∀ j, j < n → dOf l j ∈ o.looksAt l.toArray → Region.waitsFor .any l.toArray i j = true
theorem relB.spec {l : List Oper} {n N : Nat} (h : relB l n N = true) : RelS l n N := by
  unfold relB at h
  simp only [Bool.and_eq_true, decide_eq_true_eq] at h
  obtain ⟨⟨⟨⟨⟨h1, h2⟩, h3⟩, h4⟩, h5⟩, h6⟩ := h
  have g : ∀ i, i < n → ∃ o d, l[i]? = some o ∧ o.guard = none ∧ (∀ e ∈ o.after, Region.binds .any e = true → e.on < i) ∧ o.dst = some d ∧ d < N ∧
      (∀ j, j < n → j ≠ i → ∀ p, l[j]? = some p → p.dst ≠ some d) ∧ ∀ t ∈ o.looksAt l.toArray, ∀ j, j < n → ∀ p, l[j]? = some p → p.dst = some t → Region.waitsFor .any l.toArray i j = true := by
    intro i hi
    have t := List.all_eq_true.1 h6 i (List.mem_range.2 hi)
    cases ho : l[i]? with
    | none => simp [ho] at t
    | some o =>
      simp only [ho, Bool.and_eq_true] at t
      obtain ⟨⟨⟨t1, t2⟩, t3⟩, t4⟩ := t
      cases hd : o.dst with
      | none => simp [hd] at t3
      | some d =>
        simp only [hd, Bool.and_eq_true, decide_eq_true_eq] at t3
        refine ⟨o, d, rfl, by simpa using t1, fun e he hb => ?_, hd, t3.1, fun j hj hne p hp hpd => ?_, fun u hu j hj p hp hpd => ?_⟩
        · have := Array.all_eq_true_iff_forall_mem.1 t2 e he
          simpa [hb] using this
        · have := List.all_eq_true.1 t3.2 j (List.mem_range.2 hj)
          simp [hp, hpd, hne] at this
        · have := List.all_eq_true.1 (List.all_eq_true.1 t4 u hu) j (List.mem_range.2 hj)
          simpa [hp, hpd] using this
  have dd : ∀ i, i < n → ∃ o, l[i]? = some o ∧ o.dst = some (dOf l i) := fun i hi => by
    obtain ⟨o, d, ho, _, _, hd, _⟩ := g i hi
    exact ⟨o, ho, by simp [dOf, ho, hd]⟩
  refine ⟨h1, h2, h3, h4, h5, fun i hi => ?_⟩
  obtain ⟨o, d, ho, q1, q2, hd, q3, q4, q5⟩ := g i hi
  have e : dOf l i = d := by simp [dOf, ho, hd]
  rw [e]
  refine ⟨o, ho, q1, q2, hd, q3, fun j hj hne c => ?_, fun j hj hm => ?_⟩
  · obtain ⟨p, hp, hpd⟩ := dd j hj
    exact q4 j hj hne p hp (by rw [hpd, c])
  · obtain ⟨p, hp, hpd⟩ := dd j hj
    exact q5 _ hm j hj p hp hpd
theorem puts_size (x : Nat → Value) : ∀ (l : List Oper) (a : Act) (k : Nat), (puts a l k x).tmps.size = a.tmps.size := by
  intro l
  induction l with
  | nil => intro a k; rfl
  | cons o l ih => intro a k; rw [puts, ih]; cases o.dst <;> simp [Act.put]
theorem puts_defers (x : Nat → Value) : ∀ (l : List Oper) (a : Act) (k : Nat), (puts a l k x).defers = a.defers := by
  intro l
  induction l with
  | nil => intro a k; rfl
  | cons o l ih => intro a k; rw [puts, ih]; cases o.dst <;> simp [Act.put]
theorem puts_oth (x : Nat → Value) (t : Nat) : ∀ (l : List Oper) (a : Act) (k : Nat), (∀ o ∈ l, o.dst ≠ some t) → (puts a l k x).tmps.getD t undef = a.tmps.getD t undef := by
  intro l
  induction l with
  | nil => intro a k _; rfl
  | cons o l ih =>
    intro a k h
    rw [puts, ih _ _ (fun p hp => h p (List.mem_cons_of_mem _ hp)), put_oth _ _ _ _ (h o (List.mem_cons_self ..))]
theorem puts_at (x : Nat → Value) (t : Nat) : ∀ (l : List Oper) (a : Act) (k j : Nat) (o : Oper), l[j]? = some o → o.dst = some t → t < a.tmps.size → (∀ i p, l[i]? = some p → i ≠ j → p.dst ≠ some t) → (puts a l k x).tmps.getD t undef = x (k + j) := by
  intro l
  induction l with
  | nil => intro a k j o h; cases h
  | cons p l ih =>
    intro a k j o h hd ht hne
    rw [puts]
    cases j with
    | zero =>
      simp only [List.getElem?_cons_zero, Option.some.injEq] at h
      subst h
      rw [puts_oth x t l _ _ (fun q hq => by
        obtain ⟨i, hi⟩ := List.getElem?_of_mem hq
        exact hne (i + 1) q (by simpa using hi) (by omega)), hd, put_get _ _ _ ht]
      rfl
    | succ j =>
      rw [ih _ (k + 1) j o (by simpa using h) hd (by rw [put_size]; exact ht) (fun i q hi hij => hne (i + 1) q (by simpa using hi) (by omega))]
      congr 1
      omega
/-- What holds while they come up. -/
structure RInv (l : List Oper) (n : Nat) (a0 : Act) (w0 : World) (V : Nat → Value → World → Prop) (ls : Array Bool) (a : Act) (w : World) : Prop where
  hd : HeadInv .any l.toArray n ls
  bl : Below w0.heap.size w0 w
  sz : a.tmps.size = a0.tmps.size
  df : a.defers = a0.defers
  vs : ∀ i, i < n → ls.getD i true = true → V i (a.tmps.getD (dOf l i) undef) w
  ot : ∀ t, (∀ i, i < n → ls.getD i true = true → dOf l i ≠ t) → a.tmps.getD t undef = a0.tmps.getD t undef
def left (n : Nat) (ls : Array Bool) : Nat := ((List.range n).filter fun i => !(ls.getD i true)).length
theorem left_set {n : Nat} {ls : Array Bool} {i : Nat} (hi : i < n) (hs : ls.getD i true = false) : left n (ls.setIfInBounds i true) + 1 = left n ls := by
  unfold left
  have hlt : i < ls.size := flag_lt hs
  have e : ∀ j, (ls.setIfInBounds i true).getD j true = if j = i then true else ls.getD j true := fun j => by
    by_cases c : j = i
    · subst c; simp [hlt]
    · rw [if_neg c, getD_set_ne true (fun x => c x.symm)]
  have g : ∀ m, i < m → ((List.range m).filter fun j => !((ls.setIfInBounds i true).getD j true)).length + 1 = ((List.range m).filter fun j => !(ls.getD j true)).length := by
    intro m
    induction m with
    | zero => intro h; omega
    | succ m ih =>
      intro h
      rw [List.range_succ, List.filter_append, List.filter_append, List.length_append, List.length_append]
      by_cases c : i < m
      · have := ih c
        have q : ([m].filter fun j => !((ls.setIfInBounds i true).getD j true)) = [m].filter fun j => !(ls.getD j true) := by
          simp only [List.filter_cons, List.filter_nil, e m, show ¬ m = i by omega, if_false]
        rw [q]; omega
      · have c' : m = i := by omega
        subst c'
        have q : ((List.range m).filter fun j => !((ls.setIfInBounds m true).getD j true)) = (List.range m).filter fun j => !(ls.getD j true) := by
          apply List.filter_congr
          intro j hj
          rw [e j, if_neg (by have := List.mem_range.1 hj; omega)]
        rw [q]
        simp only [List.filter_cons, List.filter_nil, e m, if_pos rfl, hs]
        simp
  exact g n hi
theorem left_zero {n : Nat} {ls : Array Bool} (h : left n ls = 0) (i : Nat) (hi : i < n) : ls.getD i true = true := by
  unfold left at h
  have := List.eq_nil_of_length_eq_zero h
  rw [List.filter_eq_nil_iff] at this
  have := this i (List.mem_range.2 hi)
  simpa using this
theorem left_some {n : Nat} {ls : Array Bool} {f : Nat} (h : left n ls = f + 1) : ∃ i, i < n ∧ ls.getD i true = false ∧ ∀ j, j < i → ls.getD j true = true := by
  have ex : ∃ i, i < n ∧ ls.getD i true = false := by
    unfold left at h
    have : ((List.range n).filter fun i => !(ls.getD i true)) ≠ [] := fun c => by rw [c] at h; simp at h
    obtain ⟨i, hi⟩ := List.exists_mem_of_ne_nil _ this
    rw [List.mem_filter] at hi
    exact ⟨i, List.mem_range.1 hi.1, by simpa using hi.2⟩
  obtain ⟨i, hi, hf⟩ := ex
  induction i using Nat.strongRecOn with
  | _ i ih =>
    by_cases c : ∀ j, j < i → ls.getD j true = true
    · exact ⟨i, hi, hf, c⟩
    · simp only [Classical.not_forall] at c
      obtain ⟨j, hj, hc⟩ := c
      exact ih j hj (by omega) (by simpa using hc)
/-- Operands that are no slots. -/
structure Plain (ρ : Operand → Value) : Prop where
  c : ∀ v, ρ (.const v) = v
  f : ∀ g, ρ (.func g) = .func (.func g) #[] #[]
  g : ∀ g, ρ (.global g) = .pointer (some ⟨g, 0, none⟩)
theorem Stp.val {w : World} {φ : Value → World → Prop} {r : Result Next} {v : Value} (h : r = .ok (.value v) w) (hv : φ v w) : Stp P w φ r := by rw [h]; exact ⟨Below.refl _ _, hv⟩
theorem Stp.new {w w' : World} {φ : Value → World → Prop} {r : Result Next} {v : Value} (h : r = .ok (.value v) w') (hb : Below w.heap.size w w') (hv : φ v w') : Stp P w φ r := by rw [h]; exact ⟨hb, hv⟩
theorem Stp.call {w : World} {φ : Value → World → Prop} {r : Result Next} {v : Value} {f : FuncId} {args : Array Value} (h : r = .ok (.enter f args) w) (c : Calls P f args w fun e w' => e = .returned v ∧ Below w.heap.size w w') (hv : ∀ w', φ v w') : Stp P w φ r := by
  rw [h]
  exact ⟨rfl, c.mono fun e w' ⟨h1, h2⟩ => ⟨v, h1, h2, hv w'⟩⟩
theorem Stp.calls {w : World} {φ : Value → World → Prop} {r : Result Next} {f : FuncId} {args : Array Value} (h : r = .ok (.enter f args) w) (c : Calls P f args w fun e w' => ∃ u, e = .returned u ∧ Below w.heap.size w w' ∧ φ u w') : Stp P w φ r := by
  rw [h]
  exact ⟨rfl, c⟩
/-- What an operation sees in slot t: what one of the first ones gave, or what was there. -/
def seen (l : List Oper) (n : Nat) (V : Nat → Value → World → Prop) (a0 : Act) (ρ : Operand → Value) (W : World) (t : Nat) : Prop := match (List.range n).find? (fun j => dOf l j == t) with
  | some j => V j (ρ (.tmp t)) W
  | none => ρ (.tmp t) = a0.eval (.tmp t)
theorem rel_core {Q : Exit → Act → World → Prop} {l : List Oper} {n : Nat} {a0 : Act} {w0 : World} {V : Nat → Value → World → Prop} (S : RelS l n a0.tmps.size)
    (st : ∀ i v w w', V i v w → Below w.heap.size w w' → V i v w')
    (ho : ∀ i o ρ W, i < n → l[i]? = some o → Below w0.heap.size w0 W → Plain ρ → (∀ t, (o.looksAt l.toArray).contains t = true → seen l n V a0 ρ W t) → Stp P W (V i) ((execOp ρ o).run P W))
    (ht : ∀ x W, Below w0.heap.size w0 W → (∀ i, i < n → V i (x i) W) → wpList P l.toArray Q (l.drop n) (puts a0 (l.take n) 0 x) W) (f : Nat) :
    ∀ ls a w, RInv l n a0 w0 V ls a w → left n ls = f → wpAny P .any l.toArray Q (f + (l.length - n)) ls a w := by
  have hn : n < l.toArray.size := by simpa using S.ln
  have tk : ∀ i, i < n → (l.take n)[i]? = l[i]? := fun i hi => by rw [List.getElem?_take, if_pos hi]
  have slot : ∀ (x : Nat → Value) i, i < n → (puts a0 (l.take n) 0 x).tmps.getD (dOf l i) undef = x i := fun x i hi => by
    obtain ⟨o, h1, _, _, h2, h3, h4, _⟩ := S.op i hi
    have := puts_at x (dOf l i) (l.take n) a0 0 i o (by rw [tk i hi]; exact h1) h2 h3 (fun j p hp hne c => by
      have hj : j < n := by have := (List.getElem?_eq_some_iff.1 hp).1; rw [List.length_take] at this; omega
      rw [tk j hj] at hp
      obtain ⟨p', h1', _, _, h2', _⟩ := S.op j hj
      rw [h1'] at hp
      cases hp
      rw [h2'] at c
      exact h4 j hj hne (Option.some.inj c))
    rwa [Nat.zero_add] at this
  have rest : ∀ (x : Nat → Value) t, (∀ i, i < n → dOf l i ≠ t) → (puts a0 (l.take n) 0 x).tmps.getD t undef = a0.tmps.getD t undef := fun x t h =>
    puts_oth x t (l.take n) a0 0 (fun p hp c => by
      obtain ⟨j, hj⟩ := List.getElem?_of_mem hp
      have hjn : j < n := by have := (List.getElem?_eq_some_iff.1 hj).1; rw [List.length_take] at this; omega
      rw [tk j hjn] at hj
      obtain ⟨p', h1', _, _, h2', _⟩ := S.op j hjn
      rw [h1'] at hj
      cases hj
      rw [h2'] at c
      exact h j hjn (Option.some.inj c))
  induction f with
  | zero =>
    intro ls a w I h0
    have all := left_zero h0
    have els : ls = Array.replicate n true ++ Array.replicate (l.length - n) false := by
      have z : ls.size = l.length := by rw [I.hd.size]; simp
      apply Array.ext
      · simp [z]; have := S.ln; omega
      · intro i h1 h2
        by_cases c : i < n
        · have := all i c
          simp [h1] at this
          rw [Array.getElem_append_left (by simpa using c)]
          simp [this]
        · have := I.hd.tail i (by omega) (by simp; omega)
          simp [h1] at this
          rw [Array.getElem_append_right (by simp; omega)]
          simp [this]
    have ea : a = puts a0 (l.take n) 0 (fun i => a.tmps.getD (dOf l i) undef) := by
      have p1 := puts_size (fun i => a.tmps.getD (dOf l i) undef) (l.take n) a0 0
      have p2 := puts_defers (fun i => a.tmps.getD (dOf l i) undef) (l.take n) a0 0
      have e1 : a.tmps = (puts a0 (l.take n) 0 (fun i => a.tmps.getD (dOf l i) undef)).tmps := by
        apply Array.ext
        · rw [I.sz, p1]
        · intro t h1 h2
          have : a.tmps.getD t undef = (puts a0 (l.take n) 0 (fun i => a.tmps.getD (dOf l i) undef)).tmps.getD t undef := by
            by_cases c : ∃ i, i < n ∧ dOf l i = t
            · obtain ⟨i, hi, rfl⟩ := c
              rw [slot _ i hi]
            · have c' : ∀ i, i < n → dOf l i ≠ t := fun i hi e => c ⟨i, hi, e⟩
              rw [rest _ t c', I.ot t (fun i hi _ => c' i hi)]
          generalize (puts a0 (l.take n) 0 (fun i => a.tmps.getD (dOf l i) undef)).tmps = X at *
          have g1 : a.tmps.getD t undef = a.tmps[t] := by simp [h1]
          have g2 : X.getD t undef = X[t] := by simp [h2]
          rw [← g1, ← g2]; exact this
      have e2 : a.defers = (puts a0 (l.take n) 0 (fun i => a.tmps.getD (dOf l i) undef)).defers := by rw [I.df, p2]
      cases a
      cases hp : puts a0 (l.take n) 0 _
      rw [hp] at e1 e2
      simp only at e1 e2
      rw [e1, e2]
    have t := ht _ w I.bl (fun i hi => I.vs i hi (all i hi))
    rw [← ea] at t
    rw [Nat.zero_add]
    have r := wpAny_of_seq (md := .any) (P := P) (Q' := Q) (l.drop n) n ls a w (fun j => by simp [List.getElem?_drop]) (by rw [List.length_drop, els]; exact S.sq) t
    rwa [List.length_drop] at r
  | succ f ih =>
    intro ls a w I hf
    obtain ⟨i0, hi0, hu0, hlow⟩ := left_some hf
    have low : ∀ j, j ∈ Region.ready .any l.toArray ls → j < n := fun j hj => by
      rcases Nat.lt_or_ge j n with c | c
      · exact c
      · exact absurd hj (tail_waits S.snk S.chn hn I.hd (n - i0) i0 rfl hi0 hu0 j c)
    have szl : ls.size = l.length := by rw [I.hd.size]; simp
    have fin : ∀ j, j < n → ls.getD j true = true → ls.getD j false = true := fun j hj h => by
      have : j < ls.size := by rw [szl]; have := S.ln; omega
      simp [this] at h ⊢
      exact h
    have rdy : i0 ∈ Region.ready .any l.toArray ls := by
      obtain ⟨o, h1, _, h2, _⟩ := S.op i0 hi0
      exact mem_ready.2 ⟨hu0, o, by simpa using h1, fun e he hb => fin _ (Nat.lt_trans (h2 e he hb) hi0) (hlow _ (h2 e he hb))⟩
    rw [Nat.succ_add]
    refine ⟨fun h => absurd rdy (by rw [h]; simp), fun i hi => ?_⟩
    have hin := low i hi
    obtain ⟨o, h1, hg, h2, hd, hdn, hdd, hw⟩ := S.op i hin
    have h1' : l.toArray[i]? = some o := by simpa using h1
    obtain ⟨hun, o', ho', hall⟩ := mem_ready.1 hi
    rw [h1'] at ho'
    cases ho'
    have done : ∀ j, j < n → dOf l j ∈ o.looksAt l.toArray → ls.getD j true = true := fun j hj hm => by
      obtain ⟨oj, hoj, e, he, hb, hon⟩ := Region.waitsFor_spec (hw j hj hm)
      rw [h1'] at hoj
      cases hoj
      have := hall e he hb
      rw [hon] at this
      have hl : j < ls.size := by rw [szl]; have := S.ln; omega
      simp [hl] at this ⊢
      exact this
    have sp := ho i o a.eval w hin h1 I.bl ⟨fun _ => rfl, fun _ => rfl, fun _ => rfl⟩ (fun t hc => by
      have hm : t ∈ o.looksAt l.toArray := List.contains_iff_mem.1 hc
      unfold seen
      cases hf : (List.range n).find? (fun j => dOf l j == t) with
      | some j =>
        have h3 := List.find?_some hf
        have hj := List.mem_range.1 (List.mem_of_find?_eq_some hf)
        have e : dOf l j = t := by simpa using h3
        subst e
        exact I.vs j hj (done j hj hm)
      | none =>
        rw [List.find?_eq_none] at hf
        exact I.ot t (fun j hj _ e => by have := hf j (List.mem_range.2 hj); simp [e] at this))
    unfold wpOp
    rw [h1']
    simp only
    rw [if_pos (by simp [Region.wanted, hg])]
    refine .inl (Stp.wp sp fun u w' hb hv => ?_)
    rw [hd]
    refine ih _ _ _ ⟨I.hd.set hi hin, I.bl.trans (hb.mono I.bl.size), by rw [put_size]; exact I.sz, by rw [← I.df]; rfl, fun j hj hjd => ?_, fun t hto => ?_⟩ (by have := left_set hin hun; omega)
    · by_cases c : j = i
      · subst c
        rw [put_get _ _ _ (by rw [I.sz]; exact hdn)]
        exact hv
      · rw [getD_set_ne true (fun e => c e.symm)] at hjd
        rw [put_oth _ _ _ _ (by intro e; exact hdd j hj c (Option.some.inj e).symm)]
        exact st j _ w w' (I.vs j hj hjd) hb
    · have hlt : i < ls.size := flag_lt hun
      have hti := hto i hin (by simp [hlt])
      rw [put_oth _ _ _ _ (by intro e; exact hti (Option.some.inj e))]
      refine I.ot t fun j hj hjd => hto j hj ?_
      by_cases c : j = i
      · subst c; simp [hlt]
      · rw [getD_set_ne true (fun e => c e.symm)]; exact hjd
theorem wp_region_rel {id : Nat} {Q : Exit → Act → World → Prop} {a : Act} {w : World} {l : List Oper} (n : Nat) (V : Nat → Value → World → Prop) (hm : P.follows .mixedOrders = true) (hB : relB l n a.tmps.size = true)
    (st : ∀ i v w w', V i v w → Below w.heap.size w w' → V i v w')
    (ho : ∀ i o ρ W, i < n → l[i]? = some o → Below w.heap.size w W → Plain ρ → (∀ t, (o.looksAt l.toArray).contains t = true → seen l n V a ρ W t) → Stp P W (V i) ((execOp ρ o).run P W))
    (ht : ∀ x W, Below w.heap.size w W → (∀ i, i < n → V i (x i) W) → wpList P l.toArray Q (l.drop n) (puts a (l.take n) 0 x) W) : (Code.region id l.toArray true).wp P Q a w := by
  have S := relB.spec hB
  have fl : ∀ i, i < l.length → (Array.replicate l.toArray.size false).getD i true = false := fun i hi => by simp [hi]
  have z : left n (Array.replicate l.toArray.size false) = n := by
    unfold left
    rw [List.filter_eq_self.2 (fun i hi => by rw [fl i (by have := List.mem_range.1 hi; have := S.ln; omega)]; rfl), List.length_range]
  have H : HeadInv .any l.toArray n (Array.replicate l.toArray.size false) :=
    ⟨by simp, (fun j oj _ h => by rw [getD_replicate_false] at h; cases h), (fun t _ ht' => fl t (by simpa using ht'))⟩
  have r := rel_core S st ho ht n (Array.replicate l.toArray.size false) a { w with drawn := w.drawn + 1 } ⟨H, ⟨rfl, rfl, rfl, Nat.le_refl _, fun _ _ => rfl⟩, rfl, rfl, (fun i hi h => by
      rw [fl i (by have := S.ln; omega)] at h
      cases h), fun t _ => rfl⟩ z
  refine wp_region_any hm ?_
  have e : n + (l.length - n) = l.toArray.size := by have := S.ln; simp; omega
  rw [e] at r
  exact r
end
end Go.Proofs.YtmkfnfencllfnaaDoor
/- A law on regions that draw their order: every operation gives, in whatever order they come up, a value that has its property, and turns the world as a relation allows; no order of the text is asked for. -/
set_option linter.all false
set_option autoImplicit false
namespace Go.Proofs.YtmkfnfencllfnaaDoor
open Go Go.Sort Go.RowKit
section
variable {P : Program}
def StG (P : Program) (G : World → World → Prop) (w : World) (φ : Value → World → Prop) : Result Next → Prop
  | .ok (.value u) w' => G w w' ∧ φ u w'
  | .ok .skip w' => G w w' ∧ φ undef w'
  | .ok (.enter f args) w' => w' = w ∧ Calls P f args w (fun e w'' => ∃ u, e = .returned u ∧ G w w'' ∧ φ u w'')
  | _ => False
theorem StG.wp {G : World → World → Prop} {o : Oper} {a : Act} {w : World} {φ : Value → World → Prop} {K : Act → World → Prop} {Q : Exit → Act → World → Prop} (h : StG P G w φ ((execOp a.eval o).run P w))
    (hk : ∀ u w', G w w' → φ u w' → K (a.put o.dst u) w') : o.wp P a w K Q := by
  unfold Oper.wp
  generalize (execOp a.eval o).run P w = r at *
  cases r with
  | ok n w' =>
    cases n <;> simp only [StG] at h <;> simp only [Oper.upon]
    case value u => exact hk u w' h.1 h.2
    case skip => exact hk undef w' h.1 h.2
    case enter f args =>
      obtain ⟨rfl, hc⟩ := h
      exact hc.mono fun e w'' ⟨u, he, hb, hf⟩ => by subst he; exact hk u w'' hb hf
  | halt x w' => simp only [StG] at h
theorem StG.val {G : World → World → Prop} {w : World} {φ : Value → World → Prop} {r : Result Next} {v : Value} (h : r = .ok (.value v) w) (hg : G w w) (hv : φ v w) : StG P G w φ r := by rw [h]; exact ⟨hg, hv⟩
theorem StG.new {G : World → World → Prop} {w w' : World} {φ : Value → World → Prop} {r : Result Next} {v : Value} (h : r = .ok (.value v) w') (hb : G w w') (hv : φ v w') : StG P G w φ r := by rw [h]; exact ⟨hb, hv⟩
theorem StG.put {G : World → World → Prop} {w w' : World} {φ : Value → World → Prop} {r : Result Next} (h : r = .ok .skip w') (hb : G w w') (hv : φ undef w') : StG P G w φ r := by rw [h]; exact ⟨hb, hv⟩
theorem StG.call {G : World → World → Prop} {w : World} {φ : Value → World → Prop} {r : Result Next} {v : Value} {f : FuncId} {args : Array Value} (h : r = .ok (.enter f args) w) (c : Calls P f args w fun e w' => e = .returned v ∧ Below w.heap.size w w') (hg : ∀ w', Below w.heap.size w w' → G w w') (hv : ∀ w', Below w.heap.size w w' → φ v w') : StG P G w φ r := by
  rw [h]
  exact ⟨rfl, c.mono fun e w' ⟨h1, h2⟩ => ⟨v, h1, hg w' h2, hv w' h2⟩⟩
/-- Where an operation puts what it gives. -/
def dAt (l : List Oper) (i : Nat) : Option Tmp := l[i]?.bind (·.dst)
def vAt (l : List Oper) (i : Nat) (a : Act) : Value := match dAt l i with
  | some d => a.tmps.getD d undef
  | none => undef
def uAt (l : List Oper) (i : Nat) (u : Value) : Value := match dAt l i with
  | some _ => u
  | none => undef
/-- What is asked of the operations' make. -/
def allB (l : List Oper) (N : Nat) : Bool :=
  Region.noSelect l.toArray &&
  (List.range l.length).all fun i => match l[i]? with
    | none => false
    | some o => o.guard.isNone && (o.after.all fun e => !(Region.binds .any e) || decide (e.on < i)) && (match o.dst with
      | none => true
      | some d => decide (d < N) && (List.range l.length).all fun j => j == i || match l[j]? with
        | none => false
        | some p => p.dst != some d) && (o.looksAt l.toArray).all fun t => (List.range l.length).all fun j => match l[j]? with
        | none => false
        | some p => p.dst != some t || Region.waitsFor .any l.toArray i j
structure AllS (l : List Oper) (N : Nat) : Prop where
  sel : Region.noSelect l.toArray = true
  op : ∀ i, i < l.length → ∃ o, l[i]? = some o ∧ o.guard = none ∧ (∀ e ∈ o.after, Region.binds .any e = true → e.on < i) ∧ (∀ d, o.dst = some d → d < N ∧ ∀ j p, l[j]? = some p → j ≠ i → p.dst ≠ some d) ∧
    ∀ t ∈ o.looksAt l.toArray, ∀ j p, l[j]? = some p → p.dst = some t → Region.waitsFor .any l.toArray i j = true
theorem allB.spec {l : List Oper} {N : Nat} (h : allB l N = true) : AllS l N := by
  unfold allB at h
  simp only [Bool.and_eq_true] at h
  obtain ⟨h1, h6⟩ := h
  have lt : ∀ {j : Nat} {p : Oper}, l[j]? = some p → j < l.length := fun h => (List.getElem?_eq_some_iff.1 h).1
  refine ⟨h1, fun i hi => ?_⟩
  have t := List.all_eq_true.1 h6 i (List.mem_range.2 hi)
  cases ho : l[i]? with
  | none => simp [ho] at t
  | some o =>
    simp only [ho, Bool.and_eq_true] at t
    obtain ⟨⟨⟨t1, t2⟩, t3⟩, t4⟩ := t
    refine ⟨o, rfl, by simpa using t1, fun e he hb => ?_, fun d hd => ?_, fun u hu j p hp hpd => ?_⟩
    · have := Array.all_eq_true_iff_forall_mem.1 t2 e he
      simpa [hb] using this
    · simp only [hd, Bool.and_eq_true, decide_eq_true_eq] at t3
      refine ⟨t3.1, fun j p hp hne hpd => ?_⟩
      have := List.all_eq_true.1 t3.2 j (List.mem_range.2 (lt hp))
      simp [hp, hpd, hne] at this
    · have := List.all_eq_true.1 (List.all_eq_true.1 t4 u hu) j (List.mem_range.2 (lt hp))
      simpa [hp, hpd] using this
structure AInv (l : List Oper) (a0 : Act) (w0 : World) (G : World → World → Prop) (V : Nat → Value → World → Prop) (ls : Array Bool) (a : Act) (w : World) : Prop where
  hd : ls.size = l.length
  bl : G w0 w
  sz : a.tmps.size = a0.tmps.size
  df : a.defers = a0.defers
  vs : ∀ i, i < l.length → ls.getD i true = true → V i (vAt l i a) w
  ot : ∀ t, (∀ i, i < l.length → ls.getD i true = true → dAt l i ≠ some t) → a.tmps.getD t undef = a0.tmps.getD t undef
/-- What an operation sees in slot t: what one of them gave, or what was there. -/
def seenA (l : List Oper) (V : Nat → Value → World → Prop) (a0 : Act) (ρ : Operand → Value) (W : World) (t : Nat) : Prop := match (List.range l.length).find? (fun j => dAt l j == some t) with
  | some j => V j (ρ (.tmp t)) W
  | none => ρ (.tmp t) = a0.eval (.tmp t)
theorem all_core {Q : Exit → Act → World → Prop} {l : List Oper} {a0 : Act} {w0 : World} {G : World → World → Prop} {V : Nat → Value → World → Prop} (S : AllS l a0.tmps.size) (gt : ∀ a b c, G a b → G b c → G a c)
    (st : ∀ i v w w', V i v w → G w0 w → G w w' → V i v w')
    (ho : ∀ i o ρ W, i < l.length → l[i]? = some o → G w0 W → Plain ρ → (∀ t, (o.looksAt l.toArray).contains t = true → seenA l V a0 ρ W t) → StG P G W (fun u W' => V i (uAt l i u) W') ((execOp ρ o).run P W))
    (ht : ∀ x W, G w0 W → (∀ i, i < l.length → V i (x i) W) → Q .normal (puts a0 l 0 x) W) (f : Nat) :
    ∀ ls a w, AInv l a0 w0 G V ls a w → left l.length ls = f → wpAny P .any l.toArray Q f ls a w := by
  have lt : ∀ {j : Nat} {p : Oper}, l[j]? = some p → j < l.length := fun h => (List.getElem?_eq_some_iff.1 h).1
  have slot : ∀ (x : Nat → Value) i t, i < l.length → dAt l i = some t → (puts a0 l 0 x).tmps.getD t undef = x i := fun x i t hi hd => by
    obtain ⟨o, h1, _, _, h2, _⟩ := S.op i hi
    have hd' : o.dst = some t := by simpa [dAt, h1] using hd
    have := puts_at x t l a0 0 i o h1 hd' (h2 t hd').1 (fun j p hp hne => (h2 t hd').2 j p hp hne)
    rwa [Nat.zero_add] at this
  have rest : ∀ (x : Nat → Value) t, (∀ i, i < l.length → dAt l i ≠ some t) → (puts a0 l 0 x).tmps.getD t undef = a0.tmps.getD t undef := fun x t h =>
    puts_oth x t l a0 0 (fun p hp c => by
      obtain ⟨j, hj⟩ := List.getElem?_of_mem hp
      exact h j (lt hj) (by simp [dAt, hj, c]))
  induction f with
  | zero =>
    intro ls a w I h0
    have all := left_zero h0
    have ea : a = puts a0 l 0 (fun i => vAt l i a) := by
      have p1 := puts_size (fun i => vAt l i a) l a0 0
      have p2 := puts_defers (fun i => vAt l i a) l a0 0
      have e1 : a.tmps = (puts a0 l 0 (fun i => vAt l i a)).tmps := by
        apply Array.ext
        · rw [I.sz, p1]
        · intro t h1 h2
          have : a.tmps.getD t undef = (puts a0 l 0 (fun i => vAt l i a)).tmps.getD t undef := by
            by_cases c : ∃ i, i < l.length ∧ dAt l i = some t
            · obtain ⟨i, hi, hc⟩ := c
              rw [slot _ i t hi hc]
              simp only [vAt, hc]
            · have c' : ∀ i, i < l.length → dAt l i ≠ some t := fun i hi e => c ⟨i, hi, e⟩
              rw [rest _ t c', I.ot t (fun i hi _ => c' i hi)]
          generalize (puts a0 l 0 (fun i => vAt l i a)).tmps = X at *
          have g1 : a.tmps.getD t undef = a.tmps[t] := by simp [h1]
          have g2 : X.getD t undef = X[t] := by simp [h2]
          rw [← g1, ← g2]; exact this
      have e2 : a.defers = (puts a0 l 0 (fun i => vAt l i a)).defers := by rw [I.df, p2]
      generalize puts a0 l 0 (fun i => vAt l i a) = b at *
      cases a
      cases b
      simp only at e1 e2
      rw [e1, e2]
    have t := ht _ w I.bl (fun i hi => I.vs i hi (all i hi))
    rw [← ea] at t
    refine ⟨?_, t⟩
    refine List.eq_nil_iff_forall_not_mem.2 fun i hi => ?_
    obtain ⟨hun, o', ho', _⟩ := mem_ready.1 hi
    have hi' : i < l.length := lt (by simpa using ho')
    rw [all i hi'] at hun
    cases hun
  | succ f ih =>
    intro ls a w I hf
    obtain ⟨i0, hi0, hu0, hlow⟩ := left_some hf
    have fin : ∀ j, j < l.length → ls.getD j true = true → ls.getD j false = true := fun j hj h => by
      have : j < ls.size := by rw [I.hd]; exact hj
      simp [this] at h ⊢
      exact h
    have rdy : i0 ∈ Region.ready .any l.toArray ls := by
      obtain ⟨o, h1, _, h2, _⟩ := S.op i0 hi0
      exact mem_ready.2 ⟨hu0, o, by simpa using h1, fun e he hb => fin _ (Nat.lt_trans (h2 e he hb) hi0) (hlow _ (h2 e he hb))⟩
    refine ⟨fun h => absurd rdy (by rw [h]; simp), fun i hi => ?_⟩
    obtain ⟨hun, o', ho', hall⟩ := mem_ready.1 hi
    have hin : i < l.length := lt (by simpa using ho')
    obtain ⟨o, h1, hg, h2, hd, hw⟩ := S.op i hin
    have h1' : l.toArray[i]? = some o := by simpa using h1
    rw [h1'] at ho'
    have e' : o = o' := Option.some.inj ho'
    subst e'
    have done : ∀ j p t, l[j]? = some p → p.dst = some t → t ∈ o.looksAt l.toArray → ls.getD j true = true := fun j p t hp hpd hm => by
      obtain ⟨oj, hoj, e, he, hb, hon⟩ := Region.waitsFor_spec (hw t hm j p hp hpd)
      rw [h1'] at hoj
      cases hoj
      have := hall e he hb
      rw [hon] at this
      have hl : j < ls.size := by rw [I.hd]; exact lt hp
      simp [hl] at this ⊢
      exact this
    have sp := ho i o a.eval w hin h1 I.bl ⟨fun _ => rfl, fun _ => rfl, fun _ => rfl⟩ (fun t hc => by
      have hm : t ∈ o.looksAt l.toArray := List.contains_iff_mem.1 hc
      unfold seenA
      cases hf : (List.range l.length).find? (fun j => dAt l j == some t) with
      | some j =>
        have h3 := List.find?_some hf
        have hj := List.mem_range.1 (List.mem_of_find?_eq_some hf)
        have e : dAt l j = some t := by simpa using h3
        obtain ⟨p, hp, _⟩ := S.op j hj
        have hpd : p.dst = some t := by simpa [dAt, hp] using e
        have := I.vs j hj (done j p t hp hpd hm)
        simp only [vAt, e] at this
        exact this
      | none =>
        rw [List.find?_eq_none] at hf
        exact I.ot t (fun j hj _ e => by have := hf j (List.mem_range.2 hj); simp [e] at this))
    unfold wpOp
    rw [h1']
    simp only
    rw [if_pos (by simp [Region.wanted, hg])]
    refine .inl (StG.wp sp fun u w' hb hv => ?_)
    have dd : dAt l i = o.dst := by simp [dAt, h1]
    refine ih _ _ _ ⟨by rw [Array.size_setIfInBounds]; exact I.hd, gt _ _ _ I.bl hb, by rw [put_size]; exact I.sz, by rw [← I.df]; cases o.dst <;> rfl, fun j hj hjd => ?_, fun t hto => ?_⟩ (by have := left_set hin hun; omega)
    · by_cases c : j = i
      · subst c
        have e : vAt l j (a.put o.dst u) = uAt l j u := by
          unfold vAt uAt
          rw [dd]
          cases hdo : o.dst with
          | none => rfl
          | some d => simp only; exact put_get _ _ _ (by rw [I.sz]; exact (hd d hdo).1)
        rw [e]
        exact hv
      · rw [getD_set_ne true (fun e => c e.symm)] at hjd
        have e : vAt l j (a.put o.dst u) = vAt l j a := by
          unfold vAt
          cases hdj : dAt l j with
          | none => rfl
          | some d =>
            simp only
            refine put_oth _ _ _ _ (fun e => ?_)
            obtain ⟨p, hp, _⟩ := S.op j hj
            exact (hd d e).2 j p hp c (by simpa [dAt, hp] using hdj)
        rw [e]
        exact st j _ w w' (I.vs j hj hjd) I.bl hb
    · have hlt : i < ls.size := flag_lt hun
      have hti := hto i hin (by simp [hlt])
      rw [put_oth _ _ _ _ (by rw [← dd]; exact hti)]
      refine I.ot t fun j hj hjd => hto j hj ?_
      by_cases c : j = i
      · subst c; simp [hlt]
      · rw [getD_set_ne true (fun e => c e.symm)]; exact hjd
theorem wp_region_all {id : Nat} {Q : Exit → Act → World → Prop} {a : Act} {w : World} {l : List Oper} (G : World → World → Prop) (V : Nat → Value → World → Prop) (hm : P.follows .mixedOrders = true) (hB : allB l a.tmps.size = true)
    (g0 : ∀ d, G w { w with drawn := d }) (gt : ∀ a b c, G a b → G b c → G a c)
    (st : ∀ i v w1 w2, V i v w1 → G w w1 → G w1 w2 → V i v w2)
    (ho : ∀ i o ρ W, i < l.length → l[i]? = some o → G w W → Plain ρ → (∀ t, (o.looksAt l.toArray).contains t = true → seenA l V a ρ W t) → StG P G W (fun u W' => V i (uAt l i u) W') ((execOp ρ o).run P W))
    (ht : ∀ x W, G w W → (∀ i, i < l.length → V i (x i) W) → Q .normal (puts a l 0 x) W) : (Code.region id l.toArray true).wp P Q a w := by
  have S := allB.spec hB
  have fl : ∀ i, i < l.length → (Array.replicate l.toArray.size false).getD i true = false := fun i hi => by simp [hi]
  have z : left l.length (Array.replicate l.toArray.size false) = l.length := by
    unfold left
    rw [List.filter_eq_self.2 (fun i hi => by rw [fl i (List.mem_range.1 hi)]; rfl), List.length_range]
  have r := all_core (w0 := w) S gt st ho ht l.length (Array.replicate l.toArray.size false) a { w with drawn := w.drawn + 1 } ⟨by simp, g0 _, rfl, rfl, (fun i hi h => by
      rw [fl i hi] at h
      cases h), fun t _ => rfl⟩ z
  refine wp_region_any hm ?_
  have e : l.length = l.toArray.size := by simp
  rw [e] at r
  exact r
end
end Go.Proofs.YtmkfnfencllfnaaDoor
