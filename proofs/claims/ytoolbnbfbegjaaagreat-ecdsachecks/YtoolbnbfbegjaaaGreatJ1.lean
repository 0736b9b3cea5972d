/- Texts joined: Z1, Z3, Z4, Z5, Z7, G1, Q1, G2, G3, G4, G5, Z2, Z6. -/
import Derived.StillTail
import Derived.Deep.Quiet
import Derived.Lib.QuietBelow
import Derived.BigQuiet
import Derived.OrdersIn
import Derived.RangeFuncCalls
import Derived.TacticsInMore
set_option linter.all false
set_option autoImplicit false
namespace Go.Proofs.YtoolbnbfbegjaaaGreat
open Go Go.Sort Go.RowKit
section
variable {P : Program} {ops : Array Oper} {md : Region.Mode} {C : World → Prop}
def QL (P : Program) (md : Region.Mode) (ops : Array Oper) (C : World → Prop) (n : Nat) (L : Array Bool → Act → Prop) : Nat → Array Bool → Act → Prop
  | 0 => L
  | f + 1 => fun ls a => Region.ready md ops ls ≠ [] ∧ ∀ i, i ∈ Region.ready md ops ls → i < n ∧ qOp P ops C i (QL P md ops C n L f (ls.setIfInBounds i true)) a
theorem QL.any {n g : Nat} {L : Array Bool → Act → Prop} {Q : Exit → Act → World → Prop} (hL : ∀ ls a w, C w → L ls a → wpAny P md ops Q g ls a w) (f : Nat) :
    ∀ ls a w, C w → QL P md ops C n L f ls a → wpAny P md ops Q (f + g) ls a w := by
  induction f with
  | zero => intro ls a w hw h; rw [Nat.zero_add]; exact hL _ _ _ hw h
  | succ f ih =>
    intro ls a w hw h
    rw [Nat.succ_add_eq_add_succ]
    exact ⟨fun e => absurd e h.1, fun i hi => wpOp_of_qOp hw (fun a' w' hw' h' => ih _ a' w' hw' h') (h.2 i hi).2⟩
theorem QL.first {n i : Nat} {o : Oper} {v : Value} {L : Array Bool → Act → Prop} (hi : ops[i]? = some o) (hin : i < n) (hn : n < ops.size)
    (sel : ∀ (j : Nat) (p : Oper) cs b, ops[j]? = some p → p.op ≠ .select cs b) (hs : Region.sinkB md ops n = true) (hc : Region.chainB md ops n = true)
    (hL : ∀ ls a, L ls a → ∀ j, j ∈ Region.ready md ops ls → n ≤ j) (f : Nat) :
    ∀ ls a, HeadInv md ops n ls →
      (∀ j p, ops[j]? = some p → j ≠ i → ls.getD j true = false → (∀ e ∈ p.after, Region.binds md e = true → e.on ≠ i) → o.apart ops p = true) →
      i ∈ Region.ready md ops ls → YieldsIn P ops C o v a → QL P md ops C n L f (ls.setIfInBounds i true) (a.put o.dst v) → QL P md ops C n L (f + 1) ls a := by
  have low : ∀ ls, HeadInv md ops n ls → i ∈ Region.ready md ops ls → ∀ j, j ∈ Region.ready md ops ls → j < n := fun ls inv hr j hj =>
    Nat.lt_of_not_le fun hle => tail_waits hs hc hn inv _ i rfl hin (mem_ready.1 hr).1 j hle hj
  have non : ∀ ls, i ∈ Region.ready md ops ls → Region.ready md ops ls ≠ [] := fun ls hr e => by rw [e] at hr; cases hr
  induction f with
  | zero =>
    intro ls a inv _ hr hy H
    refine ⟨non ls hr, fun j hj => ⟨low ls inv hr j hj, ?_⟩⟩
    by_cases e : j = i
    · subst e; exact hy.qOp hi H
    · exact absurd (hL _ _ H j (ready_mono hj e)) (Nat.not_le.2 (low ls inv hr j hj))
  | succ f ih =>
    intro ls a inv free hr hy H
    refine ⟨non ls hr, fun j hj => ⟨low ls inv hr j hj, ?_⟩⟩
    by_cases e : j = i
    · subst e; exact hy.qOp hi H
    · obtain ⟨ju, p, hp, all⟩ := mem_ready.1 hj
      have noti : ∀ e ∈ p.after, Region.binds md e = true → e.on ≠ i := fun x hx hb he => by
        have t := all x hx hb
        rw [he, getD_both (mem_ready.1 hr).1] at t
        cases t
      have st := qOp_put hp (free j p hp e ju noti) (fun cs b => sel i o cs b hi) (fun cs b => sel j p cs b hp) hy (H.2 j (ready_mono hj e)).2
      refine qOp_mono (fun a' h3 => ih _ a' (inv.set hj (low ls inv hr j hj)) (fun k q hk hki hu hno => ?_) (ready_mono hr (fun c => e c.symm)) h3.1 ?_) st
      · refine free k q hk hki ?_ hno
        by_cases c : j = k
        · subst c; exact ju
        · rwa [getD_set_ne true c] at hu
      · rw [Array.setIfInBounds_comm _ _ e]; exact h3.2
theorem QL.lex {n g : Nat} {R : Act → Prop} (sel : Region.noSelect ops = true) (hs : Region.sinkB md ops n = true) (hc : Region.chainB md ops n = true) (hn : n < ops.size) (l : List Oper) :
    ∀ (k : Nat) (ls : Array Bool) (a : Act), (∀ j, j < l.length → l[j]? = ops[k + j]?) → k + l.length = n → HeadInv md ops n ls → Region.lexHead md ops g l.length k ls = true → wpQuiet P ops C R l a →
      QL P md ops C n (fun ls' a' => Region.seqB md ops g n ls' = true ∧ R a') l.length ls a := by
  induction l with
  | nil =>
    intro k ls a _ hk _ hB h
    obtain rfl : k = n := hk
    exact ⟨hB, h⟩
  | cons o l ih =>
    intro k ls a hl hk inv hB h
    have h0 : ops[k]? = some o := by simpa using (hl 0 (Nat.succ_pos _)).symm
    have kn : k < n := by rw [← hk]; exact Nat.lt_add_of_pos_right (Nat.succ_pos _)
    simp only [List.length_cons, Region.lexHead, Bool.and_eq_true] at hB
    have rk : k ∈ Region.ready md ops ls := by simpa using hB.1.1
    have q : qOp P ops C k (wpQuiet P ops C R l) a := by unfold qOp; simp only [h0]; exact h
    obtain ⟨v, hy, hK⟩ := yieldsIn_of_qOp h0 q
    refine QL.first h0 kn hn (Region.noSelect_spec sel) hs hc (fun ls' a' x => seqB_ready x.1) l.length ls a inv (Region.free_spec h0 hB.1.2) rk hy ?_
    refine ih (k + 1) _ _ (fun j hj => ?_) (by rw [← hk, List.length_cons]; omega) (inv.set rk kn) hB.2 hK
    have t := hl (j + 1) (by simpa using hj)
    rw [List.getElem?_cons_succ] at t
    rw [t]; congr 1; omega
theorem wp_region_quiet_tail {id : Nat} {Q : Exit → Act → World → Prop} {a : Act} {w : World} {l : List Oper} (n : Nat) (hm : P.follows .mixedOrders = true) (hB : Region.lexTailB .any l.toArray n = true)
    (hC : C { w with drawn := w.drawn + 1 }) (h : wpQuiet P l.toArray C (fun a' => ∀ w', C w' → wpList P l.toArray Q (l.drop n) a' w') (l.take n) a) : (Code.region id l.toArray true).wp P Q a w := by
  simp only [Region.lexTailB, Bool.and_eq_true, decide_eq_true_eq] at hB
  obtain ⟨⟨⟨⟨sel, hn⟩, hs⟩, hc⟩, lex⟩ := hB
  have ln : n < l.length := by simpa using hn
  have tl : (l.take n).length = n := by rw [List.length_take]; omega
  have dl : (l.drop n).length = l.toArray.size - n := by rw [List.length_drop]; simp
  have i0 : HeadInv .any l.toArray n (Array.replicate l.toArray.size false) :=
    ⟨by simp, fun j oj _ hl => (by rw [getD_replicate_false] at hl; cases hl), fun t _ ht => getD_in (by simpa using ht) (getD_replicate_false _ _)⟩
  have H := QL.lex (P := P) (C := C) (md := .any) (g := l.toArray.size - n) sel hs hc hn (l.take n) 0 _ a (fun j hj => by
    rw [tl] at hj
    simp [hj]) (by rw [tl]; omega) i0 (by rw [tl]; exact lex) h
  have K := QL.any (Q := Q) (g := l.toArray.size - n) (fun ls a' w' hw' hL => by
    have t := wpAny_of_seq (md := .any) (P := P) (Q' := Q) (l.drop n) n ls a' w' (fun j => by simp [List.getElem?_drop]) (by rw [dl]; exact hL.1) (hL.2 w' hw')
    rwa [dl] at t) _ _ a _ hC H
  rw [tl, show n + (l.toArray.size - n) = l.toArray.size by omega] at K
  exact wp_region_any hm K
theorem wp_region_below_tail {id : Nat} {Q : Exit → Act → World → Prop} {a : Act} {w : World} {l : List Oper} (n : Nat) (hm : P.follows .mixedOrders = true) (hB : Region.lexTailB .any l.toArray n = true)
    (h : wpQuiet P l.toArray (fun w' => ∃ p : Regrown, w' = grow (redrawn w p.d) p.os) (fun a' => ∀ w', (∃ p : Regrown, w' = grow (redrawn w p.d) p.os) → wpList P l.toArray Q (l.drop n) a' w') (l.take n) a) : (Code.region id l.toArray true).wp P Q a w :=
  wp_region_quiet_tail (C := fun w' => ∃ p : Regrown, w' = grow (redrawn w p.d) p.os) n hm hB ⟨⟨w.drawn + 1, #[]⟩, by rw [grow_empty]; rfl⟩ h
end
end Go.Proofs.YtoolbnbfbegjaaaGreat
set_option autoImplicit false
namespace Go.Proofs.YtoolbnbfbegjaaaGreat
open Go Go.Sort Go.RowKit
section
variable {P : Program} {ops : Array Oper} {md : Region.Mode} {C : World → Prop} {n : Nat} {L : Array Bool → Act → Prop}
abbrev CW (W : World) : World → Prop := fun w' => ∃ p : Regrown, w' = grow (redrawn W p.d) p.os
theorem cw_self (W : World) : CW W W := ⟨⟨W.drawn, #[]⟩, by rw [grow_empty]; rfl⟩
theorem cw_bel {W w' : World} (h : CW W w') : Below W.heap.size W w' := by obtain ⟨p, rfl⟩ := h; exact below_regrown _ _ _
theorem put_size (a : Act) (d : Option Tmp) (v : Value) : (a.put d v).tmps.size = a.tmps.size := by cases d <;> simp [Act.put]
theorem put_get (a : Act) (d : Nat) (v : Value) (h : d < a.tmps.size) : (a.put (some d) v).tmps.getD d undef = v := by simp [Act.put, h]
theorem put_oth (a : Act) (x : Option Tmp) (d : Nat) (v : Value) (h : x ≠ some d) : (a.put x v).tmps.getD d undef = a.tmps.getD d undef := by
  cases x with
  | none => rfl
  | some e =>
    have ne : e ≠ d := fun c => h (by rw [c])
    simp [Act.put, Array.getElem?_setIfInBounds_ne ne]
theorem QL.pin {aF : Act} (hL : ∀ ls a, L ls a → a = aF) (d : Nat) (f : Nat) : ∀ ls a, (∀ i o, i < n → ls.getD i true = false → ops[i]? = some o → o.dst ≠ some d) → QL P md ops C n L f ls a →
    a.tmps.getD d undef = aF.tmps.getD d undef := by
  induction f with
  | zero => intro ls a _ h; rw [hL _ _ h]
  | succ f ih =>
    intro ls a hd h
    cases hr : Region.ready md ops ls with
    | nil => exact absurd hr h.1
    | cons i r =>
      have hi : i ∈ Region.ready md ops ls := by rw [hr]; exact List.mem_cons_self
      obtain ⟨iu, o, ho, _⟩ := mem_ready.1 hi
      obtain ⟨v, _, hK⟩ := yieldsIn_of_qOp ho (h.2 i hi).2
      have t := ih _ _ (fun j p hj hu hp => by
        by_cases c : i = j
        · subst c
          have hlt : i < ls.size := by
            rcases Nat.lt_or_ge i ls.size with x | x
            · exact x
            · simp [Array.getElem?_eq_none x] at iu
          simp [hlt] at hu
        · rw [getD_set_ne true c] at hu
          exact hd j p hj hu hp) hK
      rw [put_oth _ _ _ _ (hd i o (h.2 i hi).1 iu ho)] at t
      exact t
theorem T.step {w : World} {aF : Act} (hL : ∀ ls a, L ls a → a = aF) {f : Nat} {ls : Array Bool} {a : Act} (h : ∀ W, Below w.heap.size w W → QL P md ops (CW W) n L (f + 1) ls a) {j d : Nat} {o : Oper}
    (hj : j ∈ Region.ready md ops ls) (ho : ops[j]? = some o) (hd : o.dst = some d) (hb : d < a.tmps.size) (dis : ∀ i p, i < n → ls.getD i true = false → i ≠ j → ops[i]? = some p → p.dst ≠ some d) :
    ∀ W, Below w.heap.size w W → YieldsIn P ops (CW W) o (aF.tmps.getD d undef) a ∧ QL P md ops (CW W) n L f (ls.setIfInBounds j true) (a.put o.dst (aF.tmps.getD d undef)) := by
  intro W hW
  obtain ⟨v, hy, hK⟩ := yieldsIn_of_qOp ho ((h W hW).2 j hj).2
  have ju := (mem_ready.1 hj).1
  have hlt : j < ls.size := by
    rcases Nat.lt_or_ge j ls.size with x | x
    · exact x
    · simp [Array.getElem?_eq_none x] at ju
  have e : v = aF.tmps.getD d undef := by
    rw [← QL.pin hL d f _ _ (fun i p hi hu hp => ?_) hK, hd, put_get _ _ _ hb]
    by_cases c : i = j
    · subst c; simp [hlt] at hu
    · rw [getD_set_ne true (fun x => c x.symm)] at hu
      exact dis i p hi hu c hp
  rw [← e]
  exact ⟨hy, hK⟩
theorem qOp_shift {x o : Oper} {p : Value} {i : Nat} (ho : ops[i]? = some o) (hap : x.apart ops o = true) (hs : ∀ cs b, o.op ≠ .select cs b) {K : Act → Prop} {a : Act} (h : qOp P ops C i K a) :
    qOp P ops C i (fun a' => ∃ a0, K a0 ∧ a' = a0.put x.dst p) (a.put x.dst p) := by
  obtain ⟨h1, h2, h3⟩ := Oper.apart_spec hap
  unfold qOp at *
  simp only [ho] at *
  rw [wanted_put o a x.dst p h1]
  split
  · rename_i hw
    simp only [hw, if_true] at h
    obtain ⟨u, hu, hn⟩ := h
    refine ⟨u, fun w hw' => ?_, _, hn, Act.put_comm a p u h2⟩
    have t := hu w hw'
    unfold Oper.quietAt at *
    rwa [execOp_put o hs a x.dst p h1]
  · rename_i hw
    simp only [hw] at h
    exact ⟨_, h, Act.put_comm a p undef h2⟩
theorem QL.shift {x : Oper} {p : Value} {α : Nat} (ap : ∀ i o, i < n → i ≠ α → ops[i]? = some o → x.apart ops o = true) (sel : ∀ (j : Nat) (p : Oper) cs b, ops[j]? = some p → p.op ≠ .select cs b) (f : Nat) :
    ∀ ls a, ls.getD α true = true → QL P md ops C n L f ls a → QL P md ops C n (fun ls' a' => ∃ a0, L ls' a0 ∧ a' = a0.put x.dst p) f ls (a.put x.dst p) := by
  induction f with
  | zero => intro ls a _ h; exact ⟨a, h, rfl⟩
  | succ f ih =>
    intro ls a hα h
    refine ⟨h.1, fun i hi => ⟨(h.2 i hi).1, ?_⟩⟩
    obtain ⟨iu, o, ho, _⟩ := mem_ready.1 hi
    have ne : i ≠ α := fun c => by rw [c, hα] at iu; cases iu
    refine qOp_mono (fun a' ⟨a0, h0, e⟩ => ?_) (qOp_shift (p := p) ho (ap i o (h.2 i hi).1 ne ho) (fun cs b => sel i o cs b ho) (h.2 i hi).2)
    rw [e]
    exact ih _ _ (by rw [getD_set_ne true ne]; exact hα) h0
def lexA (md : Region.Mode) (ops : Array Oper) (g : Nat) : Nat → Nat → Array Bool → Bool
  | 0, k, ls => Region.seqB md ops g (k + 1) ls
  | f + 1, k, ls => (Region.ready md ops ls).contains k && Region.free md ops ls k && lexA md ops g f (k + 1) (ls.setIfInBounds k true)
theorem QL.lexA {g : Nat} {R : Act → Prop} (sel : Region.noSelect ops = true) (hs : Region.sinkB md ops n = true) (hc : Region.chainB md ops n = true) (hn : n < ops.size) (l : List Oper) :
    ∀ (k : Nat) (ls : Array Bool) (a : Act), (∀ j, j < l.length → l[j]? = ops[k + j]?) → k + l.length + 1 = n → HeadInv md ops n ls → lexA md ops g l.length k ls = true → wpQuiet P ops C R l a →
      QL P md ops C n (fun ls' a' => Region.seqB md ops g n ls' = true ∧ R a') l.length ls a := by
  induction l with
  | nil =>
    intro k ls a _ hk _ hB h
    obtain rfl : k + 1 = n := hk
    exact ⟨hB, h⟩
  | cons o l ih =>
    intro k ls a hl hk inv hB h
    have h0 : ops[k]? = some o := by simpa using (hl 0 (Nat.succ_pos _)).symm
    have kn : k < n := by rw [List.length_cons] at hk; omega
    simp only [List.length_cons, Go.Proofs.YtoolbnbfbegjaaaGreat.lexA, Bool.and_eq_true] at hB
    have rk : k ∈ Region.ready md ops ls := by simpa using hB.1.1
    have q : qOp P ops C k (wpQuiet P ops C R l) a := by unfold qOp; simp only [h0]; exact h
    obtain ⟨v, hy, hK⟩ := yieldsIn_of_qOp h0 q
    refine QL.first h0 kn hn (Region.noSelect_spec sel) hs hc (fun ls' a' x => seqB_ready x.1) l.length ls a inv (Region.free_spec h0 hB.1.2) rk hy ?_
    refine ih (k + 1) _ _ (fun j hj => ?_) (by rw [← hk, List.length_cons]; omega) (inv.set rk kn) hB.2 hK
    have t := hl (j + 1) (by simpa using hj)
    rw [List.getElem?_cons_succ] at t
    rw [t]; congr 1; omega
def allocB (ops : Array Oper) (m N : Nat) : Bool :=
  match ops[m]? with
  | none => false
  | some x => x.after.isEmpty && x.guard.isNone && (List.range m).all fun j => match ops[j]? with
    | none => false
    | some p => (match p.dst with
      | none => false
      | some d => decide (d < N)) && x.apart ops p && (List.range m).all fun i => i == j || match ops[i]? with
        | none => true
        | some q => q.dst != p.dst
theorem wp_region_alloc_tail {id : Nat} {Q : Exit → Act → World → Prop} {a : Act} {w : World} {l : List Oper} (m : Nat) (hm : P.follows .mixedOrders = true)
    (hB : (Region.noSelect l.toArray && decide (m + 1 < l.length) && Region.sinkB .any l.toArray (m + 1) && Region.chainB .any l.toArray (m + 1) && lexA .any l.toArray (l.length - (m + 1)) m 0 ((Array.replicate l.length false).setIfInBounds m true)) = true)
    (hA : allocB l.toArray m a.tmps.size = true) (obj : Obj) (x : Oper) (hx : l[m]? = some x)
    (hal : ∀ (a : Act) (w : World), (execOp a.eval x).run P w = .ok (.value (.pointer (some ⟨w.heap.size, 0, none⟩))) (w.alloc obj)) (aF : Act)
    (h : ∀ W, Below w.heap.size w W → wpQuiet P l.toArray (CW W) (fun a' => a' = aF) (l.take m) a)
    (hT : ∀ w1 w2, Below w.heap.size w w1 → Below (w1.alloc obj).heap.size (w1.alloc obj) w2 → wpList P l.toArray Q (l.drop (m + 1)) (aF.put x.dst (.pointer (some ⟨w1.heap.size, 0, none⟩))) w2) :
    (Code.region id l.toArray true).wp P Q a w := by
  simp only [Bool.and_eq_true, decide_eq_true_eq] at hB
  obtain ⟨⟨⟨⟨sel, hn⟩, hs⟩, hc⟩, lex⟩ := hB
  have hxa : l.toArray[m]? = some x := by simpa using hx
  unfold allocB at hA
  rw [hxa] at hA
  simp only [Bool.and_eq_true, List.all_eq_true, List.mem_range] at hA
  obtain ⟨⟨xe, xg⟩, hall⟩ := hA
  have xe' : x.after = #[] := by simpa using xe
  have xg' : x.guard = none := by simpa using xg
  have hz : l.toArray.size = l.length := by simp
  have hn' : m + 1 < l.toArray.size := by rw [hz]; exact hn
  have tl : (l.take m).length = m := by rw [List.length_take]; omega
  have spec := Region.noSelect_spec sel
  have fact : ∀ j o, j < m → l.toArray[j]? = some o → ∃ d, o.dst = some d ∧ d < a.tmps.size ∧ x.apart l.toArray o = true ∧ ∀ i p, i < m → i ≠ j → l.toArray[i]? = some p → p.dst ≠ some d := by
    intro j o hj ho
    have t := hall j hj
    rw [ho] at t
    simp only [Bool.and_eq_true] at t
    obtain ⟨⟨t1, t2⟩, t3⟩ := t
    cases hd : o.dst with
    | none => rw [hd] at t1; cases t1
    | some d =>
      rw [hd] at t1
      refine ⟨d, rfl, by simpa using t1, t2, fun i p hi hne hp => ?_⟩
      have u := List.all_eq_true.1 t3 i (List.mem_range.2 hi)
      rw [hp] at u
      simp only [Bool.or_eq_true, beq_iff_eq, bne_iff_ne] at u
      rcases u with u | u
      · exact absurd u hne
      · rw [hd] at u; exact u
  let g := l.length - (m + 1)
  let L0 : Array Bool → Act → Prop := fun ls' a' => Region.seqB .any l.toArray g (m + 1) ls' = true ∧ a' = aF
  have hL : ∀ ls a, L0 ls a → a = aF := fun _ _ h => h.2
  have i0 : HeadInv .any l.toArray (m + 1) (Array.replicate l.length false) :=
    ⟨by simp, fun j oj _ hl => (by rw [getD_replicate_false] at hl; cases hl), fun t _ ht => getD_in (by simpa using ht) (getD_replicate_false _ _)⟩
  have am : ∀ ls : Array Bool, ls.getD m true = false → m ∈ Region.ready .any l.toArray ls := fun ls hu => mem_ready.2 ⟨hu, x, hxa, fun e he => by rw [xe'] at he; simp at he⟩
  have mlt : ∀ ls : Array Bool, ls.getD m true = false → m < ls.size := fun ls hu => by
    rcases Nat.lt_or_ge m ls.size with y | y
    · exact y
    · simp [Array.getElem?_eq_none y] at hu
  have r0 : (Array.replicate l.length false).getD m true = false := getD_in (by simp; omega) (getD_replicate_false _ _)
  have T0 : ∀ W, Below w.heap.size w W → QL P .any l.toArray (CW W) (m + 1) L0 m ((Array.replicate l.length false).setIfInBounds m true) a := fun W hW => by
    have t := QL.lexA (P := P) (C := CW W) (md := .any) (g := g) (n := m + 1) sel hs hc hn' (l.take m) 0 _ a (fun j hj => by
      rw [tl] at hj
      simp [hj]) (by rw [tl]; omega) (i0.set (am _ r0) (by omega)) (by rw [tl]; exact lex) (h W hW)
    rw [tl] at t
    exact t
  have post : ∀ f ls b (x1 w2 : World), ls.getD m true = true → Below w.heap.size w x1 → CW (x1.alloc obj) w2 → QL P .any l.toArray (CW (x1.alloc obj)) (m + 1) L0 f ls b →
      wpAny P .any l.toArray Q (f + g) ls (b.put x.dst (.pointer (some ⟨x1.heap.size, 0, none⟩))) w2 := by
    intro f ls b x1 w2 hu hx1 hw2 hq
    have sh := QL.shift (x := x) (p := .pointer (some ⟨x1.heap.size, 0, none⟩)) (α := m) (fun i o hi hne ho => by
      obtain ⟨_, _, _, t, _⟩ := fact i o (by omega) ho
      exact t) spec f ls b hu hq
    refine QL.any (Q := Q) (g := g) (fun ls' a' w' hw' hL' => ?_) f ls _ w2 hw2 sh
    obtain ⟨a0, ⟨hq1, rfl⟩, rfl⟩ := hL'
    have dl : (l.drop (m + 1)).length = g := by rw [List.length_drop]
    have t := wpAny_of_seq (md := .any) (P := P) (ops := l.toArray) (Q' := Q) (l.drop (m + 1)) (m + 1) ls' (a0.put x.dst (.pointer (some ⟨x1.heap.size, 0, none⟩))) w' (fun j => by simp [List.getElem?_drop]) (by rw [dl]; exact hq1)
      (hT x1 w' hx1 (cw_bel hw'))
    rwa [dl] at t
  have pre : ∀ f ls b (x1 : World), b.tmps.size = a.tmps.size → Below w.heap.size w x1 → HeadInv .any l.toArray (m + 1) ls → ls.getD m true = false →
      (∀ W, Below w.heap.size w W → QL P .any l.toArray (CW W) (m + 1) L0 f (ls.setIfInBounds m true) b) → wpAny P .any l.toArray Q (f + 1 + g) ls b x1 := by
    intro f
    induction f with
    | zero =>
      intro ls b x1 hb hx1 inv hu ht
      rw [show 0 + 1 + g = g + 1 by omega]
      refine ⟨fun e => absurd (am ls hu) (by rw [e]; simp), fun i hi => ?_⟩
      by_cases c : i = m
      · subst c
        unfold wpOp
        simp only [hxa]
        rw [if_pos (by unfold Region.wanted; rw [xg'])]
        left
        unfold Oper.wp
        rw [hal]
        have := post 0 (ls.setIfInBounds i true) b x1 (x1.alloc obj) (by simp [mlt ls hu]) hx1 (cw_self _) (ht _ (hx1.alloc hx1.size _))
        rw [Nat.zero_add] at this
        exact this
      · have q := ht x1 hx1
        exact absurd hi (tail_waits hs hc hn' inv _ m rfl (by omega) hu i (seqB_ready q.1 i (ready_mono hi c)))
    | succ f ih =>
      intro ls b x1 hb hx1 inv hu ht
      rw [show f + 1 + 1 + g = f + 1 + g + 1 by omega]
      refine ⟨fun e => absurd (am ls hu) (by rw [e]; simp), fun i hi => ?_⟩
      by_cases c : i = m
      · subst c
        unfold wpOp
        simp only [hxa]
        rw [if_pos (by unfold Region.wanted; rw [xg'])]
        left
        unfold Oper.wp
        rw [hal]
        exact post (f + 1) (ls.setIfInBounds i true) b x1 (x1.alloc obj) (by simp [mlt ls hu]) hx1 (cw_self _) (ht _ (hx1.alloc hx1.size _))
      · have hi2 := ready_mono (i := m) hi c
        have ilt : i < m := by have := ((ht x1 hx1).2 i hi2).1; omega
        obtain ⟨iu, o, ho, _⟩ := mem_ready.1 hi
        obtain ⟨d, hd, hdb, _, dis⟩ := fact i o ilt ho
        have st := T.step (w := w) (aF := aF) hL ht hi2 ho hd (by rw [hb]; exact hdb) (fun j p hj hju hne hp => by
          by_cases cm : j = m
          · subst cm; simp [mlt ls hu] at hju
          · exact dis j p (by omega) hne hp)
        have yq := (st x1 hx1).1.qOp ho (K := fun a' => a' = b.put o.dst (aF.tmps.getD d undef)) rfl
        refine wpOp_of_qOp (cw_self x1) (fun a' w' hw' e => ?_) yq
        rw [e]
        refine ih _ _ w' (by rw [put_size]; exact hb) (hx1.trans ((cw_bel hw').mono hx1.size)) (inv.set hi (by omega)) (by rw [getD_set_ne true c]; exact hu) (fun W hW => ?_)
        rw [Array.setIfInBounds_comm _ _ c]
        exact (st W hW).2
  have fin := pre m (Array.replicate l.length false) a { w with drawn := w.drawn + 1 } rfl (Below.drew (Below.refl _ _)) i0 r0 T0
  rw [show m + 1 + g = l.toArray.size by rw [hz]; omega] at fin
  refine wp_region_any hm ?_
  rw [hz]
  rw [hz] at fin
  exact fin
end
end Go.Proofs.YtoolbnbfbegjaaaGreat
set_option autoImplicit false
namespace Go.Proofs.YtoolbnbfbegjaaaGreat
open Go Go.Sort Go.RowKit
section
variable {P : Program} {ops : Array Oper} {md : Region.Mode} {C : World → Prop} {n : Nat} {L : Array Bool → Act → Prop}
theorem QL.shift' {x : Oper} {p : Value} {m : Nat} (ap : ∀ i o, i < m → ops[i]? = some o → x.apart ops o = true) (sel : ∀ (j : Nat) (p : Oper) cs b, ops[j]? = some p → p.op ≠ .select cs b) (f : Nat) :
    ∀ ls a, (∀ i, m ≤ i → i < n → ls.getD i true = true) → QL P md ops C n L f ls a → QL P md ops C n (fun ls' a' => ∃ a0, L ls' a0 ∧ a' = a0.put x.dst p) f ls (a.put x.dst p) := by
  induction f with
  | zero => intro ls a _ h; exact ⟨a, h, rfl⟩
  | succ f ih =>
    intro ls a hα h
    refine ⟨h.1, fun i hi => ⟨(h.2 i hi).1, ?_⟩⟩
    obtain ⟨iu, o, ho, _⟩ := mem_ready.1 hi
    have lt : i < m := Nat.lt_of_not_le fun c => by rw [hα i c (h.2 i hi).1] at iu; cases iu
    refine qOp_mono (fun a' ⟨a0, h0, e⟩ => ?_) (qOp_shift (p := p) ho (ap i o lt ho) (fun cs b => sel i o cs b ho) (h.2 i hi).2)
    rw [e]
    refine ih _ _ (fun j hj hn => ?_) h0
    rw [getD_set_ne true (by omega)]; exact hα j hj hn
def lexC (md : Region.Mode) (ops : Array Oper) (g c : Nat) : Nat → Nat → Array Bool → Bool
  | 0, k, ls => Region.seqB md ops g (k + c) ls
  | f + 1, k, ls => (Region.ready md ops ls).contains k && Region.free md ops ls k && lexC md ops g c f (k + 1) (ls.setIfInBounds k true)
theorem QL.lexC {g c : Nat} {R : Act → Prop} (sel : Region.noSelect ops = true) (hs : Region.sinkB md ops n = true) (hc : Region.chainB md ops n = true) (hn : n < ops.size) (l : List Oper) :
    ∀ (k : Nat) (ls : Array Bool) (a : Act), (∀ j, j < l.length → l[j]? = ops[k + j]?) → k + l.length + c = n → HeadInv md ops n ls → lexC md ops g c l.length k ls = true → wpQuiet P ops C R l a →
      QL P md ops C n (fun ls' a' => Region.seqB md ops g n ls' = true ∧ R a') l.length ls a := by
  induction l with
  | nil =>
    intro k ls a _ hk _ hB h
    obtain rfl : k + c = n := hk
    exact ⟨hB, h⟩
  | cons o l ih =>
    intro k ls a hl hk inv hB h
    have h0 : ops[k]? = some o := by simpa using (hl 0 (Nat.succ_pos _)).symm
    have kn : k < n := by rw [List.length_cons] at hk; omega
    simp only [List.length_cons, Go.Proofs.YtoolbnbfbegjaaaGreat.lexC, Bool.and_eq_true] at hB
    have rk : k ∈ Region.ready md ops ls := by simpa using hB.1.1
    have q : qOp P ops C k (wpQuiet P ops C R l) a := by unfold qOp; simp only [h0]; exact h
    obtain ⟨v, hy, hK⟩ := yieldsIn_of_qOp h0 q
    refine QL.first h0 kn hn (Region.noSelect_spec sel) hs hc (fun ls' a' x => seqB_ready x.1) l.length ls a inv (Region.free_spec h0 hB.1.2) rk hy ?_
    refine ih (k + 1) _ _ (fun j hj => ?_) (by rw [← hk, List.length_cons]; omega) (inv.set rk kn) hB.2 hK
    have t := hl (j + 1) (by simpa using hj)
    rw [List.getElem?_cons_succ] at t
    rw [t]; congr 1; omega
theorem flag_lt {ls : Array Bool} {m : Nat} (hu : ls.getD m true = false) : m < ls.size := by
  rcases Nat.lt_or_ge m ls.size with y | y
  · exact y
  · simp [Array.getElem?_eq_none y] at hu
theorem one_left {Q : Exit → Act → World → Prop} {m g α : Nat} {x : Oper} {obj : Obj} {aF : Act} {w : World} {N : Nat} {tl : List Oper} (hxa : ops[α]? = some x) (hα : m ≤ α) (hαn : α < n) (xe : x.after = #[]) (xg : x.guard = none)
    (sel : ∀ (j : Nat) (p : Oper) cs b, ops[j]? = some p → p.op ≠ .select cs b) (hs : Region.sinkB .any ops n = true) (hc : Region.chainB .any ops n = true) (hn : n < ops.size)
    (hal : ∀ (a : Act) (w : World), (execOp a.eval x).run P w = .ok (.value (.pointer (some ⟨w.heap.size, 0, none⟩))) (w.alloc obj))
    (fact : ∀ j o, j < m → ops[j]? = some o → ∃ d, o.dst = some d ∧ d < N ∧ x.apart ops o = true ∧ ∀ i p, i < m → i ≠ j → ops[i]? = some p → p.dst ≠ some d)
    (htl : ∀ j, tl[j]? = ops[n + j]?) (hg : tl.length = g)
    (hT : ∀ w1 w2, Below w.heap.size w w1 → Below (w1.alloc obj).heap.size (w1.alloc obj) w2 → wpList P ops Q tl (aF.put x.dst (.pointer (some ⟨w1.heap.size, 0, none⟩))) w2) (f : Nat) :
    ∀ ls b (x1 : World), b.tmps.size = N → Below w.heap.size w x1 → HeadInv .any ops n ls → ls.getD α true = false → (∀ i, m ≤ i → i < n → i ≠ α → ls.getD i true = true) →
      (∀ W, Below w.heap.size w W → QL P .any ops (CW W) n (fun ls' a' => Region.seqB .any ops g n ls' = true ∧ a' = aF) f (ls.setIfInBounds α true) b) → wpAny P .any ops Q (f + 1 + g) ls b x1 := by
  have am : ∀ ls : Array Bool, ls.getD α true = false → α ∈ Region.ready .any ops ls := fun ls hu => mem_ready.2 ⟨hu, x, hxa, fun e he => by rw [xe] at he; simp at he⟩
  have post : ∀ f ls b (x1 w2 : World), (∀ i, m ≤ i → i < n → ls.getD i true = true) → Below w.heap.size w x1 → CW (x1.alloc obj) w2 → QL P .any ops (CW (x1.alloc obj)) n (fun ls' a' => Region.seqB .any ops g n ls' = true ∧ a' = aF) f ls b →
      wpAny P .any ops Q (f + g) ls (b.put x.dst (.pointer (some ⟨x1.heap.size, 0, none⟩))) w2 := by
    intro f ls b x1 w2 hu hx1 hw2 hq
    have sh := QL.shift' (x := x) (p := .pointer (some ⟨x1.heap.size, 0, none⟩)) (m := m) (fun i o hi ho => by
      obtain ⟨_, _, _, t, _⟩ := fact i o hi ho
      exact t) sel f ls b hu hq
    refine QL.any (Q := Q) (g := g) (fun ls' a' w' hw' hL' => ?_) f ls _ w2 hw2 sh
    obtain ⟨a0, ⟨hq1, rfl⟩, rfl⟩ := hL'
    have t := wpAny_of_seq (md := .any) (P := P) (ops := ops) (Q' := Q) tl n ls' (a0.put x.dst (.pointer (some ⟨x1.heap.size, 0, none⟩))) w' htl (by rw [hg]; exact hq1)
      (hT x1 w' hx1 (cw_bel hw'))
    rwa [hg] at t
  have setα : ∀ ls : Array Bool, ls.getD α true = false → (∀ i, m ≤ i → i < n → i ≠ α → ls.getD i true = true) → ∀ i, m ≤ i → i < n → (ls.setIfInBounds α true).getD i true = true := by
    intro ls hu ho i hi hn
    by_cases c : i = α
    · subst c; simp [flag_lt hu]
    · rw [getD_set_ne true (fun e => c e.symm)]; exact ho i hi hn c
  induction f with
  | zero =>
    intro ls b x1 hb hx1 inv hu ho ht
    rw [show 0 + 1 + g = g + 1 by omega]
    refine ⟨fun e => absurd (am ls hu) (by rw [e]; simp), fun i hi => ?_⟩
    by_cases c : i = α
    · subst c
      unfold wpOp
      simp only [hxa]
      rw [if_pos (by unfold Region.wanted; rw [xg])]
      left
      unfold Oper.wp
      rw [hal]
      have := post 0 (ls.setIfInBounds i true) b x1 (x1.alloc obj) (setα ls hu ho) hx1 (cw_self _) (ht _ (hx1.alloc hx1.size _))
      rw [Nat.zero_add] at this
      exact this
    · have q := ht x1 hx1
      exact absurd hi (tail_waits hs hc hn inv _ α rfl hαn hu i (seqB_ready q.1 i (ready_mono hi c)))
  | succ f ih =>
    intro ls b x1 hb hx1 inv hu ho ht
    rw [show f + 1 + 1 + g = f + 1 + g + 1 by omega]
    refine ⟨fun e => absurd (am ls hu) (by rw [e]; simp), fun i hi => ?_⟩
    by_cases c : i = α
    · subst c
      unfold wpOp
      simp only [hxa]
      rw [if_pos (by unfold Region.wanted; rw [xg])]
      left
      unfold Oper.wp
      rw [hal]
      exact post (f + 1) (ls.setIfInBounds i true) b x1 (x1.alloc obj) (setα ls hu ho) hx1 (cw_self _) (ht _ (hx1.alloc hx1.size _))
    · have hi2 := ready_mono (i := α) hi c
      have iln : i < n := ((ht x1 hx1).2 i hi2).1
      obtain ⟨iu, o, hoo, _⟩ := mem_ready.1 hi
      have ilt : i < m := Nat.lt_of_not_le fun k => by rw [ho i k iln c] at iu; cases iu
      obtain ⟨d, hd, hdb, _, dis⟩ := fact i o ilt hoo
      have st := T.step (w := w) (aF := aF) (fun _ _ h => h.2) ht hi2 hoo hd (by rw [hb]; exact hdb) (fun j p hj hju hne hp => by
        have jlt : j < m := Nat.lt_of_not_le fun k => by rw [setα ls hu ho j k hj] at hju; cases hju
        exact dis j p jlt hne hp)
      have yq := (st x1 hx1).1.qOp hoo (K := fun a' => a' = b.put o.dst (aF.tmps.getD d undef)) rfl
      refine wpOp_of_qOp (cw_self x1) (fun a' w' hw' e => ?_) yq
      rw [e]
      refine ih _ _ w' (by rw [put_size]; exact hb) (hx1.trans ((cw_bel hw').mono hx1.size)) (inv.set hi iln) (by rw [getD_set_ne true c]; exact hu) (fun j hj hjn hjα => by rw [getD_set_ne true (by omega)]; exact ho j hj hjn hjα) (fun W hW => ?_)
      rw [Array.setIfInBounds_comm _ _ c]
      exact (st W hW).2
theorem QL.weaken {L' : Array Bool → Act → Prop} (hw : ∀ ls a, L ls a → L' ls a) (f : Nat) : ∀ ls a, QL P md ops C n L f ls a → QL P md ops C n L' f ls a := by
  induction f with
  | zero => intro ls a h; exact hw _ _ h
  | succ f ih => intro ls a h; exact ⟨h.1, fun i hi => ⟨(h.2 i hi).1, qOp_mono (fun a' h3 => ih _ _ h3) (h.2 i hi).2⟩⟩
def allocB2 (ops : Array Oper) (m N : Nat) : Bool :=
  match ops[m]?, ops[m + 1]? with
  | some x, some y => x.after.isEmpty && x.guard.isNone && y.after.isEmpty && y.guard.isNone && (List.range m).all fun j => match ops[j]? with
    | none => false
    | some p => (match p.dst with
      | none => false
      | some d => decide (d < N)) && x.apart ops p && y.apart ops p && (List.range m).all fun i => i == j || match ops[i]? with
        | none => true
        | some q => q.dst != p.dst
  | _, _ => false
theorem wp_region_alloc2_tail {id : Nat} {Q : Exit → Act → World → Prop} {a : Act} {w : World} {l : List Oper} (m : Nat) (hm : P.follows .mixedOrders = true)
    (hB : (Region.noSelect l.toArray && decide (m + 2 < l.length) && Region.sinkB .any l.toArray (m + 2) && Region.chainB .any l.toArray (m + 2) && lexC .any l.toArray (l.length - (m + 2)) 2 m 0 (((Array.replicate l.length false).setIfInBounds (m + 1) true).setIfInBounds m true)) = true)
    (hA : allocB2 l.toArray m a.tmps.size = true) (ox oy : Obj) (x y : Oper) (hx : l[m]? = some x) (hy : l[m + 1]? = some y)
    (hal : ∀ (a : Act) (w : World), (execOp a.eval x).run P w = .ok (.value (.pointer (some ⟨w.heap.size, 0, none⟩))) (w.alloc ox))
    (hbl : ∀ (a : Act) (w : World), (execOp a.eval y).run P w = .ok (.value (.pointer (some ⟨w.heap.size, 0, none⟩))) (w.alloc oy)) (aF : Act)
    (h : ∀ W, Below w.heap.size w W → wpQuiet P l.toArray (CW W) (fun a' => a' = aF) (l.take m) a)
    (hT1 : ∀ w1 w2 w3, Below w.heap.size w w1 → Below (w1.alloc ox).heap.size (w1.alloc ox) w2 → Below (w2.alloc oy).heap.size (w2.alloc oy) w3 →
      wpList P l.toArray Q (l.drop (m + 2)) ((aF.put x.dst (.pointer (some ⟨w1.heap.size, 0, none⟩))).put y.dst (.pointer (some ⟨w2.heap.size, 0, none⟩))) w3)
    (hT2 : ∀ w1 w2 w3, Below w.heap.size w w1 → Below (w1.alloc oy).heap.size (w1.alloc oy) w2 → Below (w2.alloc ox).heap.size (w2.alloc ox) w3 →
      wpList P l.toArray Q (l.drop (m + 2)) ((aF.put y.dst (.pointer (some ⟨w1.heap.size, 0, none⟩))).put x.dst (.pointer (some ⟨w2.heap.size, 0, none⟩))) w3) :
    (Code.region id l.toArray true).wp P Q a w := by
  simp only [Bool.and_eq_true, decide_eq_true_eq] at hB
  obtain ⟨⟨⟨⟨sel, hn⟩, hs⟩, hc⟩, lex⟩ := hB
  have hxa : l.toArray[m]? = some x := by simpa using hx
  have hya : l.toArray[m + 1]? = some y := by simpa using hy
  unfold allocB2 at hA
  rw [hxa, hya] at hA
  simp only [Bool.and_eq_true, List.all_eq_true, List.mem_range] at hA
  obtain ⟨⟨⟨⟨xe, xg⟩, ye⟩, yg⟩, hall⟩ := hA
  have xe' : x.after = #[] := by simpa using xe
  have xg' : x.guard = none := by simpa using xg
  have ye' : y.after = #[] := by simpa using ye
  have yg' : y.guard = none := by simpa using yg
  have hz : l.toArray.size = l.length := by simp
  have hn' : m + 2 < l.toArray.size := by rw [hz]; exact hn
  have tl : (l.take m).length = m := by rw [List.length_take]; omega
  have spec := Region.noSelect_spec sel
  have fact : ∀ j o, j < m → l.toArray[j]? = some o → ∃ d, o.dst = some d ∧ d < a.tmps.size ∧ x.apart l.toArray o = true ∧ y.apart l.toArray o = true ∧ ∀ i p, i < m → i ≠ j → l.toArray[i]? = some p → p.dst ≠ some d := by
    intro j o hj ho
    have t := hall j hj
    rw [ho] at t
    simp only [Bool.and_eq_true] at t
    obtain ⟨⟨⟨t1, t2⟩, t2'⟩, t3⟩ := t
    cases hd : o.dst with
    | none => rw [hd] at t1; cases t1
    | some d =>
      rw [hd] at t1
      refine ⟨d, rfl, by simpa using t1, t2, t2', fun i p hi hne hp => ?_⟩
      have u := List.all_eq_true.1 t3 i (List.mem_range.2 hi)
      rw [hp] at u
      simp only [Bool.or_eq_true, beq_iff_eq, bne_iff_ne] at u
      rcases u with u | u
      · exact absurd u hne
      · rw [hd] at u; exact u
  have factx : ∀ j o, j < m → l.toArray[j]? = some o → ∃ d, o.dst = some d ∧ d < a.tmps.size ∧ x.apart l.toArray o = true ∧ ∀ i p, i < m → i ≠ j → l.toArray[i]? = some p → p.dst ≠ some d := fun j o hj ho => by
    obtain ⟨d, h1, h2, h3, _, h5⟩ := fact j o hj ho
    exact ⟨d, h1, h2, h3, h5⟩
  have facty : ∀ j o, j < m → l.toArray[j]? = some o → ∃ d, o.dst = some d ∧ d < a.tmps.size ∧ y.apart l.toArray o = true ∧ ∀ i p, i < m → i ≠ j → l.toArray[i]? = some p → p.dst ≠ some d := fun j o hj ho => by
    obtain ⟨d, h1, h2, _, h3, h5⟩ := fact j o hj ho
    exact ⟨d, h1, h2, h3, h5⟩
  let g := l.length - (m + 2)
  have dl : (l.drop (m + 2)).length = g := by rw [List.length_drop]
  have htl : ∀ j, (l.drop (m + 2))[j]? = l.toArray[m + 2 + j]? := fun j => by simp [List.getElem?_drop]
  let L0 : Array Bool → Act → Prop := fun ls' a' => Region.seqB .any l.toArray g (m + 2) ls' = true ∧ a' = aF
  have i0 : HeadInv .any l.toArray (m + 2) (Array.replicate l.length false) :=
    ⟨by simp, fun j oj _ hl => (by rw [getD_replicate_false] at hl; cases hl), fun t _ ht => getD_in (by simpa using ht) (getD_replicate_false _ _)⟩
  have ax : ∀ ls : Array Bool, ls.getD m true = false → m ∈ Region.ready .any l.toArray ls := fun ls hu => mem_ready.2 ⟨hu, x, hxa, fun e he => by rw [xe'] at he; simp at he⟩
  have ay : ∀ ls : Array Bool, ls.getD (m + 1) true = false → m + 1 ∈ Region.ready .any l.toArray ls := fun ls hu => mem_ready.2 ⟨hu, y, hya, fun e he => by rw [ye'] at he; simp at he⟩
  have r0 : (Array.replicate l.length false).getD m true = false := getD_in (by simp; omega) (getD_replicate_false _ _)
  have r1 : (Array.replicate l.length false).getD (m + 1) true = false := getD_in (by simp; omega) (getD_replicate_false _ _)
  have T0 : ∀ W, Below w.heap.size w W → QL P .any l.toArray (CW W) (m + 2) L0 m (((Array.replicate l.length false).setIfInBounds (m + 1) true).setIfInBounds m true) a := fun W hW => by
    have t := QL.lexC (P := P) (C := CW W) (md := .any) (g := g) (c := 2) (n := m + 2) sel hs hc hn' (l.take m) 0 _ a (fun j hj => by
      rw [tl] at hj
      simp [hj]) (by rw [tl]; omega) ((i0.set (ay _ r1) (by omega)).set (ax _ (by rw [getD_set_ne true (by omega)]; exact r0)) (by omega)) (by rw [tl]; exact lex) (h W hW)
    rw [tl] at t
    exact t
  -- the first of the two comes up
  have goX : ∀ f ls b (x1 : World), b.tmps.size = a.tmps.size → Below w.heap.size w x1 → HeadInv .any l.toArray (m + 2) ls → ls.getD m true = false → ls.getD (m + 1) true = false →
      (∀ W, Below w.heap.size w W → QL P .any l.toArray (CW W) (m + 2) L0 f ((ls.setIfInBounds (m + 1) true).setIfInBounds m true) b) → wpOp P l.toArray Q m (wpAny P .any l.toArray Q (f + 1 + g) (ls.setIfInBounds m true)) b x1 := by
    intro f ls b x1 hb hx1 inv hu hv ht
    unfold wpOp
    simp only [hxa]
    rw [if_pos (by unfold Region.wanted; rw [xg'])]
    left
    unfold Oper.wp
    rw [hal]
    refine one_left (P := P) (n := m + 2) (m := m) (g := g) (α := m + 1) (x := y) (obj := oy) (aF := aF.put x.dst (.pointer (some ⟨x1.heap.size, 0, none⟩))) (w := x1.alloc ox) (N := a.tmps.size) (tl := l.drop (m + 2)) hya (by omega) (by omega) ye' yg' spec hs hc hn' hbl facty htl dl
      (fun w1 w2 h1 h2 => hT1 x1 w1 w2 hx1 h1 h2) f (ls.setIfInBounds m true) _ (x1.alloc ox) (by rw [put_size]; exact hb) (Below.refl _ _) (inv.set (ax ls hu) (by omega)) (by rw [getD_set_ne true (by omega)]; exact hv)
      (fun i h1 h2 h3 => by
        have : i = m := by omega
        subst this
        simp [flag_lt hu]) (fun W hW => ?_)
    have q := ht W ((hx1.alloc hx1.size ox).trans (hW.mono (by have := (hx1.alloc hx1.size ox).size; omega)))
    have sh := QL.shift' (x := x) (p := .pointer (some ⟨x1.heap.size, 0, none⟩)) (m := m) (fun i o hi ho => by
      obtain ⟨_, _, _, t, _⟩ := factx i o hi ho
      exact t) spec f _ b (fun i h1 h2 => by
        by_cases c : i = m
        · subst c; simp [flag_lt hu]
        · have : i = m + 1 := by omega
          subst this
          rw [getD_set_ne true (by omega)]; simp [flag_lt hv]) q
    rw [Array.setIfInBounds_comm _ _ (by omega)] at sh
    refine QL.weaken (fun ls' a' hl => ?_) f _ _ sh
    obtain ⟨a0, ⟨q1, rfl⟩, rfl⟩ := hl
    exact ⟨q1, rfl⟩
  have goY : ∀ f ls b (x1 : World), b.tmps.size = a.tmps.size → Below w.heap.size w x1 → HeadInv .any l.toArray (m + 2) ls → ls.getD m true = false → ls.getD (m + 1) true = false →
      (∀ W, Below w.heap.size w W → QL P .any l.toArray (CW W) (m + 2) L0 f ((ls.setIfInBounds (m + 1) true).setIfInBounds m true) b) → wpOp P l.toArray Q (m + 1) (wpAny P .any l.toArray Q (f + 1 + g) (ls.setIfInBounds (m + 1) true)) b x1 := by
    intro f ls b x1 hb hx1 inv hu hv ht
    unfold wpOp
    simp only [hya]
    rw [if_pos (by unfold Region.wanted; rw [yg'])]
    left
    unfold Oper.wp
    rw [hbl]
    refine one_left (P := P) (n := m + 2) (m := m) (g := g) (α := m) (x := x) (obj := ox) (aF := aF.put y.dst (.pointer (some ⟨x1.heap.size, 0, none⟩))) (w := x1.alloc oy) (N := a.tmps.size) (tl := l.drop (m + 2)) hxa (by omega) (by omega) xe' xg' spec hs hc hn' hal factx htl dl
      (fun w1 w2 h1 h2 => hT2 x1 w1 w2 hx1 h1 h2) f (ls.setIfInBounds (m + 1) true) _ (x1.alloc oy) (by rw [put_size]; exact hb) (Below.refl _ _) (inv.set (ay ls hv) (by omega)) (by rw [getD_set_ne true (by omega)]; exact hu)
      (fun i h1 h2 h3 => by
        have : i = m + 1 := by omega
        subst this
        simp [flag_lt hv]) (fun W hW => ?_)
    have q := ht W ((hx1.alloc hx1.size oy).trans (hW.mono (by have := (hx1.alloc hx1.size oy).size; omega)))
    have sh := QL.shift' (x := y) (p := .pointer (some ⟨x1.heap.size, 0, none⟩)) (m := m) (fun i o hi ho => by
      obtain ⟨_, _, _, t, _⟩ := facty i o hi ho
      exact t) spec f _ b (fun i h1 h2 => by
        by_cases c : i = m
        · subst c; simp [flag_lt hu]
        · have : i = m + 1 := by omega
          subst this
          rw [getD_set_ne true (by omega)]; simp [flag_lt hv]) q
    refine QL.weaken (fun ls' a' hl => ?_) f _ _ sh
    obtain ⟨a0, ⟨q1, rfl⟩, rfl⟩ := hl
    exact ⟨q1, rfl⟩
  have pre : ∀ f ls b (x1 : World), b.tmps.size = a.tmps.size → Below w.heap.size w x1 → HeadInv .any l.toArray (m + 2) ls → ls.getD m true = false → ls.getD (m + 1) true = false →
      (∀ W, Below w.heap.size w W → QL P .any l.toArray (CW W) (m + 2) L0 f ((ls.setIfInBounds (m + 1) true).setIfInBounds m true) b) → wpAny P .any l.toArray Q (f + 2 + g) ls b x1 := by
    intro f
    induction f with
    | zero =>
      intro ls b x1 hb hx1 inv hu hv ht
      rw [show 0 + 2 + g = 0 + 1 + g + 1 by omega]
      refine ⟨fun e => absurd (ax ls hu) (by rw [e]; simp), fun i hi => ?_⟩
      by_cases c : i = m
      · subst c; exact goX 0 ls b x1 hb hx1 inv hu hv ht
      by_cases c2 : i = m + 1
      · subst c2; exact goY 0 ls b x1 hb hx1 inv hu hv ht
      · have q := ht x1 hx1
        exact absurd hi (tail_waits hs hc hn' inv _ m rfl (by omega) hu i (seqB_ready q.1 i (ready_mono (ready_mono hi c2) c)))
    | succ f ih =>
      intro ls b x1 hb hx1 inv hu hv ht
      rw [show f + 1 + 2 + g = f + 1 + 1 + g + 1 by omega]
      refine ⟨fun e => absurd (ax ls hu) (by rw [e]; simp), fun i hi => ?_⟩
      by_cases c : i = m
      · subst c; exact goX (f + 1) ls b x1 hb hx1 inv hu hv ht
      by_cases c2 : i = m + 1
      · subst c2; exact goY (f + 1) ls b x1 hb hx1 inv hu hv ht
      · have hi2 := ready_mono (ready_mono hi c2) c
        have ilt : i < m := by have := ((ht x1 hx1).2 i hi2).1; omega
        obtain ⟨iu, o, ho, _⟩ := mem_ready.1 hi
        obtain ⟨d, hd, hdb, _, _, dis⟩ := fact i o ilt ho
        have st := T.step (w := w) (aF := aF) (fun _ _ h => h.2) ht hi2 ho hd (by rw [hb]; exact hdb) (fun j p hj hju hne hp => by
          by_cases cm : j = m
          · subst cm; simp [flag_lt hu] at hju
          by_cases cm2 : j = m + 1
          · subst cm2; rw [getD_set_ne true (by omega)] at hju; simp [flag_lt hv] at hju
          · exact dis j p (by omega) hne hp)
        have yq := (st x1 hx1).1.qOp ho (K := fun a' => a' = b.put o.dst (aF.tmps.getD d undef)) rfl
        refine wpOp_of_qOp (cw_self x1) (fun a' w' hw' e => ?_) yq
        rw [e]
        refine ih _ _ w' (by rw [put_size]; exact hb) (hx1.trans ((cw_bel hw').mono hx1.size)) (inv.set hi (by omega)) (by rw [getD_set_ne true c]; exact hu) (by rw [getD_set_ne true c2]; exact hv) (fun W hW => ?_)
        rw [Array.setIfInBounds_comm _ _ c2, Array.setIfInBounds_comm _ _ c]
        exact (st W hW).2
  have fin := pre m (Array.replicate l.length false) a { w with drawn := w.drawn + 1 } rfl (Below.drew (Below.refl _ _)) i0 r0 r1 T0
  rw [show m + 2 + g = l.toArray.size by rw [hz]; omega] at fin
  refine wp_region_any hm ?_
  rw [hz]
  rw [hz] at fin
  exact fin
end
end Go.Proofs.YtoolbnbfbegjaaaGreat
set_option autoImplicit false
namespace Go.Proofs.YtoolbnbfbegjaaaGreat
open Go Go.Sort Go.RowKit
section
variable {P : Program} {ops : Array Oper} {md : Region.Mode} {C : World → Prop} {n : Nat} {L : Array Bool → Act → Prop}
def exB (md : Region.Mode) (ops : Array Oper) (n : Nat) : Nat → Array Bool → Bool
  | 0, _ => true
  | f + 1, ls => (Region.ready md ops ls).all fun i => decide (i < n) && exB md ops n f (ls.setIfInBounds i true)
theorem exB.step {f : Nat} {ls : Array Bool} (h : exB md ops n (f + 1) ls = true) {i : Nat} (hi : i ∈ Region.ready md ops ls) : i < n ∧ exB md ops n f (ls.setIfInBounds i true) = true := by
  unfold exB at h
  have := List.all_eq_true.1 h i hi
  simpa using this
theorem QL.first' {i : Nat} {o : Oper} {v : Value} (hi : ops[i]? = some o)
    (sel : ∀ (j : Nat) (p : Oper) cs b, ops[j]? = some p → p.op ≠ .select cs b)
    (hL : ∀ ls a, L ls a → ∀ j, j ∈ Region.ready md ops ls → n ≤ j) (f : Nat) :
    ∀ ls a, exB md ops n (f + 1) ls = true →
      (∀ j p, ops[j]? = some p → j ≠ i → ls.getD j true = false → (∀ e ∈ p.after, Region.binds md e = true → e.on ≠ i) → o.apart ops p = true) →
      i ∈ Region.ready md ops ls → YieldsIn P ops C o v a → QL P md ops C n L f (ls.setIfInBounds i true) (a.put o.dst v) → QL P md ops C n L (f + 1) ls a := by
  have non : ∀ ls, i ∈ Region.ready md ops ls → Region.ready md ops ls ≠ [] := fun ls hr e => by rw [e] at hr; cases hr
  induction f with
  | zero =>
    intro ls a ex _ hr hy H
    refine ⟨non ls hr, fun j hj => ⟨(exB.step ex hj).1, ?_⟩⟩
    by_cases e : j = i
    · subst e; exact hy.qOp hi H
    · exact absurd (hL _ _ H j (ready_mono hj e)) (Nat.not_le.2 (exB.step ex hj).1)
  | succ f ih =>
    intro ls a ex free hr hy H
    refine ⟨non ls hr, fun j hj => ⟨(exB.step ex hj).1, ?_⟩⟩
    by_cases e : j = i
    · subst e; exact hy.qOp hi H
    · obtain ⟨ju, p, hp, all⟩ := mem_ready.1 hj
      have noti : ∀ e ∈ p.after, Region.binds md e = true → e.on ≠ i := fun x hx hb he => by
        have t := all x hx hb
        rw [he, getD_both (mem_ready.1 hr).1] at t
        cases t
      have st := qOp_put hp (free j p hp e ju noti) (fun cs b => sel i o cs b hi) (fun cs b => sel j p cs b hp) hy (H.2 j (ready_mono hj e)).2
      refine qOp_mono (fun a' h3 => ih _ a' (exB.step ex hj).2 (fun k q hk hki hu hno => ?_) (ready_mono hr (fun c => e c.symm)) h3.1 ?_) st
      · refine free k q hk hki ?_ hno
        by_cases c : j = k
        · subst c; exact ju
        · rwa [getD_set_ne true c] at hu
      · rw [Array.setIfInBounds_comm _ _ e]; exact h3.2
def lexE (md : Region.Mode) (ops : Array Oper) (n : Nat) (E : Array Bool) : Nat → Nat → Array Bool → Bool
  | 0, _, ls => decide (ls = E)
  | f + 1, k, ls => (Region.ready md ops ls).contains k && Region.free md ops ls k && exB md ops n (f + 1) ls && lexE md ops n E f (k + 1) (ls.setIfInBounds k true)
theorem QL.lexE {E : Array Bool} {R : Act → Prop} (sel : Region.noSelect ops = true) (hE : ∀ j, j ∈ Region.ready md ops E → n ≤ j) (l : List Oper) :
    ∀ (k : Nat) (ls : Array Bool) (a : Act), (∀ j, j < l.length → l[j]? = ops[k + j]?) → lexE md ops n E l.length k ls = true → wpQuiet P ops C R l a →
      QL P md ops C n (fun ls' a' => ls' = E ∧ R a') l.length ls a := by
  induction l with
  | nil =>
    intro k ls a _ hB h
    exact ⟨by simpa [Go.Proofs.YtoolbnbfbegjaaaGreat.lexE] using hB, h⟩
  | cons o l ih =>
    intro k ls a hl hB h
    have h0 : ops[k]? = some o := by simpa using (hl 0 (Nat.succ_pos _)).symm
    simp only [List.length_cons, Go.Proofs.YtoolbnbfbegjaaaGreat.lexE, Bool.and_eq_true] at hB
    have rk : k ∈ Region.ready md ops ls := by simpa using hB.1.1.1
    have q : qOp P ops C k (wpQuiet P ops C R l) a := by unfold qOp; simp only [h0]; exact h
    obtain ⟨v, hy, hK⟩ := yieldsIn_of_qOp h0 q
    refine QL.first' h0 (Region.noSelect_spec sel) (fun ls' a' x => by rw [x.1]; exact hE) l.length ls a hB.1.2 (Region.free_spec h0 hB.1.1.2) rk hy ?_
    refine ih (k + 1) _ _ (fun j hj => ?_) hB.2 hK
    have t := hl (j + 1) (by simpa using hj)
    rw [List.getElem?_cons_succ] at t
    rw [t]; congr 1; omega
def pureTo (P : Program) (ops : Array Oper) : List Oper → Act → Act → Prop
  | [], a, b => a = b
  | o :: l, a, b => ∃ v, Yields P ops o v a ∧ pureTo P ops l (a.put o.dst v) b
def pureB (md : Region.Mode) (ops : Array Oper) (E : Array Bool) : Nat → Nat → Array Bool → Bool
  | 0, _, ls => decide (ls = E)
  | f + 1, k, ls => (Region.ready md ops ls).contains k && Region.free md ops ls k && pureB md ops E f (k + 1) (ls.setIfInBounds k true)
theorem pure_any {Q : Exit → Act → World → Prop} (hQ : ∀ c d v a w, Q (.panic c) (Act.put a d v) w → Q (.panic c) a w) (sel : Region.noSelect ops = true) {E : Array Bool} {b : Act} {w : World} {g : Nat} (fin : wpAny P md ops Q g E b w) (l : List Oper) :
    ∀ (k : Nat) (ls : Array Bool) (a : Act), (∀ j, j < l.length → l[j]? = ops[k + j]?) → pureB md ops E l.length k ls = true → pureTo P ops l a b → wpAny P md ops Q (g + l.length) ls a w := by
  induction l with
  | nil =>
    intro k ls a _ hB h
    have e1 : ls = E := by simpa [pureB] using hB
    have e2 : a = b := h
    rw [e1, e2]
    exact fin
  | cons o l ih =>
    intro k ls a hl hB h
    have h0 : ops[k]? = some o := by simpa using (hl 0 (Nat.succ_pos _)).symm
    simp only [List.length_cons, pureB, Bool.and_eq_true] at hB
    have rk : k ∈ Region.ready md ops ls := by simpa using hB.1.1
    obtain ⟨v, hy, hK⟩ := h
    refine wpAny_first h0 (Region.noSelect_spec sel) (fun c a w => hQ c _ _ a w) _ ls a w (Region.free_spec h0 hB.1.2) rk hy ?_
    refine ih (k + 1) _ _ (fun j hj => ?_) hB.2 hK
    have t := hl (j + 1) (by simpa using hj)
    rw [List.getElem?_cons_succ] at t
    rw [t]; congr 1; omega
theorem one_left2 {Q : Exit → Act → World → Prop} {m g α : Nat} {x : Oper} {obj : Obj} {aF : Act} {w : World} {N : Nat} (hxa : ops[α]? = some x) (hα : m ≤ α) (xe : x.after = #[]) (xg : x.guard = none)
    (sel : ∀ (j : Nat) (p : Oper) cs b, ops[j]? = some p → p.op ≠ .select cs b)
    (hal : ∀ (a : Act) (w : World), (execOp a.eval x).run P w = .ok (.value (.pointer (some ⟨w.heap.size, 0, none⟩))) (w.alloc obj))
    (fact : ∀ j o, j < m → ops[j]? = some o → ∃ d, o.dst = some d ∧ d < N ∧ x.apart ops o = true ∧ ∀ i p, i < m → i ≠ j → ops[i]? = some p → p.dst ≠ some d)
    (hLa : ∀ ls a, L ls a → a = aF)
    (fin1 : ∀ ls b x1, ls.getD α true = false → L (ls.setIfInBounds α true) b → Below w.heap.size w x1 → wpAny P .any ops Q (g + 1) ls b x1)
    (fin2 : ∀ ls x1 w2, L ls aF → Below w.heap.size w x1 → Below (x1.alloc obj).heap.size (x1.alloc obj) w2 → wpAny P .any ops Q g ls (aF.put x.dst (.pointer (some ⟨x1.heap.size, 0, none⟩))) w2) (f : Nat) :
    ∀ ls b (x1 : World), b.tmps.size = N → Below w.heap.size w x1 → ls.getD α true = false →
      (∀ W, Below w.heap.size w W → QL P .any ops (CW W) m L f (ls.setIfInBounds α true) b) → wpAny P .any ops Q (f + 1 + g) ls b x1 := by
  have am : ∀ ls : Array Bool, ls.getD α true = false → α ∈ Region.ready .any ops ls := fun ls hu => mem_ready.2 ⟨hu, x, hxa, fun e he => by rw [xe] at he; simp at he⟩
  have post : ∀ f ls b (x1 w2 : World), Below w.heap.size w x1 → CW (x1.alloc obj) w2 → QL P .any ops (CW (x1.alloc obj)) m L f ls b →
      wpAny P .any ops Q (f + g) ls (b.put x.dst (.pointer (some ⟨x1.heap.size, 0, none⟩))) w2 := by
    intro f ls b x1 w2 hx1 hw2 hq
    have sh := QL.shift' (x := x) (p := .pointer (some ⟨x1.heap.size, 0, none⟩)) (m := m) (fun i o hi ho => by
      obtain ⟨_, _, _, t, _⟩ := fact i o hi ho
      exact t) sel f ls b (fun i h1 h2 => by omega) hq
    refine QL.any (Q := Q) (g := g) (fun ls' a' w' hw' hL' => ?_) f ls _ w2 hw2 sh
    obtain ⟨a0, hq1, rfl⟩ := hL'
    obtain rfl := hLa _ _ hq1
    exact fin2 ls' x1 w' hq1 hx1 (cw_bel hw')
  induction f with
  | zero =>
    intro ls b x1 hb hx1 hu ht
    rw [show 0 + 1 + g = g + 1 by omega]
    exact fin1 ls b x1 hu (ht x1 hx1) hx1
  | succ f ih =>
    intro ls b x1 hb hx1 hu ht
    rw [show f + 1 + 1 + g = f + 1 + g + 1 by omega]
    refine ⟨fun e => absurd (am ls hu) (by rw [e]; simp), fun i hi => ?_⟩
    by_cases c : i = α
    · subst c
      unfold wpOp
      simp only [hxa]
      rw [if_pos (by unfold Region.wanted; rw [xg])]
      left
      unfold Oper.wp
      rw [hal]
      exact post (f + 1) (ls.setIfInBounds i true) b x1 (x1.alloc obj) hx1 (cw_self _) (ht _ (hx1.alloc hx1.size _))
    · have hi2 := ready_mono (i := α) hi c
      have iln : i < m := ((ht x1 hx1).2 i hi2).1
      obtain ⟨iu, o, hoo, _⟩ := mem_ready.1 hi
      obtain ⟨d, hd, hdb, _, dis⟩ := fact i o iln hoo
      have st := T.step (w := w) (aF := aF) hLa ht hi2 hoo hd (by rw [hb]; exact hdb) (fun j p hj hju hne hp => dis j p hj hne hp)
      have yq := (st x1 hx1).1.qOp hoo (K := fun a' => a' = b.put o.dst (aF.tmps.getD d undef)) rfl
      refine wpOp_of_qOp (cw_self x1) (fun a' w' hw' e => ?_) yq
      rw [e]
      refine ih _ _ w' (by rw [put_size]; exact hb) (hx1.trans ((cw_bel hw').mono hx1.size)) (by rw [getD_set_ne true c]; exact hu) (fun W hW => ?_)
      rw [Array.setIfInBounds_comm _ _ c]
      exact (st W hW).2
def allocB3 (ops : Array Oper) (m α N : Nat) : Bool :=
  match ops[α]? with
  | none => false
  | some x => x.after.isEmpty && x.guard.isNone && (List.range m).all fun j => match ops[j]? with
    | none => false
    | some p => (match p.dst with
      | none => false
      | some d => decide (d < N)) && x.apart ops p && (List.range m).all fun i => i == j || match ops[i]? with
        | none => true
        | some q => q.dst != p.dst
theorem flag_back {ls : Array Bool} {α : Nat} (hu : ls.getD α true = false) : ls = (ls.setIfInBounds α true).setIfInBounds α false := by
  have lt := flag_lt hu
  apply Array.ext
  · simp
  · intro i h1 h2
    by_cases c : α = i
    · subst c
      simp [lt] at hu
      simp [hu]
    · rw [Array.getElem_setIfInBounds_ne (by simpa using h1) c, Array.getElem_setIfInBounds_ne h1 c]
theorem wp_region_pure_tail {id : Nat} {Q : Exit → Act → World → Prop} {a : Act} {w : World} {l : List Oper} (m p : Nat) (E F : Array Bool) (hm : P.follows .mixedOrders = true)
    (hQ : ∀ c d v a w, Q (.panic c) (Act.put a d v) w → Q (.panic c) a w)
    (hB : (Region.noSelect l.toArray && decide (m + p + 1 ≤ l.length) && lexE .any l.toArray m E m 0 ((Array.replicate l.length false).setIfInBounds (m + p) true) && (Region.ready .any l.toArray E).all (fun j => decide (m ≤ j)) &&
      pureB .any l.toArray (F.setIfInBounds (m + p) true) p m E && pureB .any l.toArray F p m (E.setIfInBounds (m + p) false) && decide (Region.ready .any l.toArray F = [m + p]) && Region.seqB .any l.toArray (l.length - (m + p + 1)) (m + p + 1) (F.setIfInBounds (m + p) true)) = true)
    (hA : allocB3 l.toArray m (m + p) a.tmps.size = true) (obj : Obj) (x : Oper) (hx : l[m + p]? = some x)
    (hal : ∀ (a : Act) (w : World), (execOp a.eval x).run P w = .ok (.value (.pointer (some ⟨w.heap.size, 0, none⟩))) (w.alloc obj)) (aF aG : Act)
    (h : ∀ W, Below w.heap.size w W → wpQuiet P l.toArray (CW W) (fun a' => a' = aF) (l.take m) a)
    (hp : pureTo P l.toArray ((l.drop m).take p) aF aG) (hp' : ∀ v, pureTo P l.toArray ((l.drop m).take p) (aF.put x.dst v) (aG.put x.dst v))
    (hT : ∀ w1 w2, Below w.heap.size w w1 → Below (w1.alloc obj).heap.size (w1.alloc obj) w2 → wpList P l.toArray Q (l.drop (m + p + 1)) (aG.put x.dst (.pointer (some ⟨w1.heap.size, 0, none⟩))) w2) :
    (Code.region id l.toArray true).wp P Q a w := by
  simp only [Bool.and_eq_true, decide_eq_true_eq] at hB
  obtain ⟨⟨⟨⟨⟨⟨⟨sel, hn⟩, lex⟩, hE⟩, pb1⟩, pb2⟩, hF⟩, sq⟩ := hB
  have hxa : l.toArray[m + p]? = some x := by simpa using hx
  unfold allocB3 at hA
  rw [hxa] at hA
  simp only [Bool.and_eq_true, List.all_eq_true, List.mem_range] at hA
  obtain ⟨⟨xe, xg⟩, hall⟩ := hA
  have xe' : x.after = #[] := by simpa using xe
  have xg' : x.guard = none := by simpa using xg
  have hz : l.toArray.size = l.length := by simp
  have tl : (l.take m).length = m := by rw [List.length_take]; omega
  have tp : ((l.drop m).take p).length = p := by rw [List.length_take, List.length_drop]; omega
  have spec := Region.noSelect_spec sel
  have fact : ∀ j o, j < m → l.toArray[j]? = some o → ∃ d, o.dst = some d ∧ d < a.tmps.size ∧ x.apart l.toArray o = true ∧ ∀ i p, i < m → i ≠ j → l.toArray[i]? = some p → p.dst ≠ some d := by
    intro j o hj ho
    have t := hall j hj
    rw [ho] at t
    simp only [Bool.and_eq_true] at t
    obtain ⟨⟨t1, t2⟩, t3⟩ := t
    cases hd : o.dst with
    | none => rw [hd] at t1; cases t1
    | some d =>
      rw [hd] at t1
      refine ⟨d, rfl, by simpa using t1, t2, fun i p hi hne hp => ?_⟩
      have u := List.all_eq_true.1 t3 i (List.mem_range.2 hi)
      rw [hp] at u
      simp only [Bool.or_eq_true, beq_iff_eq, bne_iff_ne] at u
      rcases u with u | u
      · exact absurd u hne
      · rw [hd] at u; exact u
  let g := l.length - (m + p + 1)
  have dl : (l.drop (m + p + 1)).length = g := by rw [List.length_drop]
  have r0 : (Array.replicate l.length false).getD (m + p) true = false := getD_in (by simp; omega) (getD_replicate_false _ _)
  have pl : ∀ j, j < ((l.drop m).take p).length → ((l.drop m).take p)[j]? = l.toArray[m + j]? := fun j hj => by
    rw [tp] at hj
    simp [List.getElem?_take, hj, List.getElem?_drop]
  have tail : ∀ w1 w2, Below w.heap.size w w1 → Below (w1.alloc obj).heap.size (w1.alloc obj) w2 → wpAny P .any l.toArray Q g (F.setIfInBounds (m + p) true) (aG.put x.dst (.pointer (some ⟨w1.heap.size, 0, none⟩))) w2 := fun w1 w2 h1 h2 => by
    have t := wpAny_of_seq (md := .any) (P := P) (ops := l.toArray) (Q' := Q) (l.drop (m + p + 1)) (m + p + 1) (F.setIfInBounds (m + p) true) (aG.put x.dst (.pointer (some ⟨w1.heap.size, 0, none⟩))) w2 (fun j => by simp [List.getElem?_drop]) (by rw [dl]; exact sq) (hT w1 w2 h1 h2)
    rwa [dl] at t
  have fin := one_left2 (P := P) (Q := Q) (m := m) (g := g + p) (α := m + p) (aF := aF) (w := w) (N := a.tmps.size) (L := fun ls' a' => ls' = E ∧ a' = aF) hxa (by omega) xe' xg' spec hal fact (fun _ _ h => h.2)
    (fun ls b x1 hu hL hx1 => by
      have e : ls = E.setIfInBounds (m + p) false := by rw [flag_back hu, hL.1]
      rw [e, hL.2]
      have t := pure_any (P := P) (md := .any) (ops := l.toArray) hQ sel (E := F) (b := aG) (w := x1) (g := g + 1) (by
        refine ⟨fun e => (by rw [hF] at e; cases e), fun i hi => ?_⟩
        rw [hF] at hi
        obtain rfl : i = m + p := by simpa using hi
        unfold wpOp
        simp only [hxa]
        rw [if_pos (by unfold Region.wanted; rw [xg'])]
        left
        unfold Oper.wp
        rw [hal]
        exact tail x1 _ hx1 (Below.refl _ _)) ((l.drop m).take p) m (E.setIfInBounds (m + p) false) aF pl (by rw [tp]; exact pb2) hp
      rw [tp] at t
      rw [show g + p + 1 = g + 1 + p by omega]
      exact t)
    (fun ls x1 w2 hL hx1 hw2 => by
      rw [hL.1]
      have t := pure_any (P := P) (md := .any) (ops := l.toArray) hQ sel (tail x1 w2 hx1 hw2) ((l.drop m).take p) m E _ pl (by rw [tp]; exact pb1) (hp' _)
      rw [tp] at t
      exact t) m (Array.replicate l.length false) a { w with drawn := w.drawn + 1 } rfl (Below.drew (Below.refl _ _)) r0 (fun W hW => by
      have t := QL.lexE (P := P) (C := CW W) (md := .any) (n := m) (E := E) sel (fun j hj => by simpa using List.all_eq_true.1 hE j hj) (l.take m) 0 _ a (fun j hj => by
        rw [tl] at hj
        simp [hj]) (by rw [tl]; exact lex) (h W hW)
      rw [tl] at t
      exact t)
  rw [show m + 1 + (g + p) = l.toArray.size by rw [hz]; omega] at fin
  refine wp_region_any hm ?_
  rw [hz]
  rw [hz] at fin
  exact fin
end
end Go.Proofs.YtoolbnbfbegjaaaGreat
namespace Go.Proofs.YtoolbnbfbegjaaaGreat
theorem mvs {q : Nat} [NeZero q] {a b c : Fin q} (h : c = a - b) : a = b + c := by grind
theorem mva {q : Nat} [NeZero q] {a b c : Fin q} (h : c = b + a) : a = c - b := by grind
theorem as_e {q : Nat} [NeZero q] {x1 y1 x2 y2 x3 y3 l m a : Fin q}
    (h1 : l * (x1 - x2) = y1 - y2) (h2 : l * (y1 + y2) = x1 * x1 + x1 * x2 + x2 * x2 + a)
    (h3 : m * (x3 - x2) = y3 - y2) (h4 : m * (y3 + y2) = x3 * x3 + x3 * x2 + x2 * x2 + a) :
    (l - m) * (y2 + y2) = x1 * x1 + x1 * x2 - x3 * x3 - x3 * x2 - l * l * (x1 - x2) + m * m * (x3 - x2) := by
  have e1 : y1 = y2 + l * (x1 - x2) := mvs h1
  have e3 : y3 = y2 + m * (x3 - x2) := mvs h3
  subst e1; subst e3
  have e2 : a = l * (y2 + l * (x1 - x2) + y2) - (x1 * x1 + x1 * x2 + x2 * x2) := mva h2
  subst e2
  clear h1 h2 h3
  grind
theorem as_n1 {q : Nat} [NeZero q] {x1 x2 y2 x3 y3 l m n s : Fin q}
    (e : (l - m) * (y2 + y2) = x1 * x1 + x1 * x2 - x3 * x3 - x3 * x2 - l * l * (x1 - x2) + m * m * (x3 - x2))
    (h3 : m * (x3 - x2) = y3 - y2) (hs : s = l * l - x1 - x2)
    (h5 : n * (x3 - s) = y3 - (l * (x2 - s) - y2)) :
    (x3 - s) * (n * (l - m) - (l * m - x2 - x3 - s)) = 0 := by
  have e3 : y3 = y2 + m * (x3 - x2) := mvs h3
  have k : (x3 - s) * (n * (l - m) - (l * m - x2 - x3 - s)) = (l - m) * (n * (x3 - s)) - (x3 - s) * (l * m - x2 - x3 - s) := by clear e h3 hs h5 e3; grind
  rw [k, h5, e3]
  have k2 : (l - m) * (y2 + m * (x3 - x2) - (l * (x2 - s) - y2)) = (l - m) * (y2 + y2) + (l - m) * (m * (x3 - x2) - l * (x2 - s)) := by clear e h3 hs h5 e3 k; grind
  rw [k2, e, hs]
  clear e h3 h5 e3 k k2 hs
  grind
theorem as_n2 {q : Nat} [NeZero q] {x1 y1 x2 y2 x3 y3 l m a n s : Fin q}
    (e : (l - m) * (y2 + y2) = x1 * x1 + x1 * x2 - x3 * x3 - x3 * x2 - l * l * (x1 - x2) + m * m * (x3 - x2))
    (h1 : l * (x1 - x2) = y1 - y2) (h2 : l * (y1 + y2) = x1 * x1 + x1 * x2 + x2 * x2 + a)
    (h3 : m * (x3 - x2) = y3 - y2) (hs : s = l * l - x1 - x2)
    (h6 : n * (y3 + (l * (x2 - s) - y2)) = s * s + s * x3 + x3 * x3 + a) :
    (y3 + (l * (x2 - s) - y2)) * (n * (l - m) - (l * m - x2 - x3 - s)) = 0 := by
  have e1 : y1 = y2 + l * (x1 - x2) := mvs h1
  have e3 : y3 = y2 + m * (x3 - x2) := mvs h3
  have e2 : a = l * (y1 + y2) - (x1 * x1 + x1 * x2 + x2 * x2) := mva h2
  have k : (y3 + (l * (x2 - s) - y2)) * (n * (l - m) - (l * m - x2 - x3 - s)) = (l - m) * (n * (y3 + (l * (x2 - s) - y2))) - (y3 + (l * (x2 - s) - y2)) * (l * m - x2 - x3 - s) := by clear e h1 h2 h3 hs h6 e1 e2 e3; grind
  rw [k, h6, e2, e3, e1]
  have k2 : (l - m) * (s * s + s * x3 + x3 * x3 + (l * (y2 + l * (x1 - x2) + y2) - (x1 * x1 + x1 * x2 + x2 * x2))) = l * ((l - m) * (y2 + y2)) + (l - m) * (s * s + s * x3 + x3 * x3 + (l * (l * (x1 - x2)) - (x1 * x1 + x1 * x2 + x2 * x2))) := by clear e h1 h2 h3 hs h6 e1 e2 e3 k; grind
  rw [k2, e, hs]
  clear e h1 h2 h3 h6 e1 e2 e3 k k2 hs
  grind
theorem as_x {q : Nat} [NeZero q] {x1 x2 x3 l m n n' s t : Fin q} (hs : s = l * l - x1 - x2) (ht : t = m * m - x2 - x3)
    (hn : n * (l - m) = l * m - x2 - x3 - s) (hn' : n' * (l - m) = x1 + x2 + t - l * m) :
    ((l - m) * (l - m)) * ((n * n - s - x3) - (n' * n' - x1 - t)) = 0 := by
  have k : ((l - m) * (l - m)) * ((n * n - s - x3) - (n' * n' - x1 - t)) = (n * (l - m)) * (n * (l - m)) - (n' * (l - m)) * (n' * (l - m)) + ((l - m) * (l - m)) * (x1 + t - s - x3) := by clear hs ht hn hn'; grind
  rw [k, hn, hn', hs, ht]
  clear k hn hn' hs ht
  grind
theorem as_y {q : Nat} [NeZero q] {x1 y1 x2 y2 x3 y3 l m n n' s t X : Fin q} (h1 : l * (x1 - x2) = y1 - y2) (h3 : m * (x3 - x2) = y3 - y2)
    (hs : s = l * l - x1 - x2) (ht : t = m * m - x2 - x3)
    (hn : n * (l - m) = l * m - x2 - x3 - s) (hn' : n' * (l - m) = x1 + x2 + t - l * m) (hX : X = n * n - s - x3) :
    (l - m) * ((n * (x3 - X) - y3) - (n' * (x1 - X) - y1)) = 0 := by
  have e1 : y1 = y2 + l * (x1 - x2) := mvs h1
  have e3 : y3 = y2 + m * (x3 - x2) := mvs h3
  have k : (l - m) * ((n * (x3 - X) - y3) - (n' * (x1 - X) - y1)) = (n * (l - m)) * x3 - (n' * (l - m)) * x1 - (n * (l - m) - n' * (l - m)) * X - (l - m) * (y3 - y1) := by clear h1 h3 hs ht hn hn' hX e1 e3; grind
  have k3 : (l - m) * (l - m) * X = (n * (l - m)) * (n * (l - m)) - (l - m) * (l - m) * (s + x3) := by rw [hX]; clear h1 h3 hs ht hn hn' hX e1 e3 k; grind
  have k4 : n * (l - m) - n' * (l - m) = - ((l - m) * (l - m)) := by rw [hn, hn', hs, ht]; clear h1 h3 hs ht hn hn' hX e1 e3 k k3; grind
  have k5 : (l - m) * ((n * (x3 - X) - y3) - (n' * (x1 - X) - y1)) = (n * (l - m)) * x3 - (n' * (l - m)) * x1 + (l - m) * (l - m) * X - (l - m) * (y3 - y1) := by rw [k, k4]; clear k k3 k4 hn hn' hX h1 h3 hs ht e1 e3; grind
  rw [k5, k3, hn, hn', e1, e3, hs, ht]
  clear k k3 k4 k5 hn hn' hX e1 e3 h1 h3 hs ht
  grind
structure Fl (q : Nat) [NeZero q] : Prop where
  nz : ∀ x y : Fin q, x * y = 0 → x = 0 ∨ y = 0
  iv : ∀ x : Fin q, x ≠ 0 → ∃ y, x * y = 1
abbrev Cpt (q : Nat) := Option (Fin q × Fin q)
def OnC {q : Nat} [NeZero q] (a b : Fin q) : Cpt q → Prop
  | none => True
  | some (x, y) => y * y = x * x * x + a * x + b
def ngP {q : Nat} [NeZero q] : Cpt q → Cpt q
  | none => none
  | some (x, y) => some (x, -y)
def Sm {q : Nat} [NeZero q] (a : Fin q) (P Q S : Cpt q) : Prop :=
  (P = none ∧ S = Q) ∨ (Q = none ∧ S = P) ∨ (∃ x y1 y2 : Fin q, y1 + y2 = 0 ∧ P = some (x, y1) ∧ Q = some (x, y2) ∧ S = none) ∨
  (∃ x1 y1 x2 y2 t x3 y3 : Fin q, ¬ (x1 = x2 ∧ y1 + y2 = 0) ∧ t * (x1 - x2) = y1 - y2 ∧ t * (y1 + y2) = x1 * x1 + x1 * x2 + x2 * x2 + a ∧
    x3 = t * t - x1 - x2 ∧ y3 = t * (x1 - x3) - y1 ∧ P = some (x1, y1) ∧ Q = some (x2, y2) ∧ S = some (x3, y3))
theorem Sm.l {q : Nat} [NeZero q] {a : Fin q} (Q : Cpt q) : Sm a none Q Q := Or.inl ⟨rfl, rfl⟩
theorem Sm.r {q : Nat} [NeZero q] {a : Fin q} (P : Cpt q) : Sm a P none P := Or.inr (Or.inl ⟨rfl, rfl⟩)
theorem Sm.o {q : Nat} [NeZero q] {a : Fin q} (x y1 y2 : Fin q) (h : y1 + y2 = 0) : Sm a (some (x, y1)) (some (x, y2)) none := Or.inr (Or.inr (Or.inl ⟨x, y1, y2, h, rfl, rfl, rfl⟩))
theorem Sm.s {q : Nat} [NeZero q] {a : Fin q} (x1 y1 x2 y2 t x3 y3 : Fin q) (h : ¬ (x1 = x2 ∧ y1 + y2 = 0)) (h1 : t * (x1 - x2) = y1 - y2) (h2 : t * (y1 + y2) = x1 * x1 + x1 * x2 + x2 * x2 + a)
    (hx : x3 = t * t - x1 - x2) (hy : y3 = t * (x1 - x3) - y1) : Sm a (some (x1, y1)) (some (x2, y2)) (some (x3, y3)) :=
  Or.inr (Or.inr (Or.inr ⟨x1, y1, x2, y2, t, x3, y3, h, h1, h2, hx, hy, rfl, rfl, rfl⟩))
section
variable {q : Nat} [NeZero q] {a b : Fin q}
theorem Fl.cut (fl : Fl q) {x y z : Fin q} (hx : x ≠ 0) (h : x * y = x * z) : y = z := by
  have k : x * (y - z) = 0 := by grind
  rcases fl.nz _ _ k with g | g
  · exact absurd g hx
  · grind
theorem Sm.comm {P Q S : Cpt q} (h : Sm a P Q S) : Sm a Q P S := by
  rcases h with ⟨z1, z2⟩ | ⟨z1, z2⟩ | ⟨x, y1, y2, h, z1, z2, z3⟩ | ⟨x1, y1, x2, y2, t, x3, y3, h, h1, h2, hx, hy, z1, z2, z3⟩
  · cases z1; cases z2; exact .r _
  · cases z1; cases z2; exact .l _
  · cases z1; cases z2; cases z3; exact .o _ _ _ (by grind)
  · cases z1; cases z2; cases z3
    refine .s _ _ _ _ t _ _ (fun g => h ⟨g.1.symm, by grind⟩) (by grind) (by grind) (by grind) (by grind)
theorem Sm.uniq (fl : Fl q) {P Q S S' : Cpt q} (h : Sm a P Q S) (h' : Sm a P Q S') : S = S' := by
  rcases h with ⟨z1, z2⟩ | ⟨z1, z2⟩ | ⟨x, y1, y2, h, z1, z2, z3⟩ | ⟨x1, y1, x2, y2, t, x3, y3, h, h1, h2, hx, hy, z1, z2, z3⟩
  · cases z1; cases z2; rcases h' with ⟨z1, z2⟩ | ⟨z1, z2⟩ | ⟨_, _, _, _, z1, z2, z3⟩ | ⟨_, _, _, _, _, _, _, _, _, _, _, _, z1, z2, z3⟩ <;> cases z1 <;> cases z2 <;> rfl
  · cases z1; cases z2; rcases h' with ⟨z1, z2⟩ | ⟨z1, z2⟩ | ⟨_, _, _, _, z1, z2, z3⟩ | ⟨_, _, _, _, _, _, _, _, _, _, _, _, z1, z2, z3⟩ <;> cases z1 <;> cases z2 <;> rfl
  · cases z1; cases z2; cases z3
    rcases h' with ⟨z1, z2⟩ | ⟨z1, z2⟩ | ⟨_, _, _, _, z1, z2, z3⟩ | ⟨_, _, _, _, t, x3, y3, g, h1, h2, hx, hy, z1, z2, z3⟩
    · first | (cases z1; done) | (cases z1; cases z2; done)
    · first | (cases z1; done) | (cases z1; cases z2; done)
    · cases z1; cases z2; cases z3; rfl
    · cases z1; cases z2; cases z3; exact absurd ⟨rfl, h⟩ g
  · cases z1; cases z2; cases z3
    rcases h' with ⟨z1, z2⟩ | ⟨z1, z2⟩ | ⟨_, _, _, g, z1, z2, z3⟩ | ⟨_, _, _, _, t', x3', y3', h', h1', h2', hx', hy', z1, z2, z3⟩
    · first | (cases z1; done) | (cases z1; cases z2; done)
    · first | (cases z1; done) | (cases z1; cases z2; done)
    · cases z1; cases z2; cases z3; exact absurd ⟨rfl, g⟩ h
    · cases z1; cases z2; cases z3
      have ht : t = t' := by
        by_cases g : x1 = x2
        · exact fl.cut (x := y1 + y2) (fun k => h ⟨g, k⟩) (by grind)
        · exact fl.cut (x := x1 - x2) (fun k => g (by grind)) (by grind)
      subst ht
      have hx3 : x3 = x3' := by rw [hx, hx']
      subst hx3
      rw [hy, hy']
theorem on_uniq (fl : Fl q) {x y1 y2 : Fin q} (h1 : OnC a b (some (x, y1))) (h2 : OnC a b (some (x, y2))) (h : ¬ y1 + y2 = 0) : y1 = y2 := by
  simp only [OnC] at h1 h2
  have k : (y1 + y2) * (y1 - y2) = 0 := by grind
  rcases fl.nz _ _ k with g | g
  · exact absurd g h
  · grind
theorem Sm.ex (fl : Fl q) {P Q : Cpt q} (hP : OnC a b P) (hQ : OnC a b Q) : ∃ S, Sm a P Q S := by
  match P, Q with
  | none, Q => exact ⟨_, .l _⟩
  | some p, none => exact ⟨_, .r _⟩
  | some (x1, y1), some (x2, y2) =>
    by_cases g : x1 = x2
    · subst g
      by_cases k : y1 + y2 = 0
      · exact ⟨_, .o _ _ _ k⟩
      · have e := on_uniq fl hP hQ k
        subst e
        obtain ⟨i, hi⟩ := fl.iv _ k
        refine ⟨_, .s _ _ _ _ ((x1 * x1 + x1 * x1 + x1 * x1 + a) * i) _ _ (fun g => k g.2) (by grind) ?_ rfl rfl⟩
        have q : (x1 * x1 + x1 * x1 + x1 * x1 + a) * i * (y1 + y1) = (x1 * x1 + x1 * x1 + x1 * x1 + a) * ((y1 + y1) * i) := by grind
        rw [q, hi]; grind
    · have k : x1 - x2 ≠ 0 := fun k => g (by grind)
      obtain ⟨i, hi⟩ := fl.iv _ k
      simp only [OnC] at hP hQ
      have q1 : (y1 - y2) * i * (x1 - x2) = y1 - y2 := by
        have q : (y1 - y2) * i * (x1 - x2) = (y1 - y2) * ((x1 - x2) * i) := by grind
        rw [q, hi]; grind
      refine ⟨_, .s _ _ _ _ ((y1 - y2) * i) _ _ (fun q => g q.1) q1 ?_ rfl rfl⟩
      refine fl.cut k ?_
      have q2 : (x1 - x2) * ((y1 - y2) * i * (y1 + y2)) = ((y1 - y2) * i * (x1 - x2)) * (y1 + y2) := by grind
      rw [q2, q1]
      clear q1 q2 hi
      grind
theorem Sm.on (fl : Fl q) {P Q S : Cpt q} (h : Sm a P Q S) (hP : OnC a b P) (hQ : OnC a b Q) : OnC a b S := by
  rcases h with ⟨z1, z2⟩ | ⟨z1, z2⟩ | ⟨_, _, _, _, z1, z2, z3⟩ | ⟨x1, y1, x2, y2, t, x3, y3, h, h1, h2, hx, hy, z1, z2, z3⟩
  · cases z1; cases z2; exact hQ
  · cases z1; cases z2; exact hP
  · cases z1; cases z2; cases z3; trivial
  · cases z1; cases z2; cases z3
    simp only [OnC] at hP hQ ⊢
    have e1 : y1 = y2 + t * (x1 - x2) := mvs h1
    have e2 : a = t * (y1 + y2) - (x1 * x1 + x1 * x2 + x2 * x2) := mva h2
    have e3 : b = y2 * y2 - (x2 * x2 * x2 + a * x2) := mva hQ
    have e4 : y3 = t * (x2 - x3) - y2 := by rw [hy, e1]; clear e1 e2 e3 hP hQ h1 h2 hx hy; grind
    rw [e3, e2, e4, hx, e1]
    clear e1 e2 e3 e4 hP hQ h1 h2 hx hy
    grind
theorem ng_on {P : Cpt q} (h : OnC a b P) : OnC a b (ngP P) := by
  match P with
  | none => trivial
  | some (x, y) => simp only [OnC, ngP] at h ⊢; grind
theorem ng_ng (P : Cpt q) : ngP (ngP P) = P := by
  match P with
  | none => rfl
  | some (x, y) => simp only [ngP]; congr 2; grind
theorem Sm.ng {P : Cpt q} : Sm a P (ngP P) none := by
  match P with
  | none => exact .l _
  | some (x, y) => exact .o _ _ _ (by grind)
theorem Sm.neg {P Q S : Cpt q} (h : Sm a P Q S) : Sm a (ngP P) (ngP Q) (ngP S) := by
  rcases h with ⟨z1, z2⟩ | ⟨z1, z2⟩ | ⟨x, y1, y2, h, z1, z2, z3⟩ | ⟨x1, y1, x2, y2, t, x3, y3, h, h1, h2, hx, hy, z1, z2, z3⟩
  · cases z1; cases z2; exact .l _
  · cases z1; cases z2; exact .r _
  · cases z1; cases z2; cases z3; exact .o _ _ _ (by grind)
  · cases z1; cases z2; cases z3
    refine .s _ _ _ _ (-t) _ _ (fun g => h ⟨g.1, by grind⟩) (by grind) (by grind) (by grind) (by grind)
theorem Sm.zero {P Q : Cpt q} (h : Sm a P Q none) : Q = ngP P := by
  rcases h with ⟨z1, z2⟩ | ⟨z1, z2⟩ | ⟨x, y1, y2, h, z1, z2, z3⟩ | ⟨_, _, _, _, _, _, _, _, _, _, _, _, z1, z2, z3⟩
  · cases z1; cases z2; rfl
  · cases z1; cases z2; rfl
  · cases z1; cases z2; cases z3; simp only [ngP]; congr 2; grind
  · first | (cases z1; done) | (cases z1; cases z2; done) | (cases z1; cases z2; cases z3; done)
def Smooth (a b : Fin q) : Prop := ∀ x y : Fin q, y * y = x * x * x + a * x + b → y + y = 0 → x * x + x * x + x * x + a ≠ 0
theorem Sm.cancel (fl : Fl q) (sm : Smooth a b) {P Q S : Cpt q} (hP : OnC a b P) (hQ : OnC a b Q) (h : Sm a P Q S) : Sm a S (ngP Q) P := by
  rcases h with ⟨z1, z2⟩ | ⟨z1, z2⟩ | ⟨x, y1, y2, h, z1, z2, z3⟩ | ⟨x1, y1, x2, y2, t, x3, y3, h, h1, h2, hx, hy, z1, z2, z3⟩
  · cases z1; cases z2; exact .ng
  · cases z1; cases z2; exact .r _
  · cases z1; cases z2; cases z3
    have : ngP (some (x, y2)) = some (x, y1) := by simp only [ngP]; congr 2; grind
    rw [this]; exact .l _
  · cases z1; cases z2; cases z3
    have e1 : y1 = y2 + t * (x1 - x2) := mvs h1
    have e4 : y3 = t * (x2 - x3) - y2 := by rw [hy, e1]; clear e1 hP hQ h1 h2 hx hy; grind
    refine .s _ _ _ _ (-t) _ _ ?_ ?_ ?_ ?_ ?_
    · rintro ⟨g1, g2⟩
      subst g1
      have g3 : y2 + y2 = 0 := by grind
      refine sm _ _ hQ g3 ?_
      have e2 : a = t * (y1 + y2) - (x1 * x1 + x1 * x3 + x3 * x3) := mva h2
      have e5 : x1 = t * t - x3 - x3 := by clear e1 e2 e4 hP hQ h1 h2 hy g2 g3 h sm fl; grind
      have e6 : t * (y1 + y2) = t * (y2 + y2) + t * t * (x1 - x3) := by rw [e1]; clear e1 e2 e4 e5 hP hQ h1 h2 hx hy g2 g3; grind
      rw [e2, e6, g3, e5]
      clear e1 e2 e4 e5 e6 hP hQ h1 h2 hx hy g2 g3
      grind
    · rw [e4]; clear e1 e4 hP hQ h1 h2 hx hy; grind
    · have e2 : a = t * (y1 + y2) - (x1 * x1 + x1 * x2 + x2 * x2) := mva h2
      rw [e2, e4, e1, hx]; clear e1 e2 e4 hP hQ h1 h2 hx hy; grind
    · rw [hx]; clear e1 e4 hP hQ h1 h2 hx hy; grind
    · rw [e4, e1]; clear e1 e4 hP hQ h1 h2 hx hy; grind
theorem Sm.assoc (fl : Fl q) (sm : Smooth a b) {P Q R S T U V : Cpt q} (hP : OnC a b P) (hQ : OnC a b Q) (hR : OnC a b R)
    (h1 : Sm a P Q S) (h2 : Sm a S R U) (h3 : Sm a Q R T) (h4 : Sm a P T V) : U = V := by
  by_cases gS : S = none
  · subst gS
    have q := h1.zero
    subst q
    have k := Sm.cancel fl sm hR (ng_on hP) h3.comm
    rw [ng_ng] at k
    rw [Sm.uniq fl h2 (.l R), Sm.uniq fl h4.comm k]
  by_cases gT : T = none
  · subst gT
    have q := h3.zero
    subst q
    rw [Sm.uniq fl h4 (.r P), Sm.uniq fl h2 (Sm.cancel fl sm hP hQ h1)]
  by_cases gU : U = none
  · subst gU
    have q := h2.zero
    subst q
    have k := (Sm.cancel fl sm hP hQ h1).neg.comm
    rw [ng_ng] at k
    have e := Sm.uniq fl h3 k
    subst e
    exact Sm.uniq fl .ng h4
  by_cases gV : V = none
  · subst gV
    have q := h4.zero
    subst q
    have k := Sm.cancel fl sm hR hQ h3.comm
    have e := Sm.uniq fl k h1.neg
    subst e
    exact Sm.uniq fl h2 .ng
  by_cases gP : P = R
  · subst gP
    have e := Sm.uniq fl h1 h3.comm
    subst e
    exact Sm.uniq fl h2 h4.comm
  rcases h1 with ⟨z1, z2⟩ | ⟨z1, z2⟩ | ⟨_, _, _, _, z1, z2, z3⟩ | ⟨x1, y1, x2, y2, l, s, ys, c1, a1, b1, hs, hys, z1, z2, z3⟩
  · cases z1; cases z2; exact (Sm.uniq fl h2 h3).trans (Sm.uniq fl (.l T) h4)
  · cases z1; cases z2
    have e := Sm.uniq fl h3 (.l R)
    subst e
    exact Sm.uniq fl h2 h4
  · cases z1; cases z2; cases z3; exact absurd rfl gS
  · cases z1; cases z2; cases z3
    rcases h3 with ⟨z1, z2⟩ | ⟨z1, z2⟩ | ⟨_, _, _, _, z1, z2, z3⟩ | ⟨_, _, x3, y3, m, t, yt, c3, a3, b3, ht, hyt, z1, z2, z3⟩
    · first | (cases z1; done) | (cases z1; cases z2; done)
    · cases z1; cases z2; (rcases h2 with ⟨w1, w2⟩ | ⟨w1, w2⟩ | ⟨_, _, _, _, w1, w2, w3⟩ | ⟨_, _, _, _, _, _, _, _, _, _, _, _, w1, w2, w3⟩ <;> cases w1 <;> cases w2); exact Sm.uniq fl (.s x1 y1 x2 y2 l s ys c1 a1 b1 hs hys) h4
    · cases z1; cases z2; cases z3; exact absurd rfl gT
    · cases z1; cases z2; cases z3
      rcases h2 with ⟨z1, z2⟩ | ⟨z1, z2⟩ | ⟨_, _, _, _, z1, z2, z3⟩ | ⟨_, _, _, _, n, X, Y, c2, a2, b2, hX, hY, z1, z2, z3⟩
      · first | (cases z1; done) | (cases z1; cases z2; done)
      · first | (cases z1; done) | (cases z1; cases z2; done)
      · cases z1; cases z2; cases z3; exact absurd rfl gU
      · cases z1; cases z2; cases z3
        rcases h4 with ⟨z1, z2⟩ | ⟨z1, z2⟩ | ⟨_, _, _, _, z1, z2, z3⟩ | ⟨_, _, _, _, n', X', Y', c4, a4, b4, hX', hY', z1, z2, z3⟩
        · first | (cases z1; done) | (cases z1; cases z2; done)
        · first | (cases z1; done) | (cases z1; cases z2; done)
        · cases z1; cases z2; cases z3; exact absurd rfl gV
        · cases z1; cases z2; cases z3
          have a3' : m * (x3 - x2) = y3 - y2 := by clear a1 b1 hs hys a2 b2 hX hY a4 b4 hX' hY' b3 ht hyt; grind
          have b3' : m * (y3 + y2) = x3 * x3 + x3 * x2 + x2 * x2 + a := by clear a1 b1 hs hys a2 b2 hX hY a4 b4 hX' hY' a3 a3' ht hyt; grind
          have e1 : y1 = y2 + l * (x1 - x2) := mvs a1
          have e3 : y3 = y2 + m * (x3 - x2) := mvs a3'
          have hys' : ys = l * (x2 - s) - y2 := by rw [hys, e1]; clear a1 b1 hs hys a2 b2 hX hY a4 b4 hX' hY' b3 ht hyt e1 e3 a3 a3' b3'; grind
          have e := as_e a1 b1 a3' b3'
          by_cases glm : l = m
          · exfalso
            subst glm
            have k : (x1 - x3) * (x3 - s) = 0 := by
              rw [hs]; clear a1 b1 hs hys a2 b2 hX hY a4 b4 hX' hY' b3 ht hyt e1 e3 a3 a3' b3' hys'; grind
            rcases fl.nz _ _ k with g | g
            · apply gP
              have g' : x1 = x3 := by clear a1 b1 hs hys a2 b2 hX hY a4 b4 hX' hY' b3 ht hyt e1 e3 a3 a3' b3' hys' e k; grind
              subst g'
              rw [e1, e3]
            · apply c2
              have g' : x3 = s := by clear a1 b1 hs hys a2 b2 hX hY a4 b4 hX' hY' b3 ht hyt e1 e3 a3 a3' b3' hys' e k; grind
              subst g'
              refine ⟨rfl, ?_⟩
              rw [hys', e3]; clear a1 b1 hs hys a2 b2 hX hY a4 b4 hX' hY' b3 ht hyt e1 e3 a3 a3' b3' hys' e k; grind
          · have dl : l - m ≠ 0 := fun k => glm (by clear a1 b1 hs hys a2 b2 hX hY a4 b4 hX' hY' b3 ht hyt e1 e3 a3 a3' b3' hys' e; grind)
            have a2' : n * (x3 - s) = y3 - (l * (x2 - s) - y2) := by rw [← hys']; clear a1 b1 hs hys b2 hX hY a4 b4 hX' hY' b3 ht hyt e1 e3 a3 a3' b3' hys' e; grind
            have b2' : n * (y3 + (l * (x2 - s) - y2)) = s * s + s * x3 + x3 * x3 + a := by rw [← hys']; clear a1 b1 hs hys a2 a2' hX hY a4 b4 hX' hY' b3 ht hyt e1 e3 a3 a3' b3' hys' e; grind
            have hn : n * (l - m) = l * m - x2 - x3 - s := by
              have k1 := as_n1 e a3' hs a2'
              have k2 := as_n2 e a1 b1 a3' hs b2'
              have : n * (l - m) - (l * m - x2 - x3 - s) = 0 := by
                rcases fl.nz _ _ k1 with g | g
                · rcases fl.nz _ _ k2 with g2 | g2
                  · exfalso
                    apply c2
                    have g' : x3 = s := by clear a1 b1 hs hys a2 b2 hX hY a4 b4 hX' hY' b3 ht hyt e1 e3 a3 a3' b3' hys' e a2' b2' k1 k2 g2; grind
                    refine ⟨g'.symm, ?_⟩
                    rw [hys']; clear a1 b1 hs hys a2 b2 hX hY a4 b4 hX' hY' b3 ht hyt e1 e3 a3 a3' b3' hys' e a2' b2' k1 k2 g g'; grind
                  · exact g2
                · exact g
              clear a1 b1 hs hys a2 b2 hX hY a4 b4 hX' hY' b3 ht hyt e1 e3 a3 a3' b3' hys' e a2' b2' k1 k2
              grind
            have e' := as_e a3' b3' a1 b1
            have a4' : n' * (x1 - t) = y1 - (m * (x2 - t) - y2) := by rw [← hyt]; exact a4
            have b4' : n' * (y1 + (m * (x2 - t) - y2)) = t * t + t * x1 + x1 * x1 + a := by rw [← hyt, b4]; clear a1 b1 hs hys a2 b2 hX hY a4 b4 hX' hY' b3 ht hyt e1 e3 a3 a3' b3' hys' e a2' b2' hn e' a4'; grind
            have ht' : t = m * m - x3 - x2 := by rw [ht]; clear a1 b1 hs hys a2 b2 hX hY a4 b4 hX' hY' b3 ht hyt e1 e3 a3 a3' b3' hys' e a2' b2' hn e' a4' b4'; grind
            have hn' : n' * (l - m) = x1 + x2 + t - l * m := by
              have k1 := as_n1 e' a1 ht' a4'
              have k2 := as_n2 e' a3' b3' a1 ht' b4'
              have : n' * (m - l) - (m * l - x2 - x1 - t) = 0 := by
                rcases fl.nz _ _ k1 with g | g
                · rcases fl.nz _ _ k2 with g2 | g2
                  · exfalso
                    apply c4
                    have g' : x1 = t := by clear a1 b1 hs hys a2 b2 hX hY a4 b4 hX' hY' b3 ht ht' hyt e1 e3 a3 a3' b3' hys' e e' a2' b2' a4' b4' k1 k2 g2 hn; grind
                    refine ⟨g', ?_⟩
                    rw [hyt]; clear a1 b1 hs hys a2 b2 hX hY a4 b4 hX' hY' b3 ht ht' hyt e1 e3 a3 a3' b3' hys' e e' a2' b2' a4' b4' k1 k2 g g' hn; grind
                  · exact g2
                · exact g
              clear a1 b1 hs hys a2 b2 hX hY a4 b4 hX' hY' b3 ht ht' hyt e1 e3 a3 a3' b3' hys' e e' a2' b2' a4' b4' k1 k2 hn
              grind
            have kx := as_x hs ht hn hn'
            have hXX : X = X' := by
              rw [hX, hX']
              rcases fl.nz _ _ kx with g | g
              · rcases fl.nz _ _ g with g | g <;> exact absurd g dl
              · clear a1 b1 hs hys a2 b2 hX hY a4 b4 hX' hY' b3 ht ht' hyt e1 e3 a3 a3' b3' hys' e e' a2' b2' a4' b4' kx hn hn'
                grind
            have ky := as_y a1 a3' hs ht hn hn' hX
            have hYY : Y = Y' := by
              rw [hY, hY', ← hXX]
              rcases fl.nz _ _ ky with g | g
              · exact absurd g dl
              · have q : n * (s - X) - ys = n * (x3 - X) - y3 := by
                  have q2 : n * (s - X) - ys = n * (s - x3) - ys + n * (x3 - X) := by clear a1 b1 hs hys a2 b2 hX hY a4 b4 hX' hY' b3 ht ht' hyt e1 e3 a3 a3' b3' hys' e e' a2' b2' a4' b4' kx ky hn hn' g; grind
                  rw [q2, a2]; clear a1 b1 hs hys a2 b2 hX hY a4 b4 hX' hY' b3 ht ht' hyt e1 e3 a3 a3' b3' hys' e e' a2' b2' a4' b4' kx ky hn hn' g q2; grind
                rw [q]
                clear a1 b1 hs hys a2 b2 hX hY a4 b4 hX' hY' b3 ht ht' hyt e1 e3 a3 a3' b3' hys' e e' a2' b2' a4' b4' kx ky hn hn' q
                grind
            rw [hXX, hYY]
end
end Go.Proofs.YtoolbnbfbegjaaaGreat
namespace Go.Proofs.YtoolbnbfbegjaaaGreat.NT
def Pri (p : Nat) : Prop := 2 ≤ p ∧ ∀ d, d ∣ p → d = 1 ∨ d = p
theorem Pri.cop {p a : Nat} (h : Pri p) (hn : ¬ p ∣ a) : Nat.Coprime p a := by
  rcases h.2 _ (Nat.gcd_dvd_left p a) with e | e
  · exact e
  · exact absurd (e ▸ Nat.gcd_dvd_right p a) hn
theorem Pri.dvd_mul {p a b : Nat} (h : Pri p) (hd : p ∣ a * b) : p ∣ a ∨ p ∣ b := by
  by_cases c : p ∣ a
  · exact .inl c
  · exact .inr ((h.cop c).dvd_of_dvd_mul_left hd)
def ch : Nat → Nat → Nat
  | _, 0 => 1
  | 0, _ + 1 => 0
  | n + 1, k + 1 => ch n k + ch n (k + 1)
theorem ch_big (n : Nat) : ∀ k, n < k → ch n k = 0 := by
  induction n with
  | zero => intro k hk; cases k with
    | zero => omega
    | succ k => rfl
  | succ n ih => intro k hk; cases k with
    | zero => omega
    | succ k => show ch n k + ch n (k + 1) = 0; rw [ih k (by omega), ih (k + 1) (by omega)]
theorem ch_self (n : Nat) : ch n n = 1 := by
  induction n with
  | zero => rfl
  | succ n ih => show ch n n + ch n (n + 1) = 1; rw [ih, ch_big n (n + 1) (by omega)]
theorem ch_zero (n : Nat) : ch n 0 = 1 := by cases n <;> rfl
theorem ch_abs (n : Nat) : ∀ k, (n + 1) * ch n k = ch (n + 1) (k + 1) * (k + 1) := by
  induction n with
  | zero => intro k; cases k with
    | zero => rfl
    | succ k => show 1 * 0 = (0 + ch 0 (k + 1 + 1)) * _; rw [ch_big 0 (k + 1 + 1) (by omega)]; simp
  | succ n ih => intro k; cases k with
    | zero =>
      have h1 := ih 0
      have e1 : ch (n + 1 + 1) (0 + 1) = ch (n + 1) 0 + ch (n + 1) (0 + 1) := rfl
      rw [e1, ch_zero]
      rw [ch_zero] at h1
      omega
    | succ k =>
      have h1 := ih k
      have h2 := ih (k + 1)
      have e1 : ch (n + 1 + 1) (k + 1 + 1) = ch (n + 1) (k + 1) + ch (n + 1) (k + 1 + 1) := rfl
      have e2 : ch (n + 1) (k + 1) = ch n k + ch n (k + 1) := rfl
      rw [e2] at h1 e1
      rw [e1, e2]
      clear e1 e2 ih
      generalize ch (n + 1) (k + 1 + 1) = x at *
      generalize ch n k = y at *
      generalize ch n (k + 1) = z at *
      grind
def S (n a : Nat) : Nat → Nat
  | 0 => 0
  | m + 1 => S n a m + ch n m * a ^ m
theorem S_step (n a m : Nat) : S (n + 1) a (m + 1) = S n a (m + 1) + a * S n a m := by
  induction m with
  | zero => simp [S, ch_zero]
  | succ m ih =>
    show S (n + 1) a (m + 1) + ch (n + 1) (m + 1) * a ^ (m + 1) = _
    have e : ch (n + 1) (m + 1) = ch n m + ch n (m + 1) := rfl
    have e2 : S n a (m + 1 + 1) = S n a (m + 1) + ch n (m + 1) * a ^ (m + 1) := rfl
    have e3 : S n a (m + 1) = S n a m + ch n m * a ^ m := rfl
    rw [ih, e, e2]
    have e4 : a * S n a (m + 1) = a * S n a m + ch n m * a ^ (m + 1) := by rw [e3, Nat.pow_succ]; grind
    rw [e4]; grind
theorem binom (a n : Nat) : S n a (n + 1) = (a + 1) ^ n := by
  induction n with
  | zero => simp [S, ch]
  | succ n ih =>
    rw [S_step]
    show S n a (n + 1) + ch n (n + 1) * _ + _ = _
    rw [ch_big n (n + 1) (by omega), ih, Nat.pow_succ]; grind
theorem Pri.ch {p : Nat} (h : Pri p) (k : Nat) (h0 : 0 < k) (h1 : k < p) : p ∣ ch p k := by
  obtain ⟨j, rfl⟩ : ∃ j, k = j + 1 := ⟨k - 1, by omega⟩
  obtain ⟨n, rfl⟩ : ∃ n, p = n + 1 := ⟨p - 1, by omega⟩
  have e := ch_abs n j
  have d : n + 1 ∣ NT.ch (n + 1) (j + 1) * (j + 1) := e ▸ Nat.dvd_mul_right _ _
  rcases h.dvd_mul d with c | c
  · exact c
  · exact absurd (Nat.le_of_dvd (by omega) c) (by omega)
theorem S_mod {p : Nat} (h : Pri p) (a : Nat) : ∀ m, m + 1 ≤ p → S p a (m + 1) % p = 1 := by
  intro m
  induction m with
  | zero => intro _; simp [S, ch_zero]; exact Nat.mod_eq_of_lt h.1
  | succ m ih =>
    intro hm
    show (S p a (m + 1) + NT.ch p (m + 1) * a ^ (m + 1)) % p = 1
    rw [Nat.add_mod, Nat.mul_mod, Nat.mod_eq_zero_of_dvd (h.ch (m + 1) (by omega) (by omega)), ih (by omega)]
    simp
    exact Nat.mod_eq_of_lt h.1
theorem fermat' {p : Nat} (h : Pri p) (a : Nat) : a ^ p % p = a % p := by
  induction a with
  | zero => rw [Nat.zero_pow (by have := h.1; omega)]
  | succ a ih =>
    rw [← binom]
    show (S p a p + NT.ch p p * a ^ p) % p = _
    obtain ⟨m, hm⟩ : ∃ m, p = m + 1 := ⟨p - 1, by have := h.1; omega⟩
    have s := S_mod h a m (by omega)
    rw [← hm] at s
    rw [ch_self, Nat.one_mul, Nat.add_mod, s, ih, Nat.add_comm 1, Nat.mod_add_mod]
theorem sub_dvd {p x y : Nat} (h : x % p = y % p) : p ∣ x - y := by
  have e1 := Nat.div_add_mod x p
  have e2 := Nat.div_add_mod y p
  refine ⟨x / p - y / p, ?_⟩
  rw [Nat.mul_sub]; omega
theorem fermat {p : Nat} (h : Pri p) (a : Nat) (hn : ¬ p ∣ a) : a ^ (p - 1) % p = 1 := by
  have f := fermat' h a
  obtain ⟨m, hm⟩ : ∃ m, p = m + 1 := ⟨p - 1, by have := h.1; omega⟩
  have e : a ^ p = a * a ^ (p - 1) := by rw [show p - 1 = m by omega]; conv => lhs; rw [hm, Nat.pow_succ, Nat.mul_comm]
  have a0 : 0 < a := by
    rcases Nat.eq_zero_or_pos a with c | c
    · subst c; exact absurd (Nat.dvd_zero p) hn
    · exact c
  have p1 : 1 ≤ a ^ (p - 1) := Nat.pow_pos a0
  rw [e] at f
  have d : p ∣ a * (a ^ (p - 1) - 1) := by
    rw [Nat.mul_sub, Nat.mul_one]
    exact sub_dvd f
  rcases h.dvd_mul d with c | c
  · exact absurd c hn
  · obtain ⟨t, ht⟩ := c
    have e1 : a ^ (p - 1) = 1 + p * t := by omega
    rw [e1, Nat.add_mul_mod_self_left]
    exact Nat.mod_eq_of_lt h.1
theorem pow_one_mod {x r : Nat} (h : x % r = 1 % r) (k : Nat) : x ^ k % r = 1 % r := by
  rw [Nat.pow_mod, h, ← Nat.pow_mod, Nat.one_pow]
theorem pow_gcd {x r : Nat} (a b : Nat) : x ^ a % r = 1 % r → x ^ b % r = 1 % r → x ^ (Nat.gcd a b) % r = 1 % r := by
  induction a, b using Nat.gcd.induction with
  | H0 n => intro _ h; rw [Nat.gcd_zero_left]; exact h
  | H1 m n hm ih =>
    intro h1 h2
    rw [Nat.gcd_rec]
    refine ih ?_ h1
    have e : x ^ n = x ^ (n % m) * (x ^ m) ^ (n / m) := by rw [← Nat.pow_mul, ← Nat.pow_add, Nat.mod_add_div]
    rw [e, Nat.mul_mod, pow_one_mod h1 (n / m), ← Nat.mul_mod, Nat.mul_one] at h2
    exact h2
theorem has_pri (n : Nat) : 2 ≤ n → ∃ p, Pri p ∧ p ∣ n := by
  induction n using Nat.strongRecOn with
  | ind n ih =>
    intro hn
    by_cases c : Pri n
    · exact ⟨n, c, Nat.dvd_refl n⟩
    · have : ∃ d, d ∣ n ∧ d ≠ 1 ∧ d ≠ n := Classical.byContradiction fun h => c ⟨hn, fun d hd => Classical.byContradiction fun h2 => h ⟨d, hd, by omega, by omega⟩⟩
      obtain ⟨d, hd, d1, dn⟩ := this
      have := Nat.le_of_dvd (by omega) hd
      have d0 : d ≠ 0 := by rintro rfl; obtain ⟨t, ht⟩ := hd; omega
      obtain ⟨p, hp, hpd⟩ := ih d (by omega) (by omega)
      exact ⟨p, hp, Nat.dvd_trans hpd hd⟩
theorem small_pri (n : Nat) (hn : 2 ≤ n) (c : ¬ Pri n) : ∃ r, Pri r ∧ r ∣ n ∧ r * r ≤ n := by
  have : ∃ d, d ∣ n ∧ d ≠ 1 ∧ d ≠ n := Classical.byContradiction fun h => c ⟨hn, fun d hd => Classical.byContradiction fun h2 => h ⟨d, hd, by omega, by omega⟩⟩
  obtain ⟨d, ⟨e, he⟩, d1, dn⟩ := this
  have d0 : d ≠ 0 := by rintro rfl; omega
  have e0 : e ≠ 0 := by rintro rfl; omega
  have e1 : e ≠ 1 := by rintro rfl; omega
  rcases Nat.le_total d e with h | h
  · obtain ⟨r, hr, hrd⟩ := has_pri d (by omega)
    have := Nat.le_of_dvd (by omega) hrd
    exact ⟨r, hr, he ▸ Nat.dvd_trans hrd (Nat.dvd_mul_right d e), he ▸ Nat.mul_le_mul this (by omega)⟩
  · obtain ⟨r, hr, hrd⟩ := has_pri e (by omega)
    have := Nat.le_of_dvd (by omega) hrd
    exact ⟨r, hr, he ▸ Nat.dvd_trans hrd (Nat.dvd_mul_left e d), he ▸ Nat.mul_le_mul (by omega) this⟩
theorem pock {n g q r : Nat} (hn : 2 ≤ n) (hq : Pri q) (hqn : q ∣ n - 1) (h1 : g ^ (n - 1) % n = 1) (h2 : Nat.gcd (g ^ ((n - 1) / q) % n + (n - 1)) n = 1) (hr : Pri r) (hrn : r ∣ n) : q ∣ r - 1 := by
  refine Classical.byContradiction fun hc => ?_
  have r2 := hr.1
  have er : (1 : Nat) % r = 1 := Nat.mod_eq_of_lt r2
  have g1 : g ^ (n - 1) % r = 1 % r := by rw [← Nat.mod_mod_of_dvd _ hrn, h1]
  have rg : ¬ r ∣ g := fun h => by
    have : r ∣ g ^ (n - 1) := Nat.dvd_trans h ⟨g ^ (n - 1 - 1), by rw [← Nat.pow_succ', show (n - 1 - 1).succ = n - 1 by omega]⟩
    have := Nat.mod_eq_zero_of_dvd this
    omega
  have g2 : g ^ (r - 1) % r = 1 % r := by rw [fermat hr g rg, er]
  have g3 := pow_gcd _ _ g1 g2
  obtain ⟨c, hcq⟩ := hqn
  have ec : (n - 1) / q = c := by rw [hcq, Nat.mul_div_cancel_left _ (by have := hq.1; omega)]
  have cop : Nat.Coprime q (Nat.gcd (n - 1) (r - 1)) := hq.cop fun h => hc (Nat.dvd_trans h (Nat.gcd_dvd_right _ _))
  have dc : Nat.gcd (n - 1) (r - 1) ∣ c := cop.symm.dvd_of_dvd_mul_left (hcq ▸ Nat.gcd_dvd_left (n - 1) (r - 1))
  obtain ⟨k, hk⟩ := dc
  have g4 : g ^ c % r = 1 % r := by rw [hk, Nat.pow_mul]; exact pow_one_mod g3 k
  rw [ec] at h2
  have g5 : g ^ c % n % r = 1 % r := by rw [Nat.mod_mod_of_dvd _ hrn, g4]
  have d1 : r ∣ g ^ c % n - 1 := sub_dvd g5
  have ge : 1 ≤ g ^ c % n := by
    rcases Nat.eq_zero_or_pos (g ^ c % n) with h | h
    · rw [h, Nat.zero_mod] at g5; omega
    · exact h
  have d2 : r ∣ g ^ c % n + (n - 1) := by
    have := Nat.dvd_add d1 hrn
    rwa [show g ^ c % n - 1 + n = g ^ c % n + (n - 1) by omega] at this
  have d3 := Nat.dvd_gcd d2 hrn
  rw [h2] at d3
  have := Nat.le_of_dvd (by omega) d3
  omega
theorem pock_end {n F : Nat} (hn : 2 ≤ n) (hF : n < (F + 1) * (F + 1)) (h : ∀ r, Pri r → r ∣ n → F ∣ r - 1) : Pri n := by
  refine Classical.byContradiction fun c => ?_
  obtain ⟨r, hr, hrn, hrr⟩ := small_pri n hn c
  have r2 := hr.1
  have := Nat.le_of_dvd (by omega) (h r hr hrn)
  have := Nat.mul_le_mul (show F + 1 ≤ r by omega) (show F + 1 ≤ r by omega)
  omega
def pmod (n : Nat) : Nat → Nat → Nat → Nat
  | 0, _, _ => 1 % n
  | f + 1, g, e => if e % 2 = 1 then g * pmod n f (g * g % n) (e / 2) % n else pmod n f (g * g % n) (e / 2)
theorem pmod_eq (n : Nat) : ∀ f g e, e < 2 ^ f → pmod n f g e = g ^ e % n := by
  intro f
  induction f with
  | zero => intro g e he; have : e = 0 := by omega
            subst this; rfl
  | succ f ih =>
    intro g e he
    have he2 : e / 2 < 2 ^ f := by rw [Nat.pow_succ] at he; omega
    have sq : (g * g % n) ^ (e / 2) % n = g ^ (2 * (e / 2)) % n := by rw [← Nat.pow_mod, Nat.pow_mul, Nat.pow_two]
    show (if e % 2 = 1 then g * pmod n f (g * g % n) (e / 2) % n else pmod n f (g * g % n) (e / 2)) = _
    rw [ih _ _ he2, sq]
    split
    · rw [Nat.mul_mod, Nat.mod_mod, ← Nat.mul_mod, ← Nat.pow_succ', show (2 * (e / 2)).succ = e by omega]
    · rw [show 2 * (e / 2) = e by omega]
def tst (n g q : Nat) : Bool := decide (2 ≤ n) && ((n - 1) % q == 0 && (pmod n 256 g (n - 1) == 1 && Nat.gcd (pmod n 256 g ((n - 1) / q) + (n - 1)) n == 1))
theorem pock' {n q r : Nat} (g : Nat) (hb : n < 2 ^ 256) (ht : tst n g q = true) (hq : Pri q) (hr : Pri r) (hrn : r ∣ n) : q ∣ r - 1 := by
  simp only [tst, Bool.and_eq_true, decide_eq_true_eq, beq_iff_eq] at ht
  obtain ⟨t1, t2, t3, t4⟩ := ht
  have q2 := hq.1
  rw [pmod_eq _ _ _ _ (by omega)] at t3
  rw [pmod_eq _ _ _ _ (Nat.lt_of_le_of_lt (Nat.div_le_self _ _) (by omega))] at t4
  exact pock t1 hq (Nat.dvd_of_mod_eq_zero t2) t3 t4 hr hrn
theorem pri1 {n q : Nat} (g : Nat) (hb : n < 2 ^ 256) (ht : tst n g q = true) (hF : n < (q + 1) * (q + 1)) (hq : Pri q) : Pri n :=
  pock_end (F := q) (by simp only [tst, Bool.and_eq_true, decide_eq_true_eq] at ht; exact ht.1) hF fun r hr hrn => pock' g hb ht hq hr hrn
theorem pri2 {n p q : Nat} (g : Nat) (hb : n < 2 ^ 256) (ht : tst n g p = true) (ht' : tst n g q = true) (hF : n < (p * q + 1) * (p * q + 1)) (hne : Nat.gcd p q = 1) (hp : Pri p) (hq : Pri q) : Pri n :=
  pock_end (F := p * q) (by simp only [tst, Bool.and_eq_true, decide_eq_true_eq] at ht; exact ht.1) hF fun r hr hrn =>
    Nat.Coprime.mul_dvd_of_dvd_of_dvd hne (pock' g hb ht hp hr hrn) (pock' g hb ht' hq hr hrn)
def small (n : Nat) : Bool := decide (2 ≤ n) && (List.range n).all fun d => d == 0 || d == 1 || n % d != 0
theorem pri_small {n : Nat} (h : small n = true) : Pri n := by
  simp only [small, Bool.and_eq_true, decide_eq_true_eq, List.all_eq_true, List.mem_range] at h
  refine ⟨h.1, fun d hd => ?_⟩
  have := Nat.le_of_dvd (by omega) hd
  rcases Nat.lt_or_ge d n with c | c
  · have t := h.2 d c
    have z := Nat.mod_eq_zero_of_dvd hd
    have d0 : d ≠ 0 := by rintro rfl; obtain ⟨t, ht⟩ := hd; omega
    simp [z, d0] at t
    exact .inl t
  · exact .inr (by omega)
theorem p0 : Pri 991 := pri2 2 (by decide +kernel) (by decide +kernel) (by decide +kernel) (by decide +kernel) (by decide +kernel) (pri_small (n := 11) (by decide +kernel)) (pri_small (n := 5) (by decide +kernel))
theorem p1 : Pri 8574133 := pri2 2 (by decide +kernel) (by decide +kernel) (by decide +kernel) (by decide +kernel) (by decide +kernel) p0 (pri_small (n := 103) (by decide +kernel))
theorem p2 : Pri 1919519569386763 := pri2 2 (by decide +kernel) (by decide +kernel) (by decide +kernel) (by decide +kernel) (by decide +kernel) p1 (pri_small (n := 127) (by decide +kernel))
theorem p3 : Pri 419 := pri2 2 (by decide +kernel) (by decide +kernel) (by decide +kernel) (by decide +kernel) (by decide +kernel) (pri_small (n := 19) (by decide +kernel)) (pri_small (n := 11) (by decide +kernel))
theorem p14 : Pri 704251 := pri2 2 (by decide +kernel) (by decide +kernel) (by decide +kernel) (by decide +kernel) (by decide +kernel) (pri_small (n := 313) (by decide +kernel)) (pri_small (n := 5) (by decide +kernel))
theorem p15 : Pri 1087 := pri1 2 (by decide +kernel) (by decide +kernel) (by decide +kernel) (pri_small (n := 181) (by decide +kernel))
theorem p16 : Pri 4349 := pri1 2 (by decide +kernel) (by decide +kernel) (by decide +kernel) p15
theorem p17 : Pri 78283 := pri1 2 (by decide +kernel) (by decide +kernel) (by decide +kernel) p16
theorem p18 : Pri 46076956964474543 := pri2 2 (by decide +kernel) (by decide +kernel) (by decide +kernel) (by decide +kernel) (by decide +kernel) p14 p17
theorem p19 : Pri 919 := pri2 5 (by decide +kernel) (by decide +kernel) (by decide +kernel) (by decide +kernel) (by decide +kernel) (pri_small (n := 17) (by decide +kernel)) (pri_small (n := 3) (by decide +kernel))
theorem p20 : Pri 3677 := pri1 2 (by decide +kernel) (by decide +kernel) (by decide +kernel) p19
theorem p21 : Pri 66417393611 := pri2 2 (by decide +kernel) (by decide +kernel) (by decide +kernel) (by decide +kernel) (by decide +kernel) p20 (pri_small (n := 197) (by decide +kernel))
theorem p22 : Pri 11290956913871 := pri1 2 (by decide +kernel) (by decide +kernel) (by decide +kernel) p21
theorem p23 : Pri 774023187263532362759620327192479577272145303 := pri2 2 (by decide +kernel) (by decide +kernel) (by decide +kernel) (by decide +kernel) (by decide +kernel) p18 p22
theorem p24 : Pri 835945042244614951780389953367877943453916927241 := pri1 2 (by decide +kernel) (by decide +kernel) (by decide +kernel) p23
theorem p25 : Pri 115792089210356248762697446949407573530086143415290314195533631308867097853951 := pri1 2 (by decide +kernel) (by decide +kernel) (by decide +kernel) p24
theorem p26 : Pri 155317 := Classical.byContradiction fun c => by
  obtain ⟨r, hr, hrn, hrr⟩ := small_pri 155317 (by decide) c
  have all : ((List.range 400).all fun d => d == 0 || d == 1 || 155317 % d != 0) = true := by decide +kernel
  rw [List.all_eq_true] at all
  have r4 : r < 400 := by
    rcases Nat.lt_or_ge r 400 with h | h
    · exact h
    · have := Nat.mul_le_mul h h; omega
  have t := all r (List.mem_range.2 r4)
  have r2 := hr.1
  have z := Nat.mod_eq_zero_of_dvd hrn
  simp [z] at t
  omega
theorem p27 : Pri 191039911 := pri1 2 (by decide +kernel) (by decide +kernel) (by decide +kernel) p26
theorem p28 : Pri 1511 := pri1 2 (by decide +kernel) (by decide +kernel) (by decide +kernel) (pri_small (n := 151) (by decide +kernel))
theorem p29 : Pri 3023 := pri1 2 (by decide +kernel) (by decide +kernel) (by decide +kernel) p28
theorem p30 : Pri 208150935158385979 := pri2 2 (by decide +kernel) (by decide +kernel) (by decide +kernel) (by decide +kernel) (by decide +kernel) p27 p29
theorem p31 : Pri 2624747550333869278416773953 := pri1 2 (by decide +kernel) (by decide +kernel) (by decide +kernel) p30
theorem p32 : Pri 104471 := pri1 2 (by decide +kernel) (by decide +kernel) (by decide +kernel) (pri_small (n := 337) (by decide +kernel))
theorem p33 : Pri 3969899 := pri1 2 (by decide +kernel) (by decide +kernel) (by decide +kernel) p32
theorem p34 : Pri 1002328039319 := pri1 2 (by decide +kernel) (by decide +kernel) (by decide +kernel) p33
theorem p35 : Pri 115792089210356248762697446949407573529996955224135760342422259061068512044369 := pri2 2 (by decide +kernel) (by decide +kernel) (by decide +kernel) (by decide +kernel) (by decide +kernel) p31 p34
end Go.Proofs.YtoolbnbfbegjaaaGreat.NT
namespace Go.Proofs.YtoolbnbfbegjaaaGreat
open NT
section
variable {q : Nat} [NeZero q]
theorem fz_iff (x : Fin q) : x = 0 ↔ q ∣ x.val := by
  constructor
  · intro h; subst h; simp
  · intro h
    apply Fin.ext
    have := Nat.eq_zero_of_dvd_of_lt h x.isLt
    rw [this]; simp
theorem fl_of (h : Pri q) : Fl q := by
  refine ⟨fun x y e => ?_, fun x hx => ?_⟩
  · have e2 : (x * y).val = (0 : Fin q).val := by rw [e]
    rw [Fin.val_mul] at e2
    have e3 : q ∣ x.val * y.val := Nat.dvd_of_mod_eq_zero (by rw [e2]; simp)
    rcases h.dvd_mul e3 with g | g
    · exact Or.inl ((fz_iff x).2 g)
    · exact Or.inr ((fz_iff y).2 g)
  · have hn : ¬ q ∣ x.val := fun g => hx ((fz_iff x).2 g)
    have f := fermat h x.val hn
    have q2 := h.1
    refine ⟨Fin.ofNat q (x.val ^ (q - 2)), Fin.ext ?_⟩
    rw [Fin.val_mul, Fin.val_ofNat, Nat.mul_mod_mod, Nat.mul_comm, ← Nat.pow_succ, show (q - 2).succ = q - 1 by omega, f]
    have : (1 : Fin q).val = 1 % q := by rw [← Fin.val_ofNat q 1]; rfl
    rw [this, Nat.mod_eq_of_lt (by omega)]
def fi (q : Nat) [NeZero q] (z : Int) : Fin q := Fin.ofNat q (z % q).toNat
theorem q_pos : (0 : Int) < (q : Int) := by have := NeZero.ne q; omega
theorem fi_val (z : Int) : ((fi q z).val : Int) = z % q := by
  have p := q_pos (q := q)
  have h0 := Int.emod_nonneg z (Int.ne_of_gt p)
  have h1 := Int.emod_lt_of_pos z p
  unfold fi
  rw [Fin.val_ofNat, Nat.mod_eq_of_lt (by omega)]
  omega
theorem fi_ext {x y : Fin q} (h : (x.val : Int) = (y.val : Int)) : x = y := Fin.ext (by omega)
theorem fi_eq {a b : Int} : fi q a = fi q b ↔ a % q = b % q := by
  constructor
  · intro h; rw [← fi_val (q := q), ← fi_val (q := q), h]
  · intro h; apply fi_ext; rw [fi_val, fi_val, h]
theorem fi_mod (a : Int) : fi q (a % q) = fi q a := fi_eq.2 (by simp)
theorem fi_add (a b : Int) : fi q (a + b) = fi q a + fi q b := by
  apply fi_ext
  rw [Fin.val_add, Int.natCast_emod, Int.natCast_add, fi_val, fi_val, fi_val, ← Int.add_emod]
theorem fi_mul (a b : Int) : fi q (a * b) = fi q a * fi q b := by
  apply fi_ext
  rw [Fin.val_mul, Int.natCast_emod, Int.natCast_mul, fi_val, fi_val, fi_val, ← Int.mul_emod]
theorem fi_zero : fi q 0 = 0 := by apply Fin.ext; simp [fi]
theorem fi_one : fi q 1 = 1 := by
  apply Fin.ext
  have : (1 : Fin q).val = 1 % q := by rw [← Fin.val_ofNat q 1]; rfl
  rw [this]
  have h := fi_val (q := q) 1
  have h2 : ((1 % q : Nat) : Int) = (1 : Int) % (q : Int) := by rw [Int.natCast_emod]; rfl
  omega
theorem fi_sub (a b : Int) : fi q (a - b) = fi q a - fi q b := by
  have h : fi q (a - b) + fi q b = fi q a := by rw [← fi_add]; congr 1; omega
  grind
theorem fi_back (x : Fin q) : fi q (x.val : Int) = x := by
  apply fi_ext; rw [fi_val, Int.emod_eq_of_lt (by omega) (by have := x.isLt; omega)]
theorem fi_nz {a : Int} : fi q a = 0 ↔ a % q = 0 := by rw [← fi_zero, fi_eq]; simp
end
end Go.Proofs.YtoolbnbfbegjaaaGreat
namespace Go.Proofs.YtoolbnbfbegjaaaGreat
open NT
section
variable {q : Nat} [NeZero q] {a b : Fin q}
def fpw (x : Fin q) : Nat → Fin q
  | 0 => 1
  | n + 1 => fpw x n * x
def ad (a : Fin q) : Cpt q → Cpt q → Cpt q
  | none, Q => Q
  | some P, none => some P
  | some (x1, y1), some (x2, y2) =>
    if x1 = x2 ∧ y1 + y2 = 0 then none
    else if x1 = x2 then
      some ((x1 * x1 + x1 * x1 + x1 * x1 + a) * fpw (y1 + y2) (q - 2) * ((x1 * x1 + x1 * x1 + x1 * x1 + a) * fpw (y1 + y2) (q - 2)) - x1 - x2, (x1 * x1 + x1 * x1 + x1 * x1 + a) * fpw (y1 + y2) (q - 2) * (x1 - ((x1 * x1 + x1 * x1 + x1 * x1 + a) * fpw (y1 + y2) (q - 2) * ((x1 * x1 + x1 * x1 + x1 * x1 + a) * fpw (y1 + y2) (q - 2)) - x1 - x2)) - y1)
    else some ((y1 - y2) * fpw (x1 - x2) (q - 2) * ((y1 - y2) * fpw (x1 - x2) (q - 2)) - x1 - x2, (y1 - y2) * fpw (x1 - x2) (q - 2) * (x1 - ((y1 - y2) * fpw (x1 - x2) (q - 2) * ((y1 - y2) * fpw (x1 - x2) (q - 2)) - x1 - x2)) - y1)
structure Cv (a b : Fin q) : Prop where
  fl : Fl q
  sm : Smooth a b
  pw : ∀ x : Fin q, x ≠ 0 → x * fpw x (q - 2) = 1
theorem Cv.sum (C : Cv a b) {P Q : Cpt q} (hP : OnC a b P) (hQ : OnC a b Q) : Sm a P Q (ad a P Q) := by
  match P, Q, hP, hQ with
  | none, Q, _, _ => exact .l _
  | some p, none, _, _ => exact .r _
  | some (x1, y1), some (x2, y2), hP, hQ =>
    unfold ad
    by_cases g : x1 = x2
    · subst g
      by_cases k : y1 + y2 = 0
      · simp only [k, and_self, if_true]
        exact .o _ _ _ k
      · have e := on_uniq C.fl hP hQ k
        subst e
        have hi := C.pw _ k
        simp only [k, and_false, if_false, if_true]
        generalize fpw (y1 + y1) (q - 2) = i at hi
        refine .s _ _ _ _ ((x1 * x1 + x1 * x1 + x1 * x1 + a) * i) _ _ (fun g => k g.2) (by grind) ?_ rfl rfl
        have q : (x1 * x1 + x1 * x1 + x1 * x1 + a) * i * (y1 + y1) = (x1 * x1 + x1 * x1 + x1 * x1 + a) * ((y1 + y1) * i) := by grind
        rw [q, hi]; grind
    · have k : x1 - x2 ≠ 0 := fun k => g (by grind)
      have hi := C.pw _ k
      simp only [g, false_and, if_false]
      generalize fpw (x1 - x2) (q - 2) = i at hi
      simp only [OnC] at hP hQ
      have q1 : (y1 - y2) * i * (x1 - x2) = y1 - y2 := by
        have q : (y1 - y2) * i * (x1 - x2) = (y1 - y2) * ((x1 - x2) * i) := by grind
        rw [q, hi]; grind
      refine .s _ _ _ _ ((y1 - y2) * i) _ _ (fun q => g q.1) q1 ?_ rfl rfl
      refine C.fl.cut k ?_
      have q2 : (x1 - x2) * ((y1 - y2) * i * (y1 + y2)) = ((y1 - y2) * i * (x1 - x2)) * (y1 + y2) := by grind
      rw [q2, q1]
      clear q1 q2 hi
      grind
theorem Cv.is (C : Cv a b) {P Q S : Cpt q} (hP : OnC a b P) (hQ : OnC a b Q) (h : Sm a P Q S) : ad a P Q = S := Sm.uniq C.fl (C.sum hP hQ) h
theorem Cv.on (C : Cv a b) {P Q : Cpt q} (hP : OnC a b P) (hQ : OnC a b Q) : OnC a b (ad a P Q) := (C.sum hP hQ).on C.fl hP hQ
theorem Cv.comm (C : Cv a b) {P Q : Cpt q} (hP : OnC a b P) (hQ : OnC a b Q) : ad a P Q = ad a Q P := C.is hP hQ (C.sum hQ hP).comm
theorem Cv.assoc (C : Cv a b) {P Q R : Cpt q} (hP : OnC a b P) (hQ : OnC a b Q) (hR : OnC a b R) : ad a (ad a P Q) R = ad a P (ad a Q R) :=
  Sm.assoc C.fl C.sm hP hQ hR (C.sum hP hQ) (C.sum (C.on hP hQ) hR) (C.sum hQ hR) (C.sum hP (C.on hQ hR))
theorem Cv.zl (C : Cv a b) {P : Cpt q} (hP : OnC a b P) : ad a none P = P := C.is trivial hP (.l _)
theorem Cv.zr (C : Cv a b) {P : Cpt q} (hP : OnC a b P) : ad a P none = P := C.is hP trivial (.r _)
theorem Cv.ng (C : Cv a b) {P : Cpt q} (hP : OnC a b P) : ad a P (ngP P) = none := C.is hP (ng_on hP) .ng
theorem Cv.cut (C : Cv a b) {P Q R : Cpt q} (hP : OnC a b P) (hQ : OnC a b Q) (hR : OnC a b R) (h : ad a P Q = ad a P R) : Q = R := by
  have e : ad a (ngP P) (ad a P Q) = ad a (ngP P) (ad a P R) := by rw [h]
  have n := ng_on hP
  rwa [← C.assoc n hP hQ, ← C.assoc n hP hR, C.comm n hP, C.ng hP, C.zl hQ, C.zl hR] at e
def mu (a : Fin q) : Nat → Cpt q → Cpt q
  | 0, _ => none
  | n + 1, P => ad a (mu a n P) P
theorem Cv.mu_on (C : Cv a b) {P : Cpt q} (hP : OnC a b P) : ∀ n, OnC a b (mu a n P)
  | 0 => trivial
  | n + 1 => C.on (Cv.mu_on C hP n) hP
theorem Cv.mu_one (C : Cv a b) {P : Cpt q} (hP : OnC a b P) : mu a 1 P = P := C.zl hP
theorem Cv.mu_none (C : Cv a b) : ∀ n, mu a n (none : Cpt q) = none
  | 0 => rfl
  | n + 1 => by show ad a (mu a n none) none = none; rw [Cv.mu_none C n]; exact C.zl trivial
theorem Cv.mu_add (C : Cv a b) {P : Cpt q} (hP : OnC a b P) (m : Nat) : ∀ n, mu a (m + n) P = ad a (mu a m P) (mu a n P)
  | 0 => (C.zr (C.mu_on hP m)).symm
  | n + 1 => by
    show ad a (mu a (m + n) P) P = _
    rw [Cv.mu_add C hP m n, C.assoc (C.mu_on hP m) (C.mu_on hP n) hP]
    rfl
theorem Cv.mu_mul (C : Cv a b) {P : Cpt q} (hP : OnC a b P) (m : Nat) : ∀ n, mu a (m * n) P = mu a n (mu a m P)
  | 0 => rfl
  | n + 1 => by
    rw [Nat.mul_succ, C.mu_add hP, Cv.mu_mul C hP m n]
    rfl
theorem Cv.mu_swap (C : Cv a b) {P : Cpt q} (hP : OnC a b P) (m n : Nat) : mu a n (mu a m P) = mu a m (mu a n P) := by
  rw [← C.mu_mul hP, ← C.mu_mul hP, Nat.mul_comm]
theorem Cv.mu_mod (C : Cv a b) {P : Cpt q} (hP : OnC a b P) {n : Nat} (h : mu a n P = none) (k : Nat) : mu a k P = mu a (k % n) P := by
  have e : k = n * (k / n) + k % n := (Nat.div_add_mod k n).symm
  have : mu a k P = ad a (mu a (n * (k / n)) P) (mu a (k % n) P) := by rw [← C.mu_add hP, ← e]
  rw [this, C.mu_mul hP, h, C.mu_none, C.zl (C.mu_on hP _)]
theorem Cv.mu_inj (C : Cv a b) {P : Cpt q} (hP : OnC a b P) (hne : P ≠ none) {n : Nat} (pn : Pri n) (h : mu a n P = none) {i j : Nat} (hi : i < n) (hj : j < n) (e : mu a i P = mu a j P) : i = j := by
  have key : ∀ d, 0 < d → d < n → mu a d P ≠ none := fun d d0 d1 hd => by
    have cop : Nat.Coprime n d := pn.cop fun g => by have := Nat.le_of_dvd d0 g; omega
    have g : ∀ x y, mu a x P = none → mu a y P = none → mu a (Nat.gcd x y) P = none := by
      intro x
      induction x using Nat.strongRecOn with
      | _ x ih =>
        intro y hx hy
        by_cases x0 : x = 0
        · subst x0; rwa [Nat.gcd_zero_left]
        · rw [Nat.gcd_rec]
          refine ih _ (Nat.mod_lt _ (by omega)) x ?_ hx
          rw [← C.mu_mod hP hx]; exact hy
    have one := g n d h hd
    rw [cop, C.mu_one hP] at one
    exact hne one
  have w : ∀ i j, i < j → j < n → mu a i P = mu a j P → False := fun i j hij hj e => by
    have s : mu a j P = ad a (mu a i P) (mu a (j - i) P) := by rw [← C.mu_add hP]; congr 1; omega
    rw [s] at e
    have e2 : ad a (mu a i P) none = ad a (mu a i P) (mu a (j - i) P) := by rw [C.zr (C.mu_on hP i)]; exact e
    exact key (j - i) (by omega) (by omega) (C.cut (Q := none) (C.mu_on hP i) trivial (C.mu_on hP _) e2).symm
  rcases Nat.lt_trichotomy i j with g | g | g
  · exact (w i j g hj e).elim
  · exact g
  · exact (w j i g hi e.symm).elim
end
theorem pigeon : ∀ (M N : Nat) (f : Nat → Nat), (∀ i, i < N → f i < M) → (∀ i j, i < N → j < N → f i = f j → i = j) → N ≤ M
  | 0, N, f, h, _ => by
    rcases Nat.eq_zero_or_pos N with e | e
    · omega
    · exact absurd (h 0 e) (by omega)
  | M + 1, N, f, h, inj => by
    by_cases c : ∃ i, i < N ∧ f i = M
    · obtain ⟨k, hk, ek⟩ := c
      have t := pigeon M (N - 1) (fun i => if i = k then f (N - 1) else f i) (fun i hi => by
        show (if i = k then f (N - 1) else f i) < M
        split
        · rename_i g
          have := h (N - 1) (by omega)
          have ne : f (N - 1) ≠ M := fun x => by have := inj (N - 1) k (by omega) hk (by rw [x, ek]); omega
          omega
        · rename_i g
          have := h i (by omega)
          have ne : f i ≠ M := fun x => g (inj i k (by omega) hk (by rw [x, ek]))
          omega) (fun i j hi hj e => by
        have e : (if i = k then f (N - 1) else f i) = (if j = k then f (N - 1) else f j) := e
        split at e
        · split at e
          · omega
          · have := inj (N - 1) j (by omega) (by omega) e; omega
        · split at e
          · have := inj i (N - 1) (by omega) (by omega) e; omega
          · exact inj i j (by omega) (by omega) e)
      omega
    · have t := pigeon M N f (fun i hi => by
        have := h i hi
        have : f i ≠ M := fun x => c ⟨i, hi, x⟩
        omega) inj
      omega
section
variable {q : Nat} [NeZero q] {a b : Fin q}
def cod : Cpt q → Nat
  | none => 2 * q
  | some (x, y) => 2 * x.val + y.val % 2
theorem cod_lt (P : Cpt q) : cod P < 2 * q + 1 := by
  match P with
  | none => simp [cod]
  | some (x, y) => have := x.isLt; simp only [cod]; omega
theorem cod_inj (fl : Fl q) (odd : q % 2 = 1) {P Q : Cpt q} (hP : OnC a b P) (hQ : OnC a b Q) (h : cod P = cod Q) : P = Q := by
  match P, Q with
  | none, none => rfl
  | none, some (x, y) => exfalso; have := x.isLt; simp only [cod] at h; omega
  | some (x, y), none => exfalso; have := x.isLt; simp only [cod] at h; omega
  | some (x, y), some (x', y') =>
    simp only [cod] at h
    have e : x = x' := Fin.ext (by omega)
    subst e
    by_cases c : y + y' = 0
    · have e2 : (y + y').val = 0 := by rw [c]; simp
      rw [Fin.val_add] at e2
      have hy := y.isLt
      have hy' := y'.isLt
      have : y.val + y'.val = 0 ∨ y.val + y'.val = q := by
        rcases Nat.lt_or_ge (y.val + y'.val) q with g | g
        · rw [Nat.mod_eq_of_lt g] at e2; exact .inl e2
        · rw [Nat.mod_eq_sub_mod g, Nat.mod_eq_of_lt (by omega)] at e2; right; omega
      have e3 : y = y' := Fin.ext (by omega)
      rw [e3]
    · rw [on_uniq fl hP hQ c]
theorem all_mu (C : Cv a b) (odd : q % 2 = 1) {B : Cpt q} (hB : OnC a b B) (hne : B ≠ none) {n : Nat} (pn : Pri n) (n2 : n % 2 = 1) (h : mu a n B = none) (big : 2 * q + 1 < 3 * n)
    (no2 : ∀ P, OnC a b P → ad a P P = none → P = none) (P : Cpt q) (hP : OnC a b P) : ∃ k, P = mu a k B := by
  have n0 : 0 < n := by have := pn.1; omega
  let f : Nat → Cpt q := fun i => ad a (mu a (i / n) P) (mu a (i % n) B)
  have fon : ∀ i, OnC a b (f i) := fun i => C.on (C.mu_on hP _) (C.mu_on hB _)
  have half : ∀ k, ad a P P = mu a k B → ∃ k, P = mu a k B := fun k e => by
    let k' := k * ((n + 1) / 2)
    have hk : k' + k' = k + n * k := by
      show k * ((n + 1) / 2) + k * ((n + 1) / 2) = k + n * k
      rw [← Nat.mul_add, show (n + 1) / 2 + (n + 1) / 2 = n + 1 by omega, Nat.mul_succ, Nat.mul_comm, Nat.add_comm]
    have e1 : ad a (mu a k' B) (mu a k' B) = mu a k B := by rw [← C.mu_add hB, hk, C.mu_add hB, C.mu_mul hB, h, C.mu_none, C.zr (C.mu_on hB _)]
    have hm := C.mu_on hB k'
    have hn := ng_on hm
    have D := C.on hP hn
    refine ⟨k', ?_⟩
    have z : ad a P (ngP (mu a k' B)) = none := by
      refine no2 _ D ?_
      rw [C.assoc hP hn D, ← C.assoc hn hP hn, C.comm hn hP, C.assoc hP hn hn, ← C.assoc hP hP (C.on hn hn), e, ← e1, C.assoc hm hm (C.on hn hn), ← C.assoc hm hn hn, C.ng hm, C.zl hn, C.ng hm]
    refine C.cut hn hP hm ?_
    rw [C.comm hn hP, z, C.comm hn hm, C.ng hm]
  by_cases c : ∃ i j, i < 3 * n ∧ j < 3 * n ∧ f i = f j ∧ i < j
  · obtain ⟨i, j, hi, hj, e, hij⟩ := c
    have qi : i / n < 3 := Nat.div_lt_of_lt_mul (by omega)
    have qj : j / n < 3 := Nat.div_lt_of_lt_mul (by omega)
    have le : i / n ≤ j / n := Nat.div_le_div_right (by omega)
    have di := Nat.div_add_mod i n
    have dj := Nat.div_add_mod j n
    have mi := Nat.mod_lt i n0
    have mj := Nat.mod_lt j n0
    -- the difference of the first parts is a multiple
    have step : mu a (i % n) B = ad a (mu a (j / n - i / n) P) (mu a (j % n) B) := by
      have s : mu a (j / n) P = ad a (mu a (i / n) P) (mu a (j / n - i / n) P) := by rw [← C.mu_add hP]; congr 1; omega
      have e' : ad a (mu a (i / n) P) (mu a (i % n) B) = ad a (mu a (j / n) P) (mu a (j % n) B) := e
      rw [s, C.assoc (C.mu_on hP _) (C.mu_on hP _) (C.mu_on hB _)] at e'
      exact C.cut (C.mu_on hP _) (C.mu_on hB _) (C.on (C.mu_on hP _) (C.mu_on hB _)) e'
    have out : mu a (j / n - i / n) P = mu a (i % n + (n - j % n)) B := by
      rw [C.mu_add hB, step, C.assoc (C.mu_on hP _) (C.mu_on hB _) (C.mu_on hB _), ← C.mu_add hB, show j % n + (n - j % n) = n by omega, h, C.zr (C.mu_on hP _)]
    have d0 : ∀ u v : Nat, v < 3 → v - u = 0 ∨ v - u = 1 ∨ v - u = 2 := by omega
    have d := d0 (i / n) (j / n) qj
    rcases d with d | d | d
    · exfalso
      have e0 : i / n = j / n := by omega
      rw [d] at step
      have s2 : mu a (i % n) B = mu a (j % n) B := by rw [step]; exact C.zl (C.mu_on hB _)
      have := C.mu_inj hB hne pn h mi mj s2
      rw [e0, this] at di
      omega
    · rw [d, C.mu_one hP] at out
      exact ⟨_, out⟩
    · rw [d] at out
      refine half (i % n + (n - j % n)) ?_
      rw [← out]
      show ad a P P = ad a (ad a none P) P
      rw [C.zl hP]
  · exfalso
    have := pigeon (2 * q + 1) (3 * n) (fun i => cod (f i)) (fun i _ => cod_lt _) (fun i j hi hj e => by
      have e2 : f i = f j := cod_inj C.fl odd (fon i) (fon j) e
      rcases Nat.lt_trichotomy i j with g | g | g
      · exact absurd ⟨i, j, hi, hj, e2, g⟩ c
      · exact g
      · exact absurd ⟨j, i, hj, hi, e2.symm, g⟩ c)
    omega
end
end Go.Proofs.YtoolbnbfbegjaaaGreat
namespace Go.Proofs.YtoolbnbfbegjaaaGreat
section
variable {q : Nat} [NeZero q] {a b : Fin q}
def Rp (X Y Z : Fin q) (i : Bool) (P : Cpt q) : Prop := if i then P = none else ∃ x y, P = some (x, y) ∧ Z ≠ 0 ∧ X = x * (Z * Z) ∧ Y = y * (Z * (Z * Z))
structure Cw (a b : Fin q) : Prop extends Cv a b where
  am : a = - (1 + 1 + 1)
  up : ∀ x y, OnC a b (some (x, y)) → y + y ≠ 0
theorem rp_dbl (C : Cw a b) {X Y Z : Fin q} {P : Cpt q} (hP : OnC a b P) (h : Rp X Y Z false P) {z2 y2 r0 r s0 s1 s x y4 y5 y z0 z : Fin q}
    (e1 : z2 = Z * Z) (e2 : y2 = Y * Y) (e3 : r0 = (X - z2) * (X + z2)) (e4 : r = r0 + r0 + r0) (e5 : s0 = X * y2) (e6 : s1 = s0 + s0) (e7 : s = s1 + s1) (e8 : x = r * r - (s + s))
    (e9 : y4 = y2 + y2) (e10 : y5 = y4 * y4) (e11 : y = r * (s - x) - (y5 + y5)) (e12 : z0 = Y * Z) (e13 : z = z0 + z0) : Rp x y z false (ad a P P) := by
  simp only [Rp, Bool.false_eq_true, if_false] at h ⊢
  obtain ⟨u, v, rfl, hZ, hX, hY⟩ := h
  have nv := C.up _ _ hP
  have S := C.sum hP hP
  generalize ad a (some (u, v)) (some (u, v)) = D at S
  rcases S with ⟨z1, z2⟩ | ⟨z1, z2⟩ | ⟨_, _, _, g, z1, z2, z3⟩ | ⟨_, _, _, _, t, x3, y3, g, h1, h2, hx, hy, z1, z2, z3⟩
  · first | (cases z1; done) | (cases z1; cases z2; done)
  · first | (cases z1; done) | (cases z1; cases z2; done)
  · cases z1; cases z2; cases z3; exact absurd g nv
  · cases z1; cases z2; cases z3
    have zz : z = (v + v) * (Z * Z * (Z * Z)) := by rw [e13, e12, hY]; clear e1 e2 e3 e4 e5 e6 e7 e8 e9 e10 e11 e12 e13 hX hY h1 h2 hx hy; grind
    have rr : r = t * z := by
      have k : r = (u * u + u * u + u * u - (1 + 1 + 1)) * (Z * Z * (Z * Z)) := by rw [e4, e3, e1, hX]; clear e1 e2 e3 e4 e5 e6 e7 e8 e9 e10 e11 e12 e13 hX hY h1 h2 hx hy zz; grind
      have k2 : u * u + u * u + u * u - (1 + 1 + 1) = t * (v + v) := by rw [h2, C.am]; clear e1 e2 e3 e4 e5 e6 e7 e8 e9 e10 e11 e12 e13 hX hY h1 h2 hx hy zz k; grind
      rw [k, k2, zz]; clear e1 e2 e3 e4 e5 e6 e7 e8 e9 e10 e11 e12 e13 hX hY h1 h2 hx hy zz k k2; grind
    have ss : s = u * (z * z) := by rw [e7, e6, e5, e2, zz, hX, hY]; clear e1 e2 e3 e4 e5 e6 e7 e8 e9 e10 e11 e12 e13 hX hY h1 h2 hx hy zz rr; grind
    have xx : x = x3 * (z * z) := by rw [e8, rr, ss, hx]; clear e1 e2 e3 e4 e5 e6 e7 e8 e9 e10 e11 e12 e13 hX hY h1 h2 hx hy zz rr ss; grind
    have yy : y5 + y5 = v * (z * (z * z)) := by rw [e10, e9, e2, zz, hY]; clear e1 e2 e3 e4 e5 e6 e7 e8 e9 e10 e11 e12 e13 hX hY h1 h2 hx hy zz rr ss xx; grind
    refine ⟨x3, y3, rfl, ?_, xx, ?_⟩
    · rw [zz]
      intro g
      rcases C.fl.nz _ _ g with g | g
      · exact nv g
      · rcases C.fl.nz _ _ g with g | g <;> rcases C.fl.nz _ _ g with g | g <;> exact hZ g
    · rw [e11, yy, rr, ss, xx, hy]; clear e1 e2 e3 e4 e5 e6 e7 e8 e9 e10 e11 e12 e13 hX hY h1 h2 hx hy zz rr ss xx yy; grind
theorem rp_along (C : Cw a b) {X Y Z bx bY : Fin q} {P : Cpt q} (hP : OnC a b P) (hQ : OnC a b (some (bx, bY))) (h : Rp X Y Z false P) {z2 run z3 rise r2 r3 s x y z : Fin q}
    (e1 : z2 = Z * Z) (e2 : run = bx * z2 - X) (e3 : z3 = Z * z2) (e4 : rise = bY * z3 - Y) (ne : run ≠ 0)
    (e5 : r2 = run * run) (e6 : r3 = run * r2) (e7 : s = X * r2) (e8 : x = rise * rise - r3 - (s + s)) (e9 : y = rise * (s - x) - Y * r3) (e10 : z = Z * run) : Rp x y z false (ad a P (some (bx, bY))) := by
  simp only [Rp, Bool.false_eq_true, if_false] at h ⊢
  obtain ⟨u, v, rfl, hZ, hX, hY⟩ := h
  have S := C.sum hP hQ
  generalize ad a (some (u, v)) (some (bx, bY)) = D at S
  have ru : run = (bx - u) * (Z * Z) := by rw [e2, e1, hX]; clear e1 e2 e3 e4 e5 e6 e7 e8 e9 e10 hX hY; grind
  rcases S with ⟨z1, z2⟩ | ⟨z1, z2⟩ | ⟨_, _, _, g, z1, z2, z3⟩ | ⟨_, _, _, _, t, x3, y3, g, h1, h2, hx, hy, z1, z2, z3⟩
  · first | (cases z1; done) | (cases z1; cases z2; done)
  · first | (cases z1; done) | (cases z1; cases z2; done)
  · cases z1; cases z2; cases z3; exact absurd (by rw [ru]; clear e1 e2 e3 e4 e5 e6 e7 e8 e9 e10 hX hY g ru; grind) ne
  · cases z1; cases z2; cases z3
    have zz : z = (bx - u) * (Z * (Z * Z)) := by rw [e10, ru]; clear e1 e2 e3 e4 e5 e6 e7 e8 e9 e10 hX hY h1 h2 hx hy ru; grind
    have rr : rise = t * z := by
      have k : rise = - (v - bY) * (Z * (Z * Z)) := by rw [e4, e3, e1, hY]; clear e1 e2 e3 e4 e5 e6 e7 e8 e9 e10 hX hY h1 h2 hx hy ru zz; grind
      rw [k, ← h1, zz]; clear e1 e2 e3 e4 e5 e6 e7 e8 e9 e10 hX hY h1 h2 hx hy ru zz k; grind
    have r22 : r2 * (Z * Z) = z * z := by rw [e5, zz, ru]; clear e1 e2 e3 e4 e5 e6 e7 e8 e9 e10 hX hY h1 h2 hx hy ru zz rr; grind
    have ss : s = u * (z * z) := by rw [e7, hX, ← r22]; clear e1 e2 e3 e4 e5 e6 e7 e8 e9 e10 hX hY h1 h2 hx hy ru zz rr r22; grind
    have r33 : r3 = (bx - u) * (z * z) := by rw [e6, ru, ← r22]; clear e1 e2 e3 e4 e5 e6 e7 e8 e9 e10 hX hY h1 h2 hx hy ru zz rr r22 ss; grind
    have r3y : Y * r3 = v * (z * (z * z)) := by rw [hY, r33, zz]; clear e1 e2 e3 e4 e5 e6 e7 e8 e9 e10 hX hY h1 h2 hx hy ru zz rr r22 ss r33; grind
    have xx : x = x3 * (z * z) := by rw [e8, rr, ss, r33, hx]; clear e1 e2 e3 e4 e5 e6 e7 e8 e9 e10 hX hY h1 h2 hx hy ru zz rr r22 ss r33 r3y; grind
    refine ⟨x3, y3, rfl, ?_, xx, ?_⟩
    · rw [e10]
      intro g
      rcases C.fl.nz _ _ g with g | g
      · exact hZ g
      · exact ne g
    · rw [e9, r3y, rr, ss, xx, hy]; clear e1 e2 e3 e4 e5 e6 e7 e8 e9 e10 hX hY h1 h2 hx hy ru zz rr r22 ss r33 r3y xx; grind
theorem rp_nz2 (C : Cw a b) {Z x y : Fin q} (hZ : Z ≠ 0) (h : x * (Z * Z) = y * (Z * Z)) : x = y := by
  have k : (Z * Z) * x = (Z * Z) * y := by grind
  refine C.fl.cut (fun g => ?_) k
  rcases C.fl.nz _ _ g with g | g <;> exact hZ g
theorem rp_nz3 (C : Cw a b) {Z x y : Fin q} (hZ : Z ≠ 0) (h : x * (Z * (Z * Z)) = y * (Z * (Z * Z))) : x = y := by
  have k : (Z * (Z * Z)) * x = (Z * (Z * Z)) * y := by grind
  refine C.fl.cut (fun g => ?_) k
  rcases C.fl.nz _ _ g with g | g
  · exact hZ g
  · rcases C.fl.nz _ _ g with g | g <;> exact hZ g
theorem rp_same (C : Cw a b) {X Y Z bx bY : Fin q} {P : Cpt q} (hP : OnC a b P) (hQ : OnC a b (some (bx, bY))) (h : Rp X Y Z false P) {z2 run z3 rise : Fin q}
    (e1 : z2 = Z * Z) (e2 : run = bx * z2 - X) (e3 : z3 = Z * z2) (e4 : rise = bY * z3 - Y) (r0 : run = 0) : (rise ≠ 0 → ad a P (some (bx, bY)) = none) ∧ (rise = 0 → P = some (bx, bY)) := by
  simp only [Rp, Bool.false_eq_true, if_false] at h
  obtain ⟨u, v, rfl, hZ, hX, hY⟩ := h
  have ex : bx = u := rp_nz2 C hZ (by rw [e2, e1, hX] at r0; clear e1 e2 e3 e4 hX hY; grind)
  subst ex
  have hr : rise = bY * (Z * (Z * Z)) - v * (Z * (Z * Z)) := by rw [e4, e3, e1, hY]
  refine ⟨fun g => ?_, fun g => ?_⟩
  · refine C.is hP hQ (.o _ _ _ ?_)
    refine Classical.byContradiction fun c => g ?_
    rw [hr, on_uniq C.fl hP hQ c]; clear e1 e2 e3 e4 hX hY hr; grind
  · have ey : bY = v := rp_nz3 C hZ (by rw [hr] at g; clear e1 e2 e3 e4 hX hY hr; grind)
    rw [ey]
theorem rp_plain {X Y Z i : Fin q} {P : Cpt q} (h : Rp X Y Z false P) (hi : Z * i = 1) : P = some (X * (i * i), Y * (i * (i * i))) := by
  simp only [Rp, Bool.false_eq_true, if_false] at h
  obtain ⟨u, v, rfl, hZ, hX, hY⟩ := h
  have k1 : X * (i * i) = u * ((Z * i) * (Z * i)) := by rw [hX]; clear hi hX hY; grind
  have k2 : Y * (i * (i * i)) = v * ((Z * i) * ((Z * i) * (Z * i))) := by rw [hY]; clear hi hX hY k1; grind
  rw [k1, k2, hi]; clear k1 k2 hi hX hY
  congr 2 <;> grind
theorem rp_one (hne : (1 : Fin q) ≠ 0) (x y : Fin q) : Rp x y 1 false (some (x, y)) := by
  simp only [Rp, Bool.false_eq_true, if_false]
  exact ⟨x, y, rfl, hne, by grind, by grind⟩
end
end Go.Proofs.YtoolbnbfbegjaaaGreat
set_option maxRecDepth 100000
namespace Go.Proofs.YtoolbnbfbegjaaaGreat
open NT
section
variable {q : Nat} [NeZero q]
theorem fp_val (x : Fin q) : ∀ n, (fpw x n).val = x.val ^ n % q
  | 0 => by
    have : (1 : Fin q).val = 1 % q := by rw [← Fin.val_ofNat q 1]; rfl
    rw [Nat.pow_zero]; exact this
  | n + 1 => by show (fpw x n * x).val = _; rw [Fin.val_mul, fp_val x n, Nat.mod_mul_mod, Nat.pow_succ]
theorem fp_sq (x : Fin q) : ∀ n, fpw (x * x) n = fpw x (2 * n)
  | 0 => rfl
  | n + 1 => by
    show fpw (x * x) n * (x * x) = fpw x (2 * n) * x * x
    rw [fp_sq x n]; grind
theorem fp_fermat (h : Pri q) (x : Fin q) : fpw x q = x := by
  apply Fin.ext
  rw [fp_val, fermat' h, Nat.mod_eq_of_lt x.isLt]
theorem pw_of (h : Pri q) (x : Fin q) (hx : x ≠ 0) : x * fpw x (q - 2) = 1 := by
  have nd : ¬ q ∣ x.val := fun g => hx ((fz_iff x).2 g)
  have f := fermat h x.val nd
  have q2 := h.1
  apply Fin.ext
  have : (1 : Fin q).val = 1 % q := by rw [← Fin.val_ofNat q 1]; rfl
  rw [Fin.val_mul, fp_val, Nat.mul_mod_mod, Nat.mul_comm, ← Nat.pow_succ, show (q - 2).succ = q - 1 by omega, f, this, Nat.mod_eq_of_lt (by omega)]
end
theorem gen1 {q : Nat} [NeZero q] (x : Fin q) : 1 + 0 * x + 0 * (x * x) = 1 := by grind
theorem gen2 {q : Nat} [NeZero q] (x : Fin q) : 0 + 1 * x + 0 * (x * x) = x := by grind
def pN : Nat := 115792089210356248762697446949407573530086143415290314195533631308867097853951
variable [NeZero pN]
theorem pri_p : Pri pN := NT.p25
def cb : Int := 41058363725152142129326129780047268409114441015993725554835256314039467401291
def mt (c d : Int × Int × Int) : Int × Int × Int :=
  ((c.1 * d.1 - cb * (c.2.1 * d.2.2 + c.2.2 * d.2.1)) % pN,
   (c.1 * d.2.1 + c.2.1 * d.1 + 3 * (c.2.1 * d.2.2 + c.2.2 * d.2.1) - cb * (c.2.2 * d.2.2)) % pN,
   (c.1 * d.2.2 + c.2.1 * d.2.1 + c.2.2 * d.1 + 3 * (c.2.2 * d.2.2)) % pN)
def pt : Nat → Int × Int × Int → Nat → Int × Int × Int
  | 0, _, _ => (1, 0, 0)
  | f + 1, g, e => if e % 2 = 1 then mt g (pt f (mt g g) (e / 2)) else pt f (mt g g) (e / 2)
def ev (c : Int × Int × Int) (x : Fin pN) : Fin pN := fi pN c.1 + fi pN c.2.1 * x + fi pN c.2.2 * (x * x)
theorem ev_mt (c d : Int × Int × Int) (x : Fin pN) (h : x * x * x = fi pN 3 * x - fi pN cb) : ev (mt c d) x = ev c x * ev d x := by
  obtain ⟨c0, c1, c2⟩ := c
  obtain ⟨d0, d1, d2⟩ := d
  simp only [ev, mt, fi_mod, fi_add, fi_sub, fi_mul]
  generalize fi pN c0 = c0 at *
  generalize fi pN c1 = c1 at *
  generalize fi pN c2 = c2 at *
  generalize fi pN d0 = d0 at *
  generalize fi pN d1 = d1 at *
  generalize fi pN d2 = d2 at *
  generalize fi pN cb = B at *
  generalize fi pN 3 = T at *
  have k : (c0 + c1 * x + c2 * (x * x)) * (d0 + d1 * x + d2 * (x * x)) = c0 * d0 + (c0 * d1 + c1 * d0) * x + (c0 * d2 + c1 * d1 + c2 * d0) * (x * x) + (c1 * d2 + c2 * d1) * (x * x * x) + (c2 * d2) * (x * x * x) * x := by
    clear h; generalize pN = q at *; grind
  rw [k, h]
  clear k h
  grind
theorem ev_pt (x : Fin pN) (h : x * x * x = fi pN 3 * x - fi pN cb) : ∀ f g e, e < 2 ^ f → ev (pt f g e) x = fpw (ev g x) e
  | 0, g, e, he => by
    have : e = 0 := by omega
    subst this
    show ev (1, 0, 0) x = 1
    simp only [ev, fi_one, fi_zero]; exact gen1 x
  | f + 1, g, e, he => by
    have r := ev_pt x h f (mt g g) (e / 2) (by rw [Nat.pow_succ] at he; omega)
    rw [ev_mt g g x h, fp_sq] at r
    unfold pt
    split
    · rw [ev_mt _ _ x h, r]
      have : fpw (ev g x) e = fpw (ev g x) (2 * (e / 2) + 1) := by congr 1; omega
      rw [this]
      show _ = fpw (ev g x) (2 * (e / 2)) * ev g x
      grind
    · rw [r]; congr 1; omega
theorem x_p : pt 256 (0, 1, 0) pN = (66434390973925144466073271287821796038003695194169110494110089305650096453661, 12402202686218762177567235911775779164004716598278868847786114277539554646092, 24678849118215552148312087830792888746041224110560601850711771001608500700145) := by decide +kernel
theorem x_i : mt (76626890310466861426869089647039036757962535851890885406097439786770458211455, 74462945259064871768191128030512052509059297803194871526163573358218695456204, 34768139465301476436978405170953382516735956999154666452188405812258086013549) (66434390973925144466073271287821796038003695194169110494110089305650096453661, 12402202686218762177567235911775779164004716598278868847786114277539554646091, 24678849118215552148312087830792888746041224110560601850711771001608500700145) = (1, 0, 0) := by decide +kernel
theorem p_lt : pN < 2 ^ 256 := by decide +kernel
theorem one_ne : (1 : Fin pN) ≠ 0 := by
  intro h
  have : fi pN 1 = fi pN 0 := by rw [fi_one, fi_zero, h]
  have := fi_eq.1 this
  revert this
  decide +kernel
theorem no_root (x : Fin pN) : ¬ x * x * x = fi pN 3 * x - fi pN cb := by
  intro h
  have e := ev_pt x h 256 (0, 1, 0) pN p_lt
  have e1 : ev (0, 1, 0) x = x := by simp only [ev, fi_one, fi_zero]; exact gen2 x
  rw [x_p, e1, fp_fermat pri_p] at e
  have m := ev_mt (76626890310466861426869089647039036757962535851890885406097439786770458211455, 74462945259064871768191128030512052509059297803194871526163573358218695456204, 34768139465301476436978405170953382516735956999154666452188405812258086013549) (66434390973925144466073271287821796038003695194169110494110089305650096453661, 12402202686218762177567235911775779164004716598278868847786114277539554646091, 24678849118215552148312087830792888746041224110560601850711771001608500700145) x h
  rw [x_i] at m
  have z : ev (66434390973925144466073271287821796038003695194169110494110089305650096453661, 12402202686218762177567235911775779164004716598278868847786114277539554646091, 24678849118215552148312087830792888746041224110560601850711771001608500700145) x = 0 := by
    have k : fi pN 12402202686218762177567235911775779164004716598278868847786114277539554646092 = fi pN 12402202686218762177567235911775779164004716598278868847786114277539554646091 + 1 := by
      rw [← fi_one, ← fi_add]; rfl
    simp only [ev] at e ⊢
    rw [k] at e
    grind
  rw [z] at m
  have m1 : ev (1, 0, 0) x = 1 := by simp only [ev, fi_one, fi_zero]; exact gen1 x
  rw [m1] at m
  exact one_ne (by rw [m]; grind)
def am : Fin pN := - (1 + 1 + 1)
def bm : Fin pN := fi pN cb
theorem two_nz (y : Fin pN) (h : y + y = 0) : y = 0 := by
  have k : (1 + 1) * y = 0 := by grind
  rcases (fl_of pri_p).nz _ _ k with g | g
  · exfalso
    have : fi pN 2 = fi pN 0 := by rw [show (2 : Int) = 1 + 1 by rfl, fi_add, fi_one, fi_zero, g]
    have := fi_eq.1 this
    revert this
    decide +kernel
  · exact g
theorem three_fi : fi pN 3 = 1 + 1 + 1 := by rw [show (3 : Int) = 1 + 1 + 1 by rfl, fi_add, fi_add, fi_one]
theorem p256_up (x y : Fin pN) (h : OnC am bm (some (x, y))) : y + y ≠ 0 := by
  intro g
  have y0 := two_nz y g
  subst y0
  refine no_root x ?_
  simp only [OnC, am, bm] at h
  rw [three_fi]
  generalize fi pN cb = B at *
  clear g
  grind
theorem p256 : Cw am bm where
  fl := fl_of pri_p
  sm := fun x y h g => absurd g (p256_up x y h)
  pw := pw_of pri_p
  am := rfl
  up := p256_up
end Go.Proofs.YtoolbnbfbegjaaaGreat
set_option autoImplicit false
namespace Go.Proofs.YtoolbnbfbegjaaaGreat
open Go Go.Sort Go.RowKit
section
variable {P : Program} {ops : Array Oper} {md : Region.Mode} {C : World → Prop} {l m : Nat}
def noDefer (ops : Array Oper) : Bool := ops.all fun o => match o.op with
  | .defer _ => false
  | _ => true
theorem noDefer_at (h : noDefer ops = true) {i : Nat} {o : Oper} (hi : ops[i]? = some o) : ∀ c, o.op ≠ .defer c := fun c e => by
  have t := Array.all_eq_true.1 h i (Array.getElem?_eq_some_iff.1 hi).1
  have e2 : ops[i]'(Array.getElem?_eq_some_iff.1 hi).1 = o := (Array.getElem?_eq_some_iff.1 hi).2
  rw [e2, e] at t
  cases t
theorem quiet_in {o : Oper} {a : Act} {K : Act → Prop} {K' : Act → World → Prop} {Q : Exit → Act → World → Prop} {w : World} (nd : ∀ c, o.op ≠ .defer c) (hw : C w) (h : ∀ a w', C w' → K a → K' a w')
    (hh : o.quiet P a C K) : o.wpIn (Fence.wide.inRound l) m P a w K' Q := by
  obtain ⟨v, h1, h2⟩ := hh
  have h3 := h1 w hw
  refine ⟨fun _ _ => trivial, ?_⟩
  rw [Oper.semAt_eq _ _ _ nd]
  unfold Oper.quietAt at h3
  generalize (execOp a.eval o).run P w = r at *
  cases r with
  | halt x w' => cases h3
  | ok x w' =>
    cases x with
    | value u =>
      obtain ⟨e1, e2⟩ := h3
      rw [e1, e2]; exact h _ _ hw h2
    | skip =>
      obtain ⟨e1, e2⟩ := h3
      subst e2
      rw [e1]; exact h _ _ hw h2
    | enter f args =>
      obtain ⟨e1, hc⟩ := h3
      rw [e1]
      rw [Oper.uponIn_enter]
      refine ⟨fun hd => ?_, CallsIn.inRound l (callsIn_wide.2 (hc.mono ?_))⟩
      · simp [Fence.wide] at hd
      · rintro e w2 ⟨rfl, hw2⟩
        exact h _ _ hw2 h2
    | _ => cases h3
theorem QL.anyIn {n g : Nat} {L : Array Bool → Act → Prop} {Q : Exit → Act → World → Prop} (nd : noDefer ops = true) (hL : ∀ ls a w, C w → L ls a → wpAnyIn (Fence.wide.inRound l) m P md ops Q g ls a w) (f : Nat) :
    ∀ ls a w, C w → QL P md ops C n L f ls a → wpAnyIn (Fence.wide.inRound l) m P md ops Q (f + g) ls a w := by
  induction f with
  | zero => intro ls a w hw h; rw [Nat.zero_add]; exact hL _ _ _ hw h
  | succ f ih =>
    intro ls a w hw h
    rw [Nat.succ_add_eq_add_succ]
    refine ⟨fun e => absurd e h.1, fun i hi => ?_⟩
    have q := (h.2 i hi).2
    unfold qOp at q
    unfold wpOpIn
    split
    · rename_i ho; simp only [ho] at q; exact ih _ _ _ hw q
    · rename_i o ho
      simp only [ho] at q
      split
      · rename_i hwt; simp only [hwt, if_true] at q; exact quiet_in (noDefer_at nd ho) hw (fun a' w' hw' h' => ih _ a' w' hw' h') q
      · rename_i hwt; simp only [hwt] at q; exact ⟨fun _ _ => trivial, ih _ _ _ hw q⟩
theorem seq_in {F : Fence} {Q : Exit → Act → World → Prop} (r : List Oper) : ∀ (k : Nat) (ls : Array Bool) (a : Act) (w : World), (∀ j, r[j]? = ops[k + j]?) →
    Region.seqB md ops r.length k ls = true → wpListIn F m P ops Q r a w → wpAnyIn F m P md ops Q r.length ls a w := by
  induction r with
  | nil => intro k ls a w _ hB h; exact ⟨by simpa [Region.seqB] using hB, h⟩
  | cons o r ih =>
    intro k ls a w hl hB h
    have h0 : ops[k]? = some o := by simpa using (hl 0).symm
    simp only [List.length_cons, Region.seqB, Bool.and_eq_true, decide_eq_true_eq] at hB
    refine ⟨fun e => (by rw [hB.1] at e; cases e), fun i hi => ?_⟩
    rw [hB.1] at hi
    obtain rfl : i = k := by simpa using hi
    have t : wpOpIn F m P ops Q i (wpListIn F m P ops Q r) a w := by unfold wpOpIn; simp only [h0]; exact h
    refine wpOpIn_mono (fun a' w' h' => ih (i + 1) _ a' w' (fun j => ?_) hB.2 h') t
    have t := hl (j + 1)
    rw [List.getElem?_cons_succ] at t
    rw [t]; congr 1; omega
theorem wpIn_region_below_tail {id : Nat} {Q : Exit → Act → World → Prop} {a : Act} {w : World} {r : List Oper} (n : Nat) (hm : P.follows .mixedOrders = true) (hB : (noDefer r.toArray && Region.lexTailB .any r.toArray n) = true)
    (h : wpQuiet P r.toArray (fun w' => ∃ p : Regrown, w' = grow (redrawn w p.d) p.os) (fun a' => ∀ w', (∃ p : Regrown, w' = grow (redrawn w p.d) p.os) → wpListIn (Fence.wide.inRound l) m P r.toArray Q (r.drop n) a' w') (r.take n) a) :
    (Code.region id r.toArray true).wpIn (Fence.wide.inRound l) m P Q a w := by
  simp only [Region.lexTailB, Bool.and_eq_true, decide_eq_true_eq] at hB
  obtain ⟨nd, ⟨⟨⟨sel, hn⟩, hs⟩, hc⟩, lex⟩ := hB
  have ln : n < r.length := by simpa using hn
  have tl : (r.take n).length = n := by rw [List.length_take]; omega
  have dl : (r.drop n).length = r.toArray.size - n := by rw [List.length_drop]; simp
  have i0 : HeadInv .any r.toArray n (Array.replicate r.toArray.size false) :=
    ⟨by simp, fun j oj _ hl => (by rw [getD_replicate_false] at hl; cases hl), fun t _ ht => getD_in (by simpa using ht) (getD_replicate_false _ _)⟩
  have H := QL.lex (P := P) (md := .any) (g := r.toArray.size - n) sel hs hc hn (r.take n) 0 _ a (fun j hj => by
    rw [tl] at hj
    simp [hj]) (by rw [tl]; omega) i0 (by rw [tl]; exact lex) h
  have K := QL.anyIn (l := l) (m := m) (Q := Q) (g := r.toArray.size - n) nd (fun ls a' w' hw' hL => by
    have t := seq_in (md := .any) (P := P) (m := m) (F := Fence.wide.inRound l) (Q := Q) (r.drop n) n ls a' w' (fun j => by simp [List.getElem?_drop]) (by rw [dl]; exact hL.1) (hL.2 w' hw')
    rwa [dl] at t) _ _ a { w with drawn := w.drawn + 1 } ⟨⟨w.drawn + 1, #[]⟩, by rw [grow_empty]; rfl⟩ H
  rw [tl, show n + (r.toArray.size - n) = r.toArray.size by omega] at K
  exact wpIn_region_any hm K
end
end Go.Proofs.YtoolbnbfbegjaaaGreat
set_option autoImplicit false
namespace Go.Proofs.YtoolbnbfbegjaaaGreat
open Go Go.Sort Go.RowKit
section
variable {P : Program} {ops : Array Oper} {md : Region.Mode} {C : World → Prop} {m : Nat}
theorem quiet_inw {o : Oper} {a : Act} {K : Act → Prop} {K' : Act → World → Prop} {Q : Exit → Act → World → Prop} {w : World} (nd : ∀ c, o.op ≠ .defer c) (hw : C w) (h : ∀ a w', C w' → K a → K' a w')
    (hh : o.quiet P a C K) : o.wpIn (Fence.wide) m P a w K' Q := by
  obtain ⟨v, h1, h2⟩ := hh
  have h3 := h1 w hw
  refine ⟨fun _ _ => trivial, ?_⟩
  rw [Oper.semAt_eq _ _ _ nd]
  unfold Oper.quietAt at h3
  generalize (execOp a.eval o).run P w = r at *
  cases r with
  | halt x w' => cases h3
  | ok x w' =>
    cases x with
    | value u =>
      obtain ⟨e1, e2⟩ := h3
      rw [e1, e2]; exact h _ _ hw h2
    | skip =>
      obtain ⟨e1, e2⟩ := h3
      subst e2
      rw [e1]; exact h _ _ hw h2
    | enter f args =>
      obtain ⟨e1, hc⟩ := h3
      rw [e1]
      rw [Oper.uponIn_enter]
      refine ⟨fun hd => ?_, callsIn_wide.2 (hc.mono ?_)⟩
      · simp [Fence.wide] at hd
      · rintro e w2 ⟨rfl, hw2⟩
        exact h _ _ hw2 h2
    | _ => cases h3
theorem QL.anyInw {n g : Nat} {L : Array Bool → Act → Prop} {Q : Exit → Act → World → Prop} (nd : noDefer ops = true) (hL : ∀ ls a w, C w → L ls a → wpAnyIn (Fence.wide) m P md ops Q g ls a w) (f : Nat) :
    ∀ ls a w, C w → QL P md ops C n L f ls a → wpAnyIn (Fence.wide) m P md ops Q (f + g) ls a w := by
  induction f with
  | zero => intro ls a w hw h; rw [Nat.zero_add]; exact hL _ _ _ hw h
  | succ f ih =>
    intro ls a w hw h
    rw [Nat.succ_add_eq_add_succ]
    refine ⟨fun e => absurd e h.1, fun i hi => ?_⟩
    have q := (h.2 i hi).2
    unfold qOp at q
    unfold wpOpIn
    split
    · rename_i ho; simp only [ho] at q; exact ih _ _ _ hw q
    · rename_i o ho
      simp only [ho] at q
      split
      · rename_i hwt; simp only [hwt, if_true] at q; exact quiet_inw (noDefer_at nd ho) hw (fun a' w' hw' h' => ih _ a' w' hw' h') q
      · rename_i hwt; simp only [hwt] at q; exact ⟨fun _ _ => trivial, ih _ _ _ hw q⟩
theorem wpIn_region_below_tailw {id : Nat} {Q : Exit → Act → World → Prop} {a : Act} {w : World} {r : List Oper} (n : Nat) (hm : P.follows .mixedOrders = true) (hB : (noDefer r.toArray && Region.lexTailB .any r.toArray n) = true)
    (h : wpQuiet P r.toArray (fun w' => ∃ p : Regrown, w' = grow (redrawn w p.d) p.os) (fun a' => ∀ w', (∃ p : Regrown, w' = grow (redrawn w p.d) p.os) → wpListIn (Fence.wide) m P r.toArray Q (r.drop n) a' w') (r.take n) a) :
    (Code.region id r.toArray true).wpIn (Fence.wide) m P Q a w := by
  simp only [Region.lexTailB, Bool.and_eq_true, decide_eq_true_eq] at hB
  obtain ⟨nd, ⟨⟨⟨sel, hn⟩, hs⟩, hc⟩, lex⟩ := hB
  have ln : n < r.length := by simpa using hn
  have tl : (r.take n).length = n := by rw [List.length_take]; omega
  have dl : (r.drop n).length = r.toArray.size - n := by rw [List.length_drop]; simp
  have i0 : HeadInv .any r.toArray n (Array.replicate r.toArray.size false) :=
    ⟨by simp, fun j oj _ hl => (by rw [getD_replicate_false] at hl; cases hl), fun t _ ht => getD_in (by simpa using ht) (getD_replicate_false _ _)⟩
  have H := QL.lex (P := P) (md := .any) (g := r.toArray.size - n) sel hs hc hn (r.take n) 0 _ a (fun j hj => by
    rw [tl] at hj
    simp [hj]) (by rw [tl]; omega) i0 (by rw [tl]; exact lex) h
  have K := QL.anyInw (m := m) (Q := Q) (g := r.toArray.size - n) nd (fun ls a' w' hw' hL => by
    have t := seq_in (md := .any) (P := P) (m := m) (F := Fence.wide) (Q := Q) (r.drop n) n ls a' w' (fun j => by simp [List.getElem?_drop]) (by rw [dl]; exact hL.1) (hL.2 w' hw')
    rwa [dl] at t) _ _ a { w with drawn := w.drawn + 1 } ⟨⟨w.drawn + 1, #[]⟩, by rw [grow_empty]; rfl⟩ H
  rw [tl, show n + (r.toArray.size - n) = r.toArray.size by omega] at K
  exact wpIn_region_any hm K
end
end Go.Proofs.YtoolbnbfbegjaaaGreat
