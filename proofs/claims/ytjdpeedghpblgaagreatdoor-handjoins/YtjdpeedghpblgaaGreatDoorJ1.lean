/- Texts joined: Z13, Z14, Z15, Z16. -/
import Derived.Test.YtjdpeedghpblgaaGreatDoorZ12
/- A law on regions that draw their order: each of the first operations gives, in whatever order they come up, a value that has its property (it may tell of new blocks) and lets the world but grow; then others in their order. -/
set_option linter.all false
set_option autoImplicit false
namespace Go.Proofs.YtjdpeedghpblgaaGreatDoor
open Go Go.Sort Go.RowKit
section
variable {P : Program}
/-- What an operation does: it lets the world but grow, and what it gives is as φ says. -/
def Stp (P : Program) (w : World) (φ : Value → World → Prop) : Result Next → Prop
  | .ok (.value u) w' => Below w.heap.size w w' ∧ φ u w'
  | .ok (.enter f args) w' => w' = w ∧ Calls P f args w (fun e w'' => ∃ u, e = .returned u ∧ Below w.heap.size w w'' ∧ φ u w'')
  | _ => False
theorem Stp.wp {o : Oper} {a : Act} {w : World} {φ : Value → World → Prop} {K : Act → World → Prop} {Q : Exit → Act → World → Prop} (h : Stp P w φ ((execOp a.eval o).run P w))
    (hk : ∀ u w', Below w.heap.size w w' → φ u w' → K (a.put o.dst u) w') : o.wp P a w K Q := by
  unfold Oper.wp
  generalize (execOp a.eval o).run P w = r at *
  cases r with
  | ok n w' =>
    cases n <;> simp only [Stp] at h <;> simp only [Oper.upon]
    case value u => exact hk u w' h.1 h.2
    case enter f args =>
      obtain ⟨rfl, hc⟩ := h
      exact hc.mono fun e w'' ⟨u, he, hb, hf⟩ => by subst he; exact hk u w'' hb hf
  | halt x w' => simp only [Stp] at h
def dOf (l : List Oper) (i : Nat) : Tmp := (l[i]?.bind (·.dst)).getD 0
def puts (a : Act) : List Oper → Nat → (Nat → Value) → Act
  | [], _, _ => a
  | o :: l, k, x => puts (a.put o.dst (x k)) l (k + 1) x
/-- What is asked of the operations' make. -/
def relB (l : List Oper) (n N : Nat) : Bool :=
  decide (n < l.length) && Region.noSelect l.toArray && Region.sinkB .any l.toArray n && Region.chainB .any l.toArray n && Region.seqB .any l.toArray (l.length - n) n (Array.replicate n true ++ Array.replicate (l.length - n) false) &&
  (List.range n).all fun i => match l[i]? with
    | none => false
    | some o => o.guard.isNone && (o.after.all fun e => !(Region.binds .any e) || decide (e.on < i)) && (match o.dst with
      | none => false
      | some d => decide (d < N) && (List.range n).all fun j => j == i || match l[j]? with
        | none => false
        | some p => p.dst != some d) && (o.looksAt l.toArray).all fun t => (List.range n).all fun j => match l[j]? with
        | none => false
        | some p => p.dst != some t || Region.waitsFor .any l.toArray i j
structure RelS (l : List Oper) (n N : Nat) : Prop where
  ln : n < l.length
  sel : Region.noSelect l.toArray = true
  snk : Region.sinkB .any l.toArray n = true
  chn : Region.chainB .any l.toArray n = true
  sq : Region.seqB .any l.toArray (l.length - n) n (Array.replicate n true ++ Array.replicate (l.length - n) false) = true
  op : ∀ i, i < n → ∃ o, l[i]? = some o ∧ o.guard = none ∧ (∀ e ∈ o.after, Region.binds .any e = true → e.on < i) ∧ o.dst = some (dOf l i) ∧ dOf l i < N ∧
    (∀ j, j < n → j ≠ i → dOf l j ≠ dOf l i) ∧ ∀ j, j < n → dOf l j ∈ o.looksAt l.toArray → Region.waitsFor .any l.toArray i j = true
theorem relB.spec {l : List Oper} {n N : Nat} (h : relB l n N = true) : RelS l n N := by
  unfold relB at h
  simp only [Bool.and_eq_true, decide_eq_true_eq] at h
  obtain ⟨⟨⟨⟨⟨h1, h2⟩, h3⟩, h4⟩, h5⟩, h6⟩ := h
  have g : ∀ i, i < n → ∃ o d, l[i]? = some o ∧ o.guard = none ∧ (∀ e ∈ o.after, Region.binds .any e = true → e.on < i) ∧ o.dst = some d ∧ d < N ∧
      (∀ j, j < n → j ≠ i → ∀ p, l[j]? = some p → p.dst ≠ some d) ∧ ∀ t ∈ o.looksAt l.toArray, ∀ j, j < n → ∀ p, l[j]? = some p → p.dst = some t → Region.waitsFor .any l.toArray i j = true := by
    intro i hi
    have t := List.all_eq_true.1 h6 i (List.mem_range.2 hi)
    cases ho : l[i]? with
    | none => simp [ho] at t
    | some o =>
      simp only [ho, Bool.and_eq_true] at t
      obtain ⟨⟨⟨t1, t2⟩, t3⟩, t4⟩ := t
      cases hd : o.dst with
      | none => simp [hd] at t3
      | some d =>
        simp only [hd, Bool.and_eq_true, decide_eq_true_eq] at t3
        refine ⟨o, d, rfl, by simpa using t1, fun e he hb => ?_, hd, t3.1, fun j hj hne p hp hpd => ?_, fun u hu j hj p hp hpd => ?_⟩
        · have := Array.all_eq_true_iff_forall_mem.1 t2 e he
          simpa [hb] using this
        · have := List.all_eq_true.1 t3.2 j (List.mem_range.2 hj)
          simp [hp, hpd, hne] at this
        · have := List.all_eq_true.1 (List.all_eq_true.1 t4 u hu) j (List.mem_range.2 hj)
          simpa [hp, hpd] using this
  have dd : ∀ i, i < n → ∃ o, l[i]? = some o ∧ o.dst = some (dOf l i) := fun i hi => by
    obtain ⟨o, d, ho, _, _, hd, _⟩ := g i hi
    exact ⟨o, ho, by simp [dOf, ho, hd]⟩
  refine ⟨h1, h2, h3, h4, h5, fun i hi => ?_⟩
  obtain ⟨o, d, ho, q1, q2, hd, q3, q4, q5⟩ := g i hi
  have e : dOf l i = d := by simp [dOf, ho, hd]
  rw [e]
  refine ⟨o, ho, q1, q2, hd, q3, fun j hj hne c => ?_, fun j hj hm => ?_⟩
  · obtain ⟨p, hp, hpd⟩ := dd j hj
    exact q4 j hj hne p hp (by rw [hpd, c])
  · obtain ⟨p, hp, hpd⟩ := dd j hj
    exact q5 _ hm j hj p hp hpd
theorem puts_size (x : Nat → Value) : ∀ (l : List Oper) (a : Act) (k : Nat), (puts a l k x).tmps.size = a.tmps.size := by
  intro l
  induction l with
  | nil => intro a k; rfl
  | cons o l ih => intro a k; rw [puts, ih]; cases o.dst <;> simp [Act.put]
theorem puts_defers (x : Nat → Value) : ∀ (l : List Oper) (a : Act) (k : Nat), (puts a l k x).defers = a.defers := by
  intro l
  induction l with
  | nil => intro a k; rfl
  | cons o l ih => intro a k; rw [puts, ih]; cases o.dst <;> simp [Act.put]
theorem puts_oth (x : Nat → Value) (t : Nat) : ∀ (l : List Oper) (a : Act) (k : Nat), (∀ o ∈ l, o.dst ≠ some t) → (puts a l k x).tmps.getD t undef = a.tmps.getD t undef := by
  intro l
  induction l with
  | nil => intro a k _; rfl
  | cons o l ih =>
    intro a k h
    rw [puts, ih _ _ (fun p hp => h p (List.mem_cons_of_mem _ hp)), put_oth _ _ _ _ (h o (List.mem_cons_self ..))]
theorem puts_at (x : Nat → Value) (t : Nat) : ∀ (l : List Oper) (a : Act) (k j : Nat) (o : Oper), l[j]? = some o → o.dst = some t → t < a.tmps.size → (∀ i p, l[i]? = some p → i ≠ j → p.dst ≠ some t) → (puts a l k x).tmps.getD t undef = x (k + j) := by
  intro l
  induction l with
  | nil => intro a k j o h; cases h
  | cons p l ih =>
    intro a k j o h hd ht hne
    rw [puts]
    cases j with
    | zero =>
      simp only [List.getElem?_cons_zero, Option.some.injEq] at h
      subst h
      rw [puts_oth x t l _ _ (fun q hq => by
        obtain ⟨i, hi⟩ := List.getElem?_of_mem hq
        exact hne (i + 1) q (by simpa using hi) (by omega)), hd, put_get _ _ _ ht]
      rfl
    | succ j =>
      rw [ih _ (k + 1) j o (by simpa using h) hd (by rw [put_size]; exact ht) (fun i q hi hij => hne (i + 1) q (by simpa using hi) (by omega))]
      congr 1
      omega
/-- What holds while they come up. -/
structure RInv (l : List Oper) (n : Nat) (a0 : Act) (w0 : World) (V : Nat → Value → World → Prop) (ls : Array Bool) (a : Act) (w : World) : Prop where
  hd : HeadInv .any l.toArray n ls
  bl : Below w0.heap.size w0 w
  sz : a.tmps.size = a0.tmps.size
  df : a.defers = a0.defers
  vs : ∀ i, i < n → ls.getD i true = true → V i (a.tmps.getD (dOf l i) undef) w
  ot : ∀ t, (∀ i, i < n → ls.getD i true = true → dOf l i ≠ t) → a.tmps.getD t undef = a0.tmps.getD t undef
def left (n : Nat) (ls : Array Bool) : Nat := ((List.range n).filter fun i => !(ls.getD i true)).length
theorem left_set {n : Nat} {ls : Array Bool} {i : Nat} (hi : i < n) (hs : ls.getD i true = false) : left n (ls.setIfInBounds i true) + 1 = left n ls := by
  unfold left
  have hlt : i < ls.size := flag_lt hs
  have e : ∀ j, (ls.setIfInBounds i true).getD j true = if j = i then true else ls.getD j true := fun j => by
    by_cases c : j = i
    · subst c; simp [hlt]
    · rw [if_neg c, getD_set_ne true (fun x => c x.symm)]
  have g : ∀ m, i < m → ((List.range m).filter fun j => !((ls.setIfInBounds i true).getD j true)).length + 1 = ((List.range m).filter fun j => !(ls.getD j true)).length := by
    intro m
    induction m with
    | zero => intro h; omega
    | succ m ih =>
      intro h
      rw [List.range_succ, List.filter_append, List.filter_append, List.length_append, List.length_append]
      by_cases c : i < m
      · have := ih c
        have q : ([m].filter fun j => !((ls.setIfInBounds i true).getD j true)) = [m].filter fun j => !(ls.getD j true) := by
          simp only [List.filter_cons, List.filter_nil, e m, show ¬ m = i by omega, if_false]
        rw [q]; omega
      · have c' : m = i := by omega
        subst c'
        have q : ((List.range m).filter fun j => !((ls.setIfInBounds m true).getD j true)) = (List.range m).filter fun j => !(ls.getD j true) := by
          apply List.filter_congr
          intro j hj
          rw [e j, if_neg (by have := List.mem_range.1 hj; omega)]
        rw [q]
        simp only [List.filter_cons, List.filter_nil, e m, if_pos rfl, hs]
        simp
  exact g n hi
theorem left_zero {n : Nat} {ls : Array Bool} (h : left n ls = 0) (i : Nat) (hi : i < n) : ls.getD i true = true := by
  unfold left at h
  have := List.eq_nil_of_length_eq_zero h
  rw [List.filter_eq_nil_iff] at this
  have := this i (List.mem_range.2 hi)
  simpa using this
theorem left_some {n : Nat} {ls : Array Bool} {f : Nat} (h : left n ls = f + 1) : ∃ i, i < n ∧ ls.getD i true = false ∧ ∀ j, j < i → ls.getD j true = true := by
  have ex : ∃ i, i < n ∧ ls.getD i true = false := by
    unfold left at h
    have : ((List.range n).filter fun i => !(ls.getD i true)) ≠ [] := fun c => by rw [c] at h; simp at h
    obtain ⟨i, hi⟩ := List.exists_mem_of_ne_nil _ this
    rw [List.mem_filter] at hi
    exact ⟨i, List.mem_range.1 hi.1, by simpa using hi.2⟩
  obtain ⟨i, hi, hf⟩ := ex
  induction i using Nat.strongRecOn with
  | _ i ih =>
    by_cases c : ∀ j, j < i → ls.getD j true = true
    · exact ⟨i, hi, hf, c⟩
    · simp only [Classical.not_forall] at c
      obtain ⟨j, hj, hc⟩ := c
      exact ih j hj (by omega) (by simpa using hc)
/-- Operands that are no slots. -/
structure Plain (ρ : Operand → Value) : Prop where
  c : ∀ v, ρ (.const v) = v
  f : ∀ g, ρ (.func g) = .func (.func g) #[] #[]
  g : ∀ g, ρ (.global g) = .pointer (some ⟨g, 0, none⟩)
theorem Stp.val {w : World} {φ : Value → World → Prop} {r : Result Next} {v : Value} (h : r = .ok (.value v) w) (hv : φ v w) : Stp P w φ r := by rw [h]; exact ⟨Below.refl _ _, hv⟩
theorem Stp.new {w w' : World} {φ : Value → World → Prop} {r : Result Next} {v : Value} (h : r = .ok (.value v) w') (hb : Below w.heap.size w w') (hv : φ v w') : Stp P w φ r := by rw [h]; exact ⟨hb, hv⟩
theorem Stp.call {w : World} {φ : Value → World → Prop} {r : Result Next} {v : Value} {f : FuncId} {args : Array Value} (h : r = .ok (.enter f args) w) (c : Calls P f args w fun e w' => e = .returned v ∧ Below w.heap.size w w') (hv : ∀ w', φ v w') : Stp P w φ r := by
  rw [h]
  exact ⟨rfl, c.mono fun e w' ⟨h1, h2⟩ => ⟨v, h1, h2, hv w'⟩⟩
theorem Stp.calls {w : World} {φ : Value → World → Prop} {r : Result Next} {f : FuncId} {args : Array Value} (h : r = .ok (.enter f args) w) (c : Calls P f args w fun e w' => ∃ u, e = .returned u ∧ Below w.heap.size w w' ∧ φ u w') : Stp P w φ r := by
  rw [h]
  exact ⟨rfl, c⟩
/-- What an operation sees in slot t: what one of the first ones gave, or what was there. -/
def seen (l : List Oper) (n : Nat) (V : Nat → Value → World → Prop) (a0 : Act) (ρ : Operand → Value) (W : World) (t : Nat) : Prop := match (List.range n).find? (fun j => dOf l j == t) with
  | some j => V j (ρ (.tmp t)) W
  | none => ρ (.tmp t) = a0.eval (.tmp t)
theorem rel_core {Q : Exit → Act → World → Prop} {l : List Oper} {n : Nat} {a0 : Act} {w0 : World} {V : Nat → Value → World → Prop} (S : RelS l n a0.tmps.size)
    (st : ∀ i v w w', V i v w → Below w.heap.size w w' → V i v w')
    (ho : ∀ i o ρ W, i < n → l[i]? = some o → Below w0.heap.size w0 W → Plain ρ → (∀ t, (o.looksAt l.toArray).contains t = true → seen l n V a0 ρ W t) → Stp P W (V i) ((execOp ρ o).run P W))
    (ht : ∀ x W, Below w0.heap.size w0 W → (∀ i, i < n → V i (x i) W) → wpList P l.toArray Q (l.drop n) (puts a0 (l.take n) 0 x) W) (f : Nat) :
    ∀ ls a w, RInv l n a0 w0 V ls a w → left n ls = f → wpAny P .any l.toArray Q (f + (l.length - n)) ls a w := by
  have hn : n < l.toArray.size := by simpa using S.ln
  have tk : ∀ i, i < n → (l.take n)[i]? = l[i]? := fun i hi => by rw [List.getElem?_take, if_pos hi]
  have slot : ∀ (x : Nat → Value) i, i < n → (puts a0 (l.take n) 0 x).tmps.getD (dOf l i) undef = x i := fun x i hi => by
    obtain ⟨o, h1, _, _, h2, h3, h4, _⟩ := S.op i hi
    have := puts_at x (dOf l i) (l.take n) a0 0 i o (by rw [tk i hi]; exact h1) h2 h3 (fun j p hp hne c => by
      have hj : j < n := by have := (List.getElem?_eq_some_iff.1 hp).1; rw [List.length_take] at this; omega
      rw [tk j hj] at hp
      obtain ⟨p', h1', _, _, h2', _⟩ := S.op j hj
      rw [h1'] at hp
      cases hp
      rw [h2'] at c
      exact h4 j hj hne (Option.some.inj c))
    rwa [Nat.zero_add] at this
  have rest : ∀ (x : Nat → Value) t, (∀ i, i < n → dOf l i ≠ t) → (puts a0 (l.take n) 0 x).tmps.getD t undef = a0.tmps.getD t undef := fun x t h =>
    puts_oth x t (l.take n) a0 0 (fun p hp c => by
      obtain ⟨j, hj⟩ := List.getElem?_of_mem hp
      have hjn : j < n := by have := (List.getElem?_eq_some_iff.1 hj).1; rw [List.length_take] at this; omega
      rw [tk j hjn] at hj
      obtain ⟨p', h1', _, _, h2', _⟩ := S.op j hjn
      rw [h1'] at hj
      cases hj
      rw [h2'] at c
      exact h j hjn (Option.some.inj c))
  induction f with
  | zero =>
    intro ls a w I h0
    have all := left_zero h0
    have els : ls = Array.replicate n true ++ Array.replicate (l.length - n) false := by
      have z : ls.size = l.length := by rw [I.hd.size]; simp
      apply Array.ext
      · simp [z]; have := S.ln; omega
      · intro i h1 h2
        by_cases c : i < n
        · have := all i c
          simp [h1] at this
          rw [Array.getElem_append_left (by simpa using c)]
          simp [this]
        · have := I.hd.tail i (by omega) (by simp; omega)
          simp [h1] at this
          rw [Array.getElem_append_right (by simp; omega)]
          simp [this]
    have ea : a = puts a0 (l.take n) 0 (fun i => a.tmps.getD (dOf l i) undef) := by
      have p1 := puts_size (fun i => a.tmps.getD (dOf l i) undef) (l.take n) a0 0
      have p2 := puts_defers (fun i => a.tmps.getD (dOf l i) undef) (l.take n) a0 0
      have e1 : a.tmps = (puts a0 (l.take n) 0 (fun i => a.tmps.getD (dOf l i) undef)).tmps := by
        apply Array.ext
        · rw [I.sz, p1]
        · intro t h1 h2
          have : a.tmps.getD t undef = (puts a0 (l.take n) 0 (fun i => a.tmps.getD (dOf l i) undef)).tmps.getD t undef := by
            by_cases c : ∃ i, i < n ∧ dOf l i = t
            · obtain ⟨i, hi, rfl⟩ := c
              rw [slot _ i hi]
            · have c' : ∀ i, i < n → dOf l i ≠ t := fun i hi e => c ⟨i, hi, e⟩
              rw [rest _ t c', I.ot t (fun i hi _ => c' i hi)]
          generalize (puts a0 (l.take n) 0 (fun i => a.tmps.getD (dOf l i) undef)).tmps = X at *
          have g1 : a.tmps.getD t undef = a.tmps[t] := by simp [h1]
          have g2 : X.getD t undef = X[t] := by simp [h2]
          rw [← g1, ← g2]; exact this
      have e2 : a.defers = (puts a0 (l.take n) 0 (fun i => a.tmps.getD (dOf l i) undef)).defers := by rw [I.df, p2]
      cases a
      cases hp : puts a0 (l.take n) 0 _
      rw [hp] at e1 e2
      simp only at e1 e2
      rw [e1, e2]
    have t := ht _ w I.bl (fun i hi => I.vs i hi (all i hi))
    rw [← ea] at t
    rw [Nat.zero_add]
    have r := wpAny_of_seq (md := .any) (P := P) (Q' := Q) (l.drop n) n ls a w (fun j => by simp [List.getElem?_drop]) (by rw [List.length_drop, els]; exact S.sq) t
    rwa [List.length_drop] at r
  | succ f ih =>
    intro ls a w I hf
    obtain ⟨i0, hi0, hu0, hlow⟩ := left_some hf
    have low : ∀ j, j ∈ Region.ready .any l.toArray ls → j < n := fun j hj => by
      rcases Nat.lt_or_ge j n with c | c
      · exact c
      · exact absurd hj (tail_waits S.snk S.chn hn I.hd (n - i0) i0 rfl hi0 hu0 j c)
    have szl : ls.size = l.length := by rw [I.hd.size]; simp
    have fin : ∀ j, j < n → ls.getD j true = true → ls.getD j false = true := fun j hj h => by
      have : j < ls.size := by rw [szl]; have := S.ln; omega
      simp [this] at h ⊢
      exact h
    have rdy : i0 ∈ Region.ready .any l.toArray ls := by
      obtain ⟨o, h1, _, h2, _⟩ := S.op i0 hi0
      exact mem_ready.2 ⟨hu0, o, by simpa using h1, fun e he hb => fin _ (Nat.lt_trans (h2 e he hb) hi0) (hlow _ (h2 e he hb))⟩
    rw [Nat.succ_add]
    refine ⟨fun h => absurd rdy (by rw [h]; simp), fun i hi => ?_⟩
    have hin := low i hi
    obtain ⟨o, h1, hg, h2, hd, hdn, hdd, hw⟩ := S.op i hin
    have h1' : l.toArray[i]? = some o := by simpa using h1
    obtain ⟨hun, o', ho', hall⟩ := mem_ready.1 hi
    rw [h1'] at ho'
    cases ho'
    have done : ∀ j, j < n → dOf l j ∈ o.looksAt l.toArray → ls.getD j true = true := fun j hj hm => by
      obtain ⟨oj, hoj, e, he, hb, hon⟩ := Region.waitsFor_spec (hw j hj hm)
      rw [h1'] at hoj
      cases hoj
      have := hall e he hb
      rw [hon] at this
      have hl : j < ls.size := by rw [szl]; have := S.ln; omega
      simp [hl] at this ⊢
      exact this
    have sp := ho i o a.eval w hin h1 I.bl ⟨fun _ => rfl, fun _ => rfl, fun _ => rfl⟩ (fun t hc => by
      have hm : t ∈ o.looksAt l.toArray := List.contains_iff_mem.1 hc
      unfold seen
      cases hf : (List.range n).find? (fun j => dOf l j == t) with
      | some j =>
        have h3 := List.find?_some hf
        have hj := List.mem_range.1 (List.mem_of_find?_eq_some hf)
        have e : dOf l j = t := by simpa using h3
        subst e
        exact I.vs j hj (done j hj hm)
      | none =>
        rw [List.find?_eq_none] at hf
        exact I.ot t (fun j hj _ e => by have := hf j (List.mem_range.2 hj); simp [e] at this))
    unfold wpOp
    rw [h1']
    simp only
    rw [if_pos (by simp [Region.wanted, hg])]
    refine .inl (Stp.wp sp fun u w' hb hv => ?_)
    rw [hd]
    refine ih _ _ _ ⟨I.hd.set hi hin, I.bl.trans (hb.mono I.bl.size), by rw [put_size]; exact I.sz, by rw [← I.df]; rfl, fun j hj hjd => ?_, fun t hto => ?_⟩ (by have := left_set hin hun; omega)
    · by_cases c : j = i
      · subst c
        rw [put_get _ _ _ (by rw [I.sz]; exact hdn)]
        exact hv
      · rw [getD_set_ne true (fun e => c e.symm)] at hjd
        rw [put_oth _ _ _ _ (by intro e; exact hdd j hj c (Option.some.inj e).symm)]
        exact st j _ w w' (I.vs j hj hjd) hb
    · have hlt : i < ls.size := flag_lt hun
      have hti := hto i hin (by simp [hlt])
      rw [put_oth _ _ _ _ (by intro e; exact hti (Option.some.inj e))]
      refine I.ot t fun j hj hjd => hto j hj ?_
      by_cases c : j = i
      · subst c; simp [hlt]
      · rw [getD_set_ne true (fun e => c e.symm)]; exact hjd
theorem wp_region_rel {id : Nat} {Q : Exit → Act → World → Prop} {a : Act} {w : World} {l : List Oper} (n : Nat) (V : Nat → Value → World → Prop) (hm : P.follows .mixedOrders = true) (hB : relB l n a.tmps.size = true)
    (st : ∀ i v w w', V i v w → Below w.heap.size w w' → V i v w')
    (ho : ∀ i o ρ W, i < n → l[i]? = some o → Below w.heap.size w W → Plain ρ → (∀ t, (o.looksAt l.toArray).contains t = true → seen l n V a ρ W t) → Stp P W (V i) ((execOp ρ o).run P W))
    (ht : ∀ x W, Below w.heap.size w W → (∀ i, i < n → V i (x i) W) → wpList P l.toArray Q (l.drop n) (puts a (l.take n) 0 x) W) : (Code.region id l.toArray true).wp P Q a w := by
  have S := relB.spec hB
  have fl : ∀ i, i < l.length → (Array.replicate l.toArray.size false).getD i true = false := fun i hi => by simp [hi]
  have z : left n (Array.replicate l.toArray.size false) = n := by
    unfold left
    rw [List.filter_eq_self.2 (fun i hi => by rw [fl i (by have := List.mem_range.1 hi; have := S.ln; omega)]; rfl), List.length_range]
  have H : HeadInv .any l.toArray n (Array.replicate l.toArray.size false) :=
    ⟨by simp, (fun j oj _ h => by rw [getD_replicate_false] at h; cases h), (fun t _ ht' => fl t (by simpa using ht'))⟩
  have r := rel_core S st ho ht n (Array.replicate l.toArray.size false) a { w with drawn := w.drawn + 1 } ⟨H, ⟨rfl, rfl, rfl, Nat.le_refl _, fun _ _ => rfl⟩, rfl, rfl, (fun i hi h => by
      rw [fl i (by have := S.ln; omega)] at h
      cases h), fun t _ => rfl⟩ z
  refine wp_region_any hm ?_
  have e : n + (l.length - n) = l.toArray.size := by have := S.ln; simp; omega
  rw [e] at r
  exact r
end
end Go.Proofs.YtjdpeedghpblgaaGreatDoor
/- A law on regions that draw their order: every operation gives, in whatever order they come up, a value that has its property, and turns the world as a relation allows; no order of the text is asked for. -/
set_option linter.all false
set_option autoImplicit false
namespace Go.Proofs.YtjdpeedghpblgaaGreatDoor
open Go Go.Sort Go.RowKit
section
variable {P : Program}
def StG (P : Program) (G : World → World → Prop) (w : World) (φ : Value → World → Prop) : Result Next → Prop
  | .ok (.value u) w' => G w w' ∧ φ u w'
  | .ok .skip w' => G w w' ∧ φ undef w'
  | .ok (.enter f args) w' => w' = w ∧ Calls P f args w (fun e w'' => ∃ u, e = .returned u ∧ G w w'' ∧ φ u w'')
  | _ => False
theorem StG.wp {G : World → World → Prop} {o : Oper} {a : Act} {w : World} {φ : Value → World → Prop} {K : Act → World → Prop} {Q : Exit → Act → World → Prop} (h : StG P G w φ ((execOp a.eval o).run P w))
    (hk : ∀ u w', G w w' → φ u w' → K (a.put o.dst u) w') : o.wp P a w K Q := by
  unfold Oper.wp
  generalize (execOp a.eval o).run P w = r at *
  cases r with
  | ok n w' =>
    cases n <;> simp only [StG] at h <;> simp only [Oper.upon]
    case value u => exact hk u w' h.1 h.2
    case skip => exact hk undef w' h.1 h.2
    case enter f args =>
      obtain ⟨rfl, hc⟩ := h
      exact hc.mono fun e w'' ⟨u, he, hb, hf⟩ => by subst he; exact hk u w'' hb hf
  | halt x w' => simp only [StG] at h
theorem StG.val {G : World → World → Prop} {w : World} {φ : Value → World → Prop} {r : Result Next} {v : Value} (h : r = .ok (.value v) w) (hg : G w w) (hv : φ v w) : StG P G w φ r := by rw [h]; exact ⟨hg, hv⟩
theorem StG.new {G : World → World → Prop} {w w' : World} {φ : Value → World → Prop} {r : Result Next} {v : Value} (h : r = .ok (.value v) w') (hb : G w w') (hv : φ v w') : StG P G w φ r := by rw [h]; exact ⟨hb, hv⟩
theorem StG.put {G : World → World → Prop} {w w' : World} {φ : Value → World → Prop} {r : Result Next} (h : r = .ok .skip w') (hb : G w w') (hv : φ undef w') : StG P G w φ r := by rw [h]; exact ⟨hb, hv⟩
theorem StG.call {G : World → World → Prop} {w : World} {φ : Value → World → Prop} {r : Result Next} {v : Value} {f : FuncId} {args : Array Value} (h : r = .ok (.enter f args) w) (c : Calls P f args w fun e w' => e = .returned v ∧ Below w.heap.size w w') (hg : ∀ w', Below w.heap.size w w' → G w w') (hv : ∀ w', Below w.heap.size w w' → φ v w') : StG P G w φ r := by
  rw [h]
  exact ⟨rfl, c.mono fun e w' ⟨h1, h2⟩ => ⟨v, h1, hg w' h2, hv w' h2⟩⟩
/-- Where an operation puts what it gives. -/
def dAt (l : List Oper) (i : Nat) : Option Tmp := l[i]?.bind (·.dst)
def vAt (l : List Oper) (i : Nat) (a : Act) : Value := match dAt l i with
  | some d => a.tmps.getD d undef
  | none => undef
def uAt (l : List Oper) (i : Nat) (u : Value) : Value := match dAt l i with
  | some _ => u
  | none => undef
/-- What is asked of the operations' make. -/
def allB (l : List Oper) (N : Nat) : Bool :=
  Region.noSelect l.toArray &&
  (List.range l.length).all fun i => match l[i]? with
    | none => false
    | some o => o.guard.isNone && (o.after.all fun e => !(Region.binds .any e) || decide (e.on < i)) && (match o.dst with
      | none => true
      | some d => decide (d < N) && (List.range l.length).all fun j => j == i || match l[j]? with
        | none => false
        | some p => p.dst != some d) && (o.looksAt l.toArray).all fun t => (List.range l.length).all fun j => match l[j]? with
        | none => false
        | some p => p.dst != some t || Region.waitsFor .any l.toArray i j
structure AllS (l : List Oper) (N : Nat) : Prop where
  sel : Region.noSelect l.toArray = true
  op : ∀ i, i < l.length → ∃ o, l[i]? = some o ∧ o.guard = none ∧ (∀ e ∈ o.after, Region.binds .any e = true → e.on < i) ∧ (∀ d, o.dst = some d → d < N ∧ ∀ j p, l[j]? = some p → j ≠ i → p.dst ≠ some d) ∧
    ∀ t ∈ o.looksAt l.toArray, ∀ j p, l[j]? = some p → p.dst = some t → Region.waitsFor .any l.toArray i j = true
theorem allB.spec {l : List Oper} {N : Nat} (h : allB l N = true) : AllS l N := by
  unfold allB at h
  simp only [Bool.and_eq_true] at h
  obtain ⟨h1, h6⟩ := h
  have lt : ∀ {j : Nat} {p : Oper}, l[j]? = some p → j < l.length := fun h => (List.getElem?_eq_some_iff.1 h).1
  refine ⟨h1, fun i hi => ?_⟩
  have t := List.all_eq_true.1 h6 i (List.mem_range.2 hi)
  cases ho : l[i]? with
  | none => simp [ho] at t
  | some o =>
    simp only [ho, Bool.and_eq_true] at t
    obtain ⟨⟨⟨t1, t2⟩, t3⟩, t4⟩ := t
    refine ⟨o, rfl, by simpa using t1, fun e he hb => ?_, fun d hd => ?_, fun u hu j p hp hpd => ?_⟩
    · have := Array.all_eq_true_iff_forall_mem.1 t2 e he
      simpa [hb] using this
    · simp only [hd, Bool.and_eq_true, decide_eq_true_eq] at t3
      refine ⟨t3.1, fun j p hp hne hpd => ?_⟩
      have := List.all_eq_true.1 t3.2 j (List.mem_range.2 (lt hp))
      simp [hp, hpd, hne] at this
    · have := List.all_eq_true.1 (List.all_eq_true.1 t4 u hu) j (List.mem_range.2 (lt hp))
      simpa [hp, hpd] using this
structure AInv (l : List Oper) (a0 : Act) (w0 : World) (G : World → World → Prop) (V : Nat → Value → World → Prop) (ls : Array Bool) (a : Act) (w : World) : Prop where
  hd : ls.size = l.length
  bl : G w0 w
  sz : a.tmps.size = a0.tmps.size
  df : a.defers = a0.defers
  vs : ∀ i, i < l.length → ls.getD i true = true → V i (vAt l i a) w
  ot : ∀ t, (∀ i, i < l.length → ls.getD i true = true → dAt l i ≠ some t) → a.tmps.getD t undef = a0.tmps.getD t undef
/-- What an operation sees in slot t: what one of them gave, or what was there. -/
def seenA (l : List Oper) (V : Nat → Value → World → Prop) (a0 : Act) (ρ : Operand → Value) (W : World) (t : Nat) : Prop := match (List.range l.length).find? (fun j => dAt l j == some t) with
  | some j => V j (ρ (.tmp t)) W
  | none => ρ (.tmp t) = a0.eval (.tmp t)
theorem all_core {Q : Exit → Act → World → Prop} {l : List Oper} {a0 : Act} {w0 : World} {G : World → World → Prop} {V : Nat → Value → World → Prop} (S : AllS l a0.tmps.size) (gt : ∀ a b c, G a b → G b c → G a c)
    (st : ∀ i v w w', V i v w → G w0 w → G w w' → V i v w')
    (ho : ∀ i o ρ W, i < l.length → l[i]? = some o → G w0 W → Plain ρ → (∀ t, (o.looksAt l.toArray).contains t = true → seenA l V a0 ρ W t) → StG P G W (fun u W' => V i (uAt l i u) W') ((execOp ρ o).run P W))
    (ht : ∀ x W, G w0 W → (∀ i, i < l.length → V i (x i) W) → Q .normal (puts a0 l 0 x) W) (f : Nat) :
    ∀ ls a w, AInv l a0 w0 G V ls a w → left l.length ls = f → wpAny P .any l.toArray Q f ls a w := by
  have lt : ∀ {j : Nat} {p : Oper}, l[j]? = some p → j < l.length := fun h => (List.getElem?_eq_some_iff.1 h).1
  have slot : ∀ (x : Nat → Value) i t, i < l.length → dAt l i = some t → (puts a0 l 0 x).tmps.getD t undef = x i := fun x i t hi hd => by
    obtain ⟨o, h1, _, _, h2, _⟩ := S.op i hi
    have hd' : o.dst = some t := by simpa [dAt, h1] using hd
    have := puts_at x t l a0 0 i o h1 hd' (h2 t hd').1 (fun j p hp hne => (h2 t hd').2 j p hp hne)
    rwa [Nat.zero_add] at this
  have rest : ∀ (x : Nat → Value) t, (∀ i, i < l.length → dAt l i ≠ some t) → (puts a0 l 0 x).tmps.getD t undef = a0.tmps.getD t undef := fun x t h =>
    puts_oth x t l a0 0 (fun p hp c => by
      obtain ⟨j, hj⟩ := List.getElem?_of_mem hp
      exact h j (lt hj) (by simp [dAt, hj, c]))
  induction f with
  | zero =>
    intro ls a w I h0
    have all := left_zero h0
    have ea : a = puts a0 l 0 (fun i => vAt l i a) := by
      have p1 := puts_size (fun i => vAt l i a) l a0 0
      have p2 := puts_defers (fun i => vAt l i a) l a0 0
      have e1 : a.tmps = (puts a0 l 0 (fun i => vAt l i a)).tmps := by
        apply Array.ext
        · rw [I.sz, p1]
        · intro t h1 h2
          have : a.tmps.getD t undef = (puts a0 l 0 (fun i => vAt l i a)).tmps.getD t undef := by
            by_cases c : ∃ i, i < l.length ∧ dAt l i = some t
            · obtain ⟨i, hi, hc⟩ := c
              rw [slot _ i t hi hc]
              simp only [vAt, hc]
            · have c' : ∀ i, i < l.length → dAt l i ≠ some t := fun i hi e => c ⟨i, hi, e⟩
              rw [rest _ t c', I.ot t (fun i hi _ => c' i hi)]
          generalize (puts a0 l 0 (fun i => vAt l i a)).tmps = X at *
          have g1 : a.tmps.getD t undef = a.tmps[t] := by simp [h1]
          have g2 : X.getD t undef = X[t] := by simp [h2]
          rw [← g1, ← g2]; exact this
      have e2 : a.defers = (puts a0 l 0 (fun i => vAt l i a)).defers := by rw [I.df, p2]
      generalize puts a0 l 0 (fun i => vAt l i a) = b at *
      cases a
      cases b
      simp only at e1 e2
      rw [e1, e2]
    have t := ht _ w I.bl (fun i hi => I.vs i hi (all i hi))
    rw [← ea] at t
    refine ⟨?_, t⟩
    refine List.eq_nil_iff_forall_not_mem.2 fun i hi => ?_
    obtain ⟨hun, o', ho', _⟩ := mem_ready.1 hi
    have hi' : i < l.length := lt (by simpa using ho')
    rw [all i hi'] at hun
    cases hun
  | succ f ih =>
    intro ls a w I hf
    obtain ⟨i0, hi0, hu0, hlow⟩ := left_some hf
    have fin : ∀ j, j < l.length → ls.getD j true = true → ls.getD j false = true := fun j hj h => by
      have : j < ls.size := by rw [I.hd]; exact hj
      simp [this] at h ⊢
      exact h
    have rdy : i0 ∈ Region.ready .any l.toArray ls := by
      obtain ⟨o, h1, _, h2, _⟩ := S.op i0 hi0
      exact mem_ready.2 ⟨hu0, o, by simpa using h1, fun e he hb => fin _ (Nat.lt_trans (h2 e he hb) hi0) (hlow _ (h2 e he hb))⟩
    refine ⟨fun h => absurd rdy (by rw [h]; simp), fun i hi => ?_⟩
    obtain ⟨hun, o', ho', hall⟩ := mem_ready.1 hi
    have hin : i < l.length := lt (by simpa using ho')
    obtain ⟨o, h1, hg, h2, hd, hw⟩ := S.op i hin
    have h1' : l.toArray[i]? = some o := by simpa using h1
    rw [h1'] at ho'
    have e' : o = o' := Option.some.inj ho'
    subst e'
    have done : ∀ j p t, l[j]? = some p → p.dst = some t → t ∈ o.looksAt l.toArray → ls.getD j true = true := fun j p t hp hpd hm => by
      obtain ⟨oj, hoj, e, he, hb, hon⟩ := Region.waitsFor_spec (hw t hm j p hp hpd)
      rw [h1'] at hoj
      cases hoj
      have := hall e he hb
      rw [hon] at this
      have hl : j < ls.size := by rw [I.hd]; exact lt hp
      simp [hl] at this ⊢
      exact this
    have sp := ho i o a.eval w hin h1 I.bl ⟨fun _ => rfl, fun _ => rfl, fun _ => rfl⟩ (fun t hc => by
      have hm : t ∈ o.looksAt l.toArray := List.contains_iff_mem.1 hc
      unfold seenA
      cases hf : (List.range l.length).find? (fun j => dAt l j == some t) with
      | some j =>
        have h3 := List.find?_some hf
        have hj := List.mem_range.1 (List.mem_of_find?_eq_some hf)
        have e : dAt l j = some t := by simpa using h3
        obtain ⟨p, hp, _⟩ := S.op j hj
        have hpd : p.dst = some t := by simpa [dAt, hp] using e
        have := I.vs j hj (done j p t hp hpd hm)
        simp only [vAt, e] at this
        exact this
      | none =>
        rw [List.find?_eq_none] at hf
        exact I.ot t (fun j hj _ e => by have := hf j (List.mem_range.2 hj); simp [e] at this))
    unfold wpOp
    rw [h1']
    simp only
    rw [if_pos (by simp [Region.wanted, hg])]
    refine .inl (StG.wp sp fun u w' hb hv => ?_)
    have dd : dAt l i = o.dst := by simp [dAt, h1]
    refine ih _ _ _ ⟨by rw [Array.size_setIfInBounds]; exact I.hd, gt _ _ _ I.bl hb, by rw [put_size]; exact I.sz, by rw [← I.df]; cases o.dst <;> rfl, fun j hj hjd => ?_, fun t hto => ?_⟩ (by have := left_set hin hun; omega)
    · by_cases c : j = i
      · subst c
        have e : vAt l j (a.put o.dst u) = uAt l j u := by
          unfold vAt uAt
          rw [dd]
          cases hdo : o.dst with
          | none => rfl
          | some d => simp only; exact put_get _ _ _ (by rw [I.sz]; exact (hd d hdo).1)
        rw [e]
        exact hv
      · rw [getD_set_ne true (fun e => c e.symm)] at hjd
        have e : vAt l j (a.put o.dst u) = vAt l j a := by
          unfold vAt
          cases hdj : dAt l j with
          | none => rfl
          | some d =>
            simp only
            refine put_oth _ _ _ _ (fun e => ?_)
            obtain ⟨p, hp, _⟩ := S.op j hj
            exact (hd d e).2 j p hp c (by simpa [dAt, hp] using hdj)
        rw [e]
        exact st j _ w w' (I.vs j hj hjd) I.bl hb
    · have hlt : i < ls.size := flag_lt hun
      have hti := hto i hin (by simp [hlt])
      rw [put_oth _ _ _ _ (by rw [← dd]; exact hti)]
      refine I.ot t fun j hj hjd => hto j hj ?_
      by_cases c : j = i
      · subst c; simp [hlt]
      · rw [getD_set_ne true (fun e => c e.symm)]; exact hjd
theorem wp_region_all {id : Nat} {Q : Exit → Act → World → Prop} {a : Act} {w : World} {l : List Oper} (G : World → World → Prop) (V : Nat → Value → World → Prop) (hm : P.follows .mixedOrders = true) (hB : allB l a.tmps.size = true)
    (g0 : ∀ d, G w { w with drawn := d }) (gt : ∀ a b c, G a b → G b c → G a c)
    (st : ∀ i v w1 w2, V i v w1 → G w w1 → G w1 w2 → V i v w2)
    (ho : ∀ i o ρ W, i < l.length → l[i]? = some o → G w W → Plain ρ → (∀ t, (o.looksAt l.toArray).contains t = true → seenA l V a ρ W t) → StG P G W (fun u W' => V i (uAt l i u) W') ((execOp ρ o).run P W))
    (ht : ∀ x W, G w W → (∀ i, i < l.length → V i (x i) W) → Q .normal (puts a l 0 x) W) : (Code.region id l.toArray true).wp P Q a w := by
  have S := allB.spec hB
  have fl : ∀ i, i < l.length → (Array.replicate l.toArray.size false).getD i true = false := fun i hi => by simp [hi]
  have z : left l.length (Array.replicate l.toArray.size false) = l.length := by
    unfold left
    rw [List.filter_eq_self.2 (fun i hi => by rw [fl i (List.mem_range.1 hi)]; rfl), List.length_range]
  have r := all_core (w0 := w) S gt st ho ht l.length (Array.replicate l.toArray.size false) a { w with drawn := w.drawn + 1 } ⟨by simp, g0 _, rfl, rfl, (fun i hi h => by
      rw [fl i hi] at h
      cases h), fun t _ => rfl⟩ z
  refine wp_region_any hm ?_
  have e : l.length = l.toArray.size := by simp
  rw [e] at r
  exact r
end
end Go.Proofs.YtjdpeedghpblgaaGreatDoor
/- Laws on regions that draw their order, where a call may end in a panic. -/
set_option linter.all false
set_option autoImplicit false
namespace Go.Proofs.YtjdpeedghpblgaaGreatDoor
open Go Go.Sort Go.RowKit
section
variable {P : Program}
def StQ (P : Program) (Q : Exit → Act → World → Prop) (G : World → World → Prop) (w : World) (φ : Value → World → Prop) : Result Next → Prop
  | .ok (.value u) w' => G w w' ∧ φ u w'
  | .ok .skip w' => G w w' ∧ φ undef w'
  | .ok (.enter f args) w' => w' = w ∧ Calls P f args w (fun e w'' => (∃ u, e = .returned u ∧ G w w'' ∧ φ u w'') ∨ (∃ ch, e = .panicked ch ∧ ∀ a : Act, a.defers = [] → Q (.panic ch) a w''))
  | _ => False
theorem StQ.wp {Q : Exit → Act → World → Prop} {G : World → World → Prop} {o : Oper} {a : Act} {w : World} {φ : Value → World → Prop} {K : Act → World → Prop} (hd : a.defers = []) (h : StQ P Q G w φ ((execOp a.eval o).run P w))
    (hk : ∀ u w', G w w' → φ u w' → K (a.put o.dst u) w') : o.wp P a w K Q := by
  unfold Oper.wp
  generalize (execOp a.eval o).run P w = r at *
  cases r with
  | ok n w' =>
    cases n <;> simp only [StQ] at h <;> simp only [Oper.upon]
    case value u => exact hk u w' h.1 h.2
    case skip => exact hk undef w' h.1 h.2
    case enter f args =>
      obtain ⟨rfl, hc⟩ := h
      exact hc.mono fun e w'' hh => by
        rcases hh with ⟨u, he, hb, hf⟩ | ⟨ch, he, hq⟩
        · subst he; exact hk u w'' hb hf
        · subst he; exact hq _ hd
  | halt x w' => simp only [StQ] at h
theorem StQ.of {Q : Exit → Act → World → Prop} {G : World → World → Prop} {w : World} {φ : Value → World → Prop} {r : Result Next} (h : StG P G w φ r) : StQ P Q G w φ r := by
  cases r with
  | ok n w' =>
    cases n <;> simp only [StG] at h <;> simp only [StQ]
    case value u => exact h
    case skip => exact h
    case enter f args => exact ⟨h.1, h.2.mono fun e w'' hh => .inl hh⟩
  | halt x w' => simp only [StG] at h
theorem StQ.dies {Q : Exit → Act → World → Prop} {G : World → World → Prop} {w : World} {φ : Value → World → Prop} {r : Result Next} {f : FuncId} {args : Array Value} {ch : List PanicEntry} {R : World → Prop} (h : r = .ok (.enter f args) w) (c : Calls P f args w fun e w' => e = .panicked ch ∧ R w') (hq : ∀ w', R w' → ∀ a : Act, a.defers = [] → Q (.panic ch) a w') : StQ P Q G w φ r := by
  rw [h]
  exact ⟨rfl, c.mono fun e w' ⟨h1, h2⟩ => .inr ⟨ch, h1, hq w' h2⟩⟩
theorem all_coreQ {Q : Exit → Act → World → Prop} {l : List Oper} {a0 : Act} {w0 : World} {G : World → World → Prop} {V : Nat → Value → World → Prop} (hd0 : a0.defers = []) (S : AllS l a0.tmps.size) (gt : ∀ a b c, G a b → G b c → G a c)
    (st : ∀ i v w w', V i v w → G w0 w → G w w' → V i v w')
    (ho : ∀ i o ρ W, i < l.length → l[i]? = some o → G w0 W → Plain ρ → (∀ t, (o.looksAt l.toArray).contains t = true → seenA l V a0 ρ W t) → StQ P Q G W (fun u W' => V i (uAt l i u) W') ((execOp ρ o).run P W))
    (ht : ∀ x W, G w0 W → (∀ i, i < l.length → V i (x i) W) → Q .normal (puts a0 l 0 x) W) (f : Nat) :
    ∀ ls a w, AInv l a0 w0 G V ls a w → left l.length ls = f → wpAny P .any l.toArray Q f ls a w := by
  have lt : ∀ {j : Nat} {p : Oper}, l[j]? = some p → j < l.length := fun h => (List.getElem?_eq_some_iff.1 h).1
  have slot : ∀ (x : Nat → Value) i t, i < l.length → dAt l i = some t → (puts a0 l 0 x).tmps.getD t undef = x i := fun x i t hi hd => by
    obtain ⟨o, h1, _, _, h2, _⟩ := S.op i hi
    have hd' : o.dst = some t := by simpa [dAt, h1] using hd
    have := puts_at x t l a0 0 i o h1 hd' (h2 t hd').1 (fun j p hp hne => (h2 t hd').2 j p hp hne)
    rwa [Nat.zero_add] at this
  have rest : ∀ (x : Nat → Value) t, (∀ i, i < l.length → dAt l i ≠ some t) → (puts a0 l 0 x).tmps.getD t undef = a0.tmps.getD t undef := fun x t h =>
    puts_oth x t l a0 0 (fun p hp c => by
      obtain ⟨j, hj⟩ := List.getElem?_of_mem hp
      exact h j (lt hj) (by simp [dAt, hj, c]))
  induction f with
  | zero =>
    intro ls a w I h0
    have all := left_zero h0
    have ea : a = puts a0 l 0 (fun i => vAt l i a) := by
      have p1 := puts_size (fun i => vAt l i a) l a0 0
      have p2 := puts_defers (fun i => vAt l i a) l a0 0
      have e1 : a.tmps = (puts a0 l 0 (fun i => vAt l i a)).tmps := by
        apply Array.ext
        · rw [I.sz, p1]
        · intro t h1 h2
          have : a.tmps.getD t undef = (puts a0 l 0 (fun i => vAt l i a)).tmps.getD t undef := by
            by_cases c : ∃ i, i < l.length ∧ dAt l i = some t
            · obtain ⟨i, hi, hc⟩ := c
              rw [slot _ i t hi hc]
              simp only [vAt, hc]
            · have c' : ∀ i, i < l.length → dAt l i ≠ some t := fun i hi e => c ⟨i, hi, e⟩
              rw [rest _ t c', I.ot t (fun i hi _ => c' i hi)]
          generalize (puts a0 l 0 (fun i => vAt l i a)).tmps = X at *
          have g1 : a.tmps.getD t undef = a.tmps[t] := by simp [h1]
          have g2 : X.getD t undef = X[t] := by simp [h2]
          rw [← g1, ← g2]; exact this
      have e2 : a.defers = (puts a0 l 0 (fun i => vAt l i a)).defers := by rw [I.df, p2]
      generalize puts a0 l 0 (fun i => vAt l i a) = b at *
      cases a
      cases b
      simp only at e1 e2
      rw [e1, e2]
    have t := ht _ w I.bl (fun i hi => I.vs i hi (all i hi))
    rw [← ea] at t
    refine ⟨?_, t⟩
    refine List.eq_nil_iff_forall_not_mem.2 fun i hi => ?_
    obtain ⟨hun, o', ho', _⟩ := mem_ready.1 hi
    have hi' : i < l.length := lt (by simpa using ho')
    rw [all i hi'] at hun
    cases hun
  | succ f ih =>
    intro ls a w I hf
    obtain ⟨i0, hi0, hu0, hlow⟩ := left_some hf
    have fin : ∀ j, j < l.length → ls.getD j true = true → ls.getD j false = true := fun j hj h => by
      have : j < ls.size := by rw [I.hd]; exact hj
      simp [this] at h ⊢
      exact h
    have rdy : i0 ∈ Region.ready .any l.toArray ls := by
      obtain ⟨o, h1, _, h2, _⟩ := S.op i0 hi0
      exact mem_ready.2 ⟨hu0, o, by simpa using h1, fun e he hb => fin _ (Nat.lt_trans (h2 e he hb) hi0) (hlow _ (h2 e he hb))⟩
    refine ⟨fun h => absurd rdy (by rw [h]; simp), fun i hi => ?_⟩
    obtain ⟨hun, o', ho', hall⟩ := mem_ready.1 hi
    have hin : i < l.length := lt (by simpa using ho')
    obtain ⟨o, h1, hg, h2, hd, hw⟩ := S.op i hin
    have h1' : l.toArray[i]? = some o := by simpa using h1
    rw [h1'] at ho'
    have e' : o = o' := Option.some.inj ho'
    subst e'
    have done : ∀ j p t, l[j]? = some p → p.dst = some t → t ∈ o.looksAt l.toArray → ls.getD j true = true := fun j p t hp hpd hm => by
      obtain ⟨oj, hoj, e, he, hb, hon⟩ := Region.waitsFor_spec (hw t hm j p hp hpd)
      rw [h1'] at hoj
      cases hoj
      have := hall e he hb
      rw [hon] at this
      have hl : j < ls.size := by rw [I.hd]; exact lt hp
      simp [hl] at this ⊢
      exact this
    have sp := ho i o a.eval w hin h1 I.bl ⟨fun _ => rfl, fun _ => rfl, fun _ => rfl⟩ (fun t hc => by
      have hm : t ∈ o.looksAt l.toArray := List.contains_iff_mem.1 hc
      unfold seenA
      cases hf : (List.range l.length).find? (fun j => dAt l j == some t) with
      | some j =>
        have h3 := List.find?_some hf
        have hj := List.mem_range.1 (List.mem_of_find?_eq_some hf)
        have e : dAt l j = some t := by simpa using h3
        obtain ⟨p, hp, _⟩ := S.op j hj
        have hpd : p.dst = some t := by simpa [dAt, hp] using e
        have := I.vs j hj (done j p t hp hpd hm)
        simp only [vAt, e] at this
        exact this
      | none =>
        rw [List.find?_eq_none] at hf
        exact I.ot t (fun j hj _ e => by have := hf j (List.mem_range.2 hj); simp [e] at this))
    unfold wpOp
    rw [h1']
    simp only
    rw [if_pos (by simp [Region.wanted, hg])]
    refine .inl (StQ.wp (I.df.trans hd0) sp fun u w' hb hv => ?_)
    have dd : dAt l i = o.dst := by simp [dAt, h1]
    refine ih _ _ _ ⟨by rw [Array.size_setIfInBounds]; exact I.hd, gt _ _ _ I.bl hb, by rw [put_size]; exact I.sz, by rw [← I.df]; cases o.dst <;> rfl, fun j hj hjd => ?_, fun t hto => ?_⟩ (by have := left_set hin hun; omega)
    · by_cases c : j = i
      · subst c
        have e : vAt l j (a.put o.dst u) = uAt l j u := by
          unfold vAt uAt
          rw [dd]
          cases hdo : o.dst with
          | none => rfl
          | some d => simp only; exact put_get _ _ _ (by rw [I.sz]; exact (hd d hdo).1)
        rw [e]
        exact hv
      · rw [getD_set_ne true (fun e => c e.symm)] at hjd
        have e : vAt l j (a.put o.dst u) = vAt l j a := by
          unfold vAt
          cases hdj : dAt l j with
          | none => rfl
          | some d =>
            simp only
            refine put_oth _ _ _ _ (fun e => ?_)
            obtain ⟨p, hp, _⟩ := S.op j hj
            exact (hd d e).2 j p hp c (by simpa [dAt, hp] using hdj)
        rw [e]
        exact st j _ w w' (I.vs j hj hjd) I.bl hb
    · have hlt : i < ls.size := flag_lt hun
      have hti := hto i hin (by simp [hlt])
      rw [put_oth _ _ _ _ (by rw [← dd]; exact hti)]
      refine I.ot t fun j hj hjd => hto j hj ?_
      by_cases c : j = i
      · subst c; simp [hlt]
      · rw [getD_set_ne true (fun e => c e.symm)]; exact hjd
theorem wp_region_allQ {id : Nat} {Q : Exit → Act → World → Prop} {a : Act} {w : World} {l : List Oper} (G : World → World → Prop) (V : Nat → Value → World → Prop) (hd0 : a.defers = []) (hm : P.follows .mixedOrders = true) (hB : allB l a.tmps.size = true)
    (g0 : ∀ d, G w { w with drawn := d }) (gt : ∀ a b c, G a b → G b c → G a c)
    (st : ∀ i v w1 w2, V i v w1 → G w w1 → G w1 w2 → V i v w2)
    (ho : ∀ i o ρ W, i < l.length → l[i]? = some o → G w W → Plain ρ → (∀ t, (o.looksAt l.toArray).contains t = true → seenA l V a ρ W t) → StQ P Q G W (fun u W' => V i (uAt l i u) W') ((execOp ρ o).run P W))
    (ht : ∀ x W, G w W → (∀ i, i < l.length → V i (x i) W) → Q .normal (puts a l 0 x) W) : (Code.region id l.toArray true).wp P Q a w := by
  have S := allB.spec hB
  have fl : ∀ i, i < l.length → (Array.replicate l.toArray.size false).getD i true = false := fun i hi => by simp [hi]
  have z : left l.length (Array.replicate l.toArray.size false) = l.length := by
    unfold left
    rw [List.filter_eq_self.2 (fun i hi => by rw [fl i (List.mem_range.1 hi)]; rfl), List.length_range]
  have r := all_coreQ (w0 := w) hd0 S gt st ho ht l.length (Array.replicate l.toArray.size false) a { w with drawn := w.drawn + 1 } ⟨by simp, g0 _, rfl, rfl, (fun i hi h => by
      rw [fl i hi] at h
      cases h), fun t _ => rfl⟩ z
  refine wp_region_any hm ?_
  have e : l.length = l.toArray.size := by simp
  rw [e] at r
  exact r
theorem inv_core {Q : Exit → Act → World → Prop} {l : List Oper} {N : Nat} (S : AllS l N) (J : Array Bool → Act → World → Prop)
    (ho : ∀ ls i o a w, J ls a w → i < l.length → l[i]? = some o → ls.size = l.length → ls.getD i true = false → (∀ e ∈ o.after, Region.binds .any e = true → ls.getD e.on false = true) → o.wp P a w (fun a' w' => J (ls.setIfInBounds i true) a' w') Q)
    (ht : ∀ ls a w, J ls a w → (∀ i, i < l.length → ls.getD i true = true) → Q .normal a w) (f : Nat) :
    ∀ ls a w, ls.size = l.length → J ls a w → left l.length ls = f → wpAny P .any l.toArray Q f ls a w := by
  have lt : ∀ {j : Nat} {p : Oper}, l[j]? = some p → j < l.length := fun h => (List.getElem?_eq_some_iff.1 h).1
  induction f with
  | zero =>
    intro ls a w hs I h0
    have all := left_zero h0
    refine ⟨?_, ht ls a w I all⟩
    refine List.eq_nil_iff_forall_not_mem.2 fun i hi => ?_
    obtain ⟨hun, o', ho', _⟩ := mem_ready.1 hi
    have hi' : i < l.length := lt (by simpa using ho')
    rw [all i hi'] at hun
    cases hun
  | succ f ih =>
    intro ls a w hs I hf
    obtain ⟨i0, hi0, hu0, hlow⟩ := left_some hf
    have fin : ∀ j, j < l.length → ls.getD j true = true → ls.getD j false = true := fun j hj h => by
      have : j < ls.size := by rw [hs]; exact hj
      simp [this] at h ⊢
      exact h
    have rdy : i0 ∈ Region.ready .any l.toArray ls := by
      obtain ⟨o, h1, _, h2, _⟩ := S.op i0 hi0
      exact mem_ready.2 ⟨hu0, o, by simpa using h1, fun e he hb => fin _ (Nat.lt_trans (h2 e he hb) hi0) (hlow _ (h2 e he hb))⟩
    refine ⟨fun h => absurd rdy (by rw [h]; simp), fun i hi => ?_⟩
    obtain ⟨hun, o', ho', hall⟩ := mem_ready.1 hi
    have hin : i < l.length := lt (by simpa using ho')
    obtain ⟨o, h1, hg, _⟩ := S.op i hin
    have h1' : l.toArray[i]? = some o := by simpa using h1
    rw [h1'] at ho'
    have e' : o = o' := Option.some.inj ho'
    subst e'
    unfold wpOp
    rw [h1']
    simp only
    rw [if_pos (by simp [Region.wanted, hg])]
    refine .inl ?_
    refine Oper.wp_mono ?_ (ho ls i o a w I hin h1 hs hun hall)
    intro a' w' hj
    exact ih _ _ _ (by rw [Array.size_setIfInBounds]; exact hs) hj (by have := left_set hin hun; omega)
theorem wp_region_inv {id : Nat} {Q : Exit → Act → World → Prop} {a : Act} {w : World} {l : List Oper} (J : Array Bool → Act → World → Prop) (hm : P.follows .mixedOrders = true) (hB : allB l a.tmps.size = true)
    (h0 : ∀ d, J (Array.replicate l.length false) a { w with drawn := d })
    (ho : ∀ ls i o a w, J ls a w → i < l.length → l[i]? = some o → ls.size = l.length → ls.getD i true = false → (∀ e ∈ o.after, Region.binds .any e = true → ls.getD e.on false = true) → o.wp P a w (fun a' w' => J (ls.setIfInBounds i true) a' w') Q)
    (ht : ∀ ls a w, J ls a w → (∀ i, i < l.length → ls.getD i true = true) → Q .normal a w) : (Code.region id l.toArray true).wp P Q a w := by
  have S := allB.spec hB
  have fl : ∀ i, i < l.length → (Array.replicate l.length false).getD i true = false := fun i hi => by simp [hi]
  have z : left l.length (Array.replicate l.length false) = l.length := by
    unfold left
    rw [List.filter_eq_self.2 (fun i hi => by rw [fl i (List.mem_range.1 hi)]; rfl), List.length_range]
  have r := inv_core S J ho ht l.length (Array.replicate l.length false) a { w with drawn := w.drawn + 1 } (by simp) (h0 _) z
  refine wp_region_any hm ?_
  have e : l.length = l.toArray.size := by simp
  rw [e] at r
  exact r
def StpQ (P : Program) (Q : Exit → Act → World → Prop) (w : World) (φ : Value → World → Prop) : Result Next → Prop
  | .ok (.value u) w' => Below w.heap.size w w' ∧ φ u w'
  | .ok (.enter f args) w' => w' = w ∧ Calls P f args w (fun e w'' => (∃ u, e = .returned u ∧ Below w.heap.size w w'' ∧ φ u w'') ∨ (∃ ch, e = .panicked ch ∧ ∀ a, a.defers = [] → Q (.panic ch) a w''))
  | _ => False
theorem StpQ.wp {o : Oper} {a : Act} {w : World} {φ : Value → World → Prop} {K : Act → World → Prop} {Q : Exit → Act → World → Prop} (hd : a.defers = []) (h : StpQ P Q w φ ((execOp a.eval o).run P w))
    (hk : ∀ u w', Below w.heap.size w w' → φ u w' → K (a.put o.dst u) w') : o.wp P a w K Q := by
  unfold Oper.wp
  generalize (execOp a.eval o).run P w = r at *
  cases r with
  | ok n w' =>
    cases n <;> simp only [StpQ] at h <;> simp only [Oper.upon]
    case value u => exact hk u w' h.1 h.2
    case enter f args =>
      obtain ⟨rfl, hc⟩ := h
      exact hc.mono fun e w'' hh => by
        rcases hh with ⟨u, he, hb, hf⟩ | ⟨ch, he, hq⟩
        · subst he; exact hk u w'' hb hf
        · subst he; exact hq _ hd
  | halt x w' => simp only [StpQ] at h
theorem StpQ.of {Q : Exit → Act → World → Prop} {w : World} {φ : Value → World → Prop} {r : Result Next} (h : Stp P w φ r) : StpQ P Q w φ r := by
  cases r with
  | ok n w' =>
    cases n <;> simp only [Stp] at h <;> simp only [StpQ]
    case value u => exact h
    case enter f args => exact ⟨h.1, h.2.mono fun e w'' hh => .inl hh⟩
  | halt x w' => simp only [Stp] at h
theorem StpQ.dies {Q : Exit → Act → World → Prop} {w : World} {φ : Value → World → Prop} {r : Result Next} {f : FuncId} {args : Array Value} {ch : List PanicEntry} (h : r = .ok (.enter f args) w) (c : Calls P f args w fun e w' => e = .panicked ch ∧ Below w.heap.size w w') (hq : ∀ w', Below w.heap.size w w' → ∀ a : Act, a.defers = [] → Q (.panic ch) a w') : StpQ P Q w φ r := by
  rw [h]
  exact ⟨rfl, c.mono fun e w' ⟨h1, h2⟩ => .inr ⟨ch, h1, hq w' h2⟩⟩
theorem rel_coreQ {Q : Exit → Act → World → Prop} {l : List Oper} {n : Nat} {a0 : Act} {w0 : World} {V : Nat → Value → World → Prop} (hd0 : a0.defers = []) (S : RelS l n a0.tmps.size)
    (st : ∀ i v w w', V i v w → Below w.heap.size w w' → V i v w')
    (ho : ∀ i o ρ W, i < n → l[i]? = some o → Below w0.heap.size w0 W → Plain ρ → (∀ t, (o.looksAt l.toArray).contains t = true → seen l n V a0 ρ W t) → StpQ P Q W (V i) ((execOp ρ o).run P W))
    (ht : ∀ x W, Below w0.heap.size w0 W → (∀ i, i < n → V i (x i) W) → wpList P l.toArray Q (l.drop n) (puts a0 (l.take n) 0 x) W) (f : Nat) :
    ∀ ls a w, RInv l n a0 w0 V ls a w → left n ls = f → wpAny P .any l.toArray Q (f + (l.length - n)) ls a w := by
  have hn : n < l.toArray.size := by simpa using S.ln
  have tk : ∀ i, i < n → (l.take n)[i]? = l[i]? := fun i hi => by rw [List.getElem?_take, if_pos hi]
  have slot : ∀ (x : Nat → Value) i, i < n → (puts a0 (l.take n) 0 x).tmps.getD (dOf l i) undef = x i := fun x i hi => by
    obtain ⟨o, h1, _, _, h2, h3, h4, _⟩ := S.op i hi
    have := puts_at x (dOf l i) (l.take n) a0 0 i o (by rw [tk i hi]; exact h1) h2 h3 (fun j p hp hne c => by
      have hj : j < n := by have := (List.getElem?_eq_some_iff.1 hp).1; rw [List.length_take] at this; omega
      rw [tk j hj] at hp
      obtain ⟨p', h1', _, _, h2', _⟩ := S.op j hj
      rw [h1'] at hp
      cases hp
      rw [h2'] at c
      exact h4 j hj hne (Option.some.inj c))
    rwa [Nat.zero_add] at this
  have rest : ∀ (x : Nat → Value) t, (∀ i, i < n → dOf l i ≠ t) → (puts a0 (l.take n) 0 x).tmps.getD t undef = a0.tmps.getD t undef := fun x t h =>
    puts_oth x t (l.take n) a0 0 (fun p hp c => by
      obtain ⟨j, hj⟩ := List.getElem?_of_mem hp
      have hjn : j < n := by have := (List.getElem?_eq_some_iff.1 hj).1; rw [List.length_take] at this; omega
      rw [tk j hjn] at hj
      obtain ⟨p', h1', _, _, h2', _⟩ := S.op j hjn
      rw [h1'] at hj
      cases hj
      rw [h2'] at c
      exact h j hjn (Option.some.inj c))
  induction f with
  | zero =>
    intro ls a w I h0
    have all := left_zero h0
    have els : ls = Array.replicate n true ++ Array.replicate (l.length - n) false := by
      have z : ls.size = l.length := by rw [I.hd.size]; simp
      apply Array.ext
      · simp [z]; have := S.ln; omega
      · intro i h1 h2
        by_cases c : i < n
        · have := all i c
          simp [h1] at this
          rw [Array.getElem_append_left (by simpa using c)]
          simp [this]
        · have := I.hd.tail i (by omega) (by simp; omega)
          simp [h1] at this
          rw [Array.getElem_append_right (by simp; omega)]
          simp [this]
    have ea : a = puts a0 (l.take n) 0 (fun i => a.tmps.getD (dOf l i) undef) := by
      have p1 := puts_size (fun i => a.tmps.getD (dOf l i) undef) (l.take n) a0 0
      have p2 := puts_defers (fun i => a.tmps.getD (dOf l i) undef) (l.take n) a0 0
      have e1 : a.tmps = (puts a0 (l.take n) 0 (fun i => a.tmps.getD (dOf l i) undef)).tmps := by
        apply Array.ext
        · rw [I.sz, p1]
        · intro t h1 h2
          have : a.tmps.getD t undef = (puts a0 (l.take n) 0 (fun i => a.tmps.getD (dOf l i) undef)).tmps.getD t undef := by
            by_cases c : ∃ i, i < n ∧ dOf l i = t
            · obtain ⟨i, hi, rfl⟩ := c
              rw [slot _ i hi]
            · have c' : ∀ i, i < n → dOf l i ≠ t := fun i hi e => c ⟨i, hi, e⟩
              rw [rest _ t c', I.ot t (fun i hi _ => c' i hi)]
          generalize (puts a0 (l.take n) 0 (fun i => a.tmps.getD (dOf l i) undef)).tmps = X at *
          have g1 : a.tmps.getD t undef = a.tmps[t] := by simp [h1]
          have g2 : X.getD t undef = X[t] := by simp [h2]
          rw [← g1, ← g2]; exact this
      have e2 : a.defers = (puts a0 (l.take n) 0 (fun i => a.tmps.getD (dOf l i) undef)).defers := by rw [I.df, p2]
      cases a
      cases hp : puts a0 (l.take n) 0 _
      rw [hp] at e1 e2
      simp only at e1 e2
      rw [e1, e2]
    have t := ht _ w I.bl (fun i hi => I.vs i hi (all i hi))
    rw [← ea] at t
    rw [Nat.zero_add]
    have r := wpAny_of_seq (md := .any) (P := P) (Q' := Q) (l.drop n) n ls a w (fun j => by simp [List.getElem?_drop]) (by rw [List.length_drop, els]; exact S.sq) t
    rwa [List.length_drop] at r
  | succ f ih =>
    intro ls a w I hf
    obtain ⟨i0, hi0, hu0, hlow⟩ := left_some hf
    have low : ∀ j, j ∈ Region.ready .any l.toArray ls → j < n := fun j hj => by
      rcases Nat.lt_or_ge j n with c | c
      · exact c
      · exact absurd hj (tail_waits S.snk S.chn hn I.hd (n - i0) i0 rfl hi0 hu0 j c)
    have szl : ls.size = l.length := by rw [I.hd.size]; simp
    have fin : ∀ j, j < n → ls.getD j true = true → ls.getD j false = true := fun j hj h => by
      have : j < ls.size := by rw [szl]; have := S.ln; omega
      simp [this] at h ⊢
      exact h
    have rdy : i0 ∈ Region.ready .any l.toArray ls := by
      obtain ⟨o, h1, _, h2, _⟩ := S.op i0 hi0
      exact mem_ready.2 ⟨hu0, o, by simpa using h1, fun e he hb => fin _ (Nat.lt_trans (h2 e he hb) hi0) (hlow _ (h2 e he hb))⟩
    rw [Nat.succ_add]
    refine ⟨fun h => absurd rdy (by rw [h]; simp), fun i hi => ?_⟩
    have hin := low i hi
    obtain ⟨o, h1, hg, h2, hd, hdn, hdd, hw⟩ := S.op i hin
    have h1' : l.toArray[i]? = some o := by simpa using h1
    obtain ⟨hun, o', ho', hall⟩ := mem_ready.1 hi
    rw [h1'] at ho'
    cases ho'
    have done : ∀ j, j < n → dOf l j ∈ o.looksAt l.toArray → ls.getD j true = true := fun j hj hm => by
      obtain ⟨oj, hoj, e, he, hb, hon⟩ := Region.waitsFor_spec (hw j hj hm)
      rw [h1'] at hoj
      cases hoj
      have := hall e he hb
      rw [hon] at this
      have hl : j < ls.size := by rw [szl]; have := S.ln; omega
      simp [hl] at this ⊢
      exact this
    have sp := ho i o a.eval w hin h1 I.bl ⟨fun _ => rfl, fun _ => rfl, fun _ => rfl⟩ (fun t hc => by
      have hm : t ∈ o.looksAt l.toArray := List.contains_iff_mem.1 hc
      unfold seen
      cases hf : (List.range n).find? (fun j => dOf l j == t) with
      | some j =>
        have h3 := List.find?_some hf
        have hj := List.mem_range.1 (List.mem_of_find?_eq_some hf)
        have e : dOf l j = t := by simpa using h3
        subst e
        exact I.vs j hj (done j hj hm)
      | none =>
        rw [List.find?_eq_none] at hf
        exact I.ot t (fun j hj _ e => by have := hf j (List.mem_range.2 hj); simp [e] at this))
    unfold wpOp
    rw [h1']
    simp only
    rw [if_pos (by simp [Region.wanted, hg])]
    refine .inl (StpQ.wp (I.df.trans hd0) sp fun u w' hb hv => ?_)
    rw [hd]
    refine ih _ _ _ ⟨I.hd.set hi hin, I.bl.trans (hb.mono I.bl.size), by rw [put_size]; exact I.sz, by rw [← I.df]; rfl, fun j hj hjd => ?_, fun t hto => ?_⟩ (by have := left_set hin hun; omega)
    · by_cases c : j = i
      · subst c
        rw [put_get _ _ _ (by rw [I.sz]; exact hdn)]
        exact hv
      · rw [getD_set_ne true (fun e => c e.symm)] at hjd
        rw [put_oth _ _ _ _ (by intro e; exact hdd j hj c (Option.some.inj e).symm)]
        exact st j _ w w' (I.vs j hj hjd) hb
    · have hlt : i < ls.size := flag_lt hun
      have hti := hto i hin (by simp [hlt])
      rw [put_oth _ _ _ _ (by intro e; exact hti (Option.some.inj e))]
      refine I.ot t fun j hj hjd => hto j hj ?_
      by_cases c : j = i
      · subst c; simp [hlt]
      · rw [getD_set_ne true (fun e => c e.symm)]; exact hjd
theorem wp_region_relQ {id : Nat} {Q : Exit → Act → World → Prop} {a : Act} {w : World} {l : List Oper} (n : Nat) (V : Nat → Value → World → Prop) (hd0 : a.defers = []) (hm : P.follows .mixedOrders = true) (hB : relB l n a.tmps.size = true)
    (st : ∀ i v w w', V i v w → Below w.heap.size w w' → V i v w')
    (ho : ∀ i o ρ W, i < n → l[i]? = some o → Below w.heap.size w W → Plain ρ → (∀ t, (o.looksAt l.toArray).contains t = true → seen l n V a ρ W t) → StpQ P Q W (V i) ((execOp ρ o).run P W))
    (ht : ∀ x W, Below w.heap.size w W → (∀ i, i < n → V i (x i) W) → wpList P l.toArray Q (l.drop n) (puts a (l.take n) 0 x) W) : (Code.region id l.toArray true).wp P Q a w := by
  have S := relB.spec hB
  have fl : ∀ i, i < l.length → (Array.replicate l.toArray.size false).getD i true = false := fun i hi => by simp [hi]
  have z : left n (Array.replicate l.toArray.size false) = n := by
    unfold left
    rw [List.filter_eq_self.2 (fun i hi => by rw [fl i (by have := List.mem_range.1 hi; have := S.ln; omega)]; rfl), List.length_range]
  have H : HeadInv .any l.toArray n (Array.replicate l.toArray.size false) :=
    ⟨by simp, (fun j oj _ h => by rw [getD_replicate_false] at h; cases h), (fun t _ ht' => fl t (by simpa using ht'))⟩
  have r := rel_coreQ hd0 S st ho ht n (Array.replicate l.toArray.size false) a { w with drawn := w.drawn + 1 } ⟨H, ⟨rfl, rfl, rfl, Nat.le_refl _, fun _ _ => rfl⟩, rfl, rfl, (fun i hi h => by
      rw [fl i (by have := S.ln; omega)] at h
      cases h), fun t _ => rfl⟩ z
  refine wp_region_any hm ?_
  have e : n + (l.length - n) = l.toArray.size := by have := S.ln; simp; omega
  rw [e] at r
  exact r
end
end Go.Proofs.YtjdpeedghpblgaaGreatDoor
/- A law on regions that draw their order, where what was given may be told anew with each operation. -/
set_option linter.all false
set_option autoImplicit false
namespace Go.Proofs.YtjdpeedghpblgaaGreatDoor
open Go Go.Sort Go.RowKit
section
variable {P : Program}
def StD (P : Program) (Q : Exit → Act → World → Prop) (D : List Deferred) (G : World → World → Prop) (w : World) (φ : Value → World → Prop) : Result Next → Prop
  | .ok (.value u) w' => G w w' ∧ φ u w'
  | .ok .skip w' => G w w' ∧ φ undef w'
  | .ok (.enter f args) w' => w' = w ∧ Calls P f args w (fun e w'' => (∃ u, e = .returned u ∧ G w w'' ∧ φ u w'') ∨ (∃ ch, e = .panicked ch ∧ ∀ a : Act, a.defers = D → Q (.panic ch) a w''))
  | _ => False
theorem StD.wp {Q : Exit → Act → World → Prop} {D : List Deferred} {G : World → World → Prop} {o : Oper} {a : Act} {w : World} {φ : Value → World → Prop} {K : Act → World → Prop} (hd : a.defers = D) (h : StD P Q D G w φ ((execOp a.eval o).run P w))
    (hk : ∀ u w', G w w' → φ u w' → K (a.put o.dst u) w') : o.wp P a w K Q := by
  unfold Oper.wp
  generalize (execOp a.eval o).run P w = r at *
  cases r with
  | ok n w' =>
    cases n <;> simp only [StD] at h <;> simp only [Oper.upon]
    case value u => exact hk u w' h.1 h.2
    case skip => exact hk undef w' h.1 h.2
    case enter f args =>
      obtain ⟨rfl, hc⟩ := h
      exact hc.mono fun e w'' hh => by
        rcases hh with ⟨u, he, hb, hf⟩ | ⟨ch, he, hq⟩
        · subst he; exact hk u w'' hb hf
        · subst he; exact hq _ hd
  | halt x w' => simp only [StD] at h
theorem StD.of {Q : Exit → Act → World → Prop} {D : List Deferred} {G : World → World → Prop} {w : World} {φ : Value → World → Prop} {r : Result Next} (h : StG P G w φ r) : StD P Q D G w φ r := by
  cases r with
  | ok n w' =>
    cases n <;> simp only [StG] at h <;> simp only [StD]
    case value u => exact h
    case skip => exact h
    case enter f args => exact ⟨h.1, h.2.mono fun e w'' hh => .inl hh⟩
  | halt x w' => simp only [StG] at h
theorem all_coreV {Q : Exit → Act → World → Prop} {l : List Oper} {a0 : Act} {w0 : World} {G : World → World → Prop} {V : Array Bool → Nat → Value → World → Prop} {Ff : Array Bool → World → Prop} (hd0 : a0.defers = a0.defers) (S : AllS l a0.tmps.size) (gt : ∀ a b c, G a b → G b c → G a c)
    (ho : ∀ ls i o ρ W, i < l.length → l[i]? = some o → ls.size = l.length → ls.getD i true = false → (∀ e ∈ o.after, Region.binds .any e = true → ls.getD e.on false = true) → (∀ j, j < l.length → ls.getD j true = true → ∃ v, V ls j v W) → Ff ls W → G w0 W → Plain ρ → (∀ t, (o.looksAt l.toArray).contains t = true → seenA l (V ls) a0 ρ W t) → StD P Q a0.defers (fun W W' => G W W' ∧ Ff (ls.setIfInBounds i true) W' ∧ ∀ j v, j < l.length → j ≠ i → ls.getD j true = true → (∀ t, dAt l j = some t → v = ρ (.tmp t)) → V ls j v W → V (ls.setIfInBounds i true) j v W') W (fun u W' => V (ls.setIfInBounds i true) i (uAt l i u) W') ((execOp ρ o).run P W))
    (ht : ∀ ls x W, ls.size = l.length → (∀ i, i < l.length → ls.getD i true = true) → Ff ls W → G w0 W → (∀ i, i < l.length → V ls i (x i) W) → Q .normal (puts a0 l 0 x) W) (f : Nat) :
    ∀ ls a w, AInv l a0 w0 G (V ls) ls a w → Ff ls w → left l.length ls = f → wpAny P .any l.toArray Q f ls a w := by
  have lt : ∀ {j : Nat} {p : Oper}, l[j]? = some p → j < l.length := fun h => (List.getElem?_eq_some_iff.1 h).1
  have slot : ∀ (x : Nat → Value) i t, i < l.length → dAt l i = some t → (puts a0 l 0 x).tmps.getD t undef = x i := fun x i t hi hd => by
    obtain ⟨o, h1, _, _, h2, _⟩ := S.op i hi
    have hd' : o.dst = some t := by simpa [dAt, h1] using hd
    have := puts_at x t l a0 0 i o h1 hd' (h2 t hd').1 (fun j p hp hne => (h2 t hd').2 j p hp hne)
    rwa [Nat.zero_add] at this
  have rest : ∀ (x : Nat → Value) t, (∀ i, i < l.length → dAt l i ≠ some t) → (puts a0 l 0 x).tmps.getD t undef = a0.tmps.getD t undef := fun x t h =>
    puts_oth x t l a0 0 (fun p hp c => by
      obtain ⟨j, hj⟩ := List.getElem?_of_mem hp
      exact h j (lt hj) (by simp [dAt, hj, c]))
  induction f with
  | zero =>
    intro ls a w I hF h0
    have all := left_zero h0
    have ea : a = puts a0 l 0 (fun i => vAt l i a) := by
      have p1 := puts_size (fun i => vAt l i a) l a0 0
      have p2 := puts_defers (fun i => vAt l i a) l a0 0
      have e1 : a.tmps = (puts a0 l 0 (fun i => vAt l i a)).tmps := by
        apply Array.ext
        · rw [I.sz, p1]
        · intro t h1 h2
          have : a.tmps.getD t undef = (puts a0 l 0 (fun i => vAt l i a)).tmps.getD t undef := by
            by_cases c : ∃ i, i < l.length ∧ dAt l i = some t
            · obtain ⟨i, hi, hc⟩ := c
              rw [slot _ i t hi hc]
              simp only [vAt, hc]
            · have c' : ∀ i, i < l.length → dAt l i ≠ some t := fun i hi e => c ⟨i, hi, e⟩
              rw [rest _ t c', I.ot t (fun i hi _ => c' i hi)]
          generalize (puts a0 l 0 (fun i => vAt l i a)).tmps = X at *
          have g1 : a.tmps.getD t undef = a.tmps[t] := by simp [h1]
          have g2 : X.getD t undef = X[t] := by simp [h2]
          rw [← g1, ← g2]; exact this
      have e2 : a.defers = (puts a0 l 0 (fun i => vAt l i a)).defers := by rw [I.df, p2]
      generalize puts a0 l 0 (fun i => vAt l i a) = b at *
      cases a
      cases b
      simp only at e1 e2
      rw [e1, e2]
    have t := ht ls _ w I.hd all hF I.bl (fun i hi => I.vs i hi (all i hi))
    rw [← ea] at t
    refine ⟨?_, t⟩
    refine List.eq_nil_iff_forall_not_mem.2 fun i hi => ?_
    obtain ⟨hun, o', ho', _⟩ := mem_ready.1 hi
    have hi' : i < l.length := lt (by simpa using ho')
    rw [all i hi'] at hun
    cases hun
  | succ f ih =>
    intro ls a w I hF hf
    obtain ⟨i0, hi0, hu0, hlow⟩ := left_some hf
    have fin : ∀ j, j < l.length → ls.getD j true = true → ls.getD j false = true := fun j hj h => by
      have : j < ls.size := by rw [I.hd]; exact hj
      simp [this] at h ⊢
      exact h
    have rdy : i0 ∈ Region.ready .any l.toArray ls := by
      obtain ⟨o, h1, _, h2, _⟩ := S.op i0 hi0
      exact mem_ready.2 ⟨hu0, o, by simpa using h1, fun e he hb => fin _ (Nat.lt_trans (h2 e he hb) hi0) (hlow _ (h2 e he hb))⟩
    refine ⟨fun h => absurd rdy (by rw [h]; simp), fun i hi => ?_⟩
    obtain ⟨hun, o', ho', hall⟩ := mem_ready.1 hi
    have hin : i < l.length := lt (by simpa using ho')
    obtain ⟨o, h1, hg, h2, hd, hw⟩ := S.op i hin
    have h1' : l.toArray[i]? = some o := by simpa using h1
    rw [h1'] at ho'
    have e' : o = o' := Option.some.inj ho'
    subst e'
    have done : ∀ j p t, l[j]? = some p → p.dst = some t → t ∈ o.looksAt l.toArray → ls.getD j true = true := fun j p t hp hpd hm => by
      obtain ⟨oj, hoj, e, he, hb, hon⟩ := Region.waitsFor_spec (hw t hm j p hp hpd)
      rw [h1'] at hoj
      cases hoj
      have := hall e he hb
      rw [hon] at this
      have hl : j < ls.size := by rw [I.hd]; exact lt hp
      simp [hl] at this ⊢
      exact this
    have sp := ho ls i o a.eval w hin h1 I.hd hun hall (fun j hj hd => ⟨_, I.vs j hj hd⟩) hF I.bl ⟨fun _ => rfl, fun _ => rfl, fun _ => rfl⟩ (fun t hc => by
      have hm : t ∈ o.looksAt l.toArray := List.contains_iff_mem.1 hc
      unfold seenA
      cases hf : (List.range l.length).find? (fun j => dAt l j == some t) with
      | some j =>
        have h3 := List.find?_some hf
        have hj := List.mem_range.1 (List.mem_of_find?_eq_some hf)
        have e : dAt l j = some t := by simpa using h3
        obtain ⟨p, hp, _⟩ := S.op j hj
        have hpd : p.dst = some t := by simpa [dAt, hp] using e
        have := I.vs j hj (done j p t hp hpd hm)
        simp only [vAt, e] at this
        exact this
      | none =>
        rw [List.find?_eq_none] at hf
        exact I.ot t (fun j hj _ e => by have := hf j (List.mem_range.2 hj); simp [e] at this))
    unfold wpOp
    rw [h1']
    simp only
    rw [if_pos (by simp [Region.wanted, hg])]
    refine .inl (StD.wp I.df sp fun u w' hb hv => ?_)
    have dd : dAt l i = o.dst := by simp [dAt, h1]
    refine ih _ _ _ ⟨by rw [Array.size_setIfInBounds]; exact I.hd, gt _ _ _ I.bl hb.1, by rw [put_size]; exact I.sz, by rw [← I.df]; cases o.dst <;> rfl, fun j hj hjd => ?_, fun t hto => ?_⟩ hb.2.1 (by have := left_set hin hun; omega)
    · by_cases c : j = i
      · subst c
        have e : vAt l j (a.put o.dst u) = uAt l j u := by
          unfold vAt uAt
          rw [dd]
          cases hdo : o.dst with
          | none => rfl
          | some d => simp only; exact put_get _ _ _ (by rw [I.sz]; exact (hd d hdo).1)
        rw [e]
        exact hv
      · rw [getD_set_ne true (fun e => c e.symm)] at hjd
        have e : vAt l j (a.put o.dst u) = vAt l j a := by
          unfold vAt
          cases hdj : dAt l j with
          | none => rfl
          | some d =>
            simp only
            refine put_oth _ _ _ _ (fun e => ?_)
            obtain ⟨p, hp, _⟩ := S.op j hj
            exact (hd d e).2 j p hp c (by simpa [dAt, hp] using hdj)
        rw [e]
        exact hb.2.2 j _ hj c hjd (fun t ht => by simp only [vAt, ht]; rfl) (I.vs j hj hjd)
    · have hlt : i < ls.size := flag_lt hun
      have hti := hto i hin (by simp [hlt])
      rw [put_oth _ _ _ _ (by rw [← dd]; exact hti)]
      refine I.ot t fun j hj hjd => hto j hj ?_
      by_cases c : j = i
      · subst c; simp [hlt]
      · rw [getD_set_ne true (fun e => c e.symm)]; exact hjd
theorem wp_region_st {id : Nat} {Q : Exit → Act → World → Prop} {a : Act} {w : World} {l : List Oper} (G : World → World → Prop) (V : Array Bool → Nat → Value → World → Prop) (Ff : Array Bool → World → Prop) (hd0 : a.defers = a.defers) (hm : P.follows .mixedOrders = true) (hB : allB l a.tmps.size = true)
    (g0 : ∀ d, G w { w with drawn := d }) (f0 : ∀ d, Ff (Array.replicate l.length false) { w with drawn := d }) (gt : ∀ a b c, G a b → G b c → G a c)
    (ho : ∀ ls i o ρ W, i < l.length → l[i]? = some o → ls.size = l.length → ls.getD i true = false → (∀ e ∈ o.after, Region.binds .any e = true → ls.getD e.on false = true) → (∀ j, j < l.length → ls.getD j true = true → ∃ v, V ls j v W) → Ff ls W → G w W → Plain ρ → (∀ t, (o.looksAt l.toArray).contains t = true → seenA l (V ls) a ρ W t) → StD P Q a.defers (fun W W' => G W W' ∧ Ff (ls.setIfInBounds i true) W' ∧ ∀ j v, j < l.length → j ≠ i → ls.getD j true = true → (∀ t, dAt l j = some t → v = ρ (.tmp t)) → V ls j v W → V (ls.setIfInBounds i true) j v W') W (fun u W' => V (ls.setIfInBounds i true) i (uAt l i u) W') ((execOp ρ o).run P W))
    (ht : ∀ ls x W, ls.size = l.length → (∀ i, i < l.length → ls.getD i true = true) → Ff ls W → G w W → (∀ i, i < l.length → V ls i (x i) W) → Q .normal (puts a l 0 x) W) : (Code.region id l.toArray true).wp P Q a w := by
  have S := allB.spec hB
  have fl : ∀ i, i < l.length → (Array.replicate l.toArray.size false).getD i true = false := fun i hi => by simp [hi]
  have z : left l.length (Array.replicate l.toArray.size false) = l.length := by
    unfold left
    rw [List.filter_eq_self.2 (fun i hi => by rw [fl i (List.mem_range.1 hi)]; rfl), List.length_range]
  have r := all_coreV (w0 := w) hd0 S gt ho ht l.length (Array.replicate l.toArray.size false) a { w with drawn := w.drawn + 1 } ⟨by simp, g0 _, rfl, rfl, (fun i hi h => by
      rw [fl i hi] at h
      cases h), fun t _ => rfl⟩ (by rw [show l.toArray.size = l.length by simp]; exact f0 _) z
  refine wp_region_any hm ?_
  have e : l.length = l.toArray.size := by simp
  rw [e] at r
  exact r
end
end Go.Proofs.YtjdpeedghpblgaaGreatDoor
