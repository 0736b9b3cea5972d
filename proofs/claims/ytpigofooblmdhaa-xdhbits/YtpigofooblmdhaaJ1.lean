/- Texts joined: Z1, Z2, Q1, Z3. -/
import Derived.StillTail
import Derived.Deep.Quiet
import Derived.Lib.QuietBelow
import Derived.BigQuiet
import Derived.OrdersIn
import Derived.RangeFuncCalls
import Derived.TacticsInMore
set_option linter.all false
set_option autoImplicit false
namespace Go.Proofs.Ytpigofooblmdhaa
open Go Go.Sort Go.RowKit
section
variable {P : Program} {ops : Array Oper} {md : Region.Mode} {C : World → Prop}
def QL (P : Program) (md : Region.Mode) (ops : Array Oper) (C : World → Prop) (n : Nat) (L : Array Bool → Act → Prop) : Nat → Array Bool → Act → Prop
  | 0 => L
  | f + 1 => fun ls a => Region.ready md ops ls ≠ [] ∧ ∀ i, i ∈ Region.ready md ops ls → i < n ∧ qOp P ops C i (QL P md ops C n L f (ls.setIfInBounds i true)) a
theorem QL.any {n g : Nat} {L : Array Bool → Act → Prop} {Q : Exit → Act → World → Prop} (hL : ∀ ls a w, C w → L ls a → wpAny P md ops Q g ls a w) (f : Nat) :
    ∀ ls a w, C w → QL P md ops C n L f ls a → wpAny P md ops Q (f + g) ls a w := by
  induction f with
  | zero => intro ls a w hw h; rw [Nat.zero_add]; exact hL _ _ _ hw h
  | succ f ih =>
    intro ls a w hw h
    rw [Nat.succ_add_eq_add_succ]
    exact ⟨fun e => absurd e h.1, fun i hi => wpOp_of_qOp hw (fun a' w' hw' h' => ih _ a' w' hw' h') (h.2 i hi).2⟩
theorem QL.first {n i : Nat} {o : Oper} {v : Value} {L : Array Bool → Act → Prop} (hi : ops[i]? = some o) (hin : i < n) (hn : n < ops.size)
    (sel : ∀ (j : Nat) (p : Oper) cs b, ops[j]? = some p → p.op ≠ .select cs b) (hs : Region.sinkB md ops n = true) (hc : Region.chainB md ops n = true)
    (hL : ∀ ls a, L ls a → ∀ j, j ∈ Region.ready md ops ls → n ≤ j) (f : Nat) :
    ∀ ls a, HeadInv md ops n ls →
      (∀ j p, ops[j]? = some p → j ≠ i → ls.getD j true = false → (∀ e ∈ p.after, Region.binds md e = true → e.on ≠ i) → o.apart ops p = true) →
      i ∈ Region.ready md ops ls → YieldsIn P ops C o v a → QL P md ops C n L f (ls.setIfInBounds i true) (a.put o.dst v) → QL P md ops C n L (f + 1) ls a := by
  have low : ∀ ls, HeadInv md ops n ls → i ∈ Region.ready md ops ls → ∀ j, j ∈ Region.ready md ops ls → j < n := fun ls inv hr j hj =>
    Nat.lt_of_not_le fun hle => tail_waits hs hc hn inv _ i rfl hin (mem_ready.1 hr).1 j hle hj
  have non : ∀ ls, i ∈ Region.ready md ops ls → Region.ready md ops ls ≠ [] := fun ls hr e => by rw [e] at hr; cases hr
  induction f with
  | zero =>
    intro ls a inv _ hr hy H
    refine ⟨non ls hr, fun j hj => ⟨low ls inv hr j hj, ?_⟩⟩
    by_cases e : j = i
    · subst e; exact hy.qOp hi H
    · exact absurd (hL _ _ H j (ready_mono hj e)) (Nat.not_le.2 (low ls inv hr j hj))
  | succ f ih =>
    intro ls a inv free hr hy H
    refine ⟨non ls hr, fun j hj => ⟨low ls inv hr j hj, ?_⟩⟩
    by_cases e : j = i
    · subst e; exact hy.qOp hi H
    · obtain ⟨ju, p, hp, all⟩ := mem_ready.1 hj
      have noti : ∀ e ∈ p.after, Region.binds md e = true → e.on ≠ i := fun x hx hb he => by
        have t := all x hx hb
        rw [he, getD_both (mem_ready.1 hr).1] at t
        cases t
      have st := qOp_put hp (free j p hp e ju noti) (fun cs b => sel i o cs b hi) (fun cs b => sel j p cs b hp) hy (H.2 j (ready_mono hj e)).2
      refine qOp_mono (fun a' h3 => ih _ a' (inv.set hj (low ls inv hr j hj)) (fun k q hk hki hu hno => ?_) (ready_mono hr (fun c => e c.symm)) h3.1 ?_) st
      · refine free k q hk hki ?_ hno
        by_cases c : j = k
        · subst c; exact ju
        · rwa [getD_set_ne true c] at hu
      · rw [Array.setIfInBounds_comm _ _ e]; exact h3.2
theorem QL.lex {n g : Nat} {R : Act → Prop} (sel : Region.noSelect ops = true) (hs : Region.sinkB md ops n = true) (hc : Region.chainB md ops n = true) (hn : n < ops.size) (l : List Oper) :
    ∀ (k : Nat) (ls : Array Bool) (a : Act), (∀ j, j < l.length → l[j]? = ops[k + j]?) → k + l.length = n → HeadInv md ops n ls → Region.lexHead md ops g l.length k ls = true → wpQuiet P ops C R l a →
      QL P md ops C n (fun ls' a' => Region.seqB md ops g n ls' = true ∧ R a') l.length ls a := by
  induction l with
  | nil =>
    intro k ls a _ hk _ hB h
    obtain rfl : k = n := hk
    exact ⟨hB, h⟩
  | cons o l ih =>
    intro k ls a hl hk inv hB h
    have h0 : ops[k]? = some o := by simpa using (hl 0 (Nat.succ_pos _)).symm
    have kn : k < n := by rw [← hk]; exact Nat.lt_add_of_pos_right (Nat.succ_pos _)
    simp only [List.length_cons, Region.lexHead, Bool.and_eq_true] at hB
    have rk : k ∈ Region.ready md ops ls := by simpa using hB.1.1
    have q : qOp P ops C k (wpQuiet P ops C R l) a := by unfold qOp; simp only [h0]; exact h
    obtain ⟨v, hy, hK⟩ := yieldsIn_of_qOp h0 q
    refine QL.first h0 kn hn (Region.noSelect_spec sel) hs hc (fun ls' a' x => seqB_ready x.1) l.length ls a inv (Region.free_spec h0 hB.1.2) rk hy ?_
    refine ih (k + 1) _ _ (fun j hj => ?_) (by rw [← hk, List.length_cons]; omega) (inv.set rk kn) hB.2 hK
    have t := hl (j + 1) (by simpa using hj)
    rw [List.getElem?_cons_succ] at t
    rw [t]; congr 1; omega
theorem wp_region_quiet_tail {id : Nat} {Q : Exit → Act → World → Prop} {a : Act} {w : World} {l : List Oper} (n : Nat) (hm : P.follows .mixedOrders = true) (hB : Region.lexTailB .any l.toArray n = true)
    (hC : C { w with drawn := w.drawn + 1 }) (h : wpQuiet P l.toArray C (fun a' => ∀ w', C w' → wpList P l.toArray Q (l.drop n) a' w') (l.take n) a) : (Code.region id l.toArray true).wp P Q a w := by
  simp only [Region.lexTailB, Bool.and_eq_true, decide_eq_true_eq] at hB
  obtain ⟨⟨⟨⟨sel, hn⟩, hs⟩, hc⟩, lex⟩ := hB
  have ln : n < l.length := by simpa using hn
  have tl : (l.take n).length = n := by rw [List.length_take]; omega
  have dl : (l.drop n).length = l.toArray.size - n := by rw [List.length_drop]; simp
  have i0 : HeadInv .any l.toArray n (Array.replicate l.toArray.size false) :=
    ⟨by simp, fun j oj _ hl => (by rw [getD_replicate_false] at hl; cases hl), fun t _ ht => getD_in (by simpa using ht) (getD_replicate_false _ _)⟩
  have H := QL.lex (P := P) (C := C) (md := .any) (g := l.toArray.size - n) sel hs hc hn (l.take n) 0 _ a (fun j hj => by
    rw [tl] at hj
    simp [hj]) (by rw [tl]; omega) i0 (by rw [tl]; exact lex) h
  have K := QL.any (Q := Q) (g := l.toArray.size - n) (fun ls a' w' hw' hL => by
    have t := wpAny_of_seq (md := .any) (P := P) (Q' := Q) (l.drop n) n ls a' w' (fun j => by simp [List.getElem?_drop]) (by rw [dl]; exact hL.1) (hL.2 w' hw')
    rwa [dl] at t) _ _ a _ hC H
  rw [tl, show n + (l.toArray.size - n) = l.toArray.size by omega] at K
  exact wp_region_any hm K
theorem wp_region_below_tail {id : Nat} {Q : Exit → Act → World → Prop} {a : Act} {w : World} {l : List Oper} (n : Nat) (hm : P.follows .mixedOrders = true) (hB : Region.lexTailB .any l.toArray n = true)
    (h : wpQuiet P l.toArray (fun w' => ∃ p : Regrown, w' = grow (redrawn w p.d) p.os) (fun a' => ∀ w', (∃ p : Regrown, w' = grow (redrawn w p.d) p.os) → wpList P l.toArray Q (l.drop n) a' w') (l.take n) a) : (Code.region id l.toArray true).wp P Q a w :=
  wp_region_quiet_tail (C := fun w' => ∃ p : Regrown, w' = grow (redrawn w p.d) p.os) n hm hB ⟨⟨w.drawn + 1, #[]⟩, by rw [grow_empty]; rfl⟩ h
end
end Go.Proofs.Ytpigofooblmdhaa
set_option autoImplicit false
namespace Go.Proofs.Ytpigofooblmdhaa
open Go Go.Sort Go.RowKit
section
variable {P : Program} {ops : Array Oper} {md : Region.Mode} {C : World → Prop} {l m : Nat}
def noDefer (ops : Array Oper) : Bool := ops.all fun o => match o.op with
  | .defer _ => false
  | _ => true
theorem noDefer_at (h : noDefer ops = true) {i : Nat} {o : Oper} (hi : ops[i]? = some o) : ∀ c, o.op ≠ .defer c := fun c e => by
  have t := Array.all_eq_true.1 h i (Array.getElem?_eq_some_iff.1 hi).1
  have e2 : ops[i]'(Array.getElem?_eq_some_iff.1 hi).1 = o := (Array.getElem?_eq_some_iff.1 hi).2
  rw [e2, e] at t
  cases t
theorem quiet_in {o : Oper} {a : Act} {K : Act → Prop} {K' : Act → World → Prop} {Q : Exit → Act → World → Prop} {w : World} (nd : ∀ c, o.op ≠ .defer c) (hw : C w) (h : ∀ a w', C w' → K a → K' a w')
    (hh : o.quiet P a C K) : o.wpIn (Fence.wide.inRound l) m P a w K' Q := by
  obtain ⟨v, h1, h2⟩ := hh
  have h3 := h1 w hw
  refine ⟨fun _ _ => trivial, ?_⟩
  rw [Oper.semAt_eq _ _ _ nd]
  unfold Oper.quietAt at h3
  generalize (execOp a.eval o).run P w = r at *
  cases r with
  | halt x w' => cases h3
  | ok x w' =>
    cases x with
    | value u =>
      obtain ⟨e1, e2⟩ := h3
      rw [e1, e2]; exact h _ _ hw h2
    | skip =>
      obtain ⟨e1, e2⟩ := h3
      subst e2
      rw [e1]; exact h _ _ hw h2
    | enter f args =>
      obtain ⟨e1, hc⟩ := h3
      rw [e1]
      rw [Oper.uponIn_enter]
      refine ⟨fun hd => ?_, CallsIn.inRound l (callsIn_wide.2 (hc.mono ?_))⟩
      · simp [Fence.wide] at hd
      · rintro e w2 ⟨rfl, hw2⟩
        exact h _ _ hw2 h2
    | _ => cases h3
theorem QL.anyIn {n g : Nat} {L : Array Bool → Act → Prop} {Q : Exit → Act → World → Prop} (nd : noDefer ops = true) (hL : ∀ ls a w, C w → L ls a → wpAnyIn (Fence.wide.inRound l) m P md ops Q g ls a w) (f : Nat) :
    ∀ ls a w, C w → QL P md ops C n L f ls a → wpAnyIn (Fence.wide.inRound l) m P md ops Q (f + g) ls a w := by
  induction f with
  | zero => intro ls a w hw h; rw [Nat.zero_add]; exact hL _ _ _ hw h
  | succ f ih =>
    intro ls a w hw h
    rw [Nat.succ_add_eq_add_succ]
    refine ⟨fun e => absurd e h.1, fun i hi => ?_⟩
    have q := (h.2 i hi).2
    unfold qOp at q
    unfold wpOpIn
    split
    · rename_i ho; simp only [ho] at q; exact ih _ _ _ hw q
    · rename_i o ho
      simp only [ho] at q
      split
      · rename_i hwt; simp only [hwt, if_true] at q; exact quiet_in (noDefer_at nd ho) hw (fun a' w' hw' h' => ih _ a' w' hw' h') q
      · rename_i hwt; simp only [hwt] at q; exact ⟨fun _ _ => trivial, ih _ _ _ hw q⟩
theorem seq_in {F : Fence} {Q : Exit → Act → World → Prop} (r : List Oper) : ∀ (k : Nat) (ls : Array Bool) (a : Act) (w : World), (∀ j, r[j]? = ops[k + j]?) →
    Region.seqB md ops r.length k ls = true → wpListIn F m P ops Q r a w → wpAnyIn F m P md ops Q r.length ls a w := by
  induction r with
  | nil => intro k ls a w _ hB h; exact ⟨by simpa [Region.seqB] using hB, h⟩
  | cons o r ih =>
    intro k ls a w hl hB h
    have h0 : ops[k]? = some o := by simpa using (hl 0).symm
    simp only [List.length_cons, Region.seqB, Bool.and_eq_true, decide_eq_true_eq] at hB
    refine ⟨fun e => (by rw [hB.1] at e; cases e), fun i hi => ?_⟩
    rw [hB.1] at hi
    obtain rfl : i = k := by simpa using hi
    have t : wpOpIn F m P ops Q i (wpListIn F m P ops Q r) a w := by unfold wpOpIn; simp only [h0]; exact h
    refine wpOpIn_mono (fun a' w' h' => ih (i + 1) _ a' w' (fun j => ?_) hB.2 h') t
    have t := hl (j + 1)
    rw [List.getElem?_cons_succ] at t
    rw [t]; congr 1; omega
theorem wpIn_region_below_tail {id : Nat} {Q : Exit → Act → World → Prop} {a : Act} {w : World} {r : List Oper} (n : Nat) (hm : P.follows .mixedOrders = true) (hB : (noDefer r.toArray && Region.lexTailB .any r.toArray n) = true)
    (h : wpQuiet P r.toArray (fun w' => ∃ p : Regrown, w' = grow (redrawn w p.d) p.os) (fun a' => ∀ w', (∃ p : Regrown, w' = grow (redrawn w p.d) p.os) → wpListIn (Fence.wide.inRound l) m P r.toArray Q (r.drop n) a' w') (r.take n) a) :
    (Code.region id r.toArray true).wpIn (Fence.wide.inRound l) m P Q a w := by
  simp only [Region.lexTailB, Bool.and_eq_true, decide_eq_true_eq] at hB
  obtain ⟨nd, ⟨⟨⟨sel, hn⟩, hs⟩, hc⟩, lex⟩ := hB
  have ln : n < r.length := by simpa using hn
  have tl : (r.take n).length = n := by rw [List.length_take]; omega
  have dl : (r.drop n).length = r.toArray.size - n := by rw [List.length_drop]; simp
  have i0 : HeadInv .any r.toArray n (Array.replicate r.toArray.size false) :=
    ⟨by simp, fun j oj _ hl => (by rw [getD_replicate_false] at hl; cases hl), fun t _ ht => getD_in (by simpa using ht) (getD_replicate_false _ _)⟩
  have H := QL.lex (P := P) (md := .any) (g := r.toArray.size - n) sel hs hc hn (r.take n) 0 _ a (fun j hj => by
    rw [tl] at hj
    simp [hj]) (by rw [tl]; omega) i0 (by rw [tl]; exact lex) h
  have K := QL.anyIn (l := l) (m := m) (Q := Q) (g := r.toArray.size - n) nd (fun ls a' w' hw' hL => by
    have t := seq_in (md := .any) (P := P) (m := m) (F := Fence.wide.inRound l) (Q := Q) (r.drop n) n ls a' w' (fun j => by simp [List.getElem?_drop]) (by rw [dl]; exact hL.1) (hL.2 w' hw')
    rwa [dl] at t) _ _ a { w with drawn := w.drawn + 1 } ⟨⟨w.drawn + 1, #[]⟩, by rw [grow_empty]; rfl⟩ H
  rw [tl, show n + (r.toArray.size - n) = r.toArray.size by omega] at K
  exact wpIn_region_any hm K
end
end Go.Proofs.Ytpigofooblmdhaa
namespace Go.Proofs.Ytpigofooblmdhaa.NT
def Pri (p : Nat) : Prop := 2 ≤ p ∧ ∀ d, d ∣ p → d = 1 ∨ d = p
theorem Pri.cop {p a : Nat} (h : Pri p) (hn : ¬ p ∣ a) : Nat.Coprime p a := by
  rcases h.2 _ (Nat.gcd_dvd_left p a) with e | e
  · exact e
  · exact absurd (e ▸ Nat.gcd_dvd_right p a) hn
theorem Pri.dvd_mul {p a b : Nat} (h : Pri p) (hd : p ∣ a * b) : p ∣ a ∨ p ∣ b := by
  by_cases c : p ∣ a
  · exact .inl c
  · exact .inr ((h.cop c).dvd_of_dvd_mul_left hd)
def ch : Nat → Nat → Nat
  | _, 0 => 1
  | 0, _ + 1 => 0
  | n + 1, k + 1 => ch n k + ch n (k + 1)
theorem ch_big (n : Nat) : ∀ k, n < k → ch n k = 0 := by
  induction n with
  | zero => intro k hk; cases k with
    | zero => omega
    | succ k => rfl
  | succ n ih => intro k hk; cases k with
    | zero => omega
    | succ k => show ch n k + ch n (k + 1) = 0; rw [ih k (by omega), ih (k + 1) (by omega)]
theorem ch_self (n : Nat) : ch n n = 1 := by
  induction n with
  | zero => rfl
  | succ n ih => show ch n n + ch n (n + 1) = 1; rw [ih, ch_big n (n + 1) (by omega)]
theorem ch_zero (n : Nat) : ch n 0 = 1 := by cases n <;> rfl
theorem ch_abs (n : Nat) : ∀ k, (n + 1) * ch n k = ch (n + 1) (k + 1) * (k + 1) := by
  induction n with
  | zero => intro k; cases k with
    | zero => rfl
    | succ k => show 1 * 0 = (0 + ch 0 (k + 1 + 1)) * _; rw [ch_big 0 (k + 1 + 1) (by omega)]; simp
  | succ n ih => intro k; cases k with
    | zero =>
      have h1 := ih 0
      have e1 : ch (n + 1 + 1) (0 + 1) = ch (n + 1) 0 + ch (n + 1) (0 + 1) := rfl
      rw [e1, ch_zero]
      rw [ch_zero] at h1
      omega
    | succ k =>
      have h1 := ih k
      have h2 := ih (k + 1)
      have e1 : ch (n + 1 + 1) (k + 1 + 1) = ch (n + 1) (k + 1) + ch (n + 1) (k + 1 + 1) := rfl
      have e2 : ch (n + 1) (k + 1) = ch n k + ch n (k + 1) := rfl
      rw [e2] at h1 e1
      rw [e1, e2]
      clear e1 e2 ih
      generalize ch (n + 1) (k + 1 + 1) = x at *
      generalize ch n k = y at *
      generalize ch n (k + 1) = z at *
      grind
def S (n a : Nat) : Nat → Nat
  | 0 => 0
  | m + 1 => S n a m + ch n m * a ^ m
theorem S_step (n a m : Nat) : S (n + 1) a (m + 1) = S n a (m + 1) + a * S n a m := by
  induction m with
  | zero => simp [S, ch_zero]
  | succ m ih =>
    show S (n + 1) a (m + 1) + ch (n + 1) (m + 1) * a ^ (m + 1) = _
    have e : ch (n + 1) (m + 1) = ch n m + ch n (m + 1) := rfl
    have e2 : S n a (m + 1 + 1) = S n a (m + 1) + ch n (m + 1) * a ^ (m + 1) := rfl
    have e3 : S n a (m + 1) = S n a m + ch n m * a ^ m := rfl
    rw [ih, e, e2]
    have e4 : a * S n a (m + 1) = a * S n a m + ch n m * a ^ (m + 1) := by rw [e3, Nat.pow_succ]; grind
    rw [e4]; grind
theorem binom (a n : Nat) : S n a (n + 1) = (a + 1) ^ n := by
  induction n with
  | zero => simp [S, ch]
  | succ n ih =>
    rw [S_step]
    show S n a (n + 1) + ch n (n + 1) * _ + _ = _
    rw [ch_big n (n + 1) (by omega), ih, Nat.pow_succ]; grind
theorem Pri.ch {p : Nat} (h : Pri p) (k : Nat) (h0 : 0 < k) (h1 : k < p) : p ∣ ch p k := by
  obtain ⟨j, rfl⟩ : ∃ j, k = j + 1 := ⟨k - 1, by omega⟩
  obtain ⟨n, rfl⟩ : ∃ n, p = n + 1 := ⟨p - 1, by omega⟩
  have e := ch_abs n j
  have d : n + 1 ∣ NT.ch (n + 1) (j + 1) * (j + 1) := e ▸ Nat.dvd_mul_right _ _
  rcases h.dvd_mul d with c | c
  · exact c
  · exact absurd (Nat.le_of_dvd (by omega) c) (by omega)
theorem S_mod {p : Nat} (h : Pri p) (a : Nat) : ∀ m, m + 1 ≤ p → S p a (m + 1) % p = 1 := by
  intro m
  induction m with
  | zero => intro _; simp [S, ch_zero]; exact Nat.mod_eq_of_lt h.1
  | succ m ih =>
    intro hm
    show (S p a (m + 1) + NT.ch p (m + 1) * a ^ (m + 1)) % p = 1
    rw [Nat.add_mod, Nat.mul_mod, Nat.mod_eq_zero_of_dvd (h.ch (m + 1) (by omega) (by omega)), ih (by omega)]
    simp
    exact Nat.mod_eq_of_lt h.1
theorem fermat' {p : Nat} (h : Pri p) (a : Nat) : a ^ p % p = a % p := by
  induction a with
  | zero => rw [Nat.zero_pow (by have := h.1; omega)]
  | succ a ih =>
    rw [← binom]
    show (S p a p + NT.ch p p * a ^ p) % p = _
    obtain ⟨m, hm⟩ : ∃ m, p = m + 1 := ⟨p - 1, by have := h.1; omega⟩
    have s := S_mod h a m (by omega)
    rw [← hm] at s
    rw [ch_self, Nat.one_mul, Nat.add_mod, s, ih, Nat.add_comm 1, Nat.mod_add_mod]
theorem sub_dvd {p x y : Nat} (h : x % p = y % p) : p ∣ x - y := by
  have e1 := Nat.div_add_mod x p
  have e2 := Nat.div_add_mod y p
  refine ⟨x / p - y / p, ?_⟩
  rw [Nat.mul_sub]; omega
theorem fermat {p : Nat} (h : Pri p) (a : Nat) (hn : ¬ p ∣ a) : a ^ (p - 1) % p = 1 := by
  have f := fermat' h a
  obtain ⟨m, hm⟩ : ∃ m, p = m + 1 := ⟨p - 1, by have := h.1; omega⟩
  have e : a ^ p = a * a ^ (p - 1) := by rw [show p - 1 = m by omega]; conv => lhs; rw [hm, Nat.pow_succ, Nat.mul_comm]
  have a0 : 0 < a := by
    rcases Nat.eq_zero_or_pos a with c | c
    · subst c; exact absurd (Nat.dvd_zero p) hn
    · exact c
  have p1 : 1 ≤ a ^ (p - 1) := Nat.pow_pos a0
  rw [e] at f
  have d : p ∣ a * (a ^ (p - 1) - 1) := by
    rw [Nat.mul_sub, Nat.mul_one]
    exact sub_dvd f
  rcases h.dvd_mul d with c | c
  · exact absurd c hn
  · obtain ⟨t, ht⟩ := c
    have e1 : a ^ (p - 1) = 1 + p * t := by omega
    rw [e1, Nat.add_mul_mod_self_left]
    exact Nat.mod_eq_of_lt h.1
theorem pow_one_mod {x r : Nat} (h : x % r = 1 % r) (k : Nat) : x ^ k % r = 1 % r := by
  rw [Nat.pow_mod, h, ← Nat.pow_mod, Nat.one_pow]
theorem pow_gcd {x r : Nat} (a b : Nat) : x ^ a % r = 1 % r → x ^ b % r = 1 % r → x ^ (Nat.gcd a b) % r = 1 % r := by
  induction a, b using Nat.gcd.induction with
  | H0 n => intro _ h; rw [Nat.gcd_zero_left]; exact h
  | H1 m n hm ih =>
    intro h1 h2
    rw [Nat.gcd_rec]
    refine ih ?_ h1
    have e : x ^ n = x ^ (n % m) * (x ^ m) ^ (n / m) := by rw [← Nat.pow_mul, ← Nat.pow_add, Nat.mod_add_div]
    rw [e, Nat.mul_mod, pow_one_mod h1 (n / m), ← Nat.mul_mod, Nat.mul_one] at h2
    exact h2
theorem has_pri (n : Nat) : 2 ≤ n → ∃ p, Pri p ∧ p ∣ n := by
  induction n using Nat.strongRecOn with
  | ind n ih =>
    intro hn
    by_cases c : Pri n
    · exact ⟨n, c, Nat.dvd_refl n⟩
    · have : ∃ d, d ∣ n ∧ d ≠ 1 ∧ d ≠ n := Classical.byContradiction fun h => c ⟨hn, fun d hd => Classical.byContradiction fun h2 => h ⟨d, hd, by omega, by omega⟩⟩
      obtain ⟨d, hd, d1, dn⟩ := this
      have := Nat.le_of_dvd (by omega) hd
      have d0 : d ≠ 0 := by rintro rfl; obtain ⟨t, ht⟩ := hd; omega
      obtain ⟨p, hp, hpd⟩ := ih d (by omega) (by omega)
      exact ⟨p, hp, Nat.dvd_trans hpd hd⟩
theorem small_pri (n : Nat) (hn : 2 ≤ n) (c : ¬ Pri n) : ∃ r, Pri r ∧ r ∣ n ∧ r * r ≤ n := by
  have : ∃ d, d ∣ n ∧ d ≠ 1 ∧ d ≠ n := Classical.byContradiction fun h => c ⟨hn, fun d hd => Classical.byContradiction fun h2 => h ⟨d, hd, by omega, by omega⟩⟩
  obtain ⟨d, ⟨e, he⟩, d1, dn⟩ := this
  have d0 : d ≠ 0 := by rintro rfl; omega
  have e0 : e ≠ 0 := by rintro rfl; omega
  have e1 : e ≠ 1 := by rintro rfl; omega
  rcases Nat.le_total d e with h | h
  · obtain ⟨r, hr, hrd⟩ := has_pri d (by omega)
    have := Nat.le_of_dvd (by omega) hrd
    exact ⟨r, hr, he ▸ Nat.dvd_trans hrd (Nat.dvd_mul_right d e), he ▸ Nat.mul_le_mul this (by omega)⟩
  · obtain ⟨r, hr, hrd⟩ := has_pri e (by omega)
    have := Nat.le_of_dvd (by omega) hrd
    exact ⟨r, hr, he ▸ Nat.dvd_trans hrd (Nat.dvd_mul_left e d), he ▸ Nat.mul_le_mul (by omega) this⟩
theorem pock {n g q r : Nat} (hn : 2 ≤ n) (hq : Pri q) (hqn : q ∣ n - 1) (h1 : g ^ (n - 1) % n = 1) (h2 : Nat.gcd (g ^ ((n - 1) / q) % n + (n - 1)) n = 1) (hr : Pri r) (hrn : r ∣ n) : q ∣ r - 1 := by
  refine Classical.byContradiction fun hc => ?_
  have r2 := hr.1
  have er : (1 : Nat) % r = 1 := Nat.mod_eq_of_lt r2
  have g1 : g ^ (n - 1) % r = 1 % r := by rw [← Nat.mod_mod_of_dvd _ hrn, h1]
  have rg : ¬ r ∣ g := fun h => by
    have : r ∣ g ^ (n - 1) := Nat.dvd_trans h ⟨g ^ (n - 1 - 1), by rw [← Nat.pow_succ', show (n - 1 - 1).succ = n - 1 by omega]⟩
    have := Nat.mod_eq_zero_of_dvd this
    omega
  have g2 : g ^ (r - 1) % r = 1 % r := by rw [fermat hr g rg, er]
  have g3 := pow_gcd _ _ g1 g2
  obtain ⟨c, hcq⟩ := hqn
  have ec : (n - 1) / q = c := by rw [hcq, Nat.mul_div_cancel_left _ (by have := hq.1; omega)]
  have cop : Nat.Coprime q (Nat.gcd (n - 1) (r - 1)) := hq.cop fun h => hc (Nat.dvd_trans h (Nat.gcd_dvd_right _ _))
  have dc : Nat.gcd (n - 1) (r - 1) ∣ c := cop.symm.dvd_of_dvd_mul_left (hcq ▸ Nat.gcd_dvd_left (n - 1) (r - 1))
  obtain ⟨k, hk⟩ := dc
  have g4 : g ^ c % r = 1 % r := by rw [hk, Nat.pow_mul]; exact pow_one_mod g3 k
  rw [ec] at h2
  have g5 : g ^ c % n % r = 1 % r := by rw [Nat.mod_mod_of_dvd _ hrn, g4]
  have d1 : r ∣ g ^ c % n - 1 := sub_dvd g5
  have ge : 1 ≤ g ^ c % n := by
    rcases Nat.eq_zero_or_pos (g ^ c % n) with h | h
    · rw [h, Nat.zero_mod] at g5; omega
    · exact h
  have d2 : r ∣ g ^ c % n + (n - 1) := by
    have := Nat.dvd_add d1 hrn
    rwa [show g ^ c % n - 1 + n = g ^ c % n + (n - 1) by omega] at this
  have d3 := Nat.dvd_gcd d2 hrn
  rw [h2] at d3
  have := Nat.le_of_dvd (by omega) d3
  omega
theorem pock_end {n F : Nat} (hn : 2 ≤ n) (hF : n < (F + 1) * (F + 1)) (h : ∀ r, Pri r → r ∣ n → F ∣ r - 1) : Pri n := by
  refine Classical.byContradiction fun c => ?_
  obtain ⟨r, hr, hrn, hrr⟩ := small_pri n hn c
  have r2 := hr.1
  have := Nat.le_of_dvd (by omega) (h r hr hrn)
  have := Nat.mul_le_mul (show F + 1 ≤ r by omega) (show F + 1 ≤ r by omega)
  omega
def pmod (n : Nat) : Nat → Nat → Nat → Nat
  | 0, _, _ => 1 % n
  | f + 1, g, e => if e % 2 = 1 then g * pmod n f (g * g % n) (e / 2) % n else pmod n f (g * g % n) (e / 2)
theorem pmod_eq (n : Nat) : ∀ f g e, e < 2 ^ f → pmod n f g e = g ^ e % n := by
  intro f
  induction f with
  | zero => intro g e he; have : e = 0 := by omega
            subst this; rfl
  | succ f ih =>
    intro g e he
    have he2 : e / 2 < 2 ^ f := by rw [Nat.pow_succ] at he; omega
    have sq : (g * g % n) ^ (e / 2) % n = g ^ (2 * (e / 2)) % n := by rw [← Nat.pow_mod, Nat.pow_mul, Nat.pow_two]
    show (if e % 2 = 1 then g * pmod n f (g * g % n) (e / 2) % n else pmod n f (g * g % n) (e / 2)) = _
    rw [ih _ _ he2, sq]
    split
    · rw [Nat.mul_mod, Nat.mod_mod, ← Nat.mul_mod, ← Nat.pow_succ', show (2 * (e / 2)).succ = e by omega]
    · rw [show 2 * (e / 2) = e by omega]
def tst (n g q : Nat) : Bool := decide (2 ≤ n) && ((n - 1) % q == 0 && (pmod n 256 g (n - 1) == 1 && Nat.gcd (pmod n 256 g ((n - 1) / q) + (n - 1)) n == 1))
theorem pock' {n q r : Nat} (g : Nat) (hb : n < 2 ^ 256) (ht : tst n g q = true) (hq : Pri q) (hr : Pri r) (hrn : r ∣ n) : q ∣ r - 1 := by
  simp only [tst, Bool.and_eq_true, decide_eq_true_eq, beq_iff_eq] at ht
  obtain ⟨t1, t2, t3, t4⟩ := ht
  have q2 := hq.1
  rw [pmod_eq _ _ _ _ (by omega)] at t3
  rw [pmod_eq _ _ _ _ (Nat.lt_of_le_of_lt (Nat.div_le_self _ _) (by omega))] at t4
  exact pock t1 hq (Nat.dvd_of_mod_eq_zero t2) t3 t4 hr hrn
theorem pri2 {n p q : Nat} (g : Nat) (hb : n < 2 ^ 256) (ht : tst n g p = true) (ht' : tst n g q = true) (hF : n < (p * q + 1) * (p * q + 1)) (hne : Nat.gcd p q = 1) (hp : Pri p) (hq : Pri q) : Pri n :=
  pock_end (F := p * q) (by simp only [tst, Bool.and_eq_true, decide_eq_true_eq] at ht; exact ht.1) hF fun r hr hrn =>
    Nat.Coprime.mul_dvd_of_dvd_of_dvd hne (pock' g hb ht hp hr hrn) (pock' g hb ht' hq hr hrn)
def small (n : Nat) : Bool := decide (2 ≤ n) && (List.range n).all fun d => d == 0 || d == 1 || n % d != 0
theorem pri_small {n : Nat} (h : small n = true) : Pri n := by
  simp only [small, Bool.and_eq_true, decide_eq_true_eq, List.all_eq_true, List.mem_range] at h
  refine ⟨h.1, fun d hd => ?_⟩
  have := Nat.le_of_dvd (by omega) hd
  rcases Nat.lt_or_ge d n with c | c
  · have t := h.2 d c
    have z := Nat.mod_eq_zero_of_dvd hd
    have d0 : d ≠ 0 := by rintro rfl; obtain ⟨t, ht⟩ := hd; omega
    simp [z, d0] at t
    exact .inl t
  · exact .inr (by omega)
theorem p0 : Pri 991 := pri2 2 (by decide +kernel) (by decide +kernel) (by decide +kernel) (by decide +kernel) (by decide +kernel) (pri_small (n := 11) (by decide +kernel)) (pri_small (n := 5) (by decide +kernel))
theorem p1 : Pri 8574133 := pri2 2 (by decide +kernel) (by decide +kernel) (by decide +kernel) (by decide +kernel) (by decide +kernel) p0 (pri_small (n := 103) (by decide +kernel))
theorem p2 : Pri 1919519569386763 := pri2 2 (by decide +kernel) (by decide +kernel) (by decide +kernel) (by decide +kernel) (by decide +kernel) p1 (pri_small (n := 127) (by decide +kernel))
end Go.Proofs.Ytpigofooblmdhaa.NT
set_option autoImplicit false
namespace Go.Proofs.Ytpigofooblmdhaa
open Go Go.Sort Go.RowKit
section
variable {P : Program} {ops : Array Oper} {md : Region.Mode} {C : World → Prop} {n : Nat} {L : Array Bool → Act → Prop}
abbrev CW (W : World) : World → Prop := fun w' => ∃ p : Regrown, w' = grow (redrawn W p.d) p.os
theorem cw_self (W : World) : CW W W := ⟨⟨W.drawn, #[]⟩, by rw [grow_empty]; rfl⟩
theorem cw_bel {W w' : World} (h : CW W w') : Below W.heap.size W w' := by obtain ⟨p, rfl⟩ := h; exact below_regrown _ _ _
theorem put_size (a : Act) (d : Option Tmp) (v : Value) : (a.put d v).tmps.size = a.tmps.size := by cases d <;> simp [Act.put]
theorem put_get (a : Act) (d : Nat) (v : Value) (h : d < a.tmps.size) : (a.put (some d) v).tmps.getD d undef = v := by simp [Act.put, h]
theorem put_oth (a : Act) (x : Option Tmp) (d : Nat) (v : Value) (h : x ≠ some d) : (a.put x v).tmps.getD d undef = a.tmps.getD d undef := by
  cases x with
  | none => rfl
  | some e =>
    have ne : e ≠ d := fun c => h (by rw [c])
    simp [Act.put, Array.getElem?_setIfInBounds_ne ne]
theorem QL.pin {aF : Act} (hL : ∀ ls a, L ls a → a = aF) (d : Nat) (f : Nat) : ∀ ls a, (∀ i o, i < n → ls.getD i true = false → ops[i]? = some o → o.dst ≠ some d) → QL P md ops C n L f ls a →
    a.tmps.getD d undef = aF.tmps.getD d undef := by
  induction f with
  | zero => intro ls a _ h; rw [hL _ _ h]
  | succ f ih =>
    intro ls a hd h
    cases hr : Region.ready md ops ls with
    | nil => exact absurd hr h.1
    | cons i r =>
      have hi : i ∈ Region.ready md ops ls := by rw [hr]; exact List.mem_cons_self
      obtain ⟨iu, o, ho, _⟩ := mem_ready.1 hi
      obtain ⟨v, _, hK⟩ := yieldsIn_of_qOp ho (h.2 i hi).2
      have t := ih _ _ (fun j p hj hu hp => by
        by_cases c : i = j
        · subst c
          have hlt : i < ls.size := by
            rcases Nat.lt_or_ge i ls.size with x | x
            · exact x
            · simp [Array.getElem?_eq_none x] at iu
          simp [hlt] at hu
        · rw [getD_set_ne true c] at hu
          exact hd j p hj hu hp) hK
      rw [put_oth _ _ _ _ (hd i o (h.2 i hi).1 iu ho)] at t
      exact t
theorem T.step {w : World} {aF : Act} (hL : ∀ ls a, L ls a → a = aF) {f : Nat} {ls : Array Bool} {a : Act} (h : ∀ W, Below w.heap.size w W → QL P md ops (CW W) n L (f + 1) ls a) {j d : Nat} {o : Oper}
    (hj : j ∈ Region.ready md ops ls) (ho : ops[j]? = some o) (hd : o.dst = some d) (hb : d < a.tmps.size) (dis : ∀ i p, i < n → ls.getD i true = false → i ≠ j → ops[i]? = some p → p.dst ≠ some d) :
    ∀ W, Below w.heap.size w W → YieldsIn P ops (CW W) o (aF.tmps.getD d undef) a ∧ QL P md ops (CW W) n L f (ls.setIfInBounds j true) (a.put o.dst (aF.tmps.getD d undef)) := by
  intro W hW
  obtain ⟨v, hy, hK⟩ := yieldsIn_of_qOp ho ((h W hW).2 j hj).2
  have ju := (mem_ready.1 hj).1
  have hlt : j < ls.size := by
    rcases Nat.lt_or_ge j ls.size with x | x
    · exact x
    · simp [Array.getElem?_eq_none x] at ju
  have e : v = aF.tmps.getD d undef := by
    rw [← QL.pin hL d f _ _ (fun i p hi hu hp => ?_) hK, hd, put_get _ _ _ hb]
    by_cases c : i = j
    · subst c; simp [hlt] at hu
    · rw [getD_set_ne true (fun x => c x.symm)] at hu
      exact dis i p hi hu c hp
  rw [← e]
  exact ⟨hy, hK⟩
theorem qOp_shift {x o : Oper} {p : Value} {i : Nat} (ho : ops[i]? = some o) (hap : x.apart ops o = true) (hs : ∀ cs b, o.op ≠ .select cs b) {K : Act → Prop} {a : Act} (h : qOp P ops C i K a) :
    qOp P ops C i (fun a' => ∃ a0, K a0 ∧ a' = a0.put x.dst p) (a.put x.dst p) := by
  obtain ⟨h1, h2, h3⟩ := Oper.apart_spec hap
  unfold qOp at *
  simp only [ho] at *
  rw [wanted_put o a x.dst p h1]
  split
  · rename_i hw
    simp only [hw, if_true] at h
    obtain ⟨u, hu, hn⟩ := h
    refine ⟨u, fun w hw' => ?_, _, hn, Act.put_comm a p u h2⟩
    have t := hu w hw'
    unfold Oper.quietAt at *
    rwa [execOp_put o hs a x.dst p h1]
  · rename_i hw
    simp only [hw] at h
    exact ⟨_, h, Act.put_comm a p undef h2⟩
theorem QL.shift {x : Oper} {p : Value} {α : Nat} (ap : ∀ i o, i < n → i ≠ α → ops[i]? = some o → x.apart ops o = true) (sel : ∀ (j : Nat) (p : Oper) cs b, ops[j]? = some p → p.op ≠ .select cs b) (f : Nat) :
    ∀ ls a, ls.getD α true = true → QL P md ops C n L f ls a → QL P md ops C n (fun ls' a' => ∃ a0, L ls' a0 ∧ a' = a0.put x.dst p) f ls (a.put x.dst p) := by
  induction f with
  | zero => intro ls a _ h; exact ⟨a, h, rfl⟩
  | succ f ih =>
    intro ls a hα h
    refine ⟨h.1, fun i hi => ⟨(h.2 i hi).1, ?_⟩⟩
    obtain ⟨iu, o, ho, _⟩ := mem_ready.1 hi
    have ne : i ≠ α := fun c => by rw [c, hα] at iu; cases iu
    refine qOp_mono (fun a' ⟨a0, h0, e⟩ => ?_) (qOp_shift (p := p) ho (ap i o (h.2 i hi).1 ne ho) (fun cs b => sel i o cs b ho) (h.2 i hi).2)
    rw [e]
    exact ih _ _ (by rw [getD_set_ne true ne]; exact hα) h0
def lexA (md : Region.Mode) (ops : Array Oper) (g : Nat) : Nat → Nat → Array Bool → Bool
  | 0, k, ls => Region.seqB md ops g (k + 1) ls
  | f + 1, k, ls => (Region.ready md ops ls).contains k && Region.free md ops ls k && lexA md ops g f (k + 1) (ls.setIfInBounds k true)
theorem QL.lexA {g : Nat} {R : Act → Prop} (sel : Region.noSelect ops = true) (hs : Region.sinkB md ops n = true) (hc : Region.chainB md ops n = true) (hn : n < ops.size) (l : List Oper) :
    ∀ (k : Nat) (ls : Array Bool) (a : Act), (∀ j, j < l.length → l[j]? = ops[k + j]?) → k + l.length + 1 = n → HeadInv md ops n ls → lexA md ops g l.length k ls = true → wpQuiet P ops C R l a →
      QL P md ops C n (fun ls' a' => Region.seqB md ops g n ls' = true ∧ R a') l.length ls a := by
  induction l with
  | nil =>
    intro k ls a _ hk _ hB h
    obtain rfl : k + 1 = n := hk
    exact ⟨hB, h⟩
  | cons o l ih =>
    intro k ls a hl hk inv hB h
    have h0 : ops[k]? = some o := by simpa using (hl 0 (Nat.succ_pos _)).symm
    have kn : k < n := by rw [List.length_cons] at hk; omega
    simp only [List.length_cons, Go.Proofs.Ytpigofooblmdhaa.lexA, Bool.and_eq_true] at hB
    have rk : k ∈ Region.ready md ops ls := by simpa using hB.1.1
    have q : qOp P ops C k (wpQuiet P ops C R l) a := by unfold qOp; simp only [h0]; exact h
    obtain ⟨v, hy, hK⟩ := yieldsIn_of_qOp h0 q
    refine QL.first h0 kn hn (Region.noSelect_spec sel) hs hc (fun ls' a' x => seqB_ready x.1) l.length ls a inv (Region.free_spec h0 hB.1.2) rk hy ?_
    refine ih (k + 1) _ _ (fun j hj => ?_) (by rw [← hk, List.length_cons]; omega) (inv.set rk kn) hB.2 hK
    have t := hl (j + 1) (by simpa using hj)
    rw [List.getElem?_cons_succ] at t
    rw [t]; congr 1; omega
def allocB (ops : Array Oper) (m N : Nat) : Bool :=
  match ops[m]? with
  | none => false
  | some x => x.after.isEmpty && x.guard.isNone && (List.range m).all fun j => match ops[j]? with
    | none => false
    | some p => (match p.dst with
      | none => false
      | some d => decide (d < N)) && x.apart ops p && (List.range m).all fun i => i == j || match ops[i]? with
        | none => true
        | some q => q.dst != p.dst
theorem wp_region_alloc_tail {id : Nat} {Q : Exit → Act → World → Prop} {a : Act} {w : World} {l : List Oper} (m : Nat) (hm : P.follows .mixedOrders = true)
    (hB : (Region.noSelect l.toArray && decide (m + 1 < l.length) && Region.sinkB .any l.toArray (m + 1) && Region.chainB .any l.toArray (m + 1) && lexA .any l.toArray (l.length - (m + 1)) m 0 ((Array.replicate l.length false).setIfInBounds m true)) = true)
    (hA : allocB l.toArray m a.tmps.size = true) (obj : Obj) (x : Oper) (hx : l[m]? = some x)
    (hal : ∀ (a : Act) (w : World), (execOp a.eval x).run P w = .ok (.value (.pointer (some ⟨w.heap.size, 0, none⟩))) (w.alloc obj)) (aF : Act)
    (h : ∀ W, Below w.heap.size w W → wpQuiet P l.toArray (CW W) (fun a' => a' = aF) (l.take m) a)
    (hT : ∀ w1 w2, Below w.heap.size w w1 → Below (w1.alloc obj).heap.size (w1.alloc obj) w2 → wpList P l.toArray Q (l.drop (m + 1)) (aF.put x.dst (.pointer (some ⟨w1.heap.size, 0, none⟩))) w2) :
    (Code.region id l.toArray true).wp P Q a w := by
  simp only [Bool.and_eq_true, decide_eq_true_eq] at hB
  obtain ⟨⟨⟨⟨sel, hn⟩, hs⟩, hc⟩, lex⟩ := hB
  have hxa : l.toArray[m]? = some x := by simpa using hx
  unfold allocB at hA
  rw [hxa] at hA
  simp only [Bool.and_eq_true, List.all_eq_true, List.mem_range] at hA
  obtain ⟨⟨xe, xg⟩, hall⟩ := hA
  have xe' : x.after = #[] := by simpa using xe
  have xg' : x.guard = none := by simpa using xg
  have hz : l.toArray.size = l.length := by simp
  have hn' : m + 1 < l.toArray.size := by rw [hz]; exact hn
  have tl : (l.take m).length = m := by rw [List.length_take]; omega
  have spec := Region.noSelect_spec sel
  have fact : ∀ j o, j < m → l.toArray[j]? = some o → ∃ d, o.dst = some d ∧ d < a.tmps.size ∧ x.apart l.toArray o = true ∧ ∀ i p, i < m → i ≠ j → l.toArray[i]? = some p → p.dst ≠ some d := by
    intro j o hj ho
    have t := hall j hj
    rw [ho] at t
    simp only [Bool.and_eq_true] at t
    obtain ⟨⟨t1, t2⟩, t3⟩ := t
    cases hd : o.dst with
    | none => rw [hd] at t1; cases t1
    | some d =>
      rw [hd] at t1
      refine ⟨d, rfl, by simpa using t1, t2, fun i p hi hne hp => ?_⟩
      have u := List.all_eq_true.1 t3 i (List.mem_range.2 hi)
      rw [hp] at u
      simp only [Bool.or_eq_true, beq_iff_eq, bne_iff_ne] at u
      rcases u with u | u
      · exact absurd u hne
      · rw [hd] at u; exact u
  let g := l.length - (m + 1)
  let L0 : Array Bool → Act → Prop := fun ls' a' => Region.seqB .any l.toArray g (m + 1) ls' = true ∧ a' = aF
  have hL : ∀ ls a, L0 ls a → a = aF := fun _ _ h => h.2
  have i0 : HeadInv .any l.toArray (m + 1) (Array.replicate l.length false) :=
    ⟨by simp, fun j oj _ hl => (by rw [getD_replicate_false] at hl; cases hl), fun t _ ht => getD_in (by simpa using ht) (getD_replicate_false _ _)⟩
  have am : ∀ ls : Array Bool, ls.getD m true = false → m ∈ Region.ready .any l.toArray ls := fun ls hu => mem_ready.2 ⟨hu, x, hxa, fun e he => by rw [xe'] at he; simp at he⟩
  have mlt : ∀ ls : Array Bool, ls.getD m true = false → m < ls.size := fun ls hu => by
    rcases Nat.lt_or_ge m ls.size with y | y
    · exact y
    · simp [Array.getElem?_eq_none y] at hu
  have r0 : (Array.replicate l.length false).getD m true = false := getD_in (by simp; omega) (getD_replicate_false _ _)
  have T0 : ∀ W, Below w.heap.size w W → QL P .any l.toArray (CW W) (m + 1) L0 m ((Array.replicate l.length false).setIfInBounds m true) a := fun W hW => by
    have t := QL.lexA (P := P) (C := CW W) (md := .any) (g := g) (n := m + 1) sel hs hc hn' (l.take m) 0 _ a (fun j hj => by
      rw [tl] at hj
      simp [hj]) (by rw [tl]; omega) (i0.set (am _ r0) (by omega)) (by rw [tl]; exact lex) (h W hW)
    rw [tl] at t
    exact t
  have post : ∀ f ls b (x1 w2 : World), ls.getD m true = true → Below w.heap.size w x1 → CW (x1.alloc obj) w2 → QL P .any l.toArray (CW (x1.alloc obj)) (m + 1) L0 f ls b →
      wpAny P .any l.toArray Q (f + g) ls (b.put x.dst (.pointer (some ⟨x1.heap.size, 0, none⟩))) w2 := by
    intro f ls b x1 w2 hu hx1 hw2 hq
    have sh := QL.shift (x := x) (p := .pointer (some ⟨x1.heap.size, 0, none⟩)) (α := m) (fun i o hi hne ho => by
      obtain ⟨_, _, _, t, _⟩ := fact i o (by omega) ho
      exact t) spec f ls b hu hq
    refine QL.any (Q := Q) (g := g) (fun ls' a' w' hw' hL' => ?_) f ls _ w2 hw2 sh
    obtain ⟨a0, ⟨hq1, rfl⟩, rfl⟩ := hL'
    have dl : (l.drop (m + 1)).length = g := by rw [List.length_drop]
    have t := wpAny_of_seq (md := .any) (P := P) (ops := l.toArray) (Q' := Q) (l.drop (m + 1)) (m + 1) ls' (a0.put x.dst (.pointer (some ⟨x1.heap.size, 0, none⟩))) w' (fun j => by simp [List.getElem?_drop]) (by rw [dl]; exact hq1)
      (hT x1 w' hx1 (cw_bel hw'))
    rwa [dl] at t
  have pre : ∀ f ls b (x1 : World), b.tmps.size = a.tmps.size → Below w.heap.size w x1 → HeadInv .any l.toArray (m + 1) ls → ls.getD m true = false →
      (∀ W, Below w.heap.size w W → QL P .any l.toArray (CW W) (m + 1) L0 f (ls.setIfInBounds m true) b) → wpAny P .any l.toArray Q (f + 1 + g) ls b x1 := by
    intro f
    induction f with
    | zero =>
      intro ls b x1 hb hx1 inv hu ht
      rw [show 0 + 1 + g = g + 1 by omega]
      refine ⟨fun e => absurd (am ls hu) (by rw [e]; simp), fun i hi => ?_⟩
      by_cases c : i = m
      · subst c
        unfold wpOp
        simp only [hxa]
        rw [if_pos (by unfold Region.wanted; rw [xg'])]
        left
        unfold Oper.wp
        rw [hal]
        have := post 0 (ls.setIfInBounds i true) b x1 (x1.alloc obj) (by simp [mlt ls hu]) hx1 (cw_self _) (ht _ (hx1.alloc hx1.size _))
        rw [Nat.zero_add] at this
        exact this
      · have q := ht x1 hx1
        exact absurd hi (tail_waits hs hc hn' inv _ m rfl (by omega) hu i (seqB_ready q.1 i (ready_mono hi c)))
    | succ f ih =>
      intro ls b x1 hb hx1 inv hu ht
      rw [show f + 1 + 1 + g = f + 1 + g + 1 by omega]
      refine ⟨fun e => absurd (am ls hu) (by rw [e]; simp), fun i hi => ?_⟩
      by_cases c : i = m
      · subst c
        unfold wpOp
        simp only [hxa]
        rw [if_pos (by unfold Region.wanted; rw [xg'])]
        left
        unfold Oper.wp
        rw [hal]
        exact post (f + 1) (ls.setIfInBounds i true) b x1 (x1.alloc obj) (by simp [mlt ls hu]) hx1 (cw_self _) (ht _ (hx1.alloc hx1.size _))
      · have hi2 := ready_mono (i := m) hi c
        have ilt : i < m := by have := ((ht x1 hx1).2 i hi2).1; omega
        obtain ⟨iu, o, ho, _⟩ := mem_ready.1 hi
        obtain ⟨d, hd, hdb, _, dis⟩ := fact i o ilt ho
        have st := T.step (w := w) (aF := aF) hL ht hi2 ho hd (by rw [hb]; exact hdb) (fun j p hj hju hne hp => by
          by_cases cm : j = m
          · subst cm; simp [mlt ls hu] at hju
          · exact dis j p (by omega) hne hp)
        have yq := (st x1 hx1).1.qOp ho (K := fun a' => a' = b.put o.dst (aF.tmps.getD d undef)) rfl
        refine wpOp_of_qOp (cw_self x1) (fun a' w' hw' e => ?_) yq
        rw [e]
        refine ih _ _ w' (by rw [put_size]; exact hb) (hx1.trans ((cw_bel hw').mono hx1.size)) (inv.set hi (by omega)) (by rw [getD_set_ne true c]; exact hu) (fun W hW => ?_)
        rw [Array.setIfInBounds_comm _ _ c]
        exact (st W hW).2
  have fin := pre m (Array.replicate l.length false) a { w with drawn := w.drawn + 1 } rfl (Below.drew (Below.refl _ _)) i0 r0 T0
  rw [show m + 1 + g = l.toArray.size by rw [hz]; omega] at fin
  refine wp_region_any hm ?_
  rw [hz]
  rw [hz] at fin
  exact fin
end
end Go.Proofs.Ytpigofooblmdhaa
