/- The program: Read. -/
import Derived.Test.YtndfcecimckioaaPG
import Derived.WalkMore
set_option linter.all false
set_option maxRecDepth 100000
namespace Go.Proofs.Ytndfcecimckioaa
open Go.RowKit Go.Shelf Go.Sort
attribute [local go_sem] Oper.semAt_some
theorem one_of (v : Value) (j : Nat) (hj : j < 1) : (#[v] : Array Value)[j]? = some v := by
  have : j = 0 := by omega
  subst this; rfl
/-- The three boxes of the results. -/
def RB (b : Nat) (v0 v1 v2 : Value) (W : World) : Prop := Boxed W b 22 v0 ∧ Boxed W (b + 1) 9 v1 ∧ Boxed W (b + 2) 24 v2
theorem Upd.cells {B : Nat} {W W' : World} (h : Upd B W W') {b : Nat} {o : Obj} (h1 : W.heap[b]? = some o) (h2 : o.isCells = true) : W'.heap[b]? = some o := by
  obtain ⟨l, q, h3, h4, h5, h6⟩ := h
  refine (h6.block b (Array.getElem?_eq_some_iff.1 h1).1 ?_).trans h1
  intro e
  have e' : b = l := by injection e
  subst e'
  rw [h1] at h3
  cases h3
  rw [h2] at h4
  cases h4
theorem carry {β : Type} {B : Nat} {J : β → World → Prop} (hJ : OwnFrom B J) {s : β} {W0 W W2 : World} {o : Obj} (h : J s W0) (hg : W0.grownBy W none) (hU : Upd B (W.alloc o) W2) : J s W2 :=
  hU.own hJ (hJ.alloc o (hJ s W0 W none h hg (fun r e => by cases e)))
theorem ko_below' {n : Nat} {w w' : World} (h : Below w.heap.size w w') : KeepsOthers w w' := KeepsOthers.of_grownBy (gby h) (fun j o e => by cases e)
/-- Between two rounds. -/
def IA (w : World) (s : ByteArray) (pr : List ItK) (W : World) : Prop :=
  ((∃ v, Boxed W (w.heap.size + 3) 22 v ∧ W.ownsRow w.heap.size 47 3 v (ksI pr).length (flK (ksI pr)) ∧ ((∀ x ∈ pr, x.2 = 0) ∧ Good s (ksI pr))) ∧
    Boxed W (w.heap.size + 4) 3 (.int .i64 (tot (ksI pr)))) ∧ Boxed W (w.heap.size + 5) 9 (.string s) ∧ RB w.heap.size (.slice none 0 0) (.string ⟨#[]⟩) (.int .i64 0) W ∧ Below w.heap.size w W
/-- Where a round has left. -/
def IB (w : World) (s : ByteArray) (c : Code) (pr : List ItK) (W : World) : Prop :=
  ((c = .ret ∧ ∃ E : Int, RB w.heap.size (.slice none 0 0) (.string ⟨#[]⟩) (.int .i64 E) W ∧ rdE s = E ∧ rdR s = ⟨#[]⟩ ∧ rdL s = []) ∨
   (c = .exit 0 ∧ ∃ (q : Nat), (∃ v, Boxed W (w.heap.size + 3) 22 v ∧ W.ownsRow w.heap.size 47 3 v (rdL s).length (flK (rdL s)) ∧ (q ≤ s.size ∧ q ≤ 2048 ∧ rdE s = 0 ∧ rdR s = s.extract q s.size)) ∧
      Boxed W (w.heap.size + 4) 3 (.int .i64 (q : Int)) ∧ RB w.heap.size (.slice none 0 0) (.string ⟨#[]⟩) (.int .i64 0) W)) ∧ Below w.heap.size w W
theorem RB_own {β : Type} (b : Nat) (v0 v1 v2 : Value) (B : Nat) : OwnFrom B (fun (_ : β) W => RB b v0 v1 v2 W) := by
  have h1 : OwnFrom B _ := Own.from (boxed_own b 22 (fun _ : β => v0)) _
  have h2 : OwnFrom B _ := Own.from (boxed_own (b + 1) 9 (fun _ : β => v1)) _
  have h3 : OwnFrom B _ := Own.from (boxed_own (b + 2) 24 (fun _ : β => v2)) _
  exact fun s A A' row hs hg hr => ⟨h1 s A A' row hs.1 hg hr, h2 s A A' row hs.2.1 hg hr, h3 s A A' row hs.2.2 hg hr⟩
theorem IA_own (w : World) (s : ByteArray) (B : Nat) (hB : w.heap.size ≤ B) : OwnFrom B (IA w s) := by
  have h1 : OwnFrom B _ := Own.from (holdsRow_own w.heap.size (w.heap.size + 3) 22 47 3 (fun pr : List ItK => (ksI pr).length) (fun pr => flK (ksI pr)) (fun pr _ => (∀ x ∈ pr, x.2 = 0) ∧ Good s (ksI pr))) _
  have h2 : OwnFrom B _ := Own.from (boxed_own (w.heap.size + 4) 3 (fun pr : List ItK => .int .i64 (tot (ksI pr)))) _
  have h5 : OwnFrom B _ := Own.from (boxed_own (w.heap.size + 5) 9 (fun _ : List ItK => .string s)) _
  have h4 : OwnFrom B _ := RB_own (β := List ItK) w.heap.size (.slice none 0 0) (.string ⟨#[]⟩) (.int .i64 0) B
  have h3 : OwnFrom B (fun (_ : List ItK) W => Below w.heap.size w W) := ownFrom_below (Nat.le_refl _) hB
  exact fun p A A' row hs hg hr => ⟨⟨h1 p A A' row hs.1.1 hg hr, h2 p A A' row hs.1.2 hg hr⟩, h5 p A A' row hs.2.1 hg hr, h4 p A A' row hs.2.2.1 hg hr, h3 p A A' row hs.2.2.2 hg hr⟩
theorem IB_own (w : World) (s : ByteArray) (c : Code) (B : Nat) (hB : w.heap.size ≤ B) : OwnFrom B (IB w s c) := by
  have h3 : OwnFrom B (fun (_ : List ItK) W => Below w.heap.size w W) := ownFrom_below (Nat.le_refl _) hB
  exact fun p A A' row hs hg hr => by
    obtain ⟨hs, hb⟩ := hs
    refine ⟨?_, h3 p A A' row hb hg hr⟩
    rcases hs with ⟨rfl, E, h1, h2⟩ | ⟨rfl, q, h1, h2, h4⟩
    · have h5 : OwnFrom B _ := RB_own (β := Unit) w.heap.size (.slice none 0 0) (.string ⟨#[]⟩) (.int .i64 E) B
      exact .inl ⟨rfl, E, h5 () A A' row h1 hg hr, h2⟩
    · have h5 : OwnFrom B _ := RB_own (β := Unit) w.heap.size (.slice none 0 0) (.string ⟨#[]⟩) (.int .i64 0) B
      have h6 : OwnFrom B _ := Own.from (holdsRow_own w.heap.size (w.heap.size + 3) 22 47 3 (fun _ : Unit => (rdL s).length) (fun _ => flK (rdL s)) (fun _ _ => q ≤ s.size ∧ q ≤ 2048 ∧ rdE s = 0 ∧ rdR s = s.extract q s.size)) _
      have h7 : OwnFrom B _ := Own.from (boxed_own (w.heap.size + 4) 3 (fun _ : Unit => .int .i64 (q : Int))) _
      exact .inr ⟨rfl, q, h6 () A A' row h1 hg hr, h7 () A A' row h2 hg hr, h5 () A A' row h4 hg hr⟩
theorem KpR.of {bx : Nat} {A0 A B : World} (h : ∀ b, (b = bx ∨ A0.heap.size ≤ b) → b < A.heap.size → B.heap[b]? = A.heap[b]?) : KpR bx A0 A B := fun b o h1 h2 _ => (h b h1 (Array.getElem?_eq_some_iff.1 h2).1).trans h2
theorem results_cell3 {P : Program} {fn : Func} {p q r : Tmp} {t0 t1 t2 : TypeId} {a b c : Addr} {v0 v1 v2 : Value} {w : World} (h : fn.results = #[.cell p t0, .cell q t1, .cell r t2]) (tmps : Array Value) (hp : tmps.getD p undef = .pointer (some a)) (hq : tmps.getD q undef = .pointer (some b)) (hr : tmps.getD r undef = .pointer (some c))
    (l0 : (loadVar t0 a).run P w = .ok v0 w) (l1 : (loadVar t1 b).run P w = .ok v1 w) (l2 : (loadVar t2 c).run P w = .ok v2 w) :
    (results fn tmps).run P w = .ok (.tuple #[v0, v1, v2]) w := by
  have hp' : tmps[p]?.getD undef = .pointer (some a) := by simpa using hp
  have hq' : tmps[q]?.getD undef = .pointer (some b) := by simpa using hq
  have hr' : tmps[r]?.getD undef = .pointer (some c) := by simpa using hr
  simp only [results, h]
  simp [Sem.run_bind, hp', hq', hr', asAddr, l0, l1, l2]
theorem ldR {W : World} {b : Nat} {v : Value} (h : Boxed W b 22 v) : (loadVar 22 ⟨b, 0, none⟩).run Try.prog W = .ok v W := by have c := h.cell; simp [loadVar, go_sem, c]
theorem ldS {W : World} {b : Nat} {v : Value} (h : Boxed W b 9 v) : (loadVar 9 ⟨b, 0, none⟩).run Try.prog W = .ok v W := by have c := h.cell; simp [loadVar, go_sem, c]
theorem ldE {W : World} {b : Nat} {v : Value} (h : Boxed W b 24 v) : (loadVar 24 ⟨b, 0, none⟩).run Try.prog W = .ok v W := by have c := h.cell; simp [loadVar, go_sem, c]
set_option maxHeartbeats 4000000 in
theorem tR : CRd := by
  intro s w hs
  obtain ⟨i0, hi, hz0, hz1, hz2⟩ := info_parts Try.infoK
  have TG := fun W => records_any s W
  refine (callsIn_wide (n := 8)).1 ?_
  refine callsIn_of_wp_marks Try.func10 rfl trivial ?_ rfl
  simp only [Try.ntmps10, List.size_toArray, List.length_cons, List.length_nil, Nat.reduceAdd, Nat.reduceSub, Array.replicate_succ, Array.replicate_zero, List.push_toArray, List.append_toArray, List.nil_append, List.cons_append]
  gi_wp2
  refine wpIn_wide.2 (wp_scope_straight ?_)
  go_wp2_with fail
  go_step3
  go_wp2_with (go_at_call 28; refine (TG _).mono ?_; rintro e w' ⟨rfl, rfl⟩)
  refine (wpIn_wide (n := 8)).1 ?_
  have q0 := Boxed.new w 22 (.slice none 0 0)
  have B1 := Bel.al (Below.refl w.heap.size w) (.cells #[.slice none 0 0] 22)
  have z1 : (w.alloc (.cells #[.slice none 0 0] 22)).heap.size = w.heap.size + 1 := by simp
  generalize w.alloc (.cells #[.slice none 0 0] 22) = w1 at *
  have q1 := Boxed.new w1 9 (.string ⟨#[]⟩)
  have B2 := Bel.al B1 (.cells #[.string ⟨#[]⟩] 9)
  have z2 : (w1.alloc (.cells #[.string ⟨#[]⟩] 9)).heap.size = w.heap.size + 2 := by simp; omega
  replace q0 := q0.alloc (.cells #[.string ⟨#[]⟩] 9)
  generalize w1.alloc (.cells #[.string ⟨#[]⟩] 9) = w2 at *
  have q2 := Boxed.new w2 24 (.int .i64 0)
  have B3 := Bel.al B2 (.cells #[.int .i64 0] 24)
  have z3 : (w2.alloc (.cells #[.int .i64 0] 24)).heap.size = w.heap.size + 3 := by simp; omega
  replace q0 := q0.alloc (.cells #[.int .i64 0] 24)
  replace q1 := q1.alloc (.cells #[.int .i64 0] 24)
  generalize w2.alloc (.cells #[.int .i64 0] 24) = w3 at *
  have q3 := Boxed.new w3 22 (.slice none 0 0)
  have B4 := Bel.al B3 (.cells #[.slice none 0 0] 22)
  have z4 : (w3.alloc (.cells #[.slice none 0 0] 22)).heap.size = w.heap.size + 4 := by simp; omega
  replace q0 := q0.alloc (.cells #[.slice none 0 0] 22)
  replace q1 := q1.alloc (.cells #[.slice none 0 0] 22)
  replace q2 := q2.alloc (.cells #[.slice none 0 0] 22)
  generalize w3.alloc (.cells #[.slice none 0 0] 22) = w4 at *
  have q4 := Boxed.new w4 3 (.int .i64 0)
  have B5 := Bel.al B4 (.cells #[.int .i64 0] 3)
  have z5 : (w4.alloc (.cells #[.int .i64 0] 3)).heap.size = w.heap.size + 5 := by simp; omega
  replace q0 := q0.alloc (.cells #[.int .i64 0] 3)
  replace q1 := q1.alloc (.cells #[.int .i64 0] 3)
  replace q2 := q2.alloc (.cells #[.int .i64 0] 3)
  replace q3 := q3.alloc (.cells #[.int .i64 0] 3)
  generalize w4.alloc (.cells #[.int .i64 0] 3) = w5 at *
  have q5 := Boxed.new w5 9 (.string s)
  have q6 : Arr (w5.alloc (.cells #[.string s] 9)) w5.heap.size 1 (fun _ => .string s) := Arr.new _ _ 9 _ (by simp) _ 1 (one_of _)
  have B6 := Bel.al B5 (.cells #[.string s] 9)
  have z6 : (w5.alloc (.cells #[.string s] 9)).heap.size = w.heap.size + 6 := by simp; omega
  replace q0 := q0.alloc (.cells #[.string s] 9)
  replace q1 := q1.alloc (.cells #[.string s] 9)
  replace q2 := q2.alloc (.cells #[.string s] 9)
  replace q3 := q3.alloc (.cells #[.string s] 9)
  replace q4 := q4.alloc (.cells #[.string s] 9)
  generalize w5.alloc (.cells #[.string s] 9) = w6 at *
  rw [z1] at q1
  rw [z2] at q2
  rw [z3] at q3
  rw [z4] at q4
  rw [z5] at q5 q6
  clear B1 B2 B3 B4 B5 z1 z2 z3 z4 z5 TG
  refine wpIn_rangeFunc_dual rfl (by omega) (gf := 33) (lb := #[.pointer (some ⟨w.heap.size + 5, 0, none⟩)]) rfl trivial (enters_of Try.func33 (by kernel_rfl) rfl)
    (recs_seq s hs _ (w.heap.size + 5) (by omega) w6 q6) (fun A0 A B l o o' _ _ h1 h2 h3 => KpR.put A0 A B l o o' h1 h2 h3) (Below.refl _ _) (fun _ => rfl)
    (IA w s) (IB w s) (IA_own w s _ (by omega)) (fun c => IB_own w s c _ (by omega))
    ⟨⟨⟨_, q3, World.ownsRow_nil _ _ _ _, (fun x hx => by cases hx), good_0 s⟩, q4⟩, q5, ⟨q0, q1, q2⟩, B6⟩ ?round ?done ?stop
  case round =>
    clear q0 q1 q2 q3 q4 q5 q6 B6
    rintro l pr ⟨⟨cr, kr, sr⟩, E⟩ W0 W hI hg hMk
    unfold encK keV
    gi_wp2
    refine ⟨World.grownBy_alloc W _ none, ?_⟩
    intro W2 hU
    obtain ⟨⟨⟨v, hv0, hrow0, hpre, hG⟩, hu0⟩, hbx0, hRB0, hB0⟩ := hI
    have hlt := hrow0.lt
    obtain ⟨v', hv, hrow, e⟩ := carry (Own.from (holdsRow_own w.heap.size (w.heap.size + 3) 22 47 3 (fun _ : Unit => (ksI pr).length) (fun _ => flK (ksI pr)) (fun _ u => u = v)) w6.heap.size) (s := ()) ⟨v, hv0, hrow0, rfl⟩ hg hU
    subst e
    have hu := carry (Own.from (boxed_own (w.heap.size + 4) 3 (fun _ : Unit => .int .i64 (tot (ksI pr)))) w6.heap.size) (s := ()) hu0 hg hU
    have hbx := carry (Own.from (boxed_own (w.heap.size + 5) 9 (fun _ : Unit => .string s)) w6.heap.size) (s := ()) hbx0 hg hU
    have hRB := carry (RB_own (β := Unit) w.heap.size (.slice none 0 0) (.string ⟨#[]⟩) (.int .i64 0) w6.heap.size) (s := ()) hRB0 hg hU
    have hB := carry (ownFrom_below (β := Unit) (w₀ := w) (B := w6.heap.size) (Nat.le_refl _) (by omega)) (s := ()) hB0 hg hU
    have KU : ∀ (b : Nat) (o : Obj), W.heap[b]? = some o → o.isCells = true → W2.heap[b]? = some o := fun b o h1 h2 => hU.cells ((Below.heap_alloc W _ b (Array.getElem?_eq_some_iff.1 h1).1).trans h1) h2
    have KA := hU.arr (Arr.new W #[Value.bool cr, .int .i64 kr, .string sr] 47 _ rfl _ 3 (keC_at ⟨cr, kr, sr⟩))
    obtain ⟨m1, m2, m3, m4⟩ := hMk
    simp only at m3 m4
    have GB : Hid (E ≠ 0 → rdE s = E ∧ rdR s = ⟨#[]⟩ ∧ rdL s = []) := by show _ → _; intro h; rw [m4] at h ⊢; exact good_bad hG h
    have GE : Hid (E = 0 → kr = 0 → rdE s = 0 ∧ rdR s = s.extract (tot (ksI pr) + 4 + sr.size) s.size ∧ rdL s = ksI pr ++ [⟨cr, kr, sr⟩]) := by
      show _ → _ → _
      intro h h2
      have := good_end hG (by rw [← m4]; exact h) (by rw [← m3]; exact h2)
      rw [← m3] at this
      exact this
    have GO : Hid (E = 0 → kr ≠ 0 → Good s (ksI pr ++ [⟨cr, kr, sr⟩])) := by
      show _ → _ → _
      intro h h2
      have := good_on hG (by rw [← m4]; exact h) (by rw [← m3]; exact h2)
      rw [← m3] at this
      exact this
    have GS : Hid (E = 0 → tot (ksI pr) + 4 + sr.size ≤ s.size ∧ tot (ksI pr) + 4 + sr.size ≤ 2048) := by
      show _ → _
      intro h
      have := nx_sz s (tot (ksI pr)) (by rw [← m4]; exact h)
      rw [← m3] at this
      exact ⟨this.1, this.2.1⟩
    have gz : sr.size ≤ 1024 := by
      by_cases h : nxE s (tot (ksI pr)) = 0
      · have := (nx_sz s _ h).2.2
        rw [← m3] at this
        exact this
      · have e : (⟨cr, kr, sr⟩ : Ke) = zK := by rw [m3]; unfold nxR; rw [if_neg h]
        have e2 : sr = ⟨#[]⟩ := congrArg Ke.s e
        rw [e2]
        decide
    have hLn := good_len hG
    have hT := hG.2.1
    have HP : Hid (∀ x ∈ pr, x.2 = 0) := hpre
    have HX : Hid (ksI (pr ++ [(⟨cr, kr, sr⟩, E)]) = ksI pr ++ [⟨cr, kr, sr⟩]) := ksI_snoc _ _
    have HXT : Hid (tot (ksI pr ++ [⟨cr, kr, sr⟩]) = tot (ksI pr) + 4 + sr.size) := tot_snoc _ _
    have sW0 := hbx0.lt
    have sW := hg.size
    have sW2 := Arr.lt (n := 2) KA
    have hle : w.heap.size ≤ W2.heap.size := hB.size
    clear hv0 hrow0 hu0 hbx0 hRB0 hB0 hU m1 m2 m3 m4 hG hpre
    obtain ⟨ao, cv, rfl⟩ := own_frm hrow
    generalize ksI pr = L at *
    generalize tot L = T at *
    have C1 := fun W => size_any ⟨cr, kr, sr⟩ (by show sr.size ≤ _; omega) W
    unfold keV at C1
    have c0 := KA.cv 0 (by omega) (.bool cr) rfl
    have c1 := KA.cv 1 (by omega) (.int .i64 kr) rfl
    have c2 := KA.cv 2 (by omega) (.string sr) rfl
    have hc := hv.cell
    have hfz := hv.frozen
    have HR : Hid (W2.ownsRow w.heap.size 47 3 (.slice ao L.length cv) L.length (flK L)) := hrow
    have HV : Hid (Boxed W2 (w.heap.size + 3) 22 (.slice ao L.length cv)) := hv
    have HU : Hid _ := hu
    have HBX : Hid _ := hbx
    have HRB : Hid _ := hRB
    have HLt : Hid _ := hlt
    have HB : Hid _ := hB
    have HKU : Hid _ := KU
    have HKA : Hid _ := KA
    have kb : L.length + 1 ≤ maxLen := by unfold maxLen; omega
    have kb2 : (L.length + 1) * 32 ≤ 140737488355328 := by omega
    clear hrow hv hu hbx hRB hlt hB KU KA hg
    gi_wp2_with (gi_at_builtin; refine stopAt ?_)
    unfold Stop
    have O2 := World.ownsRow.alloc HR.out (.cells #[.bool cr, .int .i64 kr, .string sr] 47)
    have nw := news_new W2 [.bool cr, .int .i64 kr, .string sr] 47
    have hle2 : w.heap.size ≤ (W2.alloc (.cells #[.bool cr, .int .i64 kr, .string sr] 47)).heap.size := by simp; omega
    refine wpListIn_append_own _ rfl _ _ 22 rfl w.heap.size 47 i0 (.agg #[.bool false, .int .i64 0, .string ⟨#[]⟩]) 3 32 Try.underlying22 hi hz0 hz1 hz2 rfl (by decide) _ _ _ rfl O2 ⟨_, 0, none⟩ 1 1 [.bool cr, .int .i64 kr, .string sr] rfl rfl nw (fun u hu => by simp at hu; rcases hu with rfl | rfl | rfl <;> rfl) kb kb2 hle2 ?_
    intro v' x1 hown' hgrow hnil
    obtain ⟨ao', cv', rfl⟩ := own_frm hown'
    obtain ⟨hv1, hv2, hr2, hk2, hb2⟩ := Boxed.appended HV.out (by decide) HR.out hle (by omega) hown' hgrow
    have hc1 := hv1.cell
    have hf1 := hv1.frozen
    have nb : ∀ b, (b = w.heap.size + 5 ∨ W0.heap.size ≤ b) → b < W2.heap.size → x1.heap[b]? = W2.heap[b]? := by
      intro b h1 h2
      refine (hgrow.block b (by simp; omega) ?_).trans (Below.heap_alloc W2 _ b h2)
      intro e
      rcases h1 with h1 | h1
      · subst h1
        exact Boxed.not_row HBX.out (by decide) HR.out e
      · have := (HLt.out b e.symm).2
        omega
    have KA3 : Arr x1 W.heap.size 3 _ := Arr.of_block (n := 2) HKA.out (fun o h1 h2 => (nb _ (.inr (by omega)) (by omega)).trans h1)
    have KA4 := Arr.other (k := 0) KA3 (show w.heap.size + 3 ≠ W.heap.size by omega) (.slice ao' (L.length + 1) cv')
    have put : ∀ (b : Nat) (t : TypeId) (u : Value), t ≠ 47 → b ≠ w.heap.size + 3 → Boxed W2 b t u → Boxed (x1.setCell ⟨w.heap.size + 3, 0, none⟩ (.slice ao' (L.length + 1) cv')) b t u := fun b t u ht hb hbx =>
      ((hbx.alloc _).kept hgrow (hbx.not_row ht HR.out)).other hb _
    have hu2 := put _ _ _ (by decide) (by omega) HU.out
    have hbx2 := put _ _ _ (by decide) (by omega) HBX.out
    have r0 := put _ _ _ (by decide) (by omega) HRB.out.1
    have r1 := put _ _ _ (by decide) (by omega) HRB.out.2.1
    have r2 := put _ _ _ (by decide) (by omega) HRB.out.2.2
    have nb2 : ∀ b, (b = w.heap.size + 5 ∨ W0.heap.size ≤ b) → b < W2.heap.size → (x1.setCell ⟨w.heap.size + 3, 0, none⟩ (.slice ao' (L.length + 1) cv')).heap[b]? = W2.heap[b]? := fun b h1 h2 =>
      (Below.heap_setCell x1 _ _ b (by show b ≠ w.heap.size + 3; omega)).trans (nb b h1 h2)
    have hB2 := HB.out.trans hb2
    clear hnil hgrow hown' O2 nw hle2 hc hfz c0 c1 c2 put nb KA3 hv1 HR HV HU HBX HRB HLt HB HKA
    gi_wp2
    generalize x1.setCell ⟨w.heap.size + 3, 0, none⟩ (.slice ao' (L.length + 1) cv') = x2 at *
    have R0 := fun ds os => cell_regrown hu2.cell ds os
    have R1 := fun ds os => cell_regrown (KA4.cv 0 (by omega) (.bool cr) rfl) ds os
    have R2 := fun ds os => cell_regrown (KA4.cv 1 (by omega) (.int .i64 kr) rfl) ds os
    have R3 := fun ds os => cell_regrown (KA4.cv 2 (by omega) (.string sr) rfl) ds os
    refine wpIn_region_below_tail 4 (by kernel_rfl) (by kernel_rfl) ?_
    simp only [List.take_succ_cons, List.take_zero, List.drop_succ_cons, List.drop_zero]
    repeat (go_big_quiet_step (first | (go_at_call 23; exact Calls.regrown_of (C1 _))))
    refine wpQuiet_nil ?_
    intro x3 hw'
    obtain ⟨⟨dq, osq⟩, hw''⟩ := hw'
    have hb := below_of hw''
    have sx := hb.size
    have sx2 := hk2.size
    clear hw'' R0 R1 R2 R3 C1
    have HV3 := hv2.kept (gby hb) (by simp)
    have HR3 := World.ownsRow.kept hr2 (gby hb) (by cases ao' <;> simp [Value.ownBlock])
    have hu3 := hu2.kept (gby hb) (by simp)
    have hbx3 := hbx2.kept (gby hb) (by simp)
    have r03 := r0.kept (gby hb) (by simp)
    have r13 := r1.kept (gby hb) (by simp)
    have r23 := r2.kept (gby hb) (by simp)
    have KA5 := Arr.to' (n := 2) KA4 hb
    have nb3 : ∀ b, (b = w.heap.size + 5 ∨ W0.heap.size ≤ b) → b < W2.heap.size → x3.heap[b]? = W2.heap[b]? := fun b h1 h2 => (hb.block b (by omega)).trans (nb2 b h1 h2)
    have hB3 := Bel.call hB2 hb
    have hk3 := hk2.trans (ko_below hb)
    have hcu := hu3.cell
    have hfu := hu3.frozen
    clear hv2 hr2 hu2 hbx2 r0 r1 r2 KA4 nb2 hB2 hk2 hb
    have HK3 : Hid _ := hk3
    have HB3 : Hid _ := hB3
    have HN3 : Hid _ := nb3
    have HR9 : Hid _ := HR3
    have HV9 : Hid _ := HV3
    have HU9 : Hid _ := hu3
    have HX9 : Hid _ := hbx3
    have H09 : Hid _ := r03
    have H19 : Hid _ := r13
    have H29 : Hid _ := r23
    have HKA9 : Hid _ := KA5
    have d0 := r03.cell
    have d1 := r13.cell
    have d2 := r23.cell
    have f0 := r03.frozen
    have f1 := r13.frozen
    have f2 := r23.frozen
    have e1 := KA5.cv 1 (by omega) (.int .i64 kr) rfl
    clear hk3 hB3 nb3 HR3 HV3 hu3 hbx3 r03 r13 r23 KA5 hb2 hc1 hf1
    by_cases hE : E = 0
    · subst hE
      have HRW : Hid (∀ u, (x3.setCell ⟨w.heap.size + 4, 0, none⟩ u).ownsRow w.heap.size 47 3 (.slice ao' (L.length + 1) cv') (L ++ [(⟨cr, kr, sr⟩ : Ke)]).length (flK (L ++ [⟨cr, kr, sr⟩]))) := by
        show ∀ u, _
        intro u
        rw [List.length_append, List.length_singleton, flK_app]
        exact World.ownsRow.kept HR9.out (grownBy_setCell' x3 (w.heap.size + 4) u) (.inr (Boxed.not_row HU9.out (by decide) HR9.out).symm)
      by_cases hk : kr = 0
      · clear GO
        gi_wp2
        obtain ⟨g1, g2, g3⟩ := GE.out (by trivial) hk
        obtain ⟨s1, s2⟩ := GS.out (by trivial)
        refine ⟨HK3.out.trans (KeepsOthers.setCell _ _ _), .inr ⟨rfl, T + 4 + sr.size, ⟨_, Boxed.other HV9.out (by omega) _, ?_, s1, s2, g1, g2⟩, ?_, Boxed.other H09.out (by omega) _, Boxed.other H19.out (by omega) _, Boxed.other H29.out (by omega) _⟩, HB3.out.setCell (p := ⟨w.heap.size + 4, 0, none⟩) (by show _ ≤ w.heap.size + 4; omega) _⟩
        · rw [g3]
          exact HRW.out _
        · have := Boxed.set (.int .i64 ((T : Int) + (4 + (sr.size : Int)))) HU9.out
          rw [show ((T + 4 + sr.size : Nat) : Int) = (T : Int) + (4 + (sr.size : Int)) by omega]
          exact this
      · clear GE
        gi_wp2
        refine ⟨HK3.out.trans (KeepsOthers.setCell _ _ _), ?_, ⟨⟨⟨_, Boxed.other HV9.out (by omega) _, ?_, ?_, ?_⟩, ?_⟩, Boxed.other HX9.out (by omega) _, ⟨Boxed.other H09.out (by omega) _, Boxed.other H19.out (by omega) _, Boxed.other H29.out (by omega) _⟩, HB3.out.setCell (p := ⟨w.heap.size + 4, 0, none⟩) (by show _ ≤ w.heap.size + 4; omega) _⟩⟩
        · intro b o h1 h2 h3
          have q1 := HKU.out b o h2 h3
          exact (Below.heap_setCell x3 _ _ b (by show b ≠ w.heap.size + 4; omega)).trans ((HN3.out b h1 (Array.getElem?_eq_some_iff.1 q1).1).trans q1)
        · rw [HX.out]
          exact HRW.out _
        · intro x hx
          rcases List.mem_append.1 hx with hx | hx
          · exact HP.out x hx
          · rw [List.mem_singleton.1 hx]
        · rw [HX.out]
          exact GO.out (by trivial) hk
        · rw [HX.out, HXT.out]
          have := Boxed.set (.int .i64 ((T : Int) + (4 + (sr.size : Int)))) HU9.out
          rw [show ((T + 4 + sr.size : Nat) : Int) = (T : Int) + (4 + (sr.size : Int)) by omega]
          exact this
    · clear GE GO GS
      gi_wp2
      refine ⟨(((HK3.out.trans (KeepsOthers.setCell _ _ _)).trans (KeepsOthers.setCell _ _ _)).trans (KeepsOthers.setCell _ _ _)).trans (KeepsOthers.setCell _ _ _), .inl ⟨rfl, E, ⟨?_, ?_, ?_⟩, GB.out hE⟩, ?_⟩
      · exact ((Boxed.set _ (Boxed.other H09.out (by omega) _)).other (by omega) _).other (by omega) _
      · exact (Boxed.set _ ((Boxed.other H19.out (by omega) _).other (by omega) _)).other (by omega) _
      · exact Boxed.set _ (((Boxed.other H29.out (by omega) _).other (by omega) _).other (by omega) _)
      · exact (((HB3.out.setCell (p := ⟨w.heap.size + 4, 0, none⟩) (by show _ ≤ w.heap.size + 4; omega) _).setCell (p := ⟨w.heap.size, 0, none⟩) (Nat.le_refl _) _).setCell (p := ⟨w.heap.size + 1, 0, none⟩) (by show _ ≤ w.heap.size + 1; omega) _).setCell (p := ⟨w.heap.size + 2, 0, none⟩) (by show _ ≤ w.heap.size + 2; omega) _
  case done =>
    rintro De ys W hD hS hIA hK
    obtain ⟨x, hx, hE⟩ := hS
    exact absurd (hIA.1.1.elim fun v hv => hv.2.2.1 x hx) hE
  case stop =>
    clear q0 q1 q2 q3 q4 q5 q6 B6
    rintro De c pr W hD hS hIB hK
    have HI : Hid (∀ o', IB w s c pr (W.putObj De o')) := fun o' => IB_own w s c w.heap.size (Nat.le_refl _) pr W _ (some De) hIB (grownBy_putObj' W De o') (fun r e => by cases e; exact ⟨by omega, _, hK, rfl⟩)
    have HK : Hid _ := hK
    clear hK
    rcases hIB.1 with ⟨rfl, E, hRB, g1, g2, g3⟩ | ⟨rfl, q, ⟨v, hv, hrow, s1, s2, g1, g2⟩, hq, hRB⟩
    · clear hRB g1 g2 g3 hIB
      gi_wp2
      rw [Exit.noGoto_ret]
      refine ⟨by simp, .inl ⟨_, _, rfl, run_takeDeferred HK.out, ?_⟩⟩
      obtain ⟨h1, hB⟩ := HI.out (.deferred none)
      rcases h1 with ⟨_, E', ⟨b0, b1, b2⟩, g1, g2, g3⟩ | ⟨h, _⟩
      · exact ⟨.tuple #[.slice none 0 0, .string ⟨#[]⟩, .int .i64 E'], results_cell3 rfl _ rfl rfl rfl (ldR b0) (ldS b1) (ldE b2), ⟨_, by rw [g1, g2], by rw [g3]; exact Kls.nil _⟩, hB⟩
      · cases h
    · obtain ⟨ao, cv, rfl⟩ := own_frm hrow
      have hc := hv.cell
      have hq2 := hq.cell
      have d0 := hRB.1.cell
      have d1 := hRB.2.1.cell
      have d2 := hRB.2.2.cell
      have f0 := hRB.1.frozen
      have f1 := hRB.2.1.frozen
      have f2 := hRB.2.2.frozen
      have G1 : Hid _ := g1
      have G2 : Hid _ := g2
      have s3 : (q : Int) ≤ (s.size : Int) := by omega
      have hSl : ∀ W : World, (Instr.slice 9 (.string s) (some (.int .i64 (q : Int))) none none).run Try.prog W = .ok (.string (s.extract q s.size)) W := by
        intro W
        simp [go_sem]
        omega
      have n0 : ∀ u v x, (((W.setCell ⟨w.heap.size, 0, none⟩ u).setCell ⟨w.heap.size + 1, 0, none⟩ v).setCell ⟨w.heap.size + 2, 0, none⟩ x).heap[De]? = some (.deferred (some [])) := fun u v x =>
        (Below.heap_setCell _ _ _ De (by show De ≠ w.heap.size + 2; omega)).trans ((Below.heap_setCell _ _ _ De (by show De ≠ w.heap.size + 1; omega)).trans ((Below.heap_setCell _ _ _ De (by show De ≠ w.heap.size; omega)).trans HK.out))
      have HN0 : Hid _ := n0
      have HB : Hid (∀ u v x o', Below w.heap.size w ((((W.setCell ⟨w.heap.size, 0, none⟩ u).setCell ⟨w.heap.size + 1, 0, none⟩ v).setCell ⟨w.heap.size + 2, 0, none⟩ x).putObj De o')) := by
        show ∀ u v x o', _
        intro u v x o'
        have h := ((hIB.2.setCell (p := ⟨w.heap.size, 0, none⟩) (Nat.le_refl _) u).setCell (p := ⟨w.heap.size + 1, 0, none⟩) (by show _ ≤ w.heap.size + 1; omega) v).setCell (p := ⟨w.heap.size + 2, 0, none⟩) (by show _ ≤ w.heap.size + 2; omega) x
        exact ownFrom_below (β := Unit) (w₀ := w) (Nat.le_refl _) (Nat.le_refl _) () _ _ (some De) h (grownBy_putObj' _ De o') (fun r e => by cases e; exact ⟨by omega, _, n0 u v x, rfl⟩)
      have HRR : Hid (∀ u v x o', ((((W.setCell ⟨w.heap.size, 0, none⟩ u).setCell ⟨w.heap.size + 1, 0, none⟩ v).setCell ⟨w.heap.size + 2, 0, none⟩ x).putObj De o').ownsRow w.heap.size 47 3 (.slice ao (rdL s).length cv) (rdL s).length (flK (rdL s))) := by
        show ∀ u v x o', _
        intro u v x o'
        have k1 := World.ownsRow.kept hrow (grownBy_setCell' W w.heap.size u) (.inr (Boxed.not_row hRB.1 (by decide) hrow).symm)
        have k2 := World.ownsRow.kept k1 (grownBy_setCell' _ (w.heap.size + 1) v) (.inr (Boxed.not_row hRB.2.1 (by decide) hrow).symm)
        have k3 := World.ownsRow.kept k2 (grownBy_setCell' _ (w.heap.size + 2) x) (.inr (Boxed.not_row hRB.2.2 (by decide) hrow).symm)
        exact ownsRow_putObj k3 o' (n0 u v x) rfl
      have HB0 : Hid (∀ u v x o', RB w.heap.size u v x ((((W.setCell ⟨w.heap.size, 0, none⟩ u).setCell ⟨w.heap.size + 1, 0, none⟩ v).setCell ⟨w.heap.size + 2, 0, none⟩ x).putObj De o')) := by
        show ∀ u v x o', _
        intro u v x o'
        have k0 := ((Boxed.set u hRB.1).other (B' := w.heap.size + 1) (by omega) v).other (B' := w.heap.size + 2) (by omega) x
        have k1 := (Boxed.set v (hRB.2.1.other (B' := w.heap.size) (by omega) u)).other (B' := w.heap.size + 2) (by omega) x
        have k2 := Boxed.set x ((hRB.2.2.other (B' := w.heap.size) (by omega) u).other (B' := w.heap.size + 1) (by omega) v)
        exact ⟨(World.putObj_heap_other (by omega)).trans k0, (World.putObj_heap_other (by omega)).trans k1, (World.putObj_heap_other (by omega)).trans k2⟩
      clear hIB hv hrow hq hRB g1 g2 n0 HI HK
      gi_wp2
      go_wp2_with fail
      go_region
      go_wp2_with fail
      try rw [Exit.noGoto_ret]
      refine ⟨by simp, .inl ⟨_, _, rfl, run_takeDeferred (HN0.out _ _ _), ?_⟩⟩
      obtain ⟨b0, b1, b2⟩ := HB0.out (.slice ao (rdL s).length cv) (.string (s.extract q s.size)) (.int .i64 0) (.deferred none)
      have h9 := HB.out (.slice ao (rdL s).length cv) (.string (s.extract q s.size)) (.int .i64 0) (.deferred none)
      have k9 := Kls.own (l := rdL s) (HRR.out (.slice ao (rdL s).length cv) (.string (s.extract q s.size)) (.int .i64 0) (.deferred none))
      refine ⟨.tuple #[.slice ao (rdL s).length cv, .string (s.extract q s.size), .int .i64 0], results_cell3 rfl _ rfl rfl rfl (ldR b0) (ldS b1) (ldE b2), ⟨_, by rw [G1.out, G2.out], k9⟩, ⟨h9.os, h9.tape, h9.output, h9.size, h9.block⟩⟩
end Go.Proofs.Ytndfcecimckioaa
