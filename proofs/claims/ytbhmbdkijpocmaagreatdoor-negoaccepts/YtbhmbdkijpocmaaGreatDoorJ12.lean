/- Texts joined: NA, NL1, QH, QJ, NL2, NL3, QK. -/
import Derived.Test.YtbhmbdkijpocmaaGreatDoorJ11
import Derived.Test.YtbhmbdkijpocmaaGreatDoorJ10
import Derived.Test.YtbhmbdkijpocmaaGreatDoorJ3
import Derived.Test.YtbhmbdkijpocmaaGreatDoorJ2
/- The reference of nego: Accept as a function. -/
set_option linter.all false
set_option maxRecDepth 100000
namespace Go.Proofs.YtbhmbdkijpocmaaGreatDoor
open Go.RowKit Go.Shelf Go.Sort Go.Lib
theorem acX_is (ws : List Int) (l : List Ke) : acX (fdL l 2).length (unI l 0) (snR l 1).2 (snR l 1).1 (snR l 4).2 (hasB ws (snR l 4).1) (ksI (snR l 4).1) (fdL l 5) (fdL l 6) (fdL l 7) (snR l 7).2 (snR l 7).1 = accE ws l := rfl
theorem acD_is (ws : List Int) (l : List Ke) : acD (accE ws l) (snR l 4).1 (fdL l 5) (fdL l 6) (fdL l 7) (snR l 7).1 = accD ws l := rfl
theorem nAccept_any (ws : List Int) (l : List Ke) (va vl : Value) (w : World) (HA : Nls w va ws) (HL : Kls w vl l) (h9 : l.length ≤ 100000) (ha : ws.length ≤ 9223372036854775807) (hs : ∀ r ∈ l, r.s.size ≤ 9223372036854775807) :
    Calls Tryz.prog 15 #[va, vl] w fun e w' => (∃ vc, e = .returned (.tuple #[dlV (accD ws l) vc, .int .i64 (accE ws l)]) ∧ Sls w' vc (accD ws l).cs) ∧ Below w.heap.size w w' := by
  have mem : ∀ k, ∀ r ∈ fdL l k, r.s.size ≤ 9223372036854775807 := fun k r hr => hs r (List.mem_filter.1 hr).1
  have len : ∀ k, (fdL l k).length ≤ 100000 := fun k => Nat.le_trans (fdL_len l k) h9
  have h := nAccept_core va vl w (fdL l 2).length (unI l 0) (snR l 1).2 (snR l 1).1 (snR l 4).2 (snR l 4).1 (hasB ws (snR l 4).1) (ksI (snR l 4).1) (fdL l 5) (fdL l 6) (fdL l 7) (snR l 7).2 (snR l 7).1 (len 2) (len 5) (len 6) (len 7) (mem 5) (mem 6)
    (fun W hb => (rFind_any l 2 vl W (HL.to hb) h9).mono fun e w' ⟨⟨v, e1, k⟩, b⟩ => by
      obtain ⟨a, c, e2, _⟩ := k
      exact ⟨⟨a, c, by rw [e1, e2]⟩, b⟩)
    (fun W hb => rUnknown_any l vl W (HL.to hb) (by omega))
    (fun W hb => nsingle_any l 1 vl W (HL.to hb) h9 hs)
    (fun W hb => nsingle_any l 4 vl W (HL.to hb) h9 hs)
    (fun W hb => nhas_any ws (snR l 4).1 va W (HA.to hb) ha)
    (fun W => nKeySize_any (snR l 4).1 W)
    (fun W hb => rFind_any l 5 vl W (HL.to hb) h9)
    (fun W hb => rFind_any l 6 vl W (HL.to hb) h9)
    (fun W hb => rFind_any l 7 vl W (HL.to hb) h9)
    (fun W hb => nsingle_any l 7 vl W (HL.to hb) h9 hs)
  rw [acX_is, acD_is] at h
  exact h
end Go.Proofs.YtbhmbdkijpocmaaGreatDoor
/- The laws' own words: NegoAsks, by what the program's functions do. -/
set_option linter.all false
set_option maxRecDepth 100000
namespace Go.Proofs.YtbhmbdkijpocmaaGreatDoor
open Go.RowKit Go.Shelf Go.Sort Go.Lib
theorem few_any (l : List Ke) (v : Value) (w : World) (H : Kls w v l) (h9 : l.length ≤ 9223372036854775807) : Calls Tryz.prog 7 #[v] w fun e w' => e = .returned (.bool (decide (l.length ≤ 500))) ∧ w' = w := by
  obtain ⟨a, c, rfl, _⟩ := H
  have h0 : (l.length : Int) ≤ 9223372036854775807 := by omega
  have e : decide (l.length ≤ 500) = decide ((l.length : Int) ≤ 500) := by
    by_cases h : l.length ≤ 500
    · rw [decide_eq_true h, decide_eq_true (by omega)]
    · rw [decide_eq_false h, decide_eq_false (by omega)]
  rw [e]
  clear e h9
  go_enter Tryz.func7, Tryz.ntmps7
  go_wp2_with fail
  go_ret
  exact ⟨rfl, rfl⟩
theorem ask_len (ws : List Int) (h : ByteArray) (p : Int) : (askL ws h p).length ≤ 5 := by
  unfold askL
  split
  · split <;> split <;> simp
  · simp
theorem ans_len (c : Kc) (l : List Ke) : (ansR c l).1.length ≤ c.cs.length + 5 := by
  unfold ansR
  split
  · simp
  · split
    · simp
    · split
      · simp
      · split
        · simp
        · simp only [List.length_append, cksL, List.length_map]
          split <;> split <;> simp <;> omega
set_option maxHeartbeats 4000000 in
theorem NegoAsks_1 (CA : CAs) (CN : CAn) (CK : CK0) (ws : List Int) (h : ByteArray) (p : Int) (c : Kc) (l : List Ke) (va vca vcc vl : Value) (w : World) (HA : Nls w va ws) (HW : Nls w vca c.ws) (HC : Sls w vcc c.cs) (HL : Kls w vl l)
    (a9 : ws.length ≤ 9223372036854775807) (h9 : h.size ≤ 9223372036854775807) (p0 : -9223372036854775808 ≤ p) (p1 : p ≤ 9223372036854775807) (w9 : c.ws.length ≤ 9223372036854775807) (c9 : c.cs.length ≤ 9223372036854775807) (ch9 : c.h.size ≤ 9223372036854775807) (q0 : -9223372036854775808 ≤ c.p) (q1 : c.p ≤ 9223372036854775807) (l9 : l.length ≤ 9223372036854775807) (hs : ∀ r ∈ l, r.s.size ≤ 9223372036854775807) (g1 : 1000 < ws.length) :
    Calls Tryz.prog 3 #[va, .string h, .int .i64 p, kcV c vca vcc, vl] w fun e w' => e = .returned (.bool true) ∧ Below w.heap.size w w' := by
  have CW := awake_any CA CN CK
  obtain ⟨cw, ch, cp, cc⟩ := c
  unfold kcV
  simp only at HW HC w9 c9 ch9 q0 q1 g1 ⊢
  have A8 := Arr.new w #[vca, Value.string ch, .int .i64 cp, vcc] 25 _ rfl _ 4 (kcC_at vca vcc ch cp)
  have B8 := Bel.al (Below.refl w.heap.size w) (.cells #[vca, .string ch, .int .i64 cp, vcc] 25)
  have CF := few_any l vl _ (HL.to B8) l9
  obtain ⟨aa, ca, rfl, _⟩ := HA
  obtain ⟨aw, caw, rfl, _⟩ := HW
  obtain ⟨ac, cac, rfl, _⟩ := HC
  have n1 : (ws.length : Int) ≤ 9223372036854775807 := by omega
  have n2 : (cw.length : Int) ≤ 9223372036854775807 := by omega
  have n3 : (cc.length : Int) ≤ 9223372036854775807 := by omega
  have i1 : (1000 : Int) < (ws.length : Int) := by omega
  clear CF
  clear CA CN CK hs HL
  go_enter Tryz.func3, Tryz.ntmps3
  go_wp2_with (go_at_call 8; refine (CW _).mono ?_; rintro e w9 ⟨rfl, b9⟩)
  go_ret
  exact ⟨rfl, Bel.call B8 b9⟩
set_option maxHeartbeats 4000000 in
theorem NegoAsks_2 (CA : CAs) (CN : CAn) (CK : CK0) (ws : List Int) (h : ByteArray) (p : Int) (c : Kc) (l : List Ke) (va vca vcc vl : Value) (w : World) (HA : Nls w va ws) (HW : Nls w vca c.ws) (HC : Sls w vcc c.cs) (HL : Kls w vl l)
    (a9 : ws.length ≤ 9223372036854775807) (h9 : h.size ≤ 9223372036854775807) (p0 : -9223372036854775808 ≤ p) (p1 : p ≤ 9223372036854775807) (w9 : c.ws.length ≤ 9223372036854775807) (c9 : c.cs.length ≤ 9223372036854775807) (ch9 : c.h.size ≤ 9223372036854775807) (q0 : -9223372036854775808 ≤ c.p) (q1 : c.p ≤ 9223372036854775807) (l9 : l.length ≤ 9223372036854775807) (hs : ∀ r ∈ l, r.s.size ≤ 9223372036854775807) (g1 : ¬ 1000 < ws.length) (g2 : ¬ l.length ≤ 500) :
    Calls Tryz.prog 3 #[va, .string h, .int .i64 p, kcV c vca vcc, vl] w fun e w' => e = .returned (.bool true) ∧ Below w.heap.size w w' := by
  have CW := awake_any CA CN CK
  obtain ⟨cw, ch, cp, cc⟩ := c
  unfold kcV
  simp only at HW HC w9 c9 ch9 q0 q1 g1 ⊢
  have A8 := Arr.new w #[vca, Value.string ch, .int .i64 cp, vcc] 25 _ rfl _ 4 (kcC_at vca vcc ch cp)
  have B8 := Bel.al (Below.refl w.heap.size w) (.cells #[vca, .string ch, .int .i64 cp, vcc] 25)
  have CF := few_any l vl _ (HL.to B8) l9
  obtain ⟨aa, ca, rfl, _⟩ := HA
  obtain ⟨aw, caw, rfl, _⟩ := HW
  obtain ⟨ac, cac, rfl, _⟩ := HC
  have n1 : (ws.length : Int) ≤ 9223372036854775807 := by omega
  have n2 : (cw.length : Int) ≤ 9223372036854775807 := by omega
  have n3 : (cc.length : Int) ≤ 9223372036854775807 := by omega
  have i1 : ¬ (1000 : Int) < (ws.length : Int) := by omega
  rw [decide_eq_false g2] at CF
  clear CA CN CK hs HL
  go_enter Tryz.func3, Tryz.ntmps3
  go_wp2_with fail
  refine CF.mono ?_
  rintro e w2 ⟨rfl, rfl⟩
  clear CF
  go_wp2_with (go_at_call 8; refine (CW _).mono ?_; rintro e w9 ⟨rfl, b9⟩)
  go_ret
  exact ⟨rfl, Bel.call B8 b9⟩
set_option maxHeartbeats 4000000 in
theorem NegoAsks_3 (CA : CAs) (CN : CAn) (CK : CK0) (ws : List Int) (h : ByteArray) (p : Int) (c : Kc) (l : List Ke) (va vca vcc vl : Value) (w : World) (HA : Nls w va ws) (HW : Nls w vca c.ws) (HC : Sls w vcc c.cs) (HL : Kls w vl l)
    (a9 : ws.length ≤ 9223372036854775807) (h9 : h.size ≤ 9223372036854775807) (p0 : -9223372036854775808 ≤ p) (p1 : p ≤ 9223372036854775807) (w9 : c.ws.length ≤ 9223372036854775807) (c9 : c.cs.length ≤ 9223372036854775807) (ch9 : c.h.size ≤ 9223372036854775807) (q0 : -9223372036854775808 ≤ c.p) (q1 : c.p ≤ 9223372036854775807) (l9 : l.length ≤ 9223372036854775807) (hs : ∀ r ∈ l, r.s.size ≤ 9223372036854775807) (g1 : ¬ 1000 < ws.length) (g2 : l.length ≤ 500) (g3 : 500 < c.ws.length) :
    Calls Tryz.prog 3 #[va, .string h, .int .i64 p, kcV c vca vcc, vl] w fun e w' => e = .returned (.bool true) ∧ Below w.heap.size w w' := by
  have CW := awake_any CA CN CK
  obtain ⟨cw, ch, cp, cc⟩ := c
  unfold kcV
  simp only at HW HC w9 c9 ch9 q0 q1 g3 ⊢
  have A8 := Arr.new w #[vca, Value.string ch, .int .i64 cp, vcc] 25 _ rfl _ 4 (kcC_at vca vcc ch cp)
  have B8 := Bel.al (Below.refl w.heap.size w) (.cells #[vca, .string ch, .int .i64 cp, vcc] 25)
  have CF := few_any l vl _ (HL.to B8) l9
  obtain ⟨aa, ca, rfl, _⟩ := HA
  obtain ⟨aw, caw, rfl, _⟩ := HW
  obtain ⟨ac, cac, rfl, _⟩ := HC
  have n1 : (ws.length : Int) ≤ 9223372036854775807 := by omega
  have n2 : (cw.length : Int) ≤ 9223372036854775807 := by omega
  have n3 : (cc.length : Int) ≤ 9223372036854775807 := by omega
  have i1 : ¬ (1000 : Int) < (ws.length : Int) := by omega
  rw [decide_eq_true g2] at CF
  have i3 : (500 : Int) < (cw.length : Int) := by omega
  clear CA CN CK hs HL
  go_enter Tryz.func3, Tryz.ntmps3
  go_wp2_with fail
  refine CF.mono ?_
  rintro e w2 ⟨rfl, rfl⟩
  clear CF
  go_wp2_with (go_at_call 8; refine (CW _).mono ?_; rintro e w9 ⟨rfl, b9⟩)
  go_ret
  exact ⟨rfl, Bel.call B8 b9⟩
set_option maxHeartbeats 4000000 in
theorem NegoAsks_4 (CA : CAs) (CN : CAn) (CK : CK0) (ws : List Int) (h : ByteArray) (p : Int) (c : Kc) (l : List Ke) (va vca vcc vl : Value) (w : World) (HA : Nls w va ws) (HW : Nls w vca c.ws) (HC : Sls w vcc c.cs) (HL : Kls w vl l)
    (a9 : ws.length ≤ 9223372036854775807) (h9 : h.size ≤ 9223372036854775807) (p0 : -9223372036854775808 ≤ p) (p1 : p ≤ 9223372036854775807) (w9 : c.ws.length ≤ 9223372036854775807) (c9 : c.cs.length ≤ 9223372036854775807) (ch9 : c.h.size ≤ 9223372036854775807) (q0 : -9223372036854775808 ≤ c.p) (q1 : c.p ≤ 9223372036854775807) (l9 : l.length ≤ 9223372036854775807) (hs : ∀ r ∈ l, r.s.size ≤ 9223372036854775807) (g1 : ¬ 1000 < ws.length) (g2 : l.length ≤ 500) (g3 : ¬ 500 < c.ws.length) (g4 : 500 < c.cs.length) :
    Calls Tryz.prog 3 #[va, .string h, .int .i64 p, kcV c vca vcc, vl] w fun e w' => e = .returned (.bool true) ∧ Below w.heap.size w w' := by
  have CW := awake_any CA CN CK
  obtain ⟨cw, ch, cp, cc⟩ := c
  unfold kcV
  simp only at HW HC w9 c9 ch9 q0 q1 g3 g4 ⊢
  have A8 := Arr.new w #[vca, Value.string ch, .int .i64 cp, vcc] 25 _ rfl _ 4 (kcC_at vca vcc ch cp)
  have B8 := Bel.al (Below.refl w.heap.size w) (.cells #[vca, .string ch, .int .i64 cp, vcc] 25)
  have CF := few_any l vl _ (HL.to B8) l9
  obtain ⟨aa, ca, rfl, _⟩ := HA
  obtain ⟨aw, caw, rfl, _⟩ := HW
  obtain ⟨ac, cac, rfl, _⟩ := HC
  have n1 : (ws.length : Int) ≤ 9223372036854775807 := by omega
  have n2 : (cw.length : Int) ≤ 9223372036854775807 := by omega
  have n3 : (cc.length : Int) ≤ 9223372036854775807 := by omega
  have i1 : ¬ (1000 : Int) < (ws.length : Int) := by omega
  rw [decide_eq_true g2] at CF
  have i3 : ¬ (500 : Int) < (cw.length : Int) := by omega
  have i4 : (500 : Int) < (cc.length : Int) := by omega
  clear CA CN CK hs HL
  go_enter Tryz.func3, Tryz.ntmps3
  go_wp2_with fail
  refine CF.mono ?_
  rintro e w2 ⟨rfl, rfl⟩
  clear CF
  go_wp2_with (go_at_call 8; refine (CW _).mono ?_; rintro e w9 ⟨rfl, b9⟩)
  go_ret
  exact ⟨rfl, Bel.call B8 b9⟩
set_option maxHeartbeats 4000000 in
theorem NegoAsks_5 (CA : CAs) (CN : CAn) (CK : CK0) (ws : List Int) (h : ByteArray) (p : Int) (c : Kc) (l : List Ke) (va vca vcc vl : Value) (w : World) (HA : Nls w va ws) (HW : Nls w vca c.ws) (HC : Sls w vcc c.cs) (HL : Kls w vl l)
    (a9 : ws.length ≤ 9223372036854775807) (h9 : h.size ≤ 9223372036854775807) (p0 : -9223372036854775808 ≤ p) (p1 : p ≤ 9223372036854775807) (w9 : c.ws.length ≤ 9223372036854775807) (c9 : c.cs.length ≤ 9223372036854775807) (ch9 : c.h.size ≤ 9223372036854775807) (q0 : -9223372036854775808 ≤ c.p) (q1 : c.p ≤ 9223372036854775807) (l9 : l.length ≤ 9223372036854775807) (hs : ∀ r ∈ l, r.s.size ≤ 9223372036854775807) (g1 : ¬ 1000 < ws.length) (g2 : l.length ≤ 500) (g3 : ¬ 500 < c.ws.length) (g4 : ¬ 500 < c.cs.length) :
    Calls Tryz.prog 3 #[va, .string h, .int .i64 p, kcV c vca vcc, vl] w fun e w' => e = .returned (.bool true) ∧ Below w.heap.size w w' := by
  have CW := awake_any CA CN CK
  have al := ask_len ws h p
  have nl := ans_len c l
  have C1 := fun W (hb : Below w.heap.size w W) => CA ws h p va W (HA.to hb) (by omega) h9 p0 p1
  have C2 := fun W (hb : Below w.heap.size w W) => nAsk_any ws h p va W (HA.to hb) (by omega) h9
  have C3 := fun W (hb : Below w.heap.size w W) => CN c l vca vcc vl W (HW.to hb) (HC.to hb) (HL.to hb) (by omega) (by omega) (by omega) ch9 hs q0 q1
  have C4 := fun W (hb : Below w.heap.size w W) => nAnswer_any c l vca vcc vl W (HW.to hb) (HC.to hb) (HL.to hb) (by omega) (by omega) (by omega) ch9 hs q0 q1
  have CS1 := fun W v1 v2 h1 h2 => rSame_any (askL ws h p) (askL ws h p) v1 v2 W h1 h2 (by omega) (by omega)
  have CS2 := fun W v1 v2 h1 h2 => rSame_any (ansR c l).1 (ansR c l).1 v1 v2 W h1 h2 (by omega) (by omega)
  rw [kesB_self] at CS1 CS2
  generalize askL ws h p = L1 at *
  generalize askE ws h p = E1 at *
  generalize (ansR c l).1 = L2 at *
  generalize (ansR c l).2 = E2 at *
  obtain ⟨cw, ch, cp, cc⟩ := c
  unfold kcV at C3 C4 ⊢
  simp only at HW HC w9 c9 ch9 q0 q1 g3 g4 C3 C4 ⊢
  have A8 := Arr.new w #[vca, Value.string ch, .int .i64 cp, vcc] 25 _ rfl _ 4 (kcC_at vca vcc ch cp)
  have B8 := Bel.al (Below.refl w.heap.size w) (.cells #[vca, .string ch, .int .i64 cp, vcc] 25)
  have CF := few_any l vl _ (HL.to B8) l9
  rw [decide_eq_true g2] at CF
  obtain ⟨aa, ca, rfl, _⟩ := HA
  obtain ⟨aw, caw, rfl, _⟩ := HW
  obtain ⟨ac, cac, rfl, _⟩ := HC
  have i1 : ¬ (1000 : Int) < (ws.length : Int) := by omega
  have i3 : ¬ (500 : Int) < (cw.length : Int) := by omega
  have i4 : ¬ (500 : Int) < (cc.length : Int) := by omega
  clear CA CN CK hs HL g1 g2 g3 g4 a9 w9 c9 l9 al nl
  go_enter Tryz.func3, Tryz.ntmps3
  go_wp2_with fail
  generalize w.alloc (.cells #[.slice aw cw.length caw, .string ch, .int .i64 cp, .slice ac cc.length cac] 25) = W1 at *
  refine CF.mono ?_
  rintro e w2 ⟨rfl, rfl⟩
  clear CF
  have c0 := A8.cv 0 (by decide) (.slice aw cw.length caw) rfl
  have c3 := A8.cv 3 (by decide) (.slice ac cc.length cac) rfl
  go_wp2_with fail
  refine (C1 _ B8).mono ?_
  rintro e x1 ⟨⟨u1, rfl, k1⟩, b1⟩
  have B1 := Bel.call B8 b1
  replace A8 := Arr.to' (n := 3) A8 b1
  clear C1 b1 B8 c0 c3
  go_wp2_with fail
  refine (C2 _ B1).mono ?_
  rintro e x2 ⟨⟨u2, rfl, k2⟩, b2⟩
  have B2 := Bel.call B1 b2
  replace A8 := Arr.to' (n := 3) A8 b2
  replace k1 := k1.to b2
  clear C2 b2 B1
  have c0 := A8.cv 0 (by decide) (.slice aw cw.length caw) rfl
  have c1 := A8.cv 1 (by decide) (.string ch) rfl
  have c2 := A8.cv 2 (by decide) (.int .i64 cp) rfl
  have c3 := A8.cv 3 (by decide) (.slice ac cc.length cac) rfl
  go_wp2_with fail
  refine (C3 _ B2).mono ?_
  rintro e x3 ⟨⟨u3, rfl, k3⟩, b3⟩
  have B3 := Bel.call B2 b3
  replace A8 := Arr.to' (n := 3) A8 b3
  replace k1 := k1.to b3
  replace k2 := k2.to b3
  clear C3 b3 B2 c0 c1 c2 c3
  have c0 := A8.cv 0 (by decide) (.slice aw cw.length caw) rfl
  have c1 := A8.cv 1 (by decide) (.string ch) rfl
  have c2 := A8.cv 2 (by decide) (.int .i64 cp) rfl
  have c3 := A8.cv 3 (by decide) (.slice ac cc.length cac) rfl
  go_wp2_with fail
  refine (C4 _ B3).mono ?_
  rintro e x4 ⟨⟨u4, rfl, k4⟩, b4⟩
  have B4 := Bel.call B3 b4
  replace k1 := k1.to b4
  replace k2 := k2.to b4
  replace k3 := k3.to b4
  clear C4 b4 B3 c0 c1 c2 c3 A8
  have S1 := CS1 _ _ _ k1 k2
  clear CS1 k1 k2
  go_wp2_with fail
  refine S1.mono ?_
  rintro e x5 ⟨rfl, b5⟩
  have B5 := Bel.call B4 b5
  have S2 := CS2 _ _ _ (k3.to b5) (k4.to b5)
  clear CS2 k3 k4 b5 B4 S1
  go_wp2_with fail
  refine S2.mono ?_
  rintro e x6 ⟨rfl, b6⟩
  have B6 := Bel.call B5 b6
  clear S2 b6 B5
  go_wp2_with fail
  refine (CW _).mono ?_
  rintro e x7 ⟨rfl, b7⟩
  have B7 := Bel.call B6 b7
  clear CW b7 B6
  go_wp2_with fail
  go_ret
  exact ⟨rfl, B7⟩
theorem NegoAsks_any (CA : CAs) (CN : CAn) (CK : CK0) (ws : List Int) (h : ByteArray) (p : Int) (c : Kc) (l : List Ke) (va vca vcc vl : Value) (w : World) (HA : Nls w va ws) (HW : Nls w vca c.ws) (HC : Sls w vcc c.cs) (HL : Kls w vl l)
    (a9 : ws.length ≤ 9223372036854775807) (h9 : h.size ≤ 9223372036854775807) (p0 : -9223372036854775808 ≤ p) (p1 : p ≤ 9223372036854775807) (w9 : c.ws.length ≤ 9223372036854775807) (c9 : c.cs.length ≤ 9223372036854775807) (ch9 : c.h.size ≤ 9223372036854775807) (q0 : -9223372036854775808 ≤ c.p) (q1 : c.p ≤ 9223372036854775807) (l9 : l.length ≤ 9223372036854775807) (hs : ∀ r ∈ l, r.s.size ≤ 9223372036854775807) :
    Calls Tryz.prog 3 #[va, .string h, .int .i64 p, kcV c vca vcc, vl] w fun e w' => e = .returned (.bool true) ∧ Below w.heap.size w w' := by
  by_cases g1 : 1000 < ws.length
  · exact NegoAsks_1 CA CN CK ws h p c l va vca vcc vl w HA HW HC HL a9 h9 p0 p1 w9 c9 ch9 q0 q1 l9 hs g1
  by_cases g2 : l.length ≤ 500
  case neg => exact NegoAsks_2 CA CN CK ws h p c l va vca vcc vl w HA HW HC HL a9 h9 p0 p1 w9 c9 ch9 q0 q1 l9 hs g1 g2
  by_cases g3 : 500 < c.ws.length
  · exact NegoAsks_3 CA CN CK ws h p c l va vca vcc vl w HA HW HC HL a9 h9 p0 p1 w9 c9 ch9 q0 q1 l9 hs g1 g2 g3
  by_cases g4 : 500 < c.cs.length
  · exact NegoAsks_4 CA CN CK ws h p c l va vca vcc vl w HA HW HC HL a9 h9 p0 p1 w9 c9 ch9 q0 q1 l9 hs g1 g2 g3 g4
  exact NegoAsks_5 CA CN CK ws h p c l va vca vcc vl w HA HW HC HL a9 h9 p0 p1 w9 c9 ch9 q0 q1 l9 hs g1 g2 g3 g4
end Go.Proofs.YtbhmbdkijpocmaaGreatDoor
/- The program nego: dealt. -/
set_option linter.all false
set_option maxRecDepth 100000
namespace Go.Proofs.YtbhmbdkijpocmaaGreatDoor
open Go.RowKit Go.Shelf Go.Sort
/-- A row of texts that no one else has. -/
def OwnS (w w' : World) (vc : Value) (l : List ByteArray) : Prop := ∃ B, w.heap.size ≤ B ∧ w'.ownsRow B 9 1 vc l.length (l.map Value.string)
theorem DV.set0 {W : World} {b : Nat} {a p : Int} {vc : Value} {h : ByteArray} (A : Arr W b 4 (DV a vc h p)) (n : Int) : Arr (W.setCell ⟨b, 0, none⟩ (.int .i64 n)) b 4 (DV n vc h p) := (A.set 0 (by omega) (.int .i64 n)).congr fun j hj => by
  match j, hj with
  | 0, _ => rfl
  | 1, _ => rfl
  | 2, _ => rfl
  | 3, _ => rfl
theorem DV.new (W : World) : Arr (W.alloc (.cells #[.int .i64 0, .slice none 0 0, .string ⟨#[]⟩, .int .i64 0] 38)) W.heap.size 4 (DV 0 (.slice none 0 0) ⟨#[]⟩ 0) := Arr.new W #[Value.int .i64 0, .slice none 0 0, .string ⟨#[]⟩, .int .i64 0] 38 _ rfl _ 4 (dlC_at 0 (.slice none 0 0) ⟨#[]⟩ 0)
set_option maxHeartbeats 8000000 in
theorem pdealt_any (r : Ke) (L5 L6 L7 : List Ke) (v5 v6 v7 : Value) (w : World) (K5 : Kls w v5 L5) (K6 : Kls w v6 L6) (K7 : Kls w v7 L7) (m5 : L5.length ≤ 100000) (m6 : L6.length ≤ 1) (m7 : L7.length ≤ 1) (hr : r.s.size ≤ 9223372036854775807) (h7 : ∀ x ∈ L7, x.s.size ≤ 9223372036854775807) :
    Calls Tryz.prog 56 #[.agg #[.bool r.c, .int .i64 r.k, .string r.s], v5, v6, v7] w fun e w' => (∃ vc, e = .returned (.agg #[.int .i64 (snB r.s).1, vc, .string (if L6.length = 1 then hdS L6 else ⟨#[]⟩), .int .i64 (if L7.length = 1 then (snB (hdS L7)).1 else 0)]) ∧ OwnS w w' vc (L5.map (·.s))) ∧ Below w.heap.size w w' := by
  have C1 := fun W => psingle_any r.s hr W
  have C7 := fun (s : ByteArray) (hs : s.size ≤ 9223372036854775807) W => psingle_any s hs W
  obtain ⟨i9, hi9, hy0, hy1, hy2⟩ := info_parts Tryz.info9s
  obtain ⟨a5, c5, rfl, f5⟩ := K5
  obtain ⟨a6, c6, rfl, f6⟩ := K6
  obtain ⟨a7, c7, rfl, f7⟩ := K7
  have F5 : Hid (∀ (i : Nat) (x : Ke), L5[i]? = some x → ∃ g o, a5 = some ⟨g, o, none⟩ ∧ g < w.heap.size ∧ C3 w g (o + i * 3) x) := f5
  have F6 : Hid (∀ (i : Nat) (x : Ke), L6[i]? = some x → ∃ g o, a6 = some ⟨g, o, none⟩ ∧ g < w.heap.size ∧ C3 w g (o + i * 3) x) := f6
  have F7 : Hid (∀ (i : Nat) (x : Ke), L7[i]? = some x → ∃ g o, a7 = some ⟨g, o, none⟩ ∧ g < w.heap.size ∧ C3 w g (o + i * 3) x) := f7
  obtain ⟨n5, hn5⟩ : ∃ n, L5.length = n := ⟨_, rfl⟩
  obtain ⟨n6, hn6⟩ : ∃ n, L6.length = n := ⟨_, rfl⟩
  obtain ⟨n7, hn7⟩ : ∃ n, L7.length = n := ⟨_, rfl⟩
  have HN5 : Hid (L5.length = n5) := hn5
  have HN6 : Hid (L6.length = n6) := hn6
  have HN7 : Hid (L7.length = n7) := hn7
  rw [hn5] at m5 ⊢
  rw [hn6] at m6 ⊢
  rw [hn7] at m7 ⊢
  obtain ⟨X6, hX6⟩ : ∃ X, (if n6 = 1 then hdS L6 else ⟨#[]⟩) = X := ⟨_, rfl⟩
  obtain ⟨X7, hX7⟩ : ∃ X, (if n7 = 1 then (snB (hdS L7)).1 else 0) = X := ⟨_, rfl⟩
  have HX6 : Hid ((if n6 = 1 then hdS L6 else ⟨#[]⟩) = X6) := hX6
  have HX7 : Hid ((if n7 = 1 then (snB (hdS L7)).1 else 0) = X7) := hX7
  rw [hX6, hX7]
  have H7 : Hid (∀ x ∈ L7, x.s.size ≤ 9223372036854775807) := h7
  have x5 : (n5 : Int) ≤ 100000 := by omega
  have x6 : (n6 : Int) ≤ 1 := by omega
  have x7 : (n7 : Int) ≤ 1 := by omega
  clear f5 f6 f7 hn5 hn6 hn7 hX6 hX7 h7
  obtain ⟨kc, kk, ks⟩ := r
  simp only at C1 hr ⊢
  generalize snB ks = p at *
  obtain ⟨x4, b4⟩ := p
  simp only at C1 ⊢
  have A4 := Arr.al' (n := 2) (Arr.al' (n := 2) (Arr.new w #[Value.bool kc, .int .i64 kk, .string ks] 50 _ rfl _ 3 (keC_at ⟨kc, kk, ks⟩)) (.cells #[.int .i64 0, .slice none 0 0, .string ⟨#[]⟩, .int .i64 0] 38)) (.cells #[.int .i64 0, .slice none 0 0, .string ⟨#[]⟩, .int .i64 0] 38)
  have A8 := Arr.al' (n := 3) (DV.new (w.alloc (.cells #[.bool kc, .int .i64 kk, .string ks] 50))) (.cells #[.int .i64 0, .slice none 0 0, .string ⟨#[]⟩, .int .i64 0] 38)
  have A9 := DV.new ((w.alloc (.cells #[.bool kc, .int .i64 kk, .string ks] 50)).alloc (.cells #[.int .i64 0, .slice none 0 0, .string ⟨#[]⟩, .int .i64 0] 38))
  have hB0 := Bel.al (Bel.al (Bel.al (Below.refl w.heap.size w) (.cells #[.bool kc, .int .i64 kk, .string ks] 50)) (.cells #[.int .i64 0, .slice none 0 0, .string ⟨#[]⟩, .int .i64 0] 38)) (.cells #[.int .i64 0, .slice none 0 0, .string ⟨#[]⟩, .int .i64 0] 38)
  rw [World.size_alloc] at A8 A9
  rw [World.size_alloc] at A9
  have c4 := A4.cv 2 (by omega) (.string ks) rfl
  obtain ⟨b8, hb8⟩ : ∃ b, w.heap.size + 1 = b := ⟨_, rfl⟩
  obtain ⟨b9, hb9⟩ : ∃ b, w.heap.size + 1 + 1 = b := ⟨_, rfl⟩
  have HB8 : Hid (w.heap.size + 1 = b8) := hb8
  have HB9 : Hid (w.heap.size + 1 + 1 = b9) := hb9
  have HB98 : Hid (b8 < b9) := by show _ < _; omega
  rw [hb8] at A8
  rw [hb9] at A9
  clear A4 hb8 hb9
  go_enter Tryz.func56, Tryz.ntmps56
  go_wp2_with fail
  generalize ((w.alloc (.cells #[.bool kc, .int .i64 kk, .string ks] 50)).alloc (.cells #[.int .i64 0, .slice none 0 0, .string ⟨#[]⟩, .int .i64 0] 38)).alloc (.cells #[.int .i64 0, .slice none 0 0, .string ⟨#[]⟩, .int .i64 0] 38) = W3 at *
  rw [HB9.out, HB8.out]
  refine (C1 _).mono ?_
  rintro e w4 ⟨rfl, b4'⟩
  have B4 := Bel.call hB0 b4'
  replace A8 := Arr.to' (n := 3) A8 b4'
  replace A9 := Arr.to' (n := 3) A9 b4'
  have q0 := A9.cv 0 (by omega) (.int .i64 0) rfl
  have z0 := A9.z 0 (by omega)
  have A9' : Hid _ := DV.set0 A9 x4
  have A8' : Hid (Arr (w4.setCell ⟨b9, 0, none⟩ (.int .i64 x4)) b8 4 (DV 0 (.slice none 0 0) ⟨#[]⟩ 0)) := (Arr.other A8 (by have := HB98.out; omega) _)
  have B5 : Hid (Below w.heap.size w (w4.setCell ⟨b9, 0, none⟩ (.int .i64 x4))) := B4.setCell (p := ⟨b9, 0, none⟩) (by show w.heap.size ≤ b9; have := HB9.out; omega) _
  clear C1 hB0 b4' A9 A8 B4 c4
  go_wp2_with fail
  generalize w4.setCell ⟨b9, 0, none⟩ (.int .i64 x4) = W5 at *
  clear q0 z0
  go_loopw [25] (fun i wr => ∃ (j : Nat) (vc : Value), j ≤ n5 ∧ i = .int .i64 (j : Int) ∧ Arr wr b9 4 (DV x4 vc ⟨#[]⟩ 0) ∧ Hid (Arr wr b8 4 (DV 0 (.slice none 0 0) ⟨#[]⟩ 0)) ∧ wr.ownsRow (b9 + 1) 9 1 vc j (((L5.take j).map (·.s)).map Value.string) ∧ Below w.heap.size w wr) (fun i _ => n5 - (RowKit.intOf i).toNat)
  case atStart => exact ⟨0, .slice none 0 0, by omega, rfl, A9'.out, A8', World.ownsRow_nil _ _ _ _, B5.out⟩
  case round =>
    clear A9' A8' B5
    obtain ⟨j, vc, hj, rfl, hA, hA8, hO, hB⟩ := hrel
    obtain ⟨ao, cv, rfl⟩ := own_frm hO
    have j0 : (0 : Int) ≤ (j : Int) := by omega
    by_cases hlt : j < n5
    · have j1 : (j : Int) < (n5 : Int) := by omega
      obtain ⟨r, hr⟩ : ∃ r, L5[j]? = some r := ⟨_, List.getElem?_eq_getElem (by rw [HN5.out]; exact hlt)⟩
      obtain ⟨g, oo, e5, lt5, r3⟩ := F5.out j r hr
      subst e5
      obtain ⟨x0, x1, x2⟩ := r3.to lt5 hB
      have HTk : Hid (L5.take (j + 1) = L5.take j ++ [r]) := take_snoc' L5 j r hr
      obtain ⟨rc, rk, s⟩ := r
      simp only at x0 x1 x2
      have N1 := Arr.new wr #[Value.bool rc, .int .i64 rk, .string s] 50 _ rfl _ 3 (keC_at ⟨rc, rk, s⟩)
      have B6 := Bel.al hB (.cells #[.bool rc, .int .i64 rk, .string s] 50)
      have A6 := Arr.al' (n := 3) hA (.cells #[.bool rc, .int .i64 rk, .string s] 50)
      have A86 : Hid _ := Arr.al' (n := 3) hA8.out (.cells #[.bool rc, .int .i64 rk, .string s] 50)
      have O6 : Hid ((wr.alloc (.cells #[.bool rc, .int .i64 rk, .string s] 50)).ownsRow (b9 + 1) 9 1 (.slice ao j cv) j (((L5.take j).map (·.s)).map Value.string)) := World.ownsRow.alloc hO _
      clear r3 hr hA hA8 hO hB
      go_upto_region 6 with (fail)
      generalize wr.alloc (.cells #[.bool rc, .int .i64 rk, .string s] 50) = W6 at *
      have c2 := N1.cv 2 (by omega) (.string s) rfl
      have cc := A6.cv 1 (by omega) (.slice ao j cv) rfl
      have lt9 := Arr.lt (n := 3) A6
      have sb : b9 + 1 ≤ (W6.alloc (.cells #[.string s] 9)).heap.size := by simp; omega
      clear N1 x0 x1 x2
      go_wp2_with (at_builtin; refine stopAt ?_)
      unfold Stop
      refine wpList_append_own _ rfl _ _ 23 rfl (b9 + 1) 9 i9 (.string ⟨#[]⟩) 1 16 Tryz.underlying23 hi9 hy0 hy1 hy2 rfl (by decide) _ _ _ rfl (World.ownsRow.alloc O6.out _) ⟨W6.heap.size, 0, none⟩ 1 1 [.string s] rfl rfl (news_new W6 [.string s] 9) (fun u hu => by simp at hu; rw [hu]; rfl) (by unfold maxLen; omega) (by omega) sb ?_
      intro v9 x9 ho9 hg9 hn9
      obtain ⟨ao9, cv9, rfl⟩ := own_frm ho9
      have B10 : Below w.heap.size w x9 := (B6.alloc B6.size _).grown hg9 (by have := B6.size; simp; omega) (fun q hq => by have := (O6.out.lt q hq).1; have := HB9.out; omega)
      have A10 := arr_far' (n := 3) (Arr.al' (n := 3) A6 (.cells #[.string s] 9)) hg9 (fun e => by have := (O6.out.lt b9 e.symm).1; omega)
      have A810 := arr_far' (n := 3) (Arr.al' (n := 3) A86.out (.cells #[.string s] 9)) hg9 (fun e => by have := (O6.out.lt b8 e.symm).1; have := HB98.out; omega)
      have cc9 := A10.cv 1 (by decide) (.slice ao j cv) rfl
      have zc := A10.z 1 (by decide)
      have HA' : Hid _ := DV.set1 A10 (.slice ao9 (j + 1) cv9)
      have HA8' : Hid (Arr (x9.setCell ⟨b9, 1, none⟩ (.slice ao9 (j + 1) cv9)) b8 4 (DV 0 (.slice none 0 0) ⟨#[]⟩ 0)) := (Arr.other A810 (by have := HB98.out; omega) _)
      have HO' : Hid (_) := ownsRow_setCell_below (a := ⟨b9, 1, none⟩) ho9 (Nat.lt_succ_self b9) (.slice ao9 (j + 1) cv9)
      have HB' : Hid _ := B10.setCell (p := ⟨b9, 1, none⟩) (by show w.heap.size ≤ b9; have := HB9.out; omega) (.slice ao9 (j + 1) cv9)
      clear hg9 ho9 hn9 O6 sb B6 B10 A6 A86 A10 A810 c2 cc
      go_wp2_with fail
      refine ⟨⟨j + 1, .slice ao9 (j + 1) cv9, by omega, by go_num, HA'.out, HA8', ?_, HB'.out⟩, by simp [RowKit.intOf]; omega⟩
      rw [HTk.out, List.map_append, List.map_append]
      exact HO'.out
    · have ej : j = n5 := by omega
      subst ej
      have hT : L5.take j = L5 := List.take_of_length_le (by rw [HN5.out]; omega)
      rw [hT] at hO
      have HLn : Hid ((L5.map (·.s)).length = j) := by show _ = _; rw [List.length_map]; exact HN5.out
      have HO : Hid (wr.ownsRow (b9 + 1) 9 1 (.slice ao j cv) j ((L5.map (·.s)).map Value.string)) := hO
      have HA : Hid _ := hA
      have HB : Hid _ := hB
      have jn : ¬ (j : Int) < (j : Int) := by omega
      clear hT hO hA hB F5
      go_wp2_with fail
      obtain ⟨w6, hw6⟩ : ∃ w6, wr = w6 := ⟨_, rfl⟩
      rw [hw6] at HO HA HB hA8 ⊢
      clear hw6 wr
      go_loopw [39] (fun i wr => ∃ (q : Nat) (hh : ByteArray), q ≤ n6 ∧ i = .int .i64 (q : Int) ∧ Arr wr b9 4 (DV x4 (.slice ao j cv) hh 0) ∧ Hid (Arr wr b8 4 (DV 0 (.slice none 0 0) ⟨#[]⟩ 0)) ∧ Hid (wr.ownsRow (b9 + 1) 9 1 (.slice ao j cv) j ((L5.map (·.s)).map Value.string)) ∧ Hid (hh = if q = 1 then hdS L6 else ⟨#[]⟩) ∧ Below w.heap.size w wr) (fun i _ => n6 - (RowKit.intOf i).toNat)
      case atStart => exact ⟨0, ⟨#[]⟩, by omega, rfl, HA.out, hA8, HO, rfl, HB.out⟩
      case round =>
        clear HA hA8 HO HB
        obtain ⟨q, hh, hq, rfl, hA, hA8, hO, hH, hB⟩ := hrel
        have q0 : (0 : Int) ≤ (q : Int) := by omega
        by_cases hlt6 : q < n6
        · have q1 : (q : Int) < (n6 : Int) := by omega
          have qz : q = 0 := by omega
          subst qz
          obtain ⟨r, hr⟩ : ∃ r, L6[0]? = some r := ⟨_, List.getElem?_eq_getElem (by rw [HN6.out]; exact hlt6)⟩
          obtain ⟨g, oo, e5, lt5, r3⟩ := F6.out 0 r hr
          subst e5
          obtain ⟨x0, x1, x2⟩ := r3.to lt5 hB
          have HD6 : Hid (hdS L6 = r.s) := by
            show _ = _
            cases hL : L6 with
            | nil => rw [hL] at hr; cases hr
            | cons a t => rw [hL] at hr; simp at hr; rw [← hr]; rfl
          obtain ⟨rc, rk, s⟩ := r
          simp only at x0 x1 x2 HD6
          simp only [Nat.zero_mul, Nat.add_zero] at x0 x1 x2
          have N1 := Arr.new wr #[Value.bool rc, .int .i64 rk, .string s] 50 _ rfl _ 3 (keC_at ⟨rc, rk, s⟩)
          have B6 := Bel.al hB (.cells #[.bool rc, .int .i64 rk, .string s] 50)
          have A6 := Arr.al' (n := 3) hA (.cells #[.bool rc, .int .i64 rk, .string s] 50)
          have A86 := Arr.al' (n := 3) hA8.out (.cells #[.bool rc, .int .i64 rk, .string s] 50)
          have O6 := World.ownsRow.alloc hO.out (.cells #[.bool rc, .int .i64 rk, .string s] 50)
          have HA' : Hid _ := DV.set2 A6 s
          have HA8' : Hid (Arr ((wr.alloc (.cells #[.bool rc, .int .i64 rk, .string s] 50)).setCell ⟨b9, 2, none⟩ (.string s)) b8 4 (DV 0 (.slice none 0 0) ⟨#[]⟩ 0)) := (Arr.other A86 (by have := HB98.out; omega) _)
          have HO' : Hid _ := ownsRow_setCell_below (a := ⟨b9, 2, none⟩) O6 (Nat.lt_succ_self b9) (.string s)
          have HB' : Hid _ := B6.setCell (p := ⟨b9, 2, none⟩) (by show w.heap.size ≤ b9; have := HB9.out; omega) (.string s)
          clear r3 hr hA8 hO hB A86 O6 B6 hA
          go_upto_region 11 with (fail)
          generalize wr.alloc (.cells #[.bool rc, .int .i64 rk, .string s] 50) = W6 at *
          have c2 := N1.cv 2 (by omega) (.string s) rfl
          have cc9 := A6.cv 2 (by decide) (.string hh) rfl
          have zc := A6.z 2 (by decide)
          clear N1 x0 x1 x2 A6
          go_wp2_with fail
          exact ⟨⟨0 + 1, s, by omega, by go_num, HA'.out, HA8', HO', by show _ = _; rw [if_pos rfl, HD6.out], HB'.out⟩, by simp [RowKit.intOf]; omega⟩
        · have ej : q = n6 := by omega
          subst ej
          have HH6 : Hid (hh = X6) := by show _ = _; rw [hH.out, HX6.out]
          have HA : Hid _ := hA
          have HB : Hid _ := hB
          have jn6 : ¬ (q : Int) < (q : Int) := by omega
          clear hH hA hB F6 HX6
          go_wp2_with fail
          obtain ⟨w8, hw8⟩ : ∃ w8, wr = w8 := ⟨_, rfl⟩
          rw [hw8] at hO HA HB hA8 ⊢
          clear hw8 wr
          go_loopw [49] (fun i wr => ∃ (k : Nat) (pp : Int), k ≤ n7 ∧ i = .int .i64 (k : Int) ∧ Arr wr b9 4 (DV x4 (.slice ao j cv) hh pp) ∧ Hid (Arr wr b8 4 (DV 0 (.slice none 0 0) ⟨#[]⟩ 0)) ∧ Hid (wr.ownsRow (b9 + 1) 9 1 (.slice ao j cv) j ((L5.map (·.s)).map Value.string)) ∧ Hid (pp = if k = 1 then (snB (hdS L7)).1 else 0) ∧ Below w.heap.size w wr) (fun i _ => n7 - (RowKit.intOf i).toNat)
          case atStart => exact ⟨0, 0, by omega, rfl, HA.out, hA8, hO, rfl, HB.out⟩
          case round =>
            clear HA hA8 hO HB
            obtain ⟨k, pp, hk, rfl, hA, hA8, hO, hH, hB⟩ := hrel
            have k0 : (0 : Int) ≤ (k : Int) := by omega
            by_cases hlt7 : k < n7
            · have k1 : (k : Int) < (n7 : Int) := by omega
              have kz : k = 0 := by omega
              subst kz
              obtain ⟨r, hr⟩ : ∃ r, L7[0]? = some r := ⟨_, List.getElem?_eq_getElem (by rw [HN7.out]; exact hlt7)⟩
              obtain ⟨g, oo, e5, lt5, r3⟩ := F7.out 0 r hr
              subst e5
              obtain ⟨x0, x1, x2⟩ := r3.to lt5 hB
              have HD7 : Hid (hdS L7 = r.s) := by
                show _ = _
                cases hL : L7 with
                | nil => rw [hL] at hr; cases hr
                | cons a t => rw [hL] at hr; simp at hr; rw [← hr]; rfl
              have hs7 := H7.out r (List.mem_of_getElem? hr)
              have C8 := C7 r.s hs7
              obtain ⟨rc, rk, s⟩ := r
              simp only at x0 x1 x2 HD7 hs7 C8
              simp only [Nat.zero_mul, Nat.add_zero] at x0 x1 x2
              obtain ⟨y, hy⟩ : ∃ y, snB s = y := ⟨_, rfl⟩
              have HY : Hid (snB s = y) := hy
              rw [hy] at C8
              obtain ⟨y4, yb⟩ := y
              simp only at C8
              have N1 := Arr.new wr #[Value.bool rc, .int .i64 rk, .string s] 50 _ rfl _ 3 (keC_at ⟨rc, rk, s⟩)
              have B6 := Bel.al hB (.cells #[.bool rc, .int .i64 rk, .string s] 50)
              have A6 := Arr.al' (n := 3) hA (.cells #[.bool rc, .int .i64 rk, .string s] 50)
              have A86 : Hid _ := Arr.al' (n := 3) hA8.out (.cells #[.bool rc, .int .i64 rk, .string s] 50)
              have O6 : Hid _ := World.ownsRow.alloc hO.out (.cells #[.bool rc, .int .i64 rk, .string s] 50)
              clear r3 hr hA8 hO hB hA hy
              go_upto_region 16 with (fail)
              generalize wr.alloc (.cells #[.bool rc, .int .i64 rk, .string s] 50) = W6 at *
              have c2 := N1.cv 2 (by omega) (.string s) rfl
              clear N1 x0 x1 x2
              go_wp2_with fail
              refine (C8 _).mono ?_
              rintro e w9 ⟨rfl, b9x⟩
              have A9 := Arr.to' (n := 3) A6 b9x
              have A89 := Arr.to' (n := 3) A86.out b9x
              have O9 := own_to' O6.out b9x
              have B9 := Bel.call B6 b9x
              have cc9 := A9.cv 3 (by decide) (.int .i64 pp) rfl
              have zc := A9.z 3 (by decide)
              have HA' : Hid _ := DV.set3 A9 y4
              have HA8' : Hid (Arr (w9.setCell ⟨b9, 3, none⟩ (.int .i64 y4)) b8 4 (DV 0 (.slice none 0 0) ⟨#[]⟩ 0)) := (Arr.other A89 (by have := HB98.out; omega) _)
              have HO' : Hid _ := ownsRow_setCell_below (a := ⟨b9, 3, none⟩) O9 (Nat.lt_succ_self b9) (.int .i64 y4)
              have HB' : Hid _ := B9.setCell (p := ⟨b9, 3, none⟩) (by show w.heap.size ≤ b9; have := HB9.out; omega) (.int .i64 y4)
              clear C8 A6 A86 O6 B6 A9 A89 O9 B9 c2 b9x
              go_wp2_with fail
              exact ⟨⟨0 + 1, y4, by omega, by go_num, HA'.out, HA8', HO', by show _ = _; rw [if_pos rfl, HD7.out, HY.out], HB'.out⟩, by simp [RowKit.intOf]; omega⟩
            · have ej : k = n7 := by omega
              subst ej
              have HP7 : Hid (pp = X7) := by show _ = _; rw [hH.out, HX7.out]
              have c0 := hA.cv 0 (by omega) (.int .i64 x4) rfl
              have c1 := hA.cv 1 (by omega) (.slice ao j cv) rfl
              have c2 := hA.cv 2 (by omega) (.string hh) rfl
              have c3 := hA.cv 3 (by omega) (.int .i64 pp) rfl
              have P8 := hA8.out
              have d0 := P8.cv 0 (by omega) (.int .i64 0) rfl
              have d1 := P8.cv 1 (by omega) (.slice none 0 0) rfl
              have d2 := P8.cv 2 (by omega) (.string ⟨#[]⟩) rfl
              have d3 := P8.cv 3 (by omega) (.int .i64 0) rfl
              have z0 := P8.z 0 (by decide)
              have z1 := P8.z 1 (by decide)
              have z2 := P8.z 2 (by decide)
              have z3 := P8.z 3 (by decide)
              have HB : Hid _ := hB
              have HSF : Hid (((((wr.setCell ⟨b8, 0, none⟩ (.int .i64 x4)).setCell ⟨b8, 1, none⟩ (.slice ao j cv)).setCell ⟨b8, 2, none⟩ (.string hh)).setCell ⟨b8, 3, none⟩ (.int .i64 pp)).ownsRow (b9 + 1) 9 1 (.slice ao j cv) (L5.map (·.s)).length ((L5.map (·.s)).map Value.string)) := by
                show World.ownsRow _ _ _ _ _ _ _
                rw [HLn.out]
                exact own_set4 (B := b9 + 1) (b := b8) hO.out (by have := HB98.out; omega) (.int .i64 x4) (.slice ao j cv) (.string hh) (.int .i64 pp)
              have HLB : Hid (w.heap.size ≤ b9 + 1) := by show _ ≤ _; have := HB9.out; omega
              clear hH hA hB F7 HX7 P8 hO
              go_wp2_with fail
              exact bodyPost_ret (results_cell1 rfl _ rfl (ld4 hA8.out _ _ _ _)) rfl ⟨⟨_, by rw [HH6.out, HP7.out], b9 + 1, HLB.out, HSF.out⟩, set4_below HB.out (by show w.heap.size ≤ b8; have := HB8.out; omega) _ _ _ _⟩
end Go.Proofs.YtbhmbdkijpocmaaGreatDoor
/- The program nego: Accept. -/
set_option linter.all false
set_option maxRecDepth 100000
namespace Go.Proofs.YtbhmbdkijpocmaaGreatDoor
open Go.RowKit Go.Shelf Go.Sort
theorem at16 (f0 f1 f2 f3 f4 f5 f6 f7 f8 f9 f10 f11 f12 f13 f14 f15 : Value) : ∀ j, j < 16 → (#[f0, f1, f2, f3, f4, f5, f6, f7, f8, f9, f10, f11, f12, f13, f14, f15] : Array Value)[j]? = some (([f0, f1, f2, f3, f4, f5, f6, f7, f8, f9, f10, f11, f12, f13, f14, f15] : List Value).getD j undef) := fun j hj => by
  match j, hj with
  | 0, _ => rfl
  | 1, _ => rfl
  | 2, _ => rfl
  | 3, _ => rfl
  | 4, _ => rfl
  | 5, _ => rfl
  | 6, _ => rfl
  | 7, _ => rfl
  | 8, _ => rfl
  | 9, _ => rfl
  | 10, _ => rfl
  | 11, _ => rfl
  | 12, _ => rfl
  | 13, _ => rfl
  | 14, _ => rfl
  | 15, _ => rfl
  | k + 16, hj => exact absurd hj (by omega)
set_option maxHeartbeats 16000000 in
theorem pAccept_core (va vl : Value) (w : World) (U : Int) (L1 L2 L4 L5 L6 L7 : List Ke) (way : ByteArray → Bool) (e0 e1 e2 e3 e4 e5 e6 e7 e8 e9 e10 e11 e12 e13 e14 e15 D RA RP : Int) (RH : ByteArray) (RC : List ByteArray) (m5 : L5.length ≤ 100000) (q7 : ∀ r ∈ L7, r.s.size ≤ 9223372036854775807)
    (HD : fstL [e0, e1, e2, e3, e4, e5, e6, e7, e8, e9, e10, e11, e12, e13, e14, e15] = D)
    (CU : ∀ W, Below w.heap.size w W → Calls Tryz.prog 37 #[vl] W fun e w' => e = .returned (.int .i64 U) ∧ Below W.heap.size W w')
    (CW : ∀ W, Below w.heap.size w W → Calls Tryz.prog 53 #[va] W fun x w' => (∃ u, x = .returned u ∧ Fs w' u way) ∧ Below W.heap.size W w')
    (C1 : ∀ W, Below w.heap.size w W → Calls Tryz.prog 47 #[vl, .int .i64 1] W fun e w' => (∃ v, e = .returned v ∧ Kls w' v L1) ∧ Below W.heap.size W w')
    (C4 : ∀ W, Below w.heap.size w W → Calls Tryz.prog 47 #[vl, .int .i64 4] W fun e w' => (∃ v, e = .returned v ∧ Kls w' v L4) ∧ Below W.heap.size W w')
    (C5 : ∀ W, Below w.heap.size w W → Calls Tryz.prog 47 #[vl, .int .i64 5] W fun e w' => (∃ v, e = .returned v ∧ Kls w' v L5) ∧ Below W.heap.size W w')
    (C6 : ∀ W, Below w.heap.size w W → Calls Tryz.prog 47 #[vl, .int .i64 6] W fun e w' => (∃ v, e = .returned v ∧ Kls w' v L6) ∧ Below W.heap.size W w')
    (C7 : ∀ W, Below w.heap.size w W → Calls Tryz.prog 47 #[vl, .int .i64 7] W fun e w' => (∃ v, e = .returned v ∧ Kls w' v L7) ∧ Below W.heap.size W w')
    (C2 : ∀ W, Below w.heap.size w W → Calls Tryz.prog 47 #[vl, .int .i64 2] W fun e w' => (∃ v, e = .returned v ∧ Kls w' v L2) ∧ Below W.heap.size W w')
    (Q0 : ∀ W v, Kls W v L2 → Calls Tryz.prog 48 #[.int .i64 0, v, .int .i64 14] W fun x w' => (∃ u, x = .returned u ∧ Qs w' u e0) ∧ Below W.heap.size W w')
    (Q1 : ∀ W, Calls Tryz.prog 24 #[.bool (decide (U < 0)), .int .i64 23] W fun x w' => (∃ u, x = .returned u ∧ Qs w' u e1) ∧ Below W.heap.size W w')
    (Q2 : ∀ W v, Kls W v L1 → Calls Tryz.prog 49 #[.int .i64 1, v, .int .i64 10] W fun x w' => (∃ u, x = .returned u ∧ Qs w' u e2) ∧ Below W.heap.size W w')
    (Q3 : ∀ W v, Kls W v L1 → Calls Tryz.prog 48 #[.int .i64 1, v, .int .i64 10] W fun x w' => (∃ u, x = .returned u ∧ Qs w' u e3) ∧ Below W.heap.size W w')
    (Q4 : ∀ W v, Kls W v L1 → Calls Tryz.prog 50 #[v, .func (.func 51) #[] #[], .int .i64 10] W fun x w' => (∃ u, x = .returned u ∧ Qs w' u e4) ∧ Below W.heap.size W w')
    (Q5 : ∀ W v, Kls W v L4 → Calls Tryz.prog 49 #[.int .i64 1, v, .int .i64 10] W fun x w' => (∃ u, x = .returned u ∧ Qs w' u e5) ∧ Below W.heap.size W w')
    (Q6 : ∀ W v, Kls W v L4 → Calls Tryz.prog 48 #[.int .i64 1, v, .int .i64 10] W fun x w' => (∃ u, x = .returned u ∧ Qs w' u e6) ∧ Below W.heap.size W w')
    (Q7 : ∀ W v, Kls W v L4 → Calls Tryz.prog 50 #[v, .func (.func 52) #[] #[], .int .i64 10] W fun x w' => (∃ u, x = .returned u ∧ Qs w' u e7) ∧ Below W.heap.size W w')
    (Q8 : ∀ W v f, Kls W v L4 → Fs W f way → Calls Tryz.prog 50 #[v, f, .int .i64 13] W fun x w' => (∃ u, x = .returned u ∧ Qs w' u e8) ∧ Below W.heap.size W w')
    (Q9 : ∀ W v, Kls W v L5 → Calls Tryz.prog 49 #[.int .i64 1, v, .int .i64 19] W fun x w' => (∃ u, x = .returned u ∧ Qs w' u e9) ∧ Below W.heap.size W w')
    (Q10 : ∀ W v, Kls W v L5 → Calls Tryz.prog 48 #[.int .i64 8, v, .int .i64 18] W fun x w' => (∃ u, x = .returned u ∧ Qs w' u e10) ∧ Below W.heap.size W w')
    (Q11 : ∀ W v, Kls W v L5 → Calls Tryz.prog 50 #[v, .func (.func 54) #[] #[], .int .i64 12] W fun x w' => (∃ u, x = .returned u ∧ Qs w' u e11) ∧ Below W.heap.size W w')
    (Q12 : ∀ W v, Kls W v L6 → Calls Tryz.prog 48 #[.int .i64 1, v, .int .i64 24] W fun x w' => (∃ u, x = .returned u ∧ Qs w' u e12) ∧ Below W.heap.size W w')
    (Q13 : ∀ W v, Kls W v L7 → Calls Tryz.prog 48 #[.int .i64 1, v, .int .i64 24] W fun x w' => (∃ u, x = .returned u ∧ Qs w' u e13) ∧ Below W.heap.size W w')
    (Q14 : ∀ W v, Kls W v L6 → Calls Tryz.prog 50 #[v, .func (.func 26) #[] #[], .int .i64 20] W fun x w' => (∃ u, x = .returned u ∧ Qs w' u e14) ∧ Below W.heap.size W w')
    (Q15 : ∀ W v, Kls W v L7 → Calls Tryz.prog 50 #[v, .func (.func 55) #[] #[], .int .i64 13] W fun x w' => (∃ u, x = .returned u ∧ Qs w' u e15) ∧ Below W.heap.size W w')
    (HN : D ≠ 0 → RA = 0 ∧ RC = [] ∧ RH = ⟨#[]⟩ ∧ RP = 0)
    (HY : D = 0 → ∃ r, L4 = [r] ∧ L6.length ≤ 1 ∧ L7.length ≤ 1 ∧ r.s.size ≤ 9223372036854775807 ∧ RA = (snB r.s).1 ∧ RC = L5.map (·.s) ∧ RH = (if L6.length = 1 then hdS L6 else ⟨#[]⟩) ∧ RP = (if L7.length = 1 then (snB (hdS L7)).1 else 0)) :
    Calls Tryz.prog 14 #[va, vl] w fun e w' => (∃ vc, e = .returned (.tuple #[.agg #[.int .i64 RA, vc, .string RH, .int .i64 RP], .int .i64 D]) ∧ Sls w' vc RC) ∧ Below w.heap.size w w' := by
  have A4 := DV.new w
  have hB0 := Bel.al (Below.refl w.heap.size w) (.cells #[.int .i64 0, .slice none 0 0, .string ⟨#[]⟩, .int .i64 0] 38)
  have HNN : Hid (_) := HN
  have HYY : Hid (_) := HY
  have M5 : Hid (_) := m5
  have HQ7 : Hid (_) := q7
  clear HN HY m5 q7
  obtain ⟨b4, hb4⟩ : ∃ b, w.heap.size = b := ⟨_, rfl⟩
  have HB4 : Hid (w.heap.size = b4) := hb4
  rw [hb4] at A4
  clear hb4
  have CF := fun (f0 f1 f2 f3 f4 f5 f6 f7 f8 f9 f10 f11 f12 f13 f14 f15 : Value) (W : World) (K0 : Qs W f0 e0) (K1 : Qs W f1 e1) (K2 : Qs W f2 e2) (K3 : Qs W f3 e3) (K4 : Qs W f4 e4) (K5 : Qs W f5 e5) (K6 : Qs W f6 e6) (K7 : Qs W f7 e7) (K8 : Qs W f8 e8) (K9 : Qs W f9 e9) (K10 : Qs W f10 e10) (K11 : Qs W f11 e11) (K12 : Qs W f12 e12) (K13 : Qs W f13 e13) (K14 : Qs W f14 e14) (K15 : Qs W f15 e15) => (show Calls Tryz.prog 23 #[.slice (some ⟨W.heap.size, 0, none⟩) 16 16] (W.alloc (.cells #[f0, f1, f2, f3, f4, f5, f6, f7, f8, f9, f10, f11, f12, f13, f14, f15] 71)) _ from pfirst_any [e0, e1, e2, e3, e4, e5, e6, e7, e8, e9, e10, e11, e12, e13, e14, e15] [f0, f1, f2, f3, f4, f5, f6, f7, f8, f9, f10, f11, f12, f13, f14, f15] W.heap.size (W.alloc (.cells #[f0, f1, f2, f3, f4, f5, f6, f7, f8, f9, f10, f11, f12, f13, f14, f15] 71)) (by simp) (by simp) (Arr.new W #[f0, f1, f2, f3, f4, f5, f6, f7, f8, f9, f10, f11, f12, f13, f14, f15] 71 _ rfl _ 16 (at16 f0 f1 f2 f3 f4 f5 f6 f7 f8 f9 f10 f11 f12 f13 f14 f15)) (fun j hj => by
    have B := Bel.al (Below.refl W.heap.size W) (.cells #[f0, f1, f2, f3, f4, f5, f6, f7, f8, f9, f10, f11, f12, f13, f14, f15] 71)
    match j, hj with
    | 0, _ => exact K0.to B
    | 1, _ => exact K1.to B
    | 2, _ => exact K2.to B
    | 3, _ => exact K3.to B
    | 4, _ => exact K4.to B
    | 5, _ => exact K5.to B
    | 6, _ => exact K6.to B
    | 7, _ => exact K7.to B
    | 8, _ => exact K8.to B
    | 9, _ => exact K9.to B
    | 10, _ => exact K10.to B
    | 11, _ => exact K11.to B
    | 12, _ => exact K12.to B
    | 13, _ => exact K13.to B
    | 14, _ => exact K14.to B
    | 15, _ => exact K15.to B
    | k + 16, hj => exact absurd hj (by simp)))
  rw [HD] at CF
  clear HD
  go_enter Tryz.func14, Tryz.ntmps14
  go_wp2_with fail
  generalize w.alloc (.cells #[.int .i64 0, .slice none 0 0, .string ⟨#[]⟩, .int .i64 0] 38) = W0 at *
  rw [HB4.out]
  refine (C1 _ hB0).mono ?_
  rintro e w1 ⟨⟨v1, rfl, K1⟩, b1⟩
  have B1 := Bel.call hB0 b1
  replace A4 := Arr.to' (n := 3) A4 b1
  clear b1 hB0 C1
  go_wp2_with fail
  refine (C4 _ B1).mono ?_
  rintro e w2 ⟨⟨v4, rfl, K4⟩, b2⟩
  have B2 := Bel.call B1 b2
  replace K1 := K1.to b2
  replace A4 := Arr.to' (n := 3) A4 b2
  clear b2 B1 C4
  go_wp2_with fail
  refine (C5 _ B2).mono ?_
  rintro e w3 ⟨⟨v5, rfl, K5⟩, b3⟩
  have B3 := Bel.call B2 b3
  replace K1 := K1.to b3
  replace K4 := K4.to b3
  replace A4 := Arr.to' (n := 3) A4 b3
  clear b3 B2 C5
  go_wp2_with fail
  refine (C6 _ B3).mono ?_
  rintro e w4 ⟨⟨v6, rfl, K6⟩, b4⟩
  have B4 := Bel.call B3 b4
  replace K1 := K1.to b4
  replace K4 := K4.to b4
  replace K5 := K5.to b4
  replace A4 := Arr.to' (n := 3) A4 b4
  clear b4 B3 C6
  go_wp2_with fail
  refine (C7 _ B4).mono ?_
  rintro e w5 ⟨⟨v7, rfl, K7⟩, b5⟩
  have B5 := Bel.call B4 b5
  replace K1 := K1.to b5
  replace K4 := K4.to b5
  replace K5 := K5.to b5
  replace K6 := K6.to b5
  replace A4 := Arr.to' (n := 3) A4 b5
  clear b5 B4 C7
  go_wp2_with fail
  refine (C2 _ B5).mono ?_
  rintro e w6 ⟨⟨v2, rfl, K2⟩, b6⟩
  have B6 := Bel.call B5 b6
  replace K1 := K1.to b6
  replace K4 := K4.to b6
  replace K5 := K5.to b6
  replace K6 := K6.to b6
  replace K7 := K7.to b6
  replace A4 := Arr.to' (n := 3) A4 b6
  clear b6 B5 C2
  go_wp2_with fail
  refine (Q0 _ _ K2).mono ?_
  rintro e w7 ⟨⟨u0, rfl, S0⟩, b7⟩
  have B7 := Bel.call B6 b7
  replace K1 := K1.to b7
  replace K4 := K4.to b7
  replace K5 := K5.to b7
  replace K6 := K6.to b7
  replace K7 := K7.to b7
  replace K2 := K2.to b7
  replace A4 := Arr.to' (n := 3) A4 b7
  obtain ⟨g0, s0, rfl, -⟩ := id S0
  clear b7 B6 Q0
  go_wp2_with fail
  refine (CU _ B7).mono ?_
  rintro e w8 ⟨rfl, b8⟩
  have B8 := Bel.call B7 b8
  replace K1 := K1.to b8
  replace K4 := K4.to b8
  replace K5 := K5.to b8
  replace K6 := K6.to b8
  replace K7 := K7.to b8
  replace S0 := S0.to b8
  replace A4 := Arr.to' (n := 3) A4 b8
  clear b8 B7 CU
  go_wp2_with fail
  refine (Q1 _).mono ?_
  rintro e w9 ⟨⟨u1, rfl, S1⟩, b9⟩
  have B9 := Bel.call B8 b9
  replace K1 := K1.to b9
  replace K4 := K4.to b9
  replace K5 := K5.to b9
  replace K6 := K6.to b9
  replace K7 := K7.to b9
  replace S0 := S0.to b9
  replace A4 := Arr.to' (n := 3) A4 b9
  obtain ⟨g1, s1, rfl, -⟩ := id S1
  clear b9 B8 Q1
  go_wp2_with fail
  refine (Q2 _ _ K1).mono ?_
  rintro e w10 ⟨⟨u2, rfl, S2⟩, b10⟩
  have B10 := Bel.call B9 b10
  replace K1 := K1.to b10
  replace K4 := K4.to b10
  replace K5 := K5.to b10
  replace K6 := K6.to b10
  replace K7 := K7.to b10
  replace S0 := S0.to b10
  replace S1 := S1.to b10
  replace A4 := Arr.to' (n := 3) A4 b10
  obtain ⟨g2, s2, rfl, -⟩ := id S2
  clear b10 B9 Q2
  go_wp2_with fail
  refine (Q3 _ _ K1).mono ?_
  rintro e w11 ⟨⟨u3, rfl, S3⟩, b11⟩
  have B11 := Bel.call B10 b11
  replace K1 := K1.to b11
  replace K4 := K4.to b11
  replace K5 := K5.to b11
  replace K6 := K6.to b11
  replace K7 := K7.to b11
  replace S0 := S0.to b11
  replace S1 := S1.to b11
  replace S2 := S2.to b11
  replace A4 := Arr.to' (n := 3) A4 b11
  obtain ⟨g3, s3, rfl, -⟩ := id S3
  clear b11 B10 Q3
  go_wp2_with fail
  refine (Q4 _ _ K1).mono ?_
  rintro e w12 ⟨⟨u4, rfl, S4⟩, b12⟩
  have B12 := Bel.call B11 b12
  replace K1 := K1.to b12
  replace K4 := K4.to b12
  replace K5 := K5.to b12
  replace K6 := K6.to b12
  replace K7 := K7.to b12
  replace S0 := S0.to b12
  replace S1 := S1.to b12
  replace S2 := S2.to b12
  replace S3 := S3.to b12
  replace A4 := Arr.to' (n := 3) A4 b12
  obtain ⟨g4, s4, rfl, -⟩ := id S4
  clear b12 B11 Q4
  go_wp2_with fail
  refine (Q5 _ _ K4).mono ?_
  rintro e w13 ⟨⟨u5, rfl, S5⟩, b13⟩
  have B13 := Bel.call B12 b13
  replace K4 := K4.to b13
  replace K5 := K5.to b13
  replace K6 := K6.to b13
  replace K7 := K7.to b13
  replace S0 := S0.to b13
  replace S1 := S1.to b13
  replace S2 := S2.to b13
  replace S3 := S3.to b13
  replace S4 := S4.to b13
  replace A4 := Arr.to' (n := 3) A4 b13
  obtain ⟨g5, s5, rfl, -⟩ := id S5
  clear b13 B12 Q5
  go_wp2_with fail
  refine (Q6 _ _ K4).mono ?_
  rintro e w14 ⟨⟨u6, rfl, S6⟩, b14⟩
  have B14 := Bel.call B13 b14
  replace K4 := K4.to b14
  replace K5 := K5.to b14
  replace K6 := K6.to b14
  replace K7 := K7.to b14
  replace S0 := S0.to b14
  replace S1 := S1.to b14
  replace S2 := S2.to b14
  replace S3 := S3.to b14
  replace S4 := S4.to b14
  replace S5 := S5.to b14
  replace A4 := Arr.to' (n := 3) A4 b14
  obtain ⟨g6, s6, rfl, -⟩ := id S6
  clear b14 B13 Q6
  go_wp2_with fail
  refine (Q7 _ _ K4).mono ?_
  rintro e w15 ⟨⟨u7, rfl, S7⟩, b15⟩
  have B15 := Bel.call B14 b15
  replace K4 := K4.to b15
  replace K5 := K5.to b15
  replace K6 := K6.to b15
  replace K7 := K7.to b15
  replace S0 := S0.to b15
  replace S1 := S1.to b15
  replace S2 := S2.to b15
  replace S3 := S3.to b15
  replace S4 := S4.to b15
  replace S5 := S5.to b15
  replace S6 := S6.to b15
  replace A4 := Arr.to' (n := 3) A4 b15
  obtain ⟨g7, s7, rfl, -⟩ := id S7
  clear b15 B14 Q7
  go_wp2_with fail
  refine (CW _ B15).mono ?_
  rintro e w16 ⟨⟨fw, rfl, SW⟩, b16⟩
  have B16 := Bel.call B15 b16
  replace K4 := K4.to b16
  replace K5 := K5.to b16
  replace K6 := K6.to b16
  replace K7 := K7.to b16
  replace S0 := S0.to b16
  replace S1 := S1.to b16
  replace S2 := S2.to b16
  replace S3 := S3.to b16
  replace S4 := S4.to b16
  replace S5 := S5.to b16
  replace S6 := S6.to b16
  replace S7 := S7.to b16
  replace A4 := Arr.to' (n := 3) A4 b16
  obtain ⟨gw, sw, rfl, -⟩ := id SW
  clear b16 B15 CW
  go_wp2_with fail
  refine (Q8 _ _ _ K4 SW).mono ?_
  rintro e w17 ⟨⟨u8, rfl, S8⟩, b17⟩
  have B17 := Bel.call B16 b17
  replace K4 := K4.to b17
  replace K5 := K5.to b17
  replace K6 := K6.to b17
  replace K7 := K7.to b17
  replace S0 := S0.to b17
  replace S1 := S1.to b17
  replace S2 := S2.to b17
  replace S3 := S3.to b17
  replace S4 := S4.to b17
  replace S5 := S5.to b17
  replace S6 := S6.to b17
  replace S7 := S7.to b17
  replace SW := SW.to b17
  replace A4 := Arr.to' (n := 3) A4 b17
  obtain ⟨g8, s8, rfl, -⟩ := id S8
  clear b17 B16 Q8
  clear SW
  go_wp2_with fail
  refine (Q9 _ _ K5).mono ?_
  rintro e w18 ⟨⟨u9, rfl, S9⟩, b18⟩
  have B18 := Bel.call B17 b18
  replace K4 := K4.to b18
  replace K5 := K5.to b18
  replace K6 := K6.to b18
  replace K7 := K7.to b18
  replace S0 := S0.to b18
  replace S1 := S1.to b18
  replace S2 := S2.to b18
  replace S3 := S3.to b18
  replace S4 := S4.to b18
  replace S5 := S5.to b18
  replace S6 := S6.to b18
  replace S7 := S7.to b18
  replace S8 := S8.to b18
  replace A4 := Arr.to' (n := 3) A4 b18
  obtain ⟨g9, s9, rfl, -⟩ := id S9
  clear b18 B17 Q9
  go_wp2_with fail
  refine (Q10 _ _ K5).mono ?_
  rintro e w19 ⟨⟨u10, rfl, S10⟩, b19⟩
  have B19 := Bel.call B18 b19
  replace K4 := K4.to b19
  replace K5 := K5.to b19
  replace K6 := K6.to b19
  replace K7 := K7.to b19
  replace S0 := S0.to b19
  replace S1 := S1.to b19
  replace S2 := S2.to b19
  replace S3 := S3.to b19
  replace S4 := S4.to b19
  replace S5 := S5.to b19
  replace S6 := S6.to b19
  replace S7 := S7.to b19
  replace S8 := S8.to b19
  replace S9 := S9.to b19
  replace A4 := Arr.to' (n := 3) A4 b19
  obtain ⟨g10, s10, rfl, -⟩ := id S10
  clear b19 B18 Q10
  go_wp2_with fail
  refine (Q11 _ _ K5).mono ?_
  rintro e w20 ⟨⟨u11, rfl, S11⟩, b20⟩
  have B20 := Bel.call B19 b20
  replace K4 := K4.to b20
  replace K5 := K5.to b20
  replace K6 := K6.to b20
  replace K7 := K7.to b20
  replace S0 := S0.to b20
  replace S1 := S1.to b20
  replace S2 := S2.to b20
  replace S3 := S3.to b20
  replace S4 := S4.to b20
  replace S5 := S5.to b20
  replace S6 := S6.to b20
  replace S7 := S7.to b20
  replace S8 := S8.to b20
  replace S9 := S9.to b20
  replace S10 := S10.to b20
  replace A4 := Arr.to' (n := 3) A4 b20
  obtain ⟨g11, s11, rfl, -⟩ := id S11
  clear b20 B19 Q11
  go_wp2_with fail
  refine (Q12 _ _ K6).mono ?_
  rintro e w21 ⟨⟨u12, rfl, S12⟩, b21⟩
  have B21 := Bel.call B20 b21
  replace K4 := K4.to b21
  replace K5 := K5.to b21
  replace K6 := K6.to b21
  replace K7 := K7.to b21
  replace S0 := S0.to b21
  replace S1 := S1.to b21
  replace S2 := S2.to b21
  replace S3 := S3.to b21
  replace S4 := S4.to b21
  replace S5 := S5.to b21
  replace S6 := S6.to b21
  replace S7 := S7.to b21
  replace S8 := S8.to b21
  replace S9 := S9.to b21
  replace S10 := S10.to b21
  replace S11 := S11.to b21
  replace A4 := Arr.to' (n := 3) A4 b21
  obtain ⟨g12, s12, rfl, -⟩ := id S12
  clear b21 B20 Q12
  go_wp2_with fail
  refine (Q13 _ _ K7).mono ?_
  rintro e w22 ⟨⟨u13, rfl, S13⟩, b22⟩
  have B22 := Bel.call B21 b22
  replace K4 := K4.to b22
  replace K5 := K5.to b22
  replace K6 := K6.to b22
  replace K7 := K7.to b22
  replace S0 := S0.to b22
  replace S1 := S1.to b22
  replace S2 := S2.to b22
  replace S3 := S3.to b22
  replace S4 := S4.to b22
  replace S5 := S5.to b22
  replace S6 := S6.to b22
  replace S7 := S7.to b22
  replace S8 := S8.to b22
  replace S9 := S9.to b22
  replace S10 := S10.to b22
  replace S11 := S11.to b22
  replace S12 := S12.to b22
  replace A4 := Arr.to' (n := 3) A4 b22
  obtain ⟨g13, s13, rfl, -⟩ := id S13
  clear b22 B21 Q13
  go_wp2_with fail
  refine (Q14 _ _ K6).mono ?_
  rintro e w23 ⟨⟨u14, rfl, S14⟩, b23⟩
  have B23 := Bel.call B22 b23
  replace K4 := K4.to b23
  replace K5 := K5.to b23
  replace K6 := K6.to b23
  replace K7 := K7.to b23
  replace S0 := S0.to b23
  replace S1 := S1.to b23
  replace S2 := S2.to b23
  replace S3 := S3.to b23
  replace S4 := S4.to b23
  replace S5 := S5.to b23
  replace S6 := S6.to b23
  replace S7 := S7.to b23
  replace S8 := S8.to b23
  replace S9 := S9.to b23
  replace S10 := S10.to b23
  replace S11 := S11.to b23
  replace S12 := S12.to b23
  replace S13 := S13.to b23
  replace A4 := Arr.to' (n := 3) A4 b23
  obtain ⟨g14, s14, rfl, -⟩ := id S14
  clear b23 B22 Q14
  go_wp2_with fail
  refine (Q15 _ _ K7).mono ?_
  rintro e w24 ⟨⟨u15, rfl, S15⟩, b24⟩
  have B24 := Bel.call B23 b24
  replace K4 := K4.to b24
  replace K5 := K5.to b24
  replace K6 := K6.to b24
  replace K7 := K7.to b24
  replace S0 := S0.to b24
  replace S1 := S1.to b24
  replace S2 := S2.to b24
  replace S3 := S3.to b24
  replace S4 := S4.to b24
  replace S5 := S5.to b24
  replace S6 := S6.to b24
  replace S7 := S7.to b24
  replace S8 := S8.to b24
  replace S9 := S9.to b24
  replace S10 := S10.to b24
  replace S11 := S11.to b24
  replace S12 := S12.to b24
  replace S13 := S13.to b24
  replace S14 := S14.to b24
  replace A4 := Arr.to' (n := 3) A4 b24
  obtain ⟨g15, s15, rfl, -⟩ := id S15
  clear b24 B23 Q15
  have CE := CF _ _ _ _ _ _ _ _ _ _ _ _ _ _ _ _ w24 S0 S1 S2 S3 S4 S5 S6 S7 S8 S9 S10 S11 S12 S13 S14 S15
  have BE := Bel.al B24 (.cells #[.func (.func g0) #[] s0, .func (.func g1) #[] s1, .func (.func g2) #[] s2, .func (.func g3) #[] s3, .func (.func g4) #[] s4, .func (.func g5) #[] s5, .func (.func g6) #[] s6, .func (.func g7) #[] s7, .func (.func g8) #[] s8, .func (.func g9) #[] s9, .func (.func g10) #[] s10, .func (.func g11) #[] s11, .func (.func g12) #[] s12, .func (.func g13) #[] s13, .func (.func g14) #[] s14, .func (.func g15) #[] s15] 71)
  replace K4 := K4.to (Bel.al (Below.refl _ w24) (.cells #[.func (.func g0) #[] s0, .func (.func g1) #[] s1, .func (.func g2) #[] s2, .func (.func g3) #[] s3, .func (.func g4) #[] s4, .func (.func g5) #[] s5, .func (.func g6) #[] s6, .func (.func g7) #[] s7, .func (.func g8) #[] s8, .func (.func g9) #[] s9, .func (.func g10) #[] s10, .func (.func g11) #[] s11, .func (.func g12) #[] s12, .func (.func g13) #[] s13, .func (.func g14) #[] s14, .func (.func g15) #[] s15] 71))
  replace K5 := K5.to (Bel.al (Below.refl _ w24) (.cells #[.func (.func g0) #[] s0, .func (.func g1) #[] s1, .func (.func g2) #[] s2, .func (.func g3) #[] s3, .func (.func g4) #[] s4, .func (.func g5) #[] s5, .func (.func g6) #[] s6, .func (.func g7) #[] s7, .func (.func g8) #[] s8, .func (.func g9) #[] s9, .func (.func g10) #[] s10, .func (.func g11) #[] s11, .func (.func g12) #[] s12, .func (.func g13) #[] s13, .func (.func g14) #[] s14, .func (.func g15) #[] s15] 71))
  replace K6 := K6.to (Bel.al (Below.refl _ w24) (.cells #[.func (.func g0) #[] s0, .func (.func g1) #[] s1, .func (.func g2) #[] s2, .func (.func g3) #[] s3, .func (.func g4) #[] s4, .func (.func g5) #[] s5, .func (.func g6) #[] s6, .func (.func g7) #[] s7, .func (.func g8) #[] s8, .func (.func g9) #[] s9, .func (.func g10) #[] s10, .func (.func g11) #[] s11, .func (.func g12) #[] s12, .func (.func g13) #[] s13, .func (.func g14) #[] s14, .func (.func g15) #[] s15] 71))
  replace K7 := K7.to (Bel.al (Below.refl _ w24) (.cells #[.func (.func g0) #[] s0, .func (.func g1) #[] s1, .func (.func g2) #[] s2, .func (.func g3) #[] s3, .func (.func g4) #[] s4, .func (.func g5) #[] s5, .func (.func g6) #[] s6, .func (.func g7) #[] s7, .func (.func g8) #[] s8, .func (.func g9) #[] s9, .func (.func g10) #[] s10, .func (.func g11) #[] s11, .func (.func g12) #[] s12, .func (.func g13) #[] s13, .func (.func g14) #[] s14, .func (.func g15) #[] s15] 71))
  replace A4 := Arr.al' (n := 3) A4 (.cells #[.func (.func g0) #[] s0, .func (.func g1) #[] s1, .func (.func g2) #[] s2, .func (.func g3) #[] s3, .func (.func g4) #[] s4, .func (.func g5) #[] s5, .func (.func g6) #[] s6, .func (.func g7) #[] s7, .func (.func g8) #[] s8, .func (.func g9) #[] s9, .func (.func g10) #[] s10, .func (.func g11) #[] s11, .func (.func g12) #[] s12, .func (.func g13) #[] s13, .func (.func g14) #[] s14, .func (.func g15) #[] s15] 71)
  clear CF S0 S1 S2 S3 S4 S5 S6 S7 S8 S9 S10 S11 S12 S13 S14 S15 B24
  go_wp2_with fail
  refine CE.mono ?_
  rintro e wz ⟨rfl, bz⟩
  have BZ := Bel.call BE bz
  replace K4 := K4.to bz
  replace K5 := K5.to bz
  replace K6 := K6.to bz
  replace K7 := K7.to bz
  replace A4 := Arr.to' (n := 3) A4 bz
  clear CE BE bz
  rename_i qq k1 a1 k2 a2
  have HQ : Hid (∀ x a W, bodyPost Tryz.prog Tryz.f14 (fun e w' => (∃ vc, e = .returned (.tuple #[.agg #[.int .i64 RA, vc, .string RH, .int .i64 RP], .int .i64 D]) ∧ Sls w' vc RC) ∧ Below w.heap.size w w') x a W → qq x a W) := fun _ _ _ h => h
  clear_value qq
  have d0 := A4.cv 0 (by decide) (.int .i64 0) rfl
  have d1 := A4.cv 1 (by decide) (.slice none 0 0) rfl
  have d2 := A4.cv 2 (by decide) (.string ⟨#[]⟩) rfl
  have d3 := A4.cv 3 (by decide) (.int .i64 0) rfl
  have z0 := A4.z 0 (by decide)
  have z1 := A4.z 1 (by decide)
  have z2 := A4.z 2 (by decide)
  have z3 := A4.z 3 (by decide)
  by_cases hD : D = 0
  case neg =>
    have nD : (D == 0) = false := by simpa using hD
    have nD' : (D != 0) = true := by simpa using hD
    obtain ⟨r1, r2, r3, r4⟩ := HNN.out hD
    have HP4 : Hid (Arr _ b4 4 _) := A4
    have HBB : Hid (Below w.heap.size w _) := BZ
    subst r1 r2 r3 r4
    clear hD HNN HYY A4 BZ K4 K5 K6 K7
    go_wp2_with fail
    exact HQ.out _ _ _ (bodyPost_ret (results_cellT rfl _ rfl (ld4 HP4.out _ _ _ _)) rfl ⟨⟨_, rfl, Sls.nil _⟩, set4_below HBB.out (by have := HB4.out; omega) _ _ _ _⟩)
  obtain ⟨r, rfl, m6, m7, hr, rfl, rfl, rfl, rfl⟩ := HYY.out hD
  subst hD
  have CD := fun W k5 k6 k7 => pdealt_any r L5 L6 L7 v5 v6 v7 W k5 k6 k7 M5.out m6 m7 hr HQ7.out
  obtain ⟨a4, c4, rfl, f4⟩ := K4
  obtain ⟨g, o, rfl, lt, x0, x1, x2⟩ := f4 0 r rfl
  simp only [Nat.zero_mul, Nat.add_zero] at x0 x1 x2
  have CDz := CD wz K5 K6 K7
  obtain ⟨rc, rk, rs⟩ := r
  simp only at x0 x1 x2 CDz
  generalize (snB rs).1 = RA at *
  generalize (if L6.length = 1 then hdS L6 else ⟨#[]⟩) = RH at *
  generalize (if L7.length = 1 then (snB (hdS L7)).1 else 0) = RP at *
  generalize L5.map (·.s) = RC at *
  clear CD f4 HNN HYY K5 K6 K7 M5 HQ7 m6 m7 hr
  go_wp2_with fail
  refine CDz.mono ?_
  rintro e wy ⟨⟨vc, rfl, BB, hBB, KO⟩, by'⟩
  have lz := Arr.lt (n := 3) A4
  obtain ⟨ao, cv, rfl⟩ := own_frm KO
  have BY : Hid _ := Bel.call BZ by'
  replace A4 := Arr.to' (n := 3) A4 by'
  have HP4 : Hid (Arr _ b4 4 _) := A4
  have y0 := A4.cv 0 (by decide) (.int .i64 0) rfl
  have y1 := A4.cv 1 (by decide) (.slice none 0 0) rfl
  have y2 := A4.cv 2 (by decide) (.string ⟨#[]⟩) rfl
  have y3 := A4.cv 3 (by decide) (.int .i64 0) rfl
  have t0 := A4.z 0 (by decide)
  have t1 := A4.z 1 (by decide)
  have t2 := A4.z 2 (by decide)
  have t3 := A4.z 3 (by decide)
  have HS : Hid (Sls ((((wy.setCell ⟨b4, 0, none⟩ (.int .i64 RA)).setCell ⟨b4, 1, none⟩ (.slice ao RC.length cv)).setCell ⟨b4, 2, none⟩ (.string RH)).setCell ⟨b4, 3, none⟩ (.int .i64 RP)) (.slice ao RC.length cv) RC) := Sls.own (b := BB) (own_set4 (B := BB) (b := b4) KO (by omega) (.int .i64 RA) (.slice ao RC.length cv) (.string RH) (.int .i64 RP))
  generalize RC.length = nC at *
  clear CDz by' BZ KO A4 d0 d1 d2 d3 z0 z1 z2 z3 x0 x1 x2
  go_wp2_with fail
  exact HQ.out _ _ _ (bodyPost_ret (results_cellT rfl _ rfl (ld4 HP4.out _ _ _ _)) rfl ⟨⟨_, rfl, HS.out⟩, set4_below BY.out (by have := HB4.out; omega) _ _ _ _⟩)
end Go.Proofs.YtbhmbdkijpocmaaGreatDoor
/- The laws' own words: NegoAccepts, by what the program's functions do. -/
set_option linter.all false
set_option maxRecDepth 100000
namespace Go.Proofs.YtbhmbdkijpocmaaGreatDoor
open Go.RowKit Go.Shelf Go.Sort Go.Lib
theorem acc_len (ws : List Int) (l : List Ke) : (accD ws l).cs.length ≤ l.length := by
  unfold accD
  split
  · show ((fdL l 5).map _).length ≤ _
    rw [List.length_map]
    exact fdL_len l 5
  · exact Nat.zero_le _
set_option maxHeartbeats 4000000 in
theorem NegoAccepts_1 (CA : CAs) (CN : CAn) (CK : CK0) (CC : CAc) (CM : CSm) (ws : List Int) (l : List Ke) (o : Dl) (va vl vo : Value) (w : World) (HA : Nls w va ws) (HL : Kls w vl l) (HO : Sls w vo o.cs)
    (a9 : ws.length ≤ 9223372036854775807) (l9 : l.length ≤ 9223372036854775807) (o9 : o.cs.length ≤ 9223372036854775807) (hs : ∀ r ∈ l, r.s.size ≤ 9223372036854775807) (g1 : 1000 < ws.length) :
    Calls Tryz.prog 4 #[va, vl, dlV o vo] w fun e w' => e = .returned (.bool true) ∧ Below w.heap.size w w' := by
  have CW := awake_any CA CN CK
  obtain ⟨oa, oc, oh, op⟩ := o
  unfold dlV
  simp only at HO o9 g1 ⊢
  have A8 := Arr.new w #[Value.int .i64 oa, vo, .string oh, .int .i64 op] 38 _ rfl _ 4 (dlC_at oa vo oh op)
  have B8 := Bel.al (Below.refl w.heap.size w) (.cells #[.int .i64 oa, vo, .string oh, .int .i64 op] 38)
  have CF := few_any l vl _ (HL.to B8) l9
  obtain ⟨aa, ca, rfl, _⟩ := HA
  obtain ⟨ao, cao, rfl, _⟩ := HO
  have n1 : (ws.length : Int) ≤ 9223372036854775807 := by omega
  have n3 : (oc.length : Int) ≤ 9223372036854775807 := by omega
  have i1 : (1000 : Int) < (ws.length : Int) := by omega
  clear CF
  clear CA CN CK CC CM hs HL
  go_enter Tryz.func4, Tryz.ntmps4
  go_wp2_with (go_at_call 8; refine (CW _).mono ?_; rintro e w9 ⟨rfl, b9⟩)
  go_ret
  exact ⟨rfl, Bel.call B8 b9⟩
set_option maxHeartbeats 4000000 in
theorem NegoAccepts_2 (CA : CAs) (CN : CAn) (CK : CK0) (CC : CAc) (CM : CSm) (ws : List Int) (l : List Ke) (o : Dl) (va vl vo : Value) (w : World) (HA : Nls w va ws) (HL : Kls w vl l) (HO : Sls w vo o.cs)
    (a9 : ws.length ≤ 9223372036854775807) (l9 : l.length ≤ 9223372036854775807) (o9 : o.cs.length ≤ 9223372036854775807) (hs : ∀ r ∈ l, r.s.size ≤ 9223372036854775807) (g1 : ¬ 1000 < ws.length) (g2 : ¬ l.length ≤ 500) :
    Calls Tryz.prog 4 #[va, vl, dlV o vo] w fun e w' => e = .returned (.bool true) ∧ Below w.heap.size w w' := by
  have CW := awake_any CA CN CK
  obtain ⟨oa, oc, oh, op⟩ := o
  unfold dlV
  simp only at HO o9 g1 ⊢
  have A8 := Arr.new w #[Value.int .i64 oa, vo, .string oh, .int .i64 op] 38 _ rfl _ 4 (dlC_at oa vo oh op)
  have B8 := Bel.al (Below.refl w.heap.size w) (.cells #[.int .i64 oa, vo, .string oh, .int .i64 op] 38)
  have CF := few_any l vl _ (HL.to B8) l9
  obtain ⟨aa, ca, rfl, _⟩ := HA
  obtain ⟨ao, cao, rfl, _⟩ := HO
  have n1 : (ws.length : Int) ≤ 9223372036854775807 := by omega
  have n3 : (oc.length : Int) ≤ 9223372036854775807 := by omega
  have i1 : ¬ (1000 : Int) < (ws.length : Int) := by omega
  rw [decide_eq_false g2] at CF
  clear CA CN CK CC CM hs HL
  go_enter Tryz.func4, Tryz.ntmps4
  go_wp2_with fail
  refine CF.mono ?_
  rintro e w2 ⟨rfl, rfl⟩
  clear CF
  go_wp2_with (go_at_call 8; refine (CW _).mono ?_; rintro e w9 ⟨rfl, b9⟩)
  go_ret
  exact ⟨rfl, Bel.call B8 b9⟩
set_option maxHeartbeats 4000000 in
theorem NegoAccepts_3 (CA : CAs) (CN : CAn) (CK : CK0) (CC : CAc) (CM : CSm) (ws : List Int) (l : List Ke) (o : Dl) (va vl vo : Value) (w : World) (HA : Nls w va ws) (HL : Kls w vl l) (HO : Sls w vo o.cs)
    (a9 : ws.length ≤ 9223372036854775807) (l9 : l.length ≤ 9223372036854775807) (o9 : o.cs.length ≤ 9223372036854775807) (hs : ∀ r ∈ l, r.s.size ≤ 9223372036854775807) (g1 : ¬ 1000 < ws.length) (g2 : l.length ≤ 500) (g4 : 500 < o.cs.length) :
    Calls Tryz.prog 4 #[va, vl, dlV o vo] w fun e w' => e = .returned (.bool true) ∧ Below w.heap.size w w' := by
  have CW := awake_any CA CN CK
  obtain ⟨oa, oc, oh, op⟩ := o
  unfold dlV
  simp only at HO o9 g4 ⊢
  have A8 := Arr.new w #[Value.int .i64 oa, vo, .string oh, .int .i64 op] 38 _ rfl _ 4 (dlC_at oa vo oh op)
  have B8 := Bel.al (Below.refl w.heap.size w) (.cells #[.int .i64 oa, vo, .string oh, .int .i64 op] 38)
  have CF := few_any l vl _ (HL.to B8) l9
  obtain ⟨aa, ca, rfl, _⟩ := HA
  obtain ⟨ao, cao, rfl, _⟩ := HO
  have n1 : (ws.length : Int) ≤ 9223372036854775807 := by omega
  have n3 : (oc.length : Int) ≤ 9223372036854775807 := by omega
  have i1 : ¬ (1000 : Int) < (ws.length : Int) := by omega
  rw [decide_eq_true g2] at CF
  have i4 : (500 : Int) < (oc.length : Int) := by omega
  clear CA CN CK CC CM hs HL
  go_enter Tryz.func4, Tryz.ntmps4
  go_wp2_with fail
  refine CF.mono ?_
  rintro e w2 ⟨rfl, rfl⟩
  clear CF
  go_wp2_with (go_at_call 8; refine (CW _).mono ?_; rintro e w9 ⟨rfl, b9⟩)
  go_ret
  exact ⟨rfl, Bel.call B8 b9⟩
set_option maxHeartbeats 8000000 in
theorem NegoAccepts_4 (CA : CAs) (CN : CAn) (CK : CK0) (CC : CAc) (CM : CSm) (ws : List Int) (l : List Ke) (o : Dl) (va vl vo : Value) (w : World) (HA : Nls w va ws) (HL : Kls w vl l) (HO : Sls w vo o.cs)
    (a9 : ws.length ≤ 9223372036854775807) (l9 : l.length ≤ 9223372036854775807) (o9 : o.cs.length ≤ 9223372036854775807) (hs : ∀ r ∈ l, r.s.size ≤ 9223372036854775807) (g1 : ¬ 1000 < ws.length) (g2 : l.length ≤ 500) (g4 : ¬ 500 < o.cs.length) :
    Calls Tryz.prog 4 #[va, vl, dlV o vo] w fun e w' => e = .returned (.bool true) ∧ Below w.heap.size w w' := by
  have CW := awake_any CA CN CK
  have dl := acc_len ws l
  have C1 := fun W (hb : Below w.heap.size w W) => CC ws l va vl W (HA.to hb) (HL.to hb) (by omega) (by omega) hs
  have C2 := fun W (hb : Below w.heap.size w W) => nAccept_any ws l va vl W (HA.to hb) (HL.to hb) (by omega) (by omega) hs
  have S1 := fun W v1 v2 h1 h2 => nSame_any (accD ws l) (accD ws l) v1 v2 W h1 h2 (by omega) (by omega)
  have S2 := fun W v2 h1 h2 => CM o (accD ws l) vo v2 W h1 h2 (by omega) (by omega)
  have S3 := fun W v2 h1 h2 => nSame_any o (accD ws l) vo v2 W h1 h2 (by omega) (by omega)
  have S4 := fun W v2 h1 h2 => CM (accD ws l) (accD ws l) v2 v2 W h1 h2 (by omega) (by omega)
  rw [dlB_self] at S1 S4
  generalize accE ws l = E at *
  generalize accD ws l = D at *
  generalize dlB o D = Q at *
  obtain ⟨oa, oc, oh, op⟩ := o
  obtain ⟨da, dc, dh, dp⟩ := D
  unfold dlV at C1 C2 S1 S2 S3 S4 ⊢
  simp only at HO o9 g4 C1 C2 S1 S2 S3 S4 dl ⊢
  have A8 := Arr.new w #[Value.int .i64 oa, vo, .string oh, .int .i64 op] 38 _ rfl _ 4 (dlC_at oa vo oh op)
  have B8 := Bel.al (Below.refl w.heap.size w) (.cells #[.int .i64 oa, vo, .string oh, .int .i64 op] 38)
  have CF := few_any l vl _ (HL.to B8) l9
  rw [decide_eq_true g2] at CF
  replace HO := HO.to B8
  obtain ⟨aa, ca, rfl, _⟩ := HA
  have hvo : ∃ a c, vo = .slice a oc.length c := by obtain ⟨a, c, e, _⟩ := HO; exact ⟨a, c, e⟩
  obtain ⟨ao, cao, rfl⟩ := hvo
  have i1 : ¬ (1000 : Int) < (ws.length : Int) := by omega
  have i4 : ¬ (500 : Int) < (oc.length : Int) := by omega
  have HO8 : Hid _ := HO
  clear CA CN CK CC CM hs HL g1 g2 g4 a9 l9 dl HO
  go_enter Tryz.func4, Tryz.ntmps4
  go_wp2_with fail
  generalize w.alloc (.cells #[.int .i64 oa, .slice ao oc.length cao, .string oh, .int .i64 op] 38) = W1 at *
  refine CF.mono ?_
  rintro e w2 ⟨rfl, rfl⟩
  clear CF
  have c1 := A8.cv 1 (by decide) (.slice ao oc.length cao) rfl
  go_wp2_with fail
  refine (C1 _ B8).mono ?_
  rintro e x1 ⟨⟨v1, rfl, k1⟩, b1⟩
  have B1 := Bel.call B8 b1
  replace A8 := Arr.to' (n := 3) A8 b1
  have HO1 : Hid _ := Sls.to HO8.out b1
  clear C1 b1 B8 c1 HO8
  have A7 := Arr.new x1 #[Value.int .i64 da, v1, .string dh, .int .i64 dp] 38 _ rfl _ 4 (dlC_at da v1 dh dp)
  have b2 := Bel.al (Below.refl x1.heap.size x1) (.cells #[.int .i64 da, v1, .string dh, .int .i64 dp] 38)
  replace B1 := Bel.call B1 b2
  replace A8 := Arr.to' (n := 3) A8 b2
  replace k1 := k1.to b2
  have HO2 : Hid _ := Sls.to HO1.out b2
  have hv1 : ∃ a c, v1 = .slice a dc.length c := by obtain ⟨a, c, e, _⟩ := k1; exact ⟨a, c, e⟩
  obtain ⟨a1, ca1, rfl⟩ := hv1
  clear HO1 b2
  go_wp2_with fail
  generalize x1.alloc (.cells #[.int .i64 da, .slice a1 dc.length ca1, .string dh, .int .i64 dp] 38) = x2 at *
  refine (C2 _ B1).mono ?_
  rintro e x3 ⟨⟨v2, rfl, k2⟩, b3⟩
  have hv2 : ∃ a c, v2 = .slice a dc.length c := by obtain ⟨a, c, e, _⟩ := k2; exact ⟨a, c, e⟩
  obtain ⟨a2, ca2, rfl⟩ := hv2
  have A9 := Arr.new x3 #[Value.int .i64 da, .slice a2 dc.length ca2, .string dh, .int .i64 dp] 38 _ rfl _ 4 (dlC_at da (.slice a2 dc.length ca2) dh dp)
  have b4 := Bel.al b3 (.cells #[.int .i64 da, .slice a2 dc.length ca2, .string dh, .int .i64 dp] 38)
  have b5 := Bel.al (Below.refl x3.heap.size x3) (.cells #[.int .i64 da, .slice a2 dc.length ca2, .string dh, .int .i64 dp] 38)
  have B4 := Bel.call B1 b4
  replace A8 := Arr.to' (n := 3) A8 b4
  replace A7 := Arr.to' (n := 3) A7 b4
  replace k1 := k1.to b4
  replace k2 := k2.to b5
  have HO3 := Sls.to HO2.out b4
  clear C2 b3 b4 b5 B1 HO2
  go_wp2_with fail
  generalize x3.alloc (.cells #[.int .i64 da, .slice a2 dc.length ca2, .string dh, .int .i64 dp] 38) = x4 at *
  have R80 := fun ds os => cell_regrown (A8.cv 0 (by decide) (.int .i64 oa) rfl) ds os
  have R81 := fun ds os => cell_regrown (A8.cv 1 (by decide) (.slice ao oc.length cao) rfl) ds os
  have R82 := fun ds os => cell_regrown (A8.cv 2 (by decide) (.string oh) rfl) ds os
  have R83 := fun ds os => cell_regrown (A8.cv 3 (by decide) (.int .i64 op) rfl) ds os
  have R70 := fun ds os => cell_regrown (A7.cv 0 (by decide) (.int .i64 da) rfl) ds os
  have R71 := fun ds os => cell_regrown (A7.cv 1 (by decide) (.slice a1 dc.length ca1) rfl) ds os
  have R72 := fun ds os => cell_regrown (A7.cv 2 (by decide) (.string dh) rfl) ds os
  have R73 := fun ds os => cell_regrown (A7.cv 3 (by decide) (.int .i64 dp) rfl) ds os
  have R90 := fun ds os => cell_regrown (A9.cv 0 (by decide) (.int .i64 da) rfl) ds os
  have R91 := fun ds os => cell_regrown (A9.cv 1 (by decide) (.slice a2 dc.length ca2) rfl) ds os
  have R92 := fun ds os => cell_regrown (A9.cv 2 (by decide) (.string dh) rfl) ds os
  have R93 := fun ds os => cell_regrown (A9.cv 3 (by decide) (.int .i64 dp) rfl) ds os
  have T1 := fun ds os => k1.to (below_of (w := x4) (w' := grow (redrawn x4 ds) os) rfl)
  have T2 := fun ds os => k2.to (below_of (w := x4) (w' := grow (redrawn x4 ds) os) rfl)
  have T3 := fun ds os => HO3.to (below_of (w := x4) (w' := grow (redrawn x4 ds) os) rfl)
  clear A8 A7 A9 k1 k2 HO3
  refine wp_region_quiet_below (by kernel_rfl) (by kernel_rfl) ?_
  repeat (go_big_quiet_step (first
    | (go_at_call 16; first | with_reducible exact Calls.regrown_of (S1 _ _ _ (T1 _ _) (T2 _ _)) | with_reducible exact Calls.regrown_of (S3 _ _ (T3 _ _) (T2 _ _)))
    | (go_at_call 17; first | with_reducible exact Calls.regrown_of (S2 _ _ (T3 _ _) (T2 _ _)) | with_reducible exact Calls.regrown_of (S4 _ _ (T2 _ _) (T2 _ _)))
    | (go_at_call 8; exact Calls.regrown_of (CW _))))
  refine wpQuiet_nil ?_
  intro w5 hw'
  obtain ⟨⟨dq, osq⟩, hw''⟩ := hw'
  have hb := below_of hw''
  clear hw'' R80 R81 R82 R83 R70 R71 R72 R73 R90 R91 R92 R93 T1 T2 T3 S1 S2 S3 S4 CW
  have B5 := Bel.call B4 hb
  go_wp2_with fail
  go_ret
  exact ⟨rfl, B5⟩
theorem NegoAccepts_any (CA : CAs) (CN : CAn) (CK : CK0) (CC : CAc) (CM : CSm) (ws : List Int) (l : List Ke) (o : Dl) (va vl vo : Value) (w : World) (HA : Nls w va ws) (HL : Kls w vl l) (HO : Sls w vo o.cs)
    (a9 : ws.length ≤ 9223372036854775807) (l9 : l.length ≤ 9223372036854775807) (o9 : o.cs.length ≤ 9223372036854775807) (hs : ∀ r ∈ l, r.s.size ≤ 9223372036854775807) :
    Calls Tryz.prog 4 #[va, vl, dlV o vo] w fun e w' => e = .returned (.bool true) ∧ Below w.heap.size w w' := by
  by_cases g1 : 1000 < ws.length
  · exact NegoAccepts_1 CA CN CK CC CM ws l o va vl vo w HA HL HO a9 l9 o9 hs g1
  by_cases g2 : l.length ≤ 500
  case neg => exact NegoAccepts_2 CA CN CK CC CM ws l o va vl vo w HA HL HO a9 l9 o9 hs g1 g2
  by_cases g4 : 500 < o.cs.length
  · exact NegoAccepts_3 CA CN CK CC CM ws l o va vl vo w HA HL HO a9 l9 o9 hs g1 g2 g4
  exact NegoAccepts_4 CA CN CK CC CM ws l o va vl vo w HA HL HO a9 l9 o9 hs g1 g2 g4
end Go.Proofs.YtbhmbdkijpocmaaGreatDoor
/- The laws' own words: NegoSafe, by what the program's functions do. -/
set_option linter.all false
set_option maxRecDepth 100000
namespace Go.Proofs.YtbhmbdkijpocmaaGreatDoor
open Go.RowKit Go.Shelf Go.Sort Go.Lib
theorem un_neg (l : List Ke) : ∀ i : Nat, unI l i < 0 → unI l i = -1 := by
  induction l with
  | nil => intro i _; rfl
  | cons r t ih =>
    intro i h
    rw [unI] at h ⊢
    split
    · rename_i c
      rw [if_pos c] at h
      omega
    · rename_i c
      rw [if_neg c] at h
      exact ih (i + 1) h
theorem has_take (l : List Int) (j : Nat) (x a : Int) (h : l[j]? = some x) : hasB (l.take (j + 1)) a = (hasB (l.take j) a || decide (x = a)) := by
  unfold hasB
  rw [take_snoc' l j x h]
  by_cases h1 : a ∈ l.take j
  · rw [decide_eq_true h1, decide_eq_true (List.mem_append_left _ h1)]; rfl
  · rw [decide_eq_false h1, Bool.false_or]
    by_cases h2 : x = a
    · rw [decide_eq_true h2, decide_eq_true]; rw [h2]; simp
    · rw [decide_eq_false h2, decide_eq_false]
      intro h3
      rcases List.mem_append.1 h3 with h3 | h3
      · exact h1 h3
      · exact h2 (List.mem_singleton.1 h3).symm
theorem acc_zero {ws : List Int} {l : List Ke} (h : accE ws l ≠ 0) : accD ws l = zD := by unfold accD; rw [if_neg h]
set_option maxHeartbeats 4000000 in
theorem NegoSafe_1 (CA : CAs) (CN : CAn) (CK : CK0) (ws : List Int) (l : List Ke) (va vl : Value) (w : World) (HA : Nls w va ws) (HL : Kls w vl l) (a9 : ws.length ≤ 9223372036854775807) (l9 : l.length ≤ 9223372036854775807) (g : 1000 < ws.length ∨ ¬ l.length ≤ 500) :
    Calls Tryz.prog 6 #[va, vl] w fun e w' => e = .returned (.bool true) ∧ Below w.heap.size w w' := by
  have CW := awake_any CA CN CK
  have CF := few_any l vl w HL l9
  obtain ⟨aa, ca, rfl, _⟩ := HA
  have n1 : (ws.length : Int) ≤ 9223372036854775807 := by omega
  clear CA CN CK HL
  by_cases g1 : 1000 < ws.length
  · have i1 : (1000 : Int) < (ws.length : Int) := by omega
    clear CF
    go_enter Tryz.func6, Tryz.ntmps6
    go_wp2_with (go_at_call 8; refine (CW _).mono ?_; rintro e w9 ⟨rfl, b9⟩)
    go_ret
    exact ⟨rfl, b9⟩
  · have i1 : ¬ (1000 : Int) < (ws.length : Int) := by omega
    rw [decide_eq_false (by omega)] at CF
    go_enter Tryz.func6, Tryz.ntmps6
    go_wp2_with fail
    refine CF.mono ?_
    rintro e w2 ⟨rfl, rfl⟩
    clear CF
    go_wp2_with (go_at_call 8; refine (CW _).mono ?_; rintro e w9 ⟨rfl, b9⟩)
    go_ret
    exact ⟨rfl, b9⟩
set_option maxHeartbeats 8000000 in
theorem NegoSafe_2 (CA : CAs) (CN : CAn) (CK : CK0) (CC : CAc) (ws : List Int) (l : List Ke) (va vl : Value) (w : World) (HA : Nls w va ws) (HL : Kls w vl l) (g1 : ¬ 1000 < ws.length) (g2 : l.length ≤ 500) (hs : ∀ r ∈ l, r.s.size ≤ 9223372036854775807) (hE : accE ws l ≠ 0) :
    Calls Tryz.prog 6 #[va, vl] w fun e w' => e = .returned (.bool true) ∧ Below w.heap.size w w' := by
  have CW := awake_any CA CN CK
  have CF := few_any l vl w HL (by omega)
  rw [decide_eq_true g2] at CF
  have C1 := CC ws l va vl w HA HL (by omega) (by omega) hs
  rw [acc_zero hE] at C1
  have CS := fun W v1 h1 => nSame_any zD zD v1 (.slice none 0 0) W h1 (Sls.nil' W) (by decide) (by decide)
  rw [dlB_self] at CS
  generalize accE ws l = E at *
  have iE : (E != 0) = true := by simpa using hE
  unfold dlV zD at C1 CS
  simp only at C1 CS
  obtain ⟨aa, ca, rfl, _⟩ := HA
  have i1 : ¬ (1000 : Int) < (ws.length : Int) := by omega
  clear CA CN CK CC HL hs g1 g2 hE
  go_enter Tryz.func6, Tryz.ntmps6
  go_wp2_with fail
  refine CF.mono ?_
  rintro e w2 ⟨rfl, rfl⟩
  clear CF
  go_wp2_with fail
  refine C1.mono ?_
  rintro e x1 ⟨⟨v1, rfl, k1⟩, b1⟩
  clear C1
  have hv1 : ∃ a c, v1 = .slice a 0 c := by obtain ⟨a, c, e, _⟩ := k1; exact ⟨a, c, e⟩
  obtain ⟨a1, ca1, rfl⟩ := hv1
  have A7 := Arr.new x1 #[Value.int .i64 0, .slice a1 0 ca1, .string ⟨#[]⟩, .int .i64 0] 38 _ rfl _ 4 (dlC_at 0 (.slice a1 0 ca1) ⟨#[]⟩ 0)
  have B1 := Bel.al b1 (.cells #[.int .i64 0, .slice a1 0 ca1, .string ⟨#[]⟩, .int .i64 0] 38)
  have C2 := CS _ _ (k1.to (Bel.al (Below.refl _ x1) (.cells #[.int .i64 0, .slice a1 0 ca1, .string ⟨#[]⟩, .int .i64 0] 38)))
  clear CS k1 b1
  have c0 := A7.cv 0 (by decide) (.int .i64 0) rfl
  have c1 := A7.cv 1 (by decide) (.slice a1 0 ca1) rfl
  have c2 := A7.cv 2 (by decide) (.string ⟨#[]⟩) rfl
  have c3 := A7.cv 3 (by decide) (.int .i64 0) rfl
  clear A7
  go_wp2_with fail
  refine C2.mono ?_
  rintro e x3 ⟨rfl, b3⟩
  have B3 := Bel.call B1 b3
  clear C2 c0 c1 c2 c3 b3 B1
  go_wp2_with fail
  refine (CW _).mono ?_
  rintro e x4 ⟨rfl, b4⟩
  have B4 := Bel.call B3 b4
  go_wp2_with fail
  go_ret
  exact ⟨rfl, B4⟩
set_option maxHeartbeats 8000000 in
theorem NegoSafe_3 (CA : CAs) (CN : CAn) (CK : CK0) (CC : CAc) (ws : List Int) (l : List Ke) (va vl : Value) (w : World) (HA : Nls w va ws) (HL : Kls w vl l) (g1 : ¬ 1000 < ws.length) (g2 : l.length ≤ 500) (hs : ∀ r ∈ l, r.s.size ≤ 9223372036854775807) (hE : accE ws l = 0) :
    Calls Tryz.prog 6 #[va, vl] w fun e w' => e = .returned (.bool true) ∧ Below w.heap.size w w' := by
  have CW := awake_any CA CN CK
  have CF := few_any l vl w HL (by omega)
  rw [decide_eq_true g2] at CF
  have C1 := CC ws l va vl w HA HL (by omega) (by omega) hs
  rw [hE] at C1
  obtain ⟨s1, s2, s3, s4, s5, s6, s7⟩ := acc_safe ws l hE
  have CU := fun W (hb : Below w.heap.size w W) => rUnknown_any l vl W (HL.to hb) (by omega)
  rw [un_neg l 0 s5] at CU
  generalize accD ws l = D at *
  obtain ⟨da, dc, dh, dp⟩ := D
  unfold dlV at C1
  simp only at C1 s1 s2 s3 s4 s6 s7
  have FA0 := HA
  obtain ⟨aa, ca, rfl, fa⟩ := HA
  obtain ⟨n, hn⟩ : ∃ n, ws.length = n := ⟨_, rfl⟩
  have HN : Hid (ws.length = n) := hn
  have FA : Hid (∀ (i : Nat) (m : Int), ws[i]? = some m → ∃ g o, aa = some ⟨g, o, none⟩ ∧ g < w.heap.size ∧ w.cell? ⟨g, o + i, none⟩ = some (.int .i64 m)) := fa
  have HS1 : Hid (hasB ws da = true) := s1
  have HS2 : Hid (∀ s ∈ dc, cookB s = true) := fun s h => List.all_eq_true.1 s2 s h
  rw [hn] at C1 g1 ⊢
  have i1 : ¬ (1000 : Int) < (n : Int) := by omega
  have n0 : (n : Int) ≤ 1000 := by omega
  obtain ⟨m, hm⟩ : ∃ m, dc.length = m := ⟨_, rfl⟩
  have HM : Hid (dc.length = m) := hm
  have m0 : (1 : Int) ≤ (m : Int) := by omega
  have m8 : (m : Int) ≤ 8 := by omega
  clear CA CN CK CC HL hs g1 g2 hE fa hn s1 s2 s3 s4 s5 FA0
  go_enter Tryz.func6, Tryz.ntmps6
  go_wp2_with fail
  refine CF.mono ?_
  rintro e w2 ⟨rfl, rfl⟩
  clear CF
  go_wp2_with fail
  refine C1.mono ?_
  rintro e x1 ⟨⟨v1, rfl, k1⟩, b1⟩
  clear C1
  have hv1 : ∃ a c, v1 = .slice a m c := by obtain ⟨a, c, e, _⟩ := k1; exact ⟨a, c, by rw [e, hm]⟩
  obtain ⟨a1, ca1, rfl⟩ := hv1
  have A7 := Arr.new x1 #[Value.int .i64 da, .slice a1 m ca1, .string dh, .int .i64 dp] 38 _ rfl _ 4 (dlC_at da (.slice a1 m ca1) dh dp)
  have B1 := Bel.al b1 (.cells #[.int .i64 da, .slice a1 m ca1, .string dh, .int .i64 dp] 38)
  replace k1 := k1.to (Bel.al (Below.refl _ x1) (.cells #[.int .i64 da, .slice a1 m ca1, .string dh, .int .i64 dp] 38))
  have K1 : Hid _ := k1
  clear b1 k1 hm
  have c0 := A7.cv 0 (by decide) (.int .i64 da) rfl
  have c1 := A7.cv 1 (by decide) (.slice a1 m ca1) rfl
  have c3 := A7.cv 3 (by decide) (.int .i64 dp) rfl
  clear A7
  go_wp2_with fail
  generalize x1.alloc (.cells #[.int .i64 da, .slice a1 m ca1, .string dh, .int .i64 dp] 38) = W at *
  go_loop [7, 37] (fun x i => ∃ j : Nat, j ≤ n ∧ i = .int .i64 (j : Int) ∧ x = .bool (hasB (ws.take j) da)) (fun _ i => n - (RowKit.intOf i).toNat)
  case atStart => exact ⟨0, by omega, rfl, rfl⟩
  case round =>
    obtain ⟨j, hj, rfl, rfl⟩ := hrel
    have j0 : (0 : Int) ≤ (j : Int) := by omega
    by_cases hlt : j < n
    · have j1 : (j : Int) < (n : Int) := by omega
      obtain ⟨x, hx⟩ : ∃ x, ws[j]? = some x := ⟨_, List.getElem?_eq_getElem (by rw [HN.out]; exact hlt)⟩
      obtain ⟨g, o, rfl, lt, e0⟩ := FA.out j x hx
      have e1 := (B1.cell (p := ⟨g, o + j, none⟩) lt).trans e0
      have ht : Hid (hasB (ws.take (j + 1)) da = (hasB (ws.take j) da || decide (x = da))) := has_take ws j x da hx
      clear hx FA HN e0
      cases hb : hasB (ws.take j) da
      case true =>
        rw [hb] at ht
        clear hb
        go_wp2_with fail
        exact ⟨⟨j + 1, by omega, by go_num, by rw [ht.out]; rfl⟩, by simp [RowKit.intOf]; omega⟩
      case false =>
        rw [hb] at ht
        clear hb
        by_cases hxa : x = da
        · subst hxa
          go_wp2_with fail
          exact ⟨⟨j + 1, by omega, by go_num, by rw [ht.out]; simp⟩, by simp [RowKit.intOf]; omega⟩
        · have nx : (x == da) = false := by simpa using hxa
          go_wp2_with fail
          exact ⟨⟨j + 1, by omega, by go_num, by rw [ht.out]; simp [hxa]⟩, by simp [RowKit.intOf]; omega⟩
    · have ej : j = n := by omega
      subst ej
      have hT : ws.take j = ws := List.take_of_length_le (by rw [HN.out]; omega)
      rw [hT, HS1.out]
      clear hT FA HN
      go_wp2_with fail
      go_loop [7, 52] (fun x i => ∃ q : Nat, q ≤ m ∧ i = .int .i64 (q : Int) ∧ x = .bool true) (fun _ i => m - (RowKit.intOf i).toNat)
      case atStart => exact ⟨0, by omega, rfl, rfl⟩
      case round =>
        obtain ⟨q, hq, rfl, rfl⟩ := hrel
        have q0 : (0 : Int) ≤ (q : Int) := by omega
        by_cases hlq : q < m
        · have q1 : (q : Int) < (m : Int) := by omega
          obtain ⟨s, hsx⟩ : ∃ s, dc[q]? = some s := ⟨_, List.getElem?_eq_getElem (by rw [HM.out]; exact hlq)⟩
          have hck := HS2.out s (List.mem_of_getElem? hsx)
          have sz : s.size ≤ 9223372036854775807 := by
            unfold cookB at hck
            rw [Bool.and_eq_true, Bool.and_eq_true, decide_eq_true_iff, decide_eq_true_iff, decide_eq_true_iff] at hck
            omega
          have CC := nCookie_any s sz W
          rw [hck] at CC
          obtain ⟨a, c, e, f⟩ := K1.out
          injection e with ea em ec
          clear em
          subst ea ec
          obtain ⟨g, o, e3, lt, e4⟩ := f q s hsx
          subst e3
          clear f hsx hck K1 HS2
          go_wp2_with fail
          refine CC.mono ?_
          rintro e y1 ⟨rfl, rfl⟩
          clear CC
          go_wp2_with fail
          exact ⟨⟨q + 1, by omega, by go_num, rfl⟩, by simp [RowKit.intOf]; omega⟩
        · have eq : q = m := by omega
          subst eq
          have q1 : ¬ (q : Int) < (q : Int) := by omega
          have CU1 := CU W B1
          clear CU
          go_wp2_with fail
          refine CU1.mono ?_
          rintro e y1 ⟨rfl, b2⟩
          have B2 := Bel.call B1 b2
          have d3 := (b2.cell (p := ⟨x1.heap.size, 3, none⟩) (block_lt_of_cell c3)).trans c3
          clear CU1 b2 c0 c1
          go_wp2_with fail
          refine (CW _).mono ?_
          rintro e y2 ⟨rfl, b3⟩
          have B3 := Bel.call B2 b3
          go_wp2_with fail
          go_ret
          exact ⟨rfl, B3⟩
theorem NegoSafe_any (CA : CAs) (CN : CAn) (CK : CK0) (CC : CAc) (ws : List Int) (l : List Ke) (va vl : Value) (w : World) (HA : Nls w va ws) (HL : Kls w vl l) (a9 : ws.length ≤ 9223372036854775807) (l9 : l.length ≤ 9223372036854775807) (hs : ∀ r ∈ l, r.s.size ≤ 9223372036854775807) :
    Calls Tryz.prog 6 #[va, vl] w fun e w' => e = .returned (.bool true) ∧ Below w.heap.size w w' := by
  by_cases g1 : 1000 < ws.length
  · exact NegoSafe_1 CA CN CK ws l va vl w HA HL a9 l9 (.inl g1)
  by_cases g2 : l.length ≤ 500
  case neg => exact NegoSafe_1 CA CN CK ws l va vl w HA HL a9 l9 (.inr g2)
  by_cases hE : accE ws l = 0
  · exact NegoSafe_3 CA CN CK CC ws l va vl w HA HL g1 g2 hs hE
  · exact NegoSafe_2 CA CN CK CC ws l va vl w HA HL g1 g2 hs hE
end Go.Proofs.YtbhmbdkijpocmaaGreatDoor
/- The program nego: Accept as a function. -/
set_option linter.all false
set_option maxRecDepth 100000
namespace Go.Proofs.YtbhmbdkijpocmaaGreatDoor
open Go.RowKit Go.Shelf Go.Sort
theorem acc_is' (ws : List Int) (l : List Ke) : fstL [(if (fdL l 2).length ≤ 0 then 0 else 14), (if unI l 0 < 0 then 0 else 23),
   (if 1 ≤ (fdL l 1).length then 0 else 10), (if (fdL l 1).length ≤ 1 then 0 else 10), (if ((fdL l 1).all fun r => (snB r.s).2 && decide ((snB r.s).1 = 0)) = true then 0 else 10),
   (if 1 ≤ (fdL l 4).length then 0 else 10), (if (fdL l 4).length ≤ 1 then 0 else 10), (if ((fdL l 4).all fun r => (snB r.s).2) = true then 0 else 10), (if ((fdL l 4).all fun r => wayB ws r.s) = true then 0 else 13),
   (if 1 ≤ (fdL l 5).length then 0 else 19), (if (fdL l 5).length ≤ 8 then 0 else 18), (if ((fdL l 5).all fun r => cookB r.s) = true then 0 else 12),
   (if (fdL l 6).length ≤ 1 then 0 else 24), (if (fdL l 7).length ≤ 1 then 0 else 24), (if ((fdL l 6).all fun r => hostB r.s) = true then 0 else 20), (if ((fdL l 7).all fun r => (snB r.s).2 && portB (snB r.s).1) = true then 0 else 13)] = accE ws l := acc_is ws l
theorem tC : CAc := by
  intro ws l va vl w HA HL h9 ha hs
  have mem : ∀ k, ∀ r ∈ fdL l k, r.s.size ≤ 9223372036854775807 := fun k r hr => hs r (List.mem_filter.1 hr).1
  have len : ∀ k, (fdL l k).length ≤ 100000 := fun k => Nat.le_trans (fdL_len l k) h9
  have HN : accE ws l ≠ 0 → (accD ws l).a = 0 ∧ (accD ws l).cs = [] ∧ (accD ws l).h = ⟨#[]⟩ ∧ (accD ws l).p = 0 := fun h => by
    rw [acc_zero h]
    exact ⟨rfl, rfl, rfl, rfl⟩
  have HY : accE ws l = 0 → ∃ r, fdL l 4 = [r] ∧ (fdL l 6).length ≤ 1 ∧ (fdL l 7).length ≤ 1 ∧ r.s.size ≤ 9223372036854775807 ∧ (accD ws l).a = (snB r.s).1 ∧ (accD ws l).cs = (fdL l 5).map (·.s) ∧ (accD ws l).h = (if (fdL l 6).length = 1 then hdS (fdL l 6) else ⟨#[]⟩) ∧ (accD ws l).p = (if (fdL l 7).length = 1 then (snB (hdS (fdL l 7))).1 else 0) := fun h => by
    obtain ⟨⟨r, hr⟩, m6, m7⟩ := acc_yes ws l h
    have e : accD ws l = ⟨(snR l 4).1, (fdL l 5).map (·.s), if (fdL l 6).length = 1 then hdS (fdL l 6) else ⟨#[]⟩, if (fdL l 7).length = 1 then (snR l 7).1 else 0⟩ := by unfold accD; rw [if_pos h]
    refine ⟨r, hr, m6, m7, mem 4 r (by rw [hr]; simp), ?_, ?_, ?_, ?_⟩
    · rw [e]; show (snR l 4).1 = _; rw [sn_one l 4 r hr]
    · rw [e]
    · rw [e]
    · rw [e]
      show (if (fdL l 7).length = 1 then (snR l 7).1 else 0) = _
      by_cases c : (fdL l 7).length = 1
      · rw [if_pos c, if_pos c]
        obtain ⟨r7, h7⟩ := one_of _ c
        rw [sn_one l 7 r7 h7, h7]
        rfl
      · rw [if_neg c, if_neg c]
  exact pAccept_core va vl w (unI l 0) (fdL l 1) (fdL l 2) (fdL l 4) (fdL l 5) (fdL l 6) (fdL l 7) (wayB ws) _ _ _ _ _ _ _ _ _ _ _ _ _ _ _ _ (accE ws l) (accD ws l).a (accD ws l).p (accD ws l).h (accD ws l).cs (len 5) (mem 7) (acc_is' ws l)
    (fun W hb => tU l vl W (HL.to hb) h9)
    (fun W hb => pisWayOf_any ws va W (HA.to hb) (by omega))
    (fun W hb => tF l 1 vl W (HL.to hb) h9)
    (fun W hb => tF l 4 vl W (HL.to hb) h9)
    (fun W hb => tF l 5 vl W (HL.to hb) h9)
    (fun W hb => tF l 6 vl W (HL.to hb) h9)
    (fun W hb => tF l 7 vl W (HL.to hb) h9)
    (fun W hb => tF l 2 vl W (HL.to hb) h9)
    (fun W v k => patMost_any 0 _ 14 v W k (len 2) (by decide))
    (fun W => (punless_any (decide (unI l 0 < 0)) 23 W).mono fun e w' ⟨⟨v, h1, h2⟩, h3⟩ => ⟨⟨v, h1, h2.cg (by simp)⟩, h3⟩)
    (fun W v k => patLeast_any 1 _ 10 v W k (len 1) (by decide))
    (fun W v k => patMost_any 1 _ 10 v W k (len 1) (by decide))
    (fun W v k => peach_any _ _ 10 v _ W k (fs_ntp W) (len 1) (mem 1))
    (fun W v k => patLeast_any 1 _ 10 v W k (len 4) (by decide))
    (fun W v k => patMost_any 1 _ 10 v W k (len 4) (by decide))
    (fun W v k => peach_any _ _ 10 v _ W k (fs_num W) (len 4) (mem 4))
    (fun W v f k q => peach_any _ _ 13 v f W k q (len 4) (mem 4))
    (fun W v k => patLeast_any 1 _ 19 v W k (len 5) (by decide))
    (fun W v k => patMost_any 8 _ 18 v W k (len 5) (by decide))
    (fun W v k => peach_any _ _ 12 v _ W k (fs_cook W) (len 5) (mem 5))
    (fun W v k => patMost_any 1 _ 24 v W k (len 6) (by decide))
    (fun W v k => patMost_any 1 _ 24 v W k (len 7) (by decide))
    (fun W v k => peach_any _ _ 20 v _ W k (fs_host W) (len 6) (mem 6))
    (fun W v k => peach_any _ _ 13 v _ W k (fs_ports W) (len 7) (mem 7))
    HN HY
end Go.Proofs.YtbhmbdkijpocmaaGreatDoor
