/- The reference of nego: Answer. -/
import Derived.Test.YtbhmbdkijpocmaaGreatDoorJ4
set_option linter.all false
set_option maxRecDepth 100000
namespace Go.Proofs.YtbhmbdkijpocmaaGreatDoor
open Go.RowKit Go.Shelf Go.Sort Go.Lib
theorem nm_len (l : List Ke) (kd : Int) : (nmR l kd).1.length ≤ 100000 := by
  unfold nmR
  split
  · split
    · rename_i r _ _
      have := tp_len r.s
      show (tpR r.s).length ≤ 100000
      omega
    · decide
  · decide
/-- A row of texts in memory. -/
def Sls (w : World) (v : Value) (l : List ByteArray) : Prop := ∃ (a : Option Addr) (c : Nat), v = .slice a l.length c ∧ ∀ (i : Nat) (s : ByteArray), l[i]? = some s → ∃ g o, a = some ⟨g, o, none⟩ ∧ g < w.heap.size ∧ w.cell? ⟨g, o + i, none⟩ = some (.string s)
theorem Sls.to {w w' : World} {v : Value} {l : List ByteArray} (h : Sls w v l) (hb : Below w.heap.size w w') : Sls w' v l := by
  obtain ⟨a, c, h1, h2⟩ := h
  refine ⟨a, c, h1, fun i r hi => ?_⟩
  obtain ⟨g, o, e, lt, c3⟩ := h2 i r hi
  exact ⟨g, o, e, Nat.lt_of_lt_of_le lt hb.size, (hb.cell (p := ⟨g, o + i, none⟩) lt).trans c3⟩
def kcV (c : Kc) (va vc : Value) : Value := .agg #[va, .string c.h, .int .i64 c.p, vc]
theorem kcC_at (va vc : Value) (h : ByteArray) (p : Int) : ∀ j, j < 4 → (#[va, Value.string h, .int .i64 p, vc] : Array Value)[j]? = some (([va, Value.string h, .int .i64 p, vc] : List Value).getD j undef) := fun j hj => by
  match j, hj with
  | 0, _ => rfl
  | 1, _ => rfl
  | 2, _ => rfl
  | 3, _ => rfl
theorem cks_take (l : List ByteArray) (j : Nat) (s : ByteArray) (h : l[j]? = some s) : cksL (l.take (j + 1)) = cksL (l.take j) ++ [⟨false, 5, s⟩] := by
  rw [take_snoc' l j s h]
  unfold cksL
  rw [List.map_append]
  rfl
theorem ch_take (l t : List Int) (j : Nat) (x : Int) (h : l[j]? = some x) : chA (l.take (j + 1)) t = if chA (l.take j) t = 0 then (if 0 < ksI x ∧ hasB t x = true then x else 0) else chA (l.take j) t := by
  rw [take_snoc' l j x h, chA_snoc]
theorem ch_end (l t : List Int) (j : Nat) (h : chA (l.take j) t ≠ 0) : chA l t = chA (l.take j) t := by
  have := chA_app (l.take j) (l.drop j) t h
  rwa [List.take_append_drop] at this
set_option maxHeartbeats 8000000 in
theorem nAns_u (c : Kc) (l : List Ke) (va vc vl : Value) (w : World) (HA : Nls w va c.ws) (HC : Sls w vc c.cs) (HL : Kls w vl l) (h9 : l.length ≤ 100000) (ha : c.ws.length ≤ 100000) (hc : c.cs.length ≤ 100000) (hh : c.h.size ≤ 9223372036854775807) (hs : ∀ r ∈ l, r.s.size ≤ 9223372036854775807) (p0 : -9223372036854775808 ≤ c.p) (p1 : c.p ≤ 9223372036854775807) (c0 : 0 ≤ unI l 0) :
    Calls Tryz.prog 12 #[kcV c va vc, vl] w fun e w' => (∃ u, e = .returned (.tuple #[u, .int .i64 0]) ∧ Kls w' u [⟨true, 2, tw 0⟩, endK]) ∧ Below w.heap.size w w' := by
  obtain ⟨ws, h, p, cs⟩ := c
  unfold kcV
  simp only at HA HC ha hc hh p0 p1 ⊢
  have A1 := Arr.new w #[va, Value.string h, .int .i64 p, vc] 25 _ rfl _ 4 (kcC_at va vc h p)
  have hB0 := Bel.al (Below.refl w.heap.size w) (.cells #[va, .string h, .int .i64 p, vc] 25)
  have HL1 := HL.to hB0
  have HA1 := HA.to hB0
  have HC1 := HC.to hB0
  clear HL HA HC
  have CU := rUnknown_any l vl _ HL1 (by omega)
  have CF := fun W => nfailed_any 0 (by decide) (by decide) W
  generalize unI l 0 = U at *
  go_enter Tryz.func12, Tryz.ntmps12
  go_wp2_with fail
  generalize w.alloc (.cells #[va, .string h, .int .i64 p, vc] 25) = W1 at *
  refine CU.mono ?_
  rintro e w2 ⟨rfl, b2⟩
  clear CU
  go_wp2_with fail
  refine (CF _).mono ?_
  rintro e w3 ⟨⟨u, rfl, k3⟩, b3⟩
  have B3 := Bel.call b2 b3
  have K3 : Hid _ := k3
  clear CF k3 b2 b3
  go_wp2_with fail
  refine bodyPost_ret (v := .tuple #[u, .int .i64 0]) (by simp [results, Tryz.results12, go_sem]) rfl ⟨⟨_, rfl, K3.out⟩, Bel.call hB0 B3⟩
set_option maxHeartbeats 8000000 in
theorem nAns_f1 (c : Kc) (l : List Ke) (va vc vl : Value) (w : World) (HA : Nls w va c.ws) (HC : Sls w vc c.cs) (HL : Kls w vl l) (h9 : l.length ≤ 100000) (ha : c.ws.length ≤ 100000) (hc : c.cs.length ≤ 100000) (hh : c.h.size ≤ 9223372036854775807) (hs : ∀ r ∈ l, r.s.size ≤ 9223372036854775807) (p0 : -9223372036854775808 ≤ c.p) (p1 : c.p ≤ 9223372036854775807) (c0 : unI l 0 < 0) (c1 : (nmR l 1).2 = false) :
    Calls Tryz.prog 12 #[kcV c va vc, vl] w fun e w' => (∃ u, e = .returned (.tuple #[u, .int .i64 0]) ∧ Kls w' u [⟨true, 2, tw 1⟩, endK]) ∧ Below w.heap.size w w' := by
  obtain ⟨ws, h, p, cs⟩ := c
  unfold kcV
  simp only at HA HC ha hc hh p0 p1 ⊢
  have A1 := Arr.new w #[va, Value.string h, .int .i64 p, vc] 25 _ rfl _ 4 (kcC_at va vc h p)
  have hB0 := Bel.al (Below.refl w.heap.size w) (.cells #[va, .string h, .int .i64 p, vc] 25)
  have HL1 := HL.to hB0
  have HA1 := HA.to hB0
  have HC1 := HC.to hB0
  clear HL HA HC
  have CU := rUnknown_any l vl _ HL1 (by omega)
  have CF := fun W => nfailed_any 1 (by decide) (by decide) W
  go_enter Tryz.func12, Tryz.ntmps12
  go_wp2_with fail
  generalize w.alloc (.cells #[va, .string h, .int .i64 p, vc] 25) = W1 at *
  have CN1 := fun W (hb : Below W1.heap.size W1 W) => nnumbers_any l 1 vl W (HL1.to hb) h9 hs
  have CN4 := fun W (hb : Below W1.heap.size W1 W) => nnumbers_any l 4 vl W (HL1.to hb) h9 hs
  rw [c1] at CN1
  generalize unI l 0 = U at *
  generalize (nmR l 1).1 = N1 at *
  generalize (nmR l 4).1 = N4 at *
  generalize (nmR l 4).2 = F4 at *
  refine CU.mono ?_
  rintro e w2 ⟨rfl, b2⟩
  clear CU
  go_wp2_with fail
  refine (CN1 _ b2).mono ?_
  rintro e w3 ⟨⟨u1, rfl, k1⟩, b3⟩
  have B3 := Bel.call b2 b3
  clear CN1 b2
  go_wp2_with fail
  refine (CN4 _ B3).mono ?_
  rintro e w4 ⟨⟨u4, rfl, k4⟩, b4⟩
  have B4 := Bel.call B3 b4
  have k1' := k1.to b4
  clear CN4 b4 b3 B3 k1
  obtain ⟨a4, d4, rfl, _⟩ := k4
  obtain ⟨a1, d1, rfl, _⟩ := k1'
  go_wp2_with fail
  refine (CF _).mono ?_
  rintro e w5 ⟨⟨u, rfl, k5⟩, b5⟩
  have B5 := Bel.call B4 b5
  have K5 : Hid _ := k5
  clear CF k5 B4 b5
  go_wp2_with fail
  refine bodyPost_ret (v := .tuple #[u, .int .i64 0]) (by simp [results, Tryz.results12, go_sem]) rfl ⟨⟨_, rfl, K5.out⟩, Bel.call hB0 B5⟩
set_option maxHeartbeats 8000000 in
theorem nAns_f4 (c : Kc) (l : List Ke) (va vc vl : Value) (w : World) (HA : Nls w va c.ws) (HC : Sls w vc c.cs) (HL : Kls w vl l) (h9 : l.length ≤ 100000) (ha : c.ws.length ≤ 100000) (hc : c.cs.length ≤ 100000) (hh : c.h.size ≤ 9223372036854775807) (hs : ∀ r ∈ l, r.s.size ≤ 9223372036854775807) (p0 : -9223372036854775808 ≤ c.p) (p1 : c.p ≤ 9223372036854775807) (c0 : unI l 0 < 0) (c1 : (nmR l 1).2 = true) (c4 : (nmR l 4).2 = false) :
    Calls Tryz.prog 12 #[kcV c va vc, vl] w fun e w' => (∃ u, e = .returned (.tuple #[u, .int .i64 0]) ∧ Kls w' u [⟨true, 2, tw 1⟩, endK]) ∧ Below w.heap.size w w' := by
  obtain ⟨ws, h, p, cs⟩ := c
  unfold kcV
  simp only at HA HC ha hc hh p0 p1 ⊢
  have A1 := Arr.new w #[va, Value.string h, .int .i64 p, vc] 25 _ rfl _ 4 (kcC_at va vc h p)
  have hB0 := Bel.al (Below.refl w.heap.size w) (.cells #[va, .string h, .int .i64 p, vc] 25)
  have HL1 := HL.to hB0
  have HA1 := HA.to hB0
  have HC1 := HC.to hB0
  clear HL HA HC
  have CU := rUnknown_any l vl _ HL1 (by omega)
  have CF := fun W => nfailed_any 1 (by decide) (by decide) W
  go_enter Tryz.func12, Tryz.ntmps12
  go_wp2_with fail
  generalize w.alloc (.cells #[va, .string h, .int .i64 p, vc] 25) = W1 at *
  have CN1 := fun W (hb : Below W1.heap.size W1 W) => nnumbers_any l 1 vl W (HL1.to hb) h9 hs
  have CN4 := fun W (hb : Below W1.heap.size W1 W) => nnumbers_any l 4 vl W (HL1.to hb) h9 hs
  rw [c1] at CN1
  rw [c4] at CN4
  generalize unI l 0 = U at *
  generalize (nmR l 1).1 = N1 at *
  generalize (nmR l 4).1 = N4 at *
  refine CU.mono ?_
  rintro e w2 ⟨rfl, b2⟩
  clear CU
  go_wp2_with fail
  refine (CN1 _ b2).mono ?_
  rintro e w3 ⟨⟨u1, rfl, k1⟩, b3⟩
  have B3 := Bel.call b2 b3
  clear CN1 b2
  go_wp2_with fail
  refine (CN4 _ B3).mono ?_
  rintro e w4 ⟨⟨u4, rfl, k4⟩, b4⟩
  have B4 := Bel.call B3 b4
  have k1' := k1.to b4
  clear CN4 b4 b3 B3 k1
  obtain ⟨a4, d4, rfl, _⟩ := k4
  obtain ⟨a1, d1, rfl, _⟩ := k1'
  go_wp2_with fail
  refine (CF _).mono ?_
  rintro e w5 ⟨⟨u, rfl, k5⟩, b5⟩
  have B5 := Bel.call B4 b5
  have K5 : Hid _ := k5
  clear CF k5 B4 b5
  go_wp2_with fail
  refine bodyPost_ret (v := .tuple #[u, .int .i64 0]) (by simp [results, Tryz.results12, go_sem]) rfl ⟨⟨_, rfl, K5.out⟩, Bel.call hB0 B5⟩
set_option maxHeartbeats 8000000 in
theorem nAns_n0 (c : Kc) (l : List Ke) (va vc vl : Value) (w : World) (HA : Nls w va c.ws) (HC : Sls w vc c.cs) (HL : Kls w vl l) (h9 : l.length ≤ 100000) (ha : c.ws.length ≤ 100000) (hc : c.cs.length ≤ 100000) (hh : c.h.size ≤ 9223372036854775807) (hs : ∀ r ∈ l, r.s.size ≤ 9223372036854775807) (p0 : -9223372036854775808 ≤ c.p) (p1 : c.p ≤ 9223372036854775807) (c0 : unI l 0 < 0) (c1 : (nmR l 1).2 = true) (c4 : (nmR l 4).2 = true) (c5 : hasB (nmR l 1).1 0 = false) :
    Calls Tryz.prog 12 #[kcV c va vc, vl] w fun e w' => (∃ u, e = .returned (.tuple #[u, .int .i64 0]) ∧ Kls w' u [⟨true, 1, ⟨#[]⟩⟩, endK]) ∧ Below w.heap.size w w' := by
  obtain ⟨ws, h, p, cs⟩ := c
  unfold kcV
  simp only at HA HC ha hc hh p0 p1 ⊢
  have A1 := Arr.new w #[va, Value.string h, .int .i64 p, vc] 25 _ rfl _ 4 (kcC_at va vc h p)
  have hB0 := Bel.al (Below.refl w.heap.size w) (.cells #[va, .string h, .int .i64 p, vc] 25)
  have HL1 := HL.to hB0
  have HA1 := HA.to hB0
  have HC1 := HC.to hB0
  clear HL HA HC
  have CU := rUnknown_any l vl _ HL1 (by omega)
  have CE := fun W => nend_any W
  unfold keV endK at CE
  simp only at CE
  unfold endK
  go_enter Tryz.func12, Tryz.ntmps12
  go_wp2_with fail
  generalize w.alloc (.cells #[va, .string h, .int .i64 p, vc] 25) = W1 at *
  have CN1 := fun W (hb : Below W1.heap.size W1 W) => nnumbers_any l 1 vl W (HL1.to hb) h9 hs
  have CN4 := fun W (hb : Below W1.heap.size W1 W) => nnumbers_any l 4 vl W (HL1.to hb) h9 hs
  rw [c1] at CN1
  rw [c4] at CN4
  have l1 : (nmR l 1).1.length ≤ 100000 := nm_len l 1
  have l4 : (nmR l 4).1.length ≤ 100000 := nm_len l 4
  generalize unI l 0 = U at *
  generalize (nmR l 1).1 = N1 at *
  generalize (nmR l 4).1 = N4 at *
  refine CU.mono ?_
  rintro e w2 ⟨rfl, b2⟩
  clear CU
  go_wp2_with fail
  refine (CN1 _ b2).mono ?_
  rintro e w3 ⟨⟨u1, rfl, k1⟩, b3⟩
  have B3 := Bel.call b2 b3
  clear CN1 b2
  go_wp2_with fail
  refine (CN4 _ B3).mono ?_
  rintro e w4 ⟨⟨u4, rfl, k4⟩, b4⟩
  have B4 := Bel.call B3 b4
  have k1' := k1.to b4
  clear CN4 b4 b3 B3 k1
  have CH := nhas_any N1 0 u1 w4 k1' (by omega)
  rw [c5] at CH
  obtain ⟨a4, d4, rfl, _⟩ := k4
  obtain ⟨a1, d1, rfl, _⟩ := k1'
  go_wp2_with fail
  refine CH.mono ?_
  rintro e w5 ⟨rfl, rfl⟩
  clear CH
  go_wp2_with fail
  refine (CE _).mono ?_
  rintro e w6 ⟨rfl, b6⟩
  have B6 := Bel.call B4 b6
  have K6 : Hid _ := Kls.own (own_newK w6 [⟨true, 1, ⟨#[]⟩⟩, ⟨true, 0, ⟨#[]⟩⟩] (Nat.zero_le _) (by simp))
  clear CE b6 B4
  go_wp2_with fail
  refine bodyPost_ret (v := .tuple #[.slice (some ⟨w6.heap.size, 0, none⟩) 2 2, .int .i64 0]) (by simp [results, Tryz.results12, go_sem]) rfl ⟨⟨_, rfl, K6.out⟩, Bel.call hB0 (Bel.al B6 _)⟩
set_option maxHeartbeats 8000000 in
theorem nAns_z (c : Kc) (l : List Ke) (va vc vl : Value) (w : World) (HA : Nls w va c.ws) (HC : Sls w vc c.cs) (HL : Kls w vl l) (h9 : l.length ≤ 100000) (ha : c.ws.length ≤ 100000) (hc : c.cs.length ≤ 100000) (hh : c.h.size ≤ 9223372036854775807) (hs : ∀ r ∈ l, r.s.size ≤ 9223372036854775807) (p0 : -9223372036854775808 ≤ c.p) (p1 : c.p ≤ 9223372036854775807) (c0 : unI l 0 < 0) (c1 : (nmR l 1).2 = true) (c4 : (nmR l 4).2 = true) (c5 : hasB (nmR l 1).1 0 = true) (c6 : chA c.ws (nmR l 4).1 = 0) :
    Calls Tryz.prog 12 #[kcV c va vc, vl] w fun e w' => (∃ u, e = .returned (.tuple #[u, .int .i64 0]) ∧ Kls w' u [⟨true, 1, tw 0⟩, ⟨true, 4, ⟨#[]⟩⟩, endK]) ∧ Below w.heap.size w w' := by
  obtain ⟨ws, h, p, cs⟩ := c
  unfold kcV
  simp only at HA HC ha hc hh p0 p1 ⊢
  have A1 := Arr.new w #[va, Value.string h, .int .i64 p, vc] 25 _ rfl _ 4 (kcC_at va vc h p)
  have hB0 := Bel.al (Below.refl w.heap.size w) (.cells #[va, .string h, .int .i64 p, vc] 25)
  have HL1 := HL.to hB0
  have HA1 := HA.to hB0
  have HC1 := HC.to hB0
  clear HL HA HC
  have CU := rUnknown_any l vl _ HL1 (by omega)
  have CE := fun W => nend_any W
  unfold keV endK at CE
  simp only at CE
  unfold endK
  have CT := fun W => ntwo_any 0 (by decide) (by decide) W
  generalize tw 0 = T at *
  obtain ⟨iK, hi, hz0, hz1, hz2⟩ := info_parts Tryz.infoK
  go_enter Tryz.func12, Tryz.ntmps12
  go_wp2_with fail
  generalize w.alloc (.cells #[va, .string h, .int .i64 p, vc] 25) = W1 at *
  have CN1 := fun W (hb : Below W1.heap.size W1 W) => nnumbers_any l 1 vl W (HL1.to hb) h9 hs
  have CN4 := fun W (hb : Below W1.heap.size W1 W) => nnumbers_any l 4 vl W (HL1.to hb) h9 hs
  rw [c1] at CN1
  rw [c4] at CN4
  have l1 : (nmR l 1).1.length ≤ 100000 := nm_len l 1
  have l4 : (nmR l 4).1.length ≤ 100000 := nm_len l 4
  generalize unI l 0 = U at *
  generalize (nmR l 1).1 = N1 at *
  generalize (nmR l 4).1 = N4 at *
  refine CU.mono ?_
  rintro e w2 ⟨rfl, b2⟩
  clear CU
  go_wp2_with fail
  refine (CN1 _ b2).mono ?_
  rintro e w3 ⟨⟨u1, rfl, k1⟩, b3⟩
  have B3 := Bel.call b2 b3
  clear CN1 b2
  go_wp2_with fail
  refine (CN4 _ B3).mono ?_
  rintro e w4 ⟨⟨u4, rfl, k4⟩, b4⟩
  have B4 := Bel.call B3 b4
  have k1' := k1.to b4
  clear CN4 b4 b3 B3 k1
  have CH := nhas_any N1 0 u1 w4 k1' (by omega)
  rw [c5] at CH
  obtain ⟨a1, d1, rfl, _⟩ := k1'
  have hu4 : ∃ a c, u4 = .slice a N4.length c := by obtain ⟨a, c, e, _⟩ := k4; exact ⟨a, c, e⟩
  obtain ⟨a4, d4, rfl⟩ := hu4
  go_wp2_with fail
  refine CH.mono ?_
  rintro e w5 ⟨rfl, rfl⟩
  clear CH
  go_wp2_with fail
  refine (CT _).mono ?_
  rintro e w6 ⟨rfl, b6⟩
  have B6 := Bel.call B4 b6
  have K4 : Hid (Nls w6 (.slice a4 N4.length d4) N4) := Nls.to k4 b6
  clear CT b6 B4 k4
  have OW : Hid ((w6.alloc (.cells #[.bool true, .int .i64 1, .string T] 50)).ownsRow W1.heap.size 50 3 (.slice (some ⟨w6.heap.size, 0, none⟩) 1 1) 1 (flK [⟨true, 1, T⟩])) := own_newK w6 [⟨true, 1, T⟩] B6.size (by simp)
  have B7 := Bel.al B6 (.cells #[.bool true, .int .i64 1, .string T] 50)
  have K7 : Hid (Nls (w6.alloc (.cells #[.bool true, .int .i64 1, .string T] 50)) (.slice a4 N4.length d4) N4) := Nls.to K4.out (Bel.al (Below.refl _ w6) _)
  go_upto_region 10 with (fail)
  generalize w6.alloc (.cells #[.bool true, .int .i64 1, .string T] 50) = W7 at *
  clear B6 K4
  generalize w6.heap.size = b6 at *
  have A7 := A1.to' B7
  have HA7 := HA1.to B7
  obtain ⟨aa, ca, rfl, fa⟩ := HA7
  obtain ⟨ac, cc, rfl, fc0⟩ := HC1
  have HC2 : Hid (Sls W1 (.slice ac cs.length cc) cs) := ⟨ac, cc, rfl, fc0⟩
  have HC3 : Hid (∀ (i : Nat) (s : ByteArray), cs[i]? = some s → ∃ g o, ac = some ⟨g, o, none⟩ ∧ g < W1.heap.size ∧ W1.cell? ⟨g, o + i, none⟩ = some (.string s)) := fc0
  clear fc0
  obtain ⟨n, hn⟩ : ∃ n, ws.length = n := ⟨_, rfl⟩
  have HN : Hid (ws.length = n) := hn
  have n0 : (n : Int) ≤ 100000 := by omega
  have FA : Hid (∀ (i : Nat) (m : Int), ws[i]? = some m → ∃ g o, aa = some ⟨g, o, none⟩ ∧ g < W7.heap.size ∧ W7.cell? ⟨g, o + i, none⟩ = some (.int .i64 m)) := fa
  have q0 := A7.cv 0 (by omega) (.slice aa ws.length ca) rfl
  rw [hn] at q0
  have CHA := fun x => nhas_any N4 x (.slice a4 N4.length d4) W7 K7.out (by omega)
  clear fa hn
  go_wp2_with fail
  go_loop [11, 12] (fun x i => ∃ (j : Nat) (y : Int), j ≤ n ∧ i = .int .i64 (j : Int) ∧ x = .int .i64 y ∧ Hid (chA (ws.take j) N4 = y)) (fun _ i => n - (RowKit.intOf i).toNat)
  case atStart => exact ⟨0, 0, by omega, rfl, rfl, rfl⟩
  case round =>
    obtain ⟨j, y, hj, rfl, rfl, hY⟩ := hrel
    have j0 : (0 : Int) ≤ (j : Int) := by omega
    by_cases hgo : j < n ∧ y = 0
    · obtain ⟨hlt, hy0⟩ := hgo
      subst hy0
      have j1 : (j : Int) < (n : Int) := by omega
      obtain ⟨x, hx⟩ : ∃ x, ws[j]? = some x := ⟨_, List.getElem?_eq_getElem (by rw [HN.out]; exact hlt)⟩
      obtain ⟨g, o, rfl, lt, e0⟩ := FA.out j x hx
      have ht := ch_take ws N4 j x hx
      rw [hY.out, if_pos rfl] at ht
      have CK := nKeySize_any x W7
      have CH2 := CHA x
      by_cases hk : 0 < ksI x
      · cases hh2 : hasB N4 x
        · rw [hh2, if_neg (fun q => by simp at q)] at ht
          rw [hh2] at CH2
          have HT : Hid (chA (ws.take (j + 1)) N4 = 0) := ht
          clear ht hx FA HN hY hh2 CHA HA1 HL1 A1 OW K7 B7
          generalize ksI x = ks at *
          go_wp2_with fail
          refine CK.mono ?_
          rintro e w8 ⟨rfl, rfl⟩
          go_wp2_with fail
          refine CH2.mono ?_
          rintro e w8 ⟨rfl, rfl⟩
          go_wp2_with fail
          exact ⟨⟨j + 1, 0, by omega, by go_num, rfl, HT⟩, by simp [RowKit.intOf]; omega⟩
        · rw [if_pos ⟨hk, hh2⟩] at ht
          rw [hh2] at CH2
          have HT : Hid (chA (ws.take (j + 1)) N4 = x) := ht
          clear ht hx FA HN hY hh2 CHA HA1 HL1 A1 OW K7 B7
          generalize ksI x = ks at *
          go_wp2_with fail
          refine CK.mono ?_
          rintro e w8 ⟨rfl, rfl⟩
          go_wp2_with fail
          refine CH2.mono ?_
          rintro e w8 ⟨rfl, rfl⟩
          go_wp2_with fail
          exact ⟨⟨j + 1, x, by omega, by go_num, rfl, HT⟩, by simp [RowKit.intOf]; omega⟩
      · rw [if_neg (fun q => hk q.1)] at ht
        have HT : Hid (chA (ws.take (j + 1)) N4 = 0) := ht
        clear ht hx FA HN hY CHA HA1 HL1 A1 OW K7 B7 CH2
        generalize ksI x = ks at *
        go_wp2_with fail
        refine CK.mono ?_
        rintro e w8 ⟨rfl, rfl⟩
        go_wp2_with fail
        exact ⟨⟨j + 1, 0, by omega, by go_num, rfl, HT⟩, by simp [RowKit.intOf]; omega⟩
    · have hy : y = 0 := by
        by_cases q : y = 0
        · exact q
        · exact absurd (ch_end ws N4 j (by rw [hY.out]; exact q)) (by rw [c6, hY.out]; exact fun e => q e.symm)
      have hje : j = n := by omega
      subst hy hje
      clear hgo FA HN hY CHA HA1 HL1 A1 K7 A7 c6
      go_wp2_with fail
      refine (CE _).mono ?_
      rintro e w8 ⟨rfl, b8⟩
      have B8 := Bel.call B7 b8
      have O8 : Hid (w8.ownsRow W1.heap.size 50 3 (.slice (some ⟨b6, 0, none⟩) 1 1) 1 (flK [⟨true, 1, T⟩])) := own_to' OW.out b8
      clear CE b8 B7 OW
      have hs8 := B8.size
      have sb8 : ∀ ob, W1.heap.size ≤ (w8.alloc ob).heap.size := fun ob => by simp; omega
      go_wp2_with (at_builtin; refine stopAt ?_)
      unfold Stop
      refine wpList_append_own _ rfl _ _ 26 rfl W1.heap.size 50 iK (.agg #[.bool false, .int .i64 0, .string ⟨#[]⟩]) 3 32 Tryz.underlying26 hi hz0 hz1 hz2 rfl (by decide) _ _ _ rfl (World.ownsRow.alloc O8.out _) ⟨w8.heap.size, 0, none⟩ 2 2 [.bool true, .int .i64 4, .string ⟨#[]⟩, .bool true, .int .i64 0, .string ⟨#[]⟩] rfl rfl (news_new w8 [.bool true, .int .i64 4, .string ⟨#[]⟩, .bool true, .int .i64 0, .string ⟨#[]⟩] 50) (fun u hu => by simp at hu; rcases hu with rfl | rfl | rfl | rfl | rfl | rfl <;> rfl) (by unfold maxLen; omega) (by omega) (sb8 _) ?_
      intro v9 x9 ho9 hg9 hn9
      have b9 : Below W1.heap.size W1 x9 := (B8.alloc B8.size _).grown hg9 (by go_size) (fun q hq => (O8.out.lt q hq).1)
      have KF : Hid (Kls x9 v9 [⟨true, 1, T⟩, ⟨true, 4, ⟨#[]⟩⟩, ⟨true, 0, ⟨#[]⟩⟩]) := Kls.own (b := W1.heap.size) ho9
      clear hg9 ho9 hn9 sb8 hs8 O8 B8
      go_wp2_with fail
      refine bodyPost_ret (v := .tuple #[v9, .int .i64 0]) (by simp [results, Tryz.results12, go_sem]) rfl ⟨⟨_, rfl, KF.out⟩, Bel.call hB0 b9⟩
end Go.Proofs.YtbhmbdkijpocmaaGreatDoor
