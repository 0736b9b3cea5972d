/- The program nego: Answer. -/
import Derived.Test.YtmkfnfencllfnaaDoorJ6
set_option linter.all false
set_option maxRecDepth 100000
namespace Go.Proofs.YtmkfnfencllfnaaDoor
open Go.RowKit Go.Shelf Go.Sort
set_option maxHeartbeats 8000000 in
theorem pAns_u (c : Kc) (l : List Ke) (va vc vl : Value) (w : World) (HA : Nls w va c.ws) (HC : Sls w vc c.cs) (HL : Kls w vl l) (h9 : l.length ≤ 100000) (ha : c.ws.length ≤ 100000) (hc : c.cs.length ≤ 100000) (hs : ∀ r ∈ l, r.s.size ≤ 9223372036854775807) (p0 : -9223372036854775808 ≤ c.p) (p1 : c.p ≤ 9223372036854775807) (c0 : 0 ≤ unI l 0) :
    Calls Tryd.prog 14 #[kcV c va vc, vl] w fun e w' => (∃ u, e = .returned (.tuple #[u, .int .i64 (0)]) ∧ Kls w' u ([⟨true, 2, tw 0⟩, endK])) ∧ Below w.heap.size w w' := by
  have CG := fun (X : Int) (x0 : 0 ≤ X) (x1 : X ≤ 65535) (W : World) (a : Nls W va c.ws) (b : Sls W vc c.cs) => pgranted_any c X va vc W a b hc x0 x1 p0 p1
  obtain ⟨ws, h, p, cs⟩ := c
  unfold kcV at CG ⊢
  simp only at HA HC ha hc p0 p1 CG ⊢
  have A1 := Arr.new w #[va, Value.string h, .int .i64 p, vc] 58 _ rfl _ 4 (kcC_at va vc h p)
  have hB0 := Bel.al (Below.refl w.heap.size w) (.cells #[va, .string h, .int .i64 p, vc] 58)
  have HL1 := HL.to hB0
  have HA1 := HA.to hB0
  have HC1 := HC.to hB0
  clear HL HA HC
  have CU := tU l vl _ HL1 h9
  obtain ⟨al, cl, rfl, _⟩ := HL1
  have HL1 : Hid (Kls (w.alloc (.cells #[va, .string h, .int .i64 p, vc] 58)) (.slice al l.length cl) l) := ⟨al, cl, rfl, by assumption⟩
  have CR := fun W => prefusal_any 0 (by decide) (by decide) W
  unfold endK at CR ⊢
  generalize tw 0 = T at *
  go_enter Tryd.func14, Tryd.ntmps14
  go_wp2_with fail
  generalize w.alloc (.cells #[va, .string h, .int .i64 p, vc] 58) = W1 at *
  have CN1 := fun W (hb : Below W1.heap.size W1 W) => pnumbersOf_any l 1 (.slice al l.length cl) W (HL1.out.to hb) h9 hs
  have CN4 := fun W (hb : Below W1.heap.size W1 W) => pnumbersOf_any l 4 (.slice al l.length cl) W (HL1.out.to hb) h9 hs
  have l1 : (nmR l 1).1.length ≤ 100000 := nm_len l 1
  have l4 : (nmR l 4).1.length ≤ 100000 := nm_len l 4
  generalize unI l 0 = U at *
  generalize hz : (l.length : Nat) = nl at *
  clear hz
  refine CU.mono ?_
  rintro e w2 ⟨rfl, b2⟩
  clear CU
  go_wp2_with fail
  refine (CR _).mono ?_
  rintro e wz ⟨⟨u, rfl, kz⟩, bz⟩
  have KF : Hid _ := kz
  have BF := Bel.call b2 bz
  clear kz CR
  go_wp2_with fail
  refine bodyPost_ret (v := .tuple #[u, .int .i64 0]) (by simp [results, Tryd.results14, go_sem]) rfl ⟨⟨_, rfl, KF.out⟩, Bel.call hB0 BF⟩
set_option maxHeartbeats 8000000 in
theorem pAns_f1 (c : Kc) (l : List Ke) (va vc vl : Value) (w : World) (HA : Nls w va c.ws) (HC : Sls w vc c.cs) (HL : Kls w vl l) (h9 : l.length ≤ 100000) (ha : c.ws.length ≤ 100000) (hc : c.cs.length ≤ 100000) (hs : ∀ r ∈ l, r.s.size ≤ 9223372036854775807) (p0 : -9223372036854775808 ≤ c.p) (p1 : c.p ≤ 9223372036854775807) (c0 : unI l 0 < 0) (c1 : (nmR l 1).2 = false) :
    Calls Tryd.prog 14 #[kcV c va vc, vl] w fun e w' => (∃ u, e = .returned (.tuple #[u, .int .i64 (0)]) ∧ Kls w' u ([⟨true, 2, tw 1⟩, endK])) ∧ Below w.heap.size w w' := by
  have CG := fun (X : Int) (x0 : 0 ≤ X) (x1 : X ≤ 65535) (W : World) (a : Nls W va c.ws) (b : Sls W vc c.cs) => pgranted_any c X va vc W a b hc x0 x1 p0 p1
  obtain ⟨ws, h, p, cs⟩ := c
  unfold kcV at CG ⊢
  simp only at HA HC ha hc p0 p1 CG ⊢
  have A1 := Arr.new w #[va, Value.string h, .int .i64 p, vc] 58 _ rfl _ 4 (kcC_at va vc h p)
  have hB0 := Bel.al (Below.refl w.heap.size w) (.cells #[va, .string h, .int .i64 p, vc] 58)
  have HL1 := HL.to hB0
  have HA1 := HA.to hB0
  have HC1 := HC.to hB0
  clear HL HA HC
  have CU := tU l vl _ HL1 h9
  obtain ⟨al, cl, rfl, _⟩ := HL1
  have HL1 : Hid (Kls (w.alloc (.cells #[va, .string h, .int .i64 p, vc] 58)) (.slice al l.length cl) l) := ⟨al, cl, rfl, by assumption⟩
  have CR := fun W => prefusal_any 1 (by decide) (by decide) W
  unfold endK at CR ⊢
  generalize tw 1 = T at *
  go_enter Tryd.func14, Tryd.ntmps14
  go_wp2_with fail
  generalize w.alloc (.cells #[va, .string h, .int .i64 p, vc] 58) = W1 at *
  have CN1 := fun W (hb : Below W1.heap.size W1 W) => pnumbersOf_any l 1 (.slice al l.length cl) W (HL1.out.to hb) h9 hs
  have CN4 := fun W (hb : Below W1.heap.size W1 W) => pnumbersOf_any l 4 (.slice al l.length cl) W (HL1.out.to hb) h9 hs
  have l1 : (nmR l 1).1.length ≤ 100000 := nm_len l 1
  have l4 : (nmR l 4).1.length ≤ 100000 := nm_len l 4
  rw [c1] at CN1
  generalize (nmR l 4).2 = bb at *
  generalize (nmR l 1).1 = N1 at *
  generalize (nmR l 4).1 = N4 at *
  generalize unI l 0 = U at *
  generalize hz : (l.length : Nat) = nl at *
  clear hz
  refine CU.mono ?_
  rintro e w2 ⟨rfl, b2⟩
  clear CU
  go_wp2_with fail
  refine (CN1 _ b2).mono ?_
  rintro e w3 ⟨⟨u1, rfl, k1⟩, b3⟩
  have B3 := Bel.call b2 b3
  clear CN1 b2
  go_wp2_with fail
  refine (CN4 _ B3).mono ?_
  rintro e w4 ⟨⟨u4, rfl, k4⟩, b4⟩
  have B4 := Bel.call B3 b4
  have k1' := k1.to b4
  clear CN4 b4 b3 B3 k1
  clear k1' k4
  go_wp2_with fail
  refine (CR _).mono ?_
  rintro e wz ⟨⟨u, rfl, kz⟩, bz⟩
  have KF : Hid _ := kz
  have BF := Bel.call B4 bz
  clear kz CR
  go_wp2_with fail
  refine bodyPost_ret (v := .tuple #[u, .int .i64 0]) (by simp [results, Tryd.results14, go_sem]) rfl ⟨⟨_, rfl, KF.out⟩, Bel.call hB0 BF⟩
set_option maxHeartbeats 8000000 in
theorem pAns_f4 (c : Kc) (l : List Ke) (va vc vl : Value) (w : World) (HA : Nls w va c.ws) (HC : Sls w vc c.cs) (HL : Kls w vl l) (h9 : l.length ≤ 100000) (ha : c.ws.length ≤ 100000) (hc : c.cs.length ≤ 100000) (hs : ∀ r ∈ l, r.s.size ≤ 9223372036854775807) (p0 : -9223372036854775808 ≤ c.p) (p1 : c.p ≤ 9223372036854775807) (c0 : unI l 0 < 0) (c1 : (nmR l 1).2 = true) (c4 : (nmR l 4).2 = false) :
    Calls Tryd.prog 14 #[kcV c va vc, vl] w fun e w' => (∃ u, e = .returned (.tuple #[u, .int .i64 (0)]) ∧ Kls w' u ([⟨true, 2, tw 1⟩, endK])) ∧ Below w.heap.size w w' := by
  have CG := fun (X : Int) (x0 : 0 ≤ X) (x1 : X ≤ 65535) (W : World) (a : Nls W va c.ws) (b : Sls W vc c.cs) => pgranted_any c X va vc W a b hc x0 x1 p0 p1
  obtain ⟨ws, h, p, cs⟩ := c
  unfold kcV at CG ⊢
  simp only at HA HC ha hc p0 p1 CG ⊢
  have A1 := Arr.new w #[va, Value.string h, .int .i64 p, vc] 58 _ rfl _ 4 (kcC_at va vc h p)
  have hB0 := Bel.al (Below.refl w.heap.size w) (.cells #[va, .string h, .int .i64 p, vc] 58)
  have HL1 := HL.to hB0
  have HA1 := HA.to hB0
  have HC1 := HC.to hB0
  clear HL HA HC
  have CU := tU l vl _ HL1 h9
  obtain ⟨al, cl, rfl, _⟩ := HL1
  have HL1 : Hid (Kls (w.alloc (.cells #[va, .string h, .int .i64 p, vc] 58)) (.slice al l.length cl) l) := ⟨al, cl, rfl, by assumption⟩
  have CR := fun W => prefusal_any 1 (by decide) (by decide) W
  unfold endK at CR ⊢
  generalize tw 1 = T at *
  go_enter Tryd.func14, Tryd.ntmps14
  go_wp2_with fail
  generalize w.alloc (.cells #[va, .string h, .int .i64 p, vc] 58) = W1 at *
  have CN1 := fun W (hb : Below W1.heap.size W1 W) => pnumbersOf_any l 1 (.slice al l.length cl) W (HL1.out.to hb) h9 hs
  have CN4 := fun W (hb : Below W1.heap.size W1 W) => pnumbersOf_any l 4 (.slice al l.length cl) W (HL1.out.to hb) h9 hs
  have l1 : (nmR l 1).1.length ≤ 100000 := nm_len l 1
  have l4 : (nmR l 4).1.length ≤ 100000 := nm_len l 4
  rw [c1] at CN1
  rw [c4] at CN4
  generalize (nmR l 1).1 = N1 at *
  generalize (nmR l 4).1 = N4 at *
  generalize unI l 0 = U at *
  generalize hz : (l.length : Nat) = nl at *
  clear hz
  refine CU.mono ?_
  rintro e w2 ⟨rfl, b2⟩
  clear CU
  go_wp2_with fail
  refine (CN1 _ b2).mono ?_
  rintro e w3 ⟨⟨u1, rfl, k1⟩, b3⟩
  have B3 := Bel.call b2 b3
  clear CN1 b2
  go_wp2_with fail
  refine (CN4 _ B3).mono ?_
  rintro e w4 ⟨⟨u4, rfl, k4⟩, b4⟩
  have B4 := Bel.call B3 b4
  have k1' := k1.to b4
  clear CN4 b4 b3 B3 k1
  clear k1' k4
  go_wp2_with fail
  refine (CR _).mono ?_
  rintro e wz ⟨⟨u, rfl, kz⟩, bz⟩
  have KF : Hid _ := kz
  have BF := Bel.call B4 bz
  clear kz CR
  go_wp2_with fail
  refine bodyPost_ret (v := .tuple #[u, .int .i64 0]) (by simp [results, Tryd.results14, go_sem]) rfl ⟨⟨_, rfl, KF.out⟩, Bel.call hB0 BF⟩
set_option maxHeartbeats 8000000 in
theorem pAns_n0 (c : Kc) (l : List Ke) (va vc vl : Value) (w : World) (HA : Nls w va c.ws) (HC : Sls w vc c.cs) (HL : Kls w vl l) (h9 : l.length ≤ 100000) (ha : c.ws.length ≤ 100000) (hc : c.cs.length ≤ 100000) (hs : ∀ r ∈ l, r.s.size ≤ 9223372036854775807) (p0 : -9223372036854775808 ≤ c.p) (p1 : c.p ≤ 9223372036854775807) (c0 : unI l 0 < 0) (c1 : (nmR l 1).2 = true) (c4 : (nmR l 4).2 = true) (c5 : hasB (nmR l 1).1 0 = false) :
    Calls Tryd.prog 14 #[kcV c va vc, vl] w fun e w' => (∃ u, e = .returned (.tuple #[u, .int .i64 (0)]) ∧ Kls w' u ([⟨true, 1, ⟨#[]⟩⟩, endK])) ∧ Below w.heap.size w w' := by
  have CG := fun (X : Int) (x0 : 0 ≤ X) (x1 : X ≤ 65535) (W : World) (a : Nls W va c.ws) (b : Sls W vc c.cs) => pgranted_any c X va vc W a b hc x0 x1 p0 p1
  obtain ⟨ws, h, p, cs⟩ := c
  unfold kcV at CG ⊢
  simp only at HA HC ha hc p0 p1 CG ⊢
  have A1 := Arr.new w #[va, Value.string h, .int .i64 p, vc] 58 _ rfl _ 4 (kcC_at va vc h p)
  have hB0 := Bel.al (Below.refl w.heap.size w) (.cells #[va, .string h, .int .i64 p, vc] 58)
  have HL1 := HL.to hB0
  have HA1 := HA.to hB0
  have HC1 := HC.to hB0
  clear HL HA HC
  have CU := tU l vl _ HL1 h9
  obtain ⟨al, cl, rfl, _⟩ := HL1
  have HL1 : Hid (Kls (w.alloc (.cells #[va, .string h, .int .i64 p, vc] 58)) (.slice al l.length cl) l) := ⟨al, cl, rfl, by assumption⟩
  have CM := fun W => pmust_any 1 ⟨#[]⟩ W
  have CE := fun W => pend_any W
  unfold endK
  have KN := fun (W : World) => Kls.own (own_newK W [⟨true, 1, ⟨#[]⟩⟩, ⟨true, 0, ⟨#[]⟩⟩] (Nat.zero_le _) (by simp))
  go_enter Tryd.func14, Tryd.ntmps14
  go_wp2_with fail
  generalize w.alloc (.cells #[va, .string h, .int .i64 p, vc] 58) = W1 at *
  have CN1 := fun W (hb : Below W1.heap.size W1 W) => pnumbersOf_any l 1 (.slice al l.length cl) W (HL1.out.to hb) h9 hs
  have CN4 := fun W (hb : Below W1.heap.size W1 W) => pnumbersOf_any l 4 (.slice al l.length cl) W (HL1.out.to hb) h9 hs
  have l1 : (nmR l 1).1.length ≤ 100000 := nm_len l 1
  have l4 : (nmR l 4).1.length ≤ 100000 := nm_len l 4
  rw [c1] at CN1
  rw [c4] at CN4
  generalize (nmR l 1).1 = N1 at *
  generalize (nmR l 4).1 = N4 at *
  generalize unI l 0 = U at *
  generalize hz : (l.length : Nat) = nl at *
  clear hz
  refine CU.mono ?_
  rintro e w2 ⟨rfl, b2⟩
  clear CU
  go_wp2_with fail
  refine (CN1 _ b2).mono ?_
  rintro e w3 ⟨⟨u1, rfl, k1⟩, b3⟩
  have B3 := Bel.call b2 b3
  clear CN1 b2
  go_wp2_with fail
  refine (CN4 _ B3).mono ?_
  rintro e w4 ⟨⟨u4, rfl, k4⟩, b4⟩
  have B4 := Bel.call B3 b4
  have k1' := k1.to b4
  clear CN4 b4 b3 B3 k1
  have CH := pContains_any N1 0 u1 w4 k1' (by omega)
  rw [c5] at CH
  obtain ⟨a1, d1, rfl, _⟩ := k1'
  generalize (N1.length : Nat) = n1 at *
  obtain ⟨a4, d4, e4, _⟩ := id k4
  subst e4
  have K4 : Hid (Nls w4 (.slice a4 N4.length d4) N4) := k4
  clear k4
  go_wp2_with fail
  refine CH.mono ?_
  rintro e w5 ⟨rfl, rfl⟩
  clear CH
  go_wp2_with fail
  refine (CM _).mono ?_
  rintro e w6 ⟨rfl, b6⟩
  have B6 := Bel.call B4 b6
  clear CM b6 B4
  go_wp2_with fail
  refine (CE _).mono ?_
  rintro e w7 ⟨rfl, b7⟩
  have B7 := Bel.call B6 b7
  clear CE b7 B6 K4
  have KF : Hid _ := KN w7
  clear KN
  go_wp2_with fail
  refine bodyPost_ret (v := .tuple #[.slice (some ⟨w7.heap.size, 0, none⟩) 2 2, .int .i64 0]) (by simp [results, Tryd.results14, go_sem]) rfl ⟨⟨_, rfl, KF.out⟩, Bel.call hB0 (Bel.al B7 _)⟩
set_option maxHeartbeats 8000000 in
theorem pAns_z (c : Kc) (l : List Ke) (va vc vl : Value) (w : World) (HA : Nls w va c.ws) (HC : Sls w vc c.cs) (HL : Kls w vl l) (h9 : l.length ≤ 100000) (ha : c.ws.length ≤ 100000) (hc : c.cs.length ≤ 100000) (hs : ∀ r ∈ l, r.s.size ≤ 9223372036854775807) (p0 : -9223372036854775808 ≤ c.p) (p1 : c.p ≤ 9223372036854775807) (c0 : unI l 0 < 0) (c1 : (nmR l 1).2 = true) (c4 : (nmR l 4).2 = true) (c5 : hasB (nmR l 1).1 0 = true) (c6 : chA c.ws (nmR l 4).1 = 0) :
    Calls Tryd.prog 14 #[kcV c va vc, vl] w fun e w' => (∃ u, e = .returned (.tuple #[u, .int .i64 (0)]) ∧ Kls w' u ([⟨true, 1, tw 0⟩, ⟨true, 4, ⟨#[]⟩⟩, endK])) ∧ Below w.heap.size w w' := by
  have CG := fun (X : Int) (x0 : 0 ≤ X) (x1 : X ≤ 65535) (W : World) (a : Nls W va c.ws) (b : Sls W vc c.cs) => pgranted_any c X va vc W a b hc x0 x1 p0 p1
  obtain ⟨ws, h, p, cs⟩ := c
  unfold kcV at CG ⊢
  simp only at HA HC ha hc p0 p1 CG ⊢
  have A1 := Arr.new w #[va, Value.string h, .int .i64 p, vc] 58 _ rfl _ 4 (kcC_at va vc h p)
  have hB0 := Bel.al (Below.refl w.heap.size w) (.cells #[va, .string h, .int .i64 p, vc] 58)
  have HL1 := HL.to hB0
  have HA1 := HA.to hB0
  have HC1 := HC.to hB0
  clear HL HA HC
  have CU := tU l vl _ HL1 h9
  obtain ⟨al, cl, rfl, _⟩ := HL1
  have HL1 : Hid (Kls (w.alloc (.cells #[va, .string h, .int .i64 p, vc] 58)) (.slice al l.length cl) l) := ⟨al, cl, rfl, by assumption⟩
  have CP0 := fun W => pair1 0 (by decide) (by decide) W
  have CM0 := fun W => pmust_any 1 (tw 0) W
  have CM4 := fun W => pmust_any 4 ⟨#[]⟩ W
  have CE := fun W => pend_any W
  unfold endK
  generalize tw 0 = T at *
  have KN := fun (W : World) => Kls.own (own_newK W [⟨true, 1, T⟩, ⟨true, 4, ⟨#[]⟩⟩, ⟨true, 0, ⟨#[]⟩⟩] (Nat.zero_le _) (by simp))
  simp only at c6
  obtain ⟨aw, cw, rfl, _⟩ := id HA1
  go_enter Tryd.func14, Tryd.ntmps14
  go_wp2_with fail
  generalize w.alloc (.cells #[.slice aw ws.length cw, .string h, .int .i64 p, vc] 58) = W1 at *
  have CN1 := fun W (hb : Below W1.heap.size W1 W) => pnumbersOf_any l 1 (.slice al l.length cl) W (HL1.out.to hb) h9 hs
  have CN4 := fun W (hb : Below W1.heap.size W1 W) => pnumbersOf_any l 4 (.slice al l.length cl) W (HL1.out.to hb) h9 hs
  have l1 : (nmR l 1).1.length ≤ 100000 := nm_len l 1
  have l4 : (nmR l 4).1.length ≤ 100000 := nm_len l 4
  rw [c1] at CN1
  rw [c4] at CN4
  generalize (nmR l 1).1 = N1 at *
  generalize (nmR l 4).1 = N4 at *
  generalize unI l 0 = U at *
  generalize hz : (l.length : Nat) = nl at *
  clear hz
  refine CU.mono ?_
  rintro e w2 ⟨rfl, b2⟩
  clear CU
  go_wp2_with fail
  refine (CN1 _ b2).mono ?_
  rintro e w3 ⟨⟨u1, rfl, k1⟩, b3⟩
  have B3 := Bel.call b2 b3
  clear CN1 b2
  go_wp2_with fail
  refine (CN4 _ B3).mono ?_
  rintro e w4 ⟨⟨u4, rfl, k4⟩, b4⟩
  have B4 := Bel.call B3 b4
  have k1' := k1.to b4
  clear CN4 b4 b3 B3 k1
  have CH := pContains_any N1 0 u1 w4 k1' (by omega)
  rw [c5] at CH
  obtain ⟨a1, d1, rfl, _⟩ := k1'
  generalize (N1.length : Nat) = n1 at *
  obtain ⟨a4, d4, e4, _⟩ := id k4
  subst e4
  have K4 : Hid (Nls w4 (.slice a4 N4.length d4) N4) := k4
  clear k4
  go_wp2_with fail
  refine CH.mono ?_
  rintro e w5 ⟨rfl, rfl⟩
  clear CH
  have A5 := A1.to' B4
  have HA5 := HA1.to B4
  have CL := pliked_any ws N4 (.slice aw ws.length cw) (.slice a4 N4.length d4) w5 HA5 K4.out ha (by omega)
  have q0 := A5.cv 0 (by omega) (.slice aw ws.length cw) rfl
  rw [c6] at CL
  clear K4 A5
  generalize (N4.length : Nat) = n4 at *
  generalize (ws.length : Nat) = nw at *
  go_wp2_with fail
  refine CL.mono ?_
  rintro e w5b ⟨rfl, rfl⟩
  clear CL q0
  go_wp2_with fail
  refine (CP0 _).mono ?_
  rintro e w6 ⟨rfl, b6⟩
  replace B4 := Bel.call B4 b6
  clear CP0 b6
  go_wp2_with fail
  refine (CM0 _).mono ?_
  rintro e w7 ⟨rfl, b7⟩
  replace B4 := Bel.call B4 b7
  clear CM0 b7
  go_wp2_with fail
  refine (CM4 _).mono ?_
  rintro e w8 ⟨rfl, b8⟩
  replace B4 := Bel.call B4 b8
  clear CM4 b8
  go_wp2_with fail
  refine (CE _).mono ?_
  rintro e w9 ⟨rfl, b9⟩
  replace B4 := Bel.call B4 b9
  clear CE b9
  have KF : Hid _ := KN w9
  clear KN
  go_wp2_with fail
  refine bodyPost_ret (v := .tuple #[.slice (some ⟨w9.heap.size, 0, none⟩) 3 3, .int .i64 0]) (by simp [results, Tryd.results14, go_sem]) rfl ⟨⟨_, rfl, KF.out⟩, Bel.call hB0 (Bel.al B4 _)⟩
set_option maxHeartbeats 8000000 in
theorem pAns_m (c : Kc) (l : List Ke) (va vc vl : Value) (w : World) (HA : Nls w va c.ws) (HC : Sls w vc c.cs) (HL : Kls w vl l) (h9 : l.length ≤ 100000) (ha : c.ws.length ≤ 100000) (hc : c.cs.length ≤ 100000) (hs : ∀ r ∈ l, r.s.size ≤ 9223372036854775807) (p0 : -9223372036854775808 ≤ c.p) (p1 : c.p ≤ 9223372036854775807) (c0 : unI l 0 < 0) (c1 : (nmR l 1).2 = true) (c4 : (nmR l 4).2 = true) (c5 : hasB (nmR l 1).1 0 = true) (c6 : chA c.ws (nmR l 4).1 ≠ 0) :
    Calls Tryd.prog 14 #[kcV c va vc, vl] w fun e w' => (∃ u, e = .returned (.tuple #[u, .int .i64 (chA c.ws (nmR l 4).1)]) ∧ Kls w' u ([⟨true, 1, tw 0⟩, ⟨true, 4, tw (chA c.ws (nmR l 4).1)⟩] ++ cksL c.cs ++ (if c.h.size ≠ 0 then [⟨true, 6, c.h⟩] else []) ++ (if c.p ≠ 0 then [⟨true, 7, tw (c.p % 65536)⟩] else []) ++ [endK])) ∧ Below w.heap.size w w' := by
  have CG := fun (X : Int) (x0 : 0 ≤ X) (x1 : X ≤ 65535) (W : World) (a : Nls W va c.ws) (b : Sls W vc c.cs) => pgranted_any c X va vc W a b hc x0 x1 p0 p1
  obtain ⟨ws, h, p, cs⟩ := c
  unfold kcV at CG ⊢
  simp only at HA HC ha hc p0 p1 CG ⊢
  have A1 := Arr.new w #[va, Value.string h, .int .i64 p, vc] 58 _ rfl _ 4 (kcC_at va vc h p)
  have hB0 := Bel.al (Below.refl w.heap.size w) (.cells #[va, .string h, .int .i64 p, vc] 58)
  have HL1 := HL.to hB0
  have HA1 := HA.to hB0
  have HC1 := HC.to hB0
  clear HL HA HC
  have CU := tU l vl _ HL1 h9
  obtain ⟨al, cl, rfl, _⟩ := HL1
  have HL1 : Hid (Kls (w.alloc (.cells #[va, .string h, .int .i64 p, vc] 58)) (.slice al l.length cl) l) := ⟨al, cl, rfl, by assumption⟩
  simp only at c6
  obtain ⟨x1, x2, _⟩ := chA_is _ _ c6
  have rX : chA ws (nmR l 4).1 = 15 ∨ chA ws (nmR l 4).1 = 17 := by rcases ksI_cases (chA ws (nmR l 4).1) with q | q | q <;> omega
  obtain ⟨aw, cw, rfl, _⟩ := id HA1
  obtain ⟨X, hX⟩ : ∃ X, chA ws (nmR l 4).1 = X := ⟨_, rfl⟩
  have CX := CG X (by rw [← hX]; rcases rX with q | q <;> omega) (by rw [← hX]; rcases rX with q | q <;> omega)
  have HX : Hid (chA ws (nmR l 4).1 = X) := hX
  rw [hX] at c6 ⊢
  have iX : (X == 0) = false := by simpa using c6
  generalize ([⟨true, 1, tw 0⟩, ⟨true, 4, tw X⟩] ++ cksL cs ++ (if h.size ≠ 0 then [⟨true, 6, h⟩] else []) ++ (if p ≠ 0 then [⟨true, 7, tw (p % 65536)⟩] else []) ++ [endK] : List Ke) = RES at *
  clear x1 x2 rX hX CG
  go_enter Tryd.func14, Tryd.ntmps14
  go_wp2_with fail
  generalize w.alloc (.cells #[.slice aw ws.length cw, .string h, .int .i64 p, vc] 58) = W1 at *
  have CN1 := fun W (hb : Below W1.heap.size W1 W) => pnumbersOf_any l 1 (.slice al l.length cl) W (HL1.out.to hb) h9 hs
  have CN4 := fun W (hb : Below W1.heap.size W1 W) => pnumbersOf_any l 4 (.slice al l.length cl) W (HL1.out.to hb) h9 hs
  have l1 : (nmR l 1).1.length ≤ 100000 := nm_len l 1
  have l4 : (nmR l 4).1.length ≤ 100000 := nm_len l 4
  rw [c1] at CN1
  rw [c4] at CN4
  generalize (nmR l 1).1 = N1 at *
  generalize (nmR l 4).1 = N4 at *
  generalize unI l 0 = U at *
  generalize hz : (l.length : Nat) = nl at *
  clear hz
  refine CU.mono ?_
  rintro e w2 ⟨rfl, b2⟩
  clear CU
  go_wp2_with fail
  refine (CN1 _ b2).mono ?_
  rintro e w3 ⟨⟨u1, rfl, k1⟩, b3⟩
  have B3 := Bel.call b2 b3
  clear CN1 b2
  go_wp2_with fail
  refine (CN4 _ B3).mono ?_
  rintro e w4 ⟨⟨u4, rfl, k4⟩, b4⟩
  have B4 := Bel.call B3 b4
  have k1' := k1.to b4
  clear CN4 b4 b3 B3 k1
  have CH := pContains_any N1 0 u1 w4 k1' (by omega)
  rw [c5] at CH
  obtain ⟨a1, d1, rfl, _⟩ := k1'
  generalize (N1.length : Nat) = n1 at *
  obtain ⟨a4, d4, e4, _⟩ := id k4
  subst e4
  have K4 : Hid (Nls w4 (.slice a4 N4.length d4) N4) := k4
  clear k4
  go_wp2_with fail
  refine CH.mono ?_
  rintro e w5 ⟨rfl, rfl⟩
  clear CH
  have A5 := A1.to' B4
  have HA5 := HA1.to B4
  have CL := pliked_any ws N4 (.slice aw ws.length cw) (.slice a4 N4.length d4) w5 HA5 K4.out ha (by omega)
  have q0 := A5.cv 0 (by omega) (.slice aw ws.length cw) rfl
  rw [HX.out] at CL
  have CX4 := CX w5 HA5 (HC1.to B4)
  have q1 := A5.cv 1 (by omega) (.string h) rfl
  have q2 := A5.cv 2 (by omega) (.int .i64 p) rfl
  have q3 := A5.cv 3 (by omega) vc rfl
  clear HX CX
  clear K4 A5
  generalize (N4.length : Nat) = n4 at *
  generalize (ws.length : Nat) = nw at *
  go_wp2_with fail
  refine CL.mono ?_
  rintro e w5b ⟨rfl, rfl⟩
  clear CL
  go_wp2_with fail
  refine CX4.mono ?_
  rintro e w6 ⟨⟨u, rfl, ku⟩, b6⟩
  have KF : Hid _ := ku
  have BF := Bel.call B4 b6
  clear ku b6 B4 q0 q1 q2 q3 CX4
  go_wp2_with fail
  refine bodyPost_ret (v := .tuple #[u, .int .i64 X]) (by simp [results, Tryd.results14, go_sem]) rfl ⟨⟨_, rfl, KF.out⟩, Bel.call hB0 BF⟩
theorem tN : CAn := by
  intro c l va vc vl w HA HC HL h9 ha hc hh hs p0 p1
  unfold ansR
  by_cases c0 : 0 ≤ unI l 0
  · rw [if_pos c0]
    exact pAns_u c l va vc vl w HA HC HL h9 ha hc hs p0 p1 c0
  rw [if_neg c0]
  cases c1 : (nmR l 1).2
  · rw [if_pos (.inl rfl)]
    exact pAns_f1 c l va vc vl w HA HC HL h9 ha hc hs p0 p1 (by omega) c1
  cases c4 : (nmR l 4).2
  · rw [if_pos (.inr rfl)]
    exact pAns_f4 c l va vc vl w HA HC HL h9 ha hc hs p0 p1 (by omega) c1 c4
  rw [if_neg (by simp)]
  cases c5 : hasB (nmR l 1).1 0
  · rw [if_pos rfl]
    exact pAns_n0 c l va vc vl w HA HC HL h9 ha hc hs p0 p1 (by omega) c1 c4 c5
  rw [if_neg (by simp)]
  by_cases c6 : chA c.ws (nmR l 4).1 = 0
  · rw [if_pos c6]
    exact pAns_z c l va vc vl w HA HC HL h9 ha hc hs p0 p1 (by omega) c1 c4 c5 c6
  · rw [if_neg c6]
    exact pAns_m c l va vc vl w HA HC HL h9 ha hc hs p0 p1 (by omega) c1 c4 c5 c6
end Go.Proofs.YtmkfnfencllfnaaDoor
