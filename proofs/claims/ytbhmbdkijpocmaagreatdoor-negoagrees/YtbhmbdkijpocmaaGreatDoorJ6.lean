/- The reference of nego: Answer, a long way. -/
import Derived.Test.YtbhmbdkijpocmaaGreatDoorJ5
set_option linter.all false
set_option maxRecDepth 100000
namespace Go.Proofs.YtbhmbdkijpocmaaGreatDoor
open Go.RowKit Go.Shelf Go.Sort Go.Lib
set_option maxHeartbeats 8000000 in
theorem nAns_m00 (c : Kc) (l : List Ke) (va vc vl : Value) (w : World) (HA : Nls w va c.ws) (HC : Sls w vc c.cs) (HL : Kls w vl l) (h9 : l.length ≤ 100000) (ha : c.ws.length ≤ 100000) (hc : c.cs.length ≤ 100000) (hh : c.h.size ≤ 9223372036854775807) (hs : ∀ r ∈ l, r.s.size ≤ 9223372036854775807) (p0 : -9223372036854775808 ≤ c.p) (p1 : c.p ≤ 9223372036854775807) (c0 : unI l 0 < 0) (c1 : (nmR l 1).2 = true) (c4 : (nmR l 4).2 = true) (c5 : hasB (nmR l 1).1 0 = true) (c6 : chA c.ws (nmR l 4).1 ≠ 0) (c7 : c.h.size ≠ 0) (c8 : c.p ≠ 0) :
    Calls Tryz.prog 12 #[kcV c va vc, vl] w fun e w' => (∃ u, e = .returned (.tuple #[u, .int .i64 (chA c.ws (nmR l 4).1)]) ∧ Kls w' u ([⟨true, 1, tw 0⟩, ⟨true, 4, tw (chA c.ws (nmR l 4).1)⟩] ++ cksL c.cs ++ [⟨true, 6, c.h⟩] ++ [⟨true, 7, tw (c.p % 65536)⟩] ++ [endK])) ∧ Below w.heap.size w w' := by
  obtain ⟨ws, h, p, cs⟩ := c
  unfold kcV
  simp only at HA HC ha hc hh p0 p1 ⊢
  have A1 := Arr.new w #[va, Value.string h, .int .i64 p, vc] 25 _ rfl _ 4 (kcC_at va vc h p)
  have hB0 := Bel.al (Below.refl w.heap.size w) (.cells #[va, .string h, .int .i64 p, vc] 25)
  have HL1 := HL.to hB0
  have HA1 := HA.to hB0
  have HC1 := HC.to hB0
  clear HL HA HC
  have CU := rUnknown_any l vl _ HL1 (by omega)
  have CE := fun W => nend_any W
  unfold keV endK at CE
  simp only at CE
  unfold endK
  have CT := fun W => ntwo_any 0 (by decide) (by decide) W
  generalize tw 0 = T at *
  obtain ⟨iK, hi, hz0, hz1, hz2⟩ := info_parts Tryz.infoK
  replace c6 : chA ws (nmR l 4).1 ≠ 0 := c6
  replace c7 : h.size ≠ 0 := c7
  replace c8 : p ≠ 0 := c8
  obtain ⟨x1, x2, _⟩ := chA_is _ _ c6
  have rX : chA ws (nmR l 4).1 = 15 ∨ chA ws (nmR l 4).1 = 17 := by rcases ksI_cases (chA ws (nmR l 4).1) with q | q | q <;> omega
  obtain ⟨X, hX⟩ : ∃ X, chA ws (nmR l 4).1 = X := ⟨_, rfl⟩
  have HX0 : Hid (chA ws (nmR l 4).1 = X) := hX
  have CTX := fun W => ntwo_any X (by rw [← hX]; rcases rX with q | q <;> omega) (by rw [← hX]; rcases rX with q | q <;> omega) W
  rw [hX]
  rw [hX] at c6
  have iX : (X == 0) = false := by simpa using c6
  generalize tw X = TX at *
  clear x1 x2 rX hX
  have em := emp_no h (by omega)
  have ip : (p == 0) = false := by simpa using c8
  have CTP := fun W => ntwo_any (p % 65536) (by omega) (by omega) W
  have hw : wrap64 ((IntKind.u64.wrap p).tmod 65536) = p % 65536 := by
    rw [IntKind.wrap_u64, Int.tmod_eq_emod_of_nonneg (by omega)]
    unfold wrap64
    omega
  generalize tw (p % 65536) = TP at *
  go_enter Tryz.func12, Tryz.ntmps12
  go_wp2_with fail
  generalize w.alloc (.cells #[va, .string h, .int .i64 p, vc] 25) = W1 at *
  have CN1 := fun W (hb : Below W1.heap.size W1 W) => nnumbers_any l 1 vl W (HL1.to hb) h9 hs
  have CN4 := fun W (hb : Below W1.heap.size W1 W) => nnumbers_any l 4 vl W (HL1.to hb) h9 hs
  rw [c1] at CN1
  rw [c4] at CN4
  have l1 : (nmR l 1).1.length ≤ 100000 := nm_len l 1
  have l4 : (nmR l 4).1.length ≤ 100000 := nm_len l 4
  generalize unI l 0 = U at *
  generalize (nmR l 1).1 = N1 at *
  generalize (nmR l 4).1 = N4 at *
  refine CU.mono ?_
  rintro e w2 ⟨rfl, b2⟩
  clear CU
  go_wp2_with fail
  refine (CN1 _ b2).mono ?_
  rintro e w3 ⟨⟨u1, rfl, k1⟩, b3⟩
  have B3 := Bel.call b2 b3
  clear CN1 b2
  go_wp2_with fail
  refine (CN4 _ B3).mono ?_
  rintro e w4 ⟨⟨u4, rfl, k4⟩, b4⟩
  have B4 := Bel.call B3 b4
  have k1' := k1.to b4
  clear CN4 b4 b3 B3 k1
  have CH := nhas_any N1 0 u1 w4 k1' (by omega)
  rw [c5] at CH
  obtain ⟨a1, d1, rfl, _⟩ := k1'
  have hu4 : ∃ a c, u4 = .slice a N4.length c := by obtain ⟨a, c, e, _⟩ := k4; exact ⟨a, c, e⟩
  obtain ⟨a4, d4, rfl⟩ := hu4
  go_wp2_with fail
  refine CH.mono ?_
  rintro e w5 ⟨rfl, rfl⟩
  clear CH
  go_wp2_with fail
  refine (CT _).mono ?_
  rintro e w6 ⟨rfl, b6⟩
  have B6 := Bel.call B4 b6
  have K4 : Hid (Nls w6 (.slice a4 N4.length d4) N4) := Nls.to k4 b6
  clear CT b6 B4 k4
  have OW : Hid ((w6.alloc (.cells #[.bool true, .int .i64 1, .string T] 50)).ownsRow W1.heap.size 50 3 (.slice (some ⟨w6.heap.size, 0, none⟩) 1 1) 1 (flK [⟨true, 1, T⟩])) := own_newK w6 [⟨true, 1, T⟩] B6.size (by simp)
  have B7 := Bel.al B6 (.cells #[.bool true, .int .i64 1, .string T] 50)
  have K7 : Hid (Nls (w6.alloc (.cells #[.bool true, .int .i64 1, .string T] 50)) (.slice a4 N4.length d4) N4) := Nls.to K4.out (Bel.al (Below.refl _ w6) _)
  go_upto_region 10 with (fail)
  generalize w6.alloc (.cells #[.bool true, .int .i64 1, .string T] 50) = W7 at *
  clear B6 K4
  generalize w6.heap.size = b6 at *
  have A7 := A1.to' B7
  have HA7 := HA1.to B7
  obtain ⟨aa, ca, rfl, fa⟩ := HA7
  obtain ⟨ac, cc, rfl, fc0⟩ := HC1
  have HC2 : Hid (Sls W1 (.slice ac cs.length cc) cs) := ⟨ac, cc, rfl, fc0⟩
  have HC3 : Hid (∀ (i : Nat) (s : ByteArray), cs[i]? = some s → ∃ g o, ac = some ⟨g, o, none⟩ ∧ g < W1.heap.size ∧ W1.cell? ⟨g, o + i, none⟩ = some (.string s)) := fc0
  clear fc0
  obtain ⟨n, hn⟩ : ∃ n, ws.length = n := ⟨_, rfl⟩
  have HN : Hid (ws.length = n) := hn
  have n0 : (n : Int) ≤ 100000 := by omega
  have FA : Hid (∀ (i : Nat) (m : Int), ws[i]? = some m → ∃ g o, aa = some ⟨g, o, none⟩ ∧ g < W7.heap.size ∧ W7.cell? ⟨g, o + i, none⟩ = some (.int .i64 m)) := fa
  have q0 := A7.cv 0 (by omega) (.slice aa ws.length ca) rfl
  rw [hn] at q0
  have CHA := fun x => nhas_any N4 x (.slice a4 N4.length d4) W7 K7.out (by omega)
  clear fa hn
  go_wp2_with fail
  go_loop [11, 12] (fun x i => ∃ (j : Nat) (y : Int), j ≤ n ∧ i = .int .i64 (j : Int) ∧ x = .int .i64 y ∧ Hid (chA (ws.take j) N4 = y)) (fun _ i => n - (RowKit.intOf i).toNat)
  case atStart => exact ⟨0, 0, by omega, rfl, rfl, rfl⟩
  case round =>
    obtain ⟨j, y, hj, rfl, rfl, hY⟩ := hrel
    have j0 : (0 : Int) ≤ (j : Int) := by omega
    by_cases hgo : j < n ∧ y = 0
    · obtain ⟨hlt, hy0⟩ := hgo
      subst hy0
      have j1 : (j : Int) < (n : Int) := by omega
      obtain ⟨x, hx⟩ : ∃ x, ws[j]? = some x := ⟨_, List.getElem?_eq_getElem (by rw [HN.out]; exact hlt)⟩
      obtain ⟨g, o, rfl, lt, e0⟩ := FA.out j x hx
      have ht := ch_take ws N4 j x hx
      rw [hY.out, if_pos rfl] at ht
      have CK := nKeySize_any x W7
      have CH2 := CHA x
      by_cases hk : 0 < ksI x
      · cases hh2 : hasB N4 x
        · rw [hh2, if_neg (fun q => by simp at q)] at ht
          rw [hh2] at CH2
          have HT : Hid (chA (ws.take (j + 1)) N4 = 0) := ht
          clear ht hx FA HN hY hh2 CHA HA1 HL1 A1 OW K7 B7
          generalize ksI x = ks at *
          go_wp2_with fail
          refine CK.mono ?_
          rintro e w8 ⟨rfl, rfl⟩
          go_wp2_with fail
          refine CH2.mono ?_
          rintro e w8 ⟨rfl, rfl⟩
          go_wp2_with fail
          exact ⟨⟨j + 1, 0, by omega, by go_num, rfl, HT⟩, by simp [RowKit.intOf]; omega⟩
        · rw [if_pos ⟨hk, hh2⟩] at ht
          rw [hh2] at CH2
          have HT : Hid (chA (ws.take (j + 1)) N4 = x) := ht
          clear ht hx FA HN hY hh2 CHA HA1 HL1 A1 OW K7 B7
          generalize ksI x = ks at *
          go_wp2_with fail
          refine CK.mono ?_
          rintro e w8 ⟨rfl, rfl⟩
          go_wp2_with fail
          refine CH2.mono ?_
          rintro e w8 ⟨rfl, rfl⟩
          go_wp2_with fail
          exact ⟨⟨j + 1, x, by omega, by go_num, rfl, HT⟩, by simp [RowKit.intOf]; omega⟩
      · rw [if_neg (fun q => hk q.1)] at ht
        have HT : Hid (chA (ws.take (j + 1)) N4 = 0) := ht
        clear ht hx FA HN hY CHA HA1 HL1 A1 OW K7 B7 CH2
        generalize ksI x = ks at *
        go_wp2_with fail
        refine CK.mono ?_
        rintro e w8 ⟨rfl, rfl⟩
        go_wp2_with fail
        exact ⟨⟨j + 1, 0, by omega, by go_num, rfl, HT⟩, by simp [RowKit.intOf]; omega⟩
    · have hyX : y = X := by
        by_cases q : y = 0
        · have hje : j = n := by omega
          have : ws.take j = ws := List.take_of_length_le (by rw [HN.out]; omega)
          rw [← hY.out, this]
          exact HX0.out
        · have := ch_end ws N4 j (by rw [hY.out]; exact q)
          rw [← hY.out, ← this]
          exact HX0.out
      subst hyX
      clear hgo FA HN hY CHA HA1 HL1 K7 HX0
      by_cases hjn : j < n
      · have j1 : (j : Int) < (n : Int) := by omega
        clear hjn hj
        go_wp2_with fail
        refine (CTX _).mono ?_
        rintro e w8 ⟨rfl, b8⟩
        have B8 := Bel.call B7 b8
        have O8 : Hid (w8.ownsRow W1.heap.size 50 3 (.slice (some ⟨b6, 0, none⟩) 1 1) 1 (flK [⟨true, 1, T⟩])) := own_to' OW.out b8
        clear CTX b8 B7 OW A7 q0
        have hs1 := B8.size
        have sb1 : ∀ ob, W1.heap.size ≤ (w8.alloc ob).heap.size := fun ob => by have := B8.size; simp; omega
        go_wp2_with (at_builtin; refine stopAt ?_)
        unfold Stop
        refine wpList_append_own _ rfl _ _ 26 rfl W1.heap.size 50 iK (.agg #[.bool false, .int .i64 0, .string ⟨#[]⟩]) 3 32 Tryz.underlying26 hi hz0 hz1 hz2 rfl (by decide) _ _ _ rfl (World.ownsRow.alloc O8.out _) ⟨w8.heap.size, 0, none⟩ 1 1 [.bool true, .int .i64 4, .string TX] rfl rfl (news_new w8 [.bool true, .int .i64 4, .string TX] 50) (fun u hu => by simp at hu; rcases hu with rfl | rfl | rfl <;> rfl) (by unfold maxLen; omega) (by omega) (sb1 _) ?_
        intro v1 x1 ho1 hg1 hn1
        have b1x : Below W1.heap.size W1 x1 := (B8.alloc B8.size _).grown hg1 (by go_size) (fun q hq => (O8.out.lt q hq).1)
        have O1 : Hid (x1.ownsRow W1.heap.size 50 3 v1 2 (flK ([⟨true, 1, T⟩] ++ [⟨true, 4, TX⟩]))) := by
          show World.ownsRow _ _ _ _ _ _ _
          rw [flK_app]
          exact ho1
        clear hg1 ho1 hn1 sb1 hs1 O8 B8
        have A8 := A1.to' b1x
        have HC8 := HC2.out.to b1x
        obtain ⟨ac8, cc8, ec8, fc⟩ := HC8
        injection ec8 with ea _ ec
        subst ea ec
        obtain ⟨m, hm⟩ : ∃ m, cs.length = m := ⟨_, rfl⟩
        have HM : Hid (cs.length = m) := hm
        have m0 : (m : Int) ≤ 100000 := by omega
        rw [hm] at A8
        have FC : Hid (∀ (i : Nat) (s : ByteArray), cs[i]? = some s → ∃ g o, ac = some ⟨g, o, none⟩ ∧ g < W1.heap.size ∧ W1.cell? ⟨g, o + i, none⟩ = some (.string s)) := fun i s hi => by
          obtain ⟨g, o, e, lt, q⟩ := HC3.out i s hi
          exact ⟨g, o, e, lt, q⟩
        clear fc hm HC2 HC3
        go_wp2_with fail
        go_loopw [10, 13] (fun u i wr => ∃ (q : Nat), q ≤ m ∧ i = .int .i64 (q : Int) ∧ wr.ownsRow W1.heap.size 50 3 u (2 + q) (flK ([⟨true, 1, T⟩, ⟨true, 4, TX⟩] ++ cksL (cs.take q))) ∧ Below W1.heap.size W1 wr) (fun _ i _ => m - (RowKit.intOf i).toNat)
        case atStart => exact ⟨0, by omega, rfl, O1.out, b1x⟩
        case round =>
          clear O1 b1x A8 j0 j1
          obtain ⟨q, hq, rfl, hown, hB⟩ := hrel
          have O2 : Hid (_) := hown
          have A9 := A1.to' hB
          have q0 : (0 : Int) ≤ (q : Int) := by omega
          have r3 := A9.cv 3 (by omega) (.slice ac cs.length cc) rfl
          rw [HM.out] at r3
          by_cases hlt : q < m
          · have q1 : (q : Int) < (m : Int) := by omega
            obtain ⟨s, hsx⟩ : ∃ s, cs[q]? = some s := ⟨_, List.getElem?_eq_getElem (by rw [HM.out]; exact hlt)⟩
            obtain ⟨g, oo, rfl, lt, e0⟩ := FC.out q s hsx
            have e1 := (hB.cell (p := ⟨g, oo + q, none⟩) lt).trans e0
            have HK : Hid (cksL (cs.take (q + 1)) = cksL (cs.take q) ++ [⟨false, 5, s⟩]) := cks_take cs q s hsx
            clear hsx e0 FC HM A9 hown
            have hs2 := hB.size
            have sb2 : ∀ ob, W1.heap.size ≤ (wr.alloc ob).heap.size := fun ob => by simp; omega
            go_wp2_with (at_builtin; refine stopAt ?_)
            unfold Stop
            refine wpList_append_own _ rfl _ _ 26 rfl W1.heap.size 50 iK (.agg #[.bool false, .int .i64 0, .string ⟨#[]⟩]) 3 32 Tryz.underlying26 hi hz0 hz1 hz2 rfl (by decide) _ _ _ rfl (World.ownsRow.alloc O2.out _) ⟨wr.heap.size, 0, none⟩ 1 1 [.bool false, .int .i64 5, .string s] rfl rfl (news_new wr [.bool false, .int .i64 5, .string s] 50) (fun u hu => by simp at hu; rcases hu with rfl | rfl | rfl <;> rfl) (by unfold maxLen; omega) (by omega) (sb2 _) ?_
            intro v2 x2 ho2 hg2 hn2
            have b2x : Below W1.heap.size W1 x2 := (hB.alloc hB.size _).grown hg2 (by go_size) (fun z hz => (World.ownsRow.lt O2.out z hz).1)
            have O3 : Hid (x2.ownsRow W1.heap.size 50 3 v2 (2 + (q + 1)) (flK ([⟨true, 1, T⟩, ⟨true, 4, TX⟩] ++ cksL (cs.take (q + 1))))) := by
              show World.ownsRow _ _ _ _ _ _ _
              rw [HK.out, ← List.append_assoc, flK_app]
              exact ho2
            clear hg2 ho2 hn2 sb2 hs2 O2 hB HK
            go_wp2_with fail
            refine ⟨⟨q + 1, by omega, by first | rfl | (congr 1; omega) | simp, O3.out, b2x⟩, ?_⟩
            simp [RowKit.intOf]; omega
          · have hqm : q = m := by omega
            subst hqm
            have hT : cs.take q = cs := List.take_of_length_le (by rw [HM.out]; omega)
            rw [hT] at hown
            have O2 : Hid (wr.ownsRow W1.heap.size 50 3 u10 (2 + q) (flK ([⟨true, 1, T⟩, ⟨true, 4, TX⟩] ++ cksL cs))) := hown
            have HM9 : Hid (cs.length = q) := HM.out
            clear hown FC HM hT
            have r1 := A9.cv 1 (by omega) (.string h) rfl
            have r2 := A9.cv 2 (by omega) (.int .i64 p) rfl
            clear A9
            have hs5 := hB.size
            have sb5 : ∀ ob, W1.heap.size ≤ (wr.alloc ob).heap.size := fun ob => by have := hB.size; simp; omega
            go_wp2_with (at_builtin; refine stopAt ?_)
            unfold Stop
            refine wpList_append_own _ rfl _ _ 26 rfl W1.heap.size 50 iK (.agg #[.bool false, .int .i64 0, .string ⟨#[]⟩]) 3 32 Tryz.underlying26 hi hz0 hz1 hz2 rfl (by decide) _ _ _ rfl (World.ownsRow.alloc O2.out _) ⟨wr.heap.size, 0, none⟩ 1 1 [.bool true, .int .i64 6, .string h] rfl rfl (news_new wr [.bool true, .int .i64 6, .string h] 50) (fun u hu => by simp at hu; rcases hu with rfl | rfl | rfl <;> rfl) (by unfold maxLen; omega) (by omega) (sb5 _) ?_
            intro v5 x5 ho5 hg5 hn5
            have b5x : Below W1.heap.size W1 x5 := (hB.alloc hB.size _).grown hg5 (by go_size) (fun q hq => (O2.out.lt q hq).1)
            have O5 : Hid (x5.ownsRow W1.heap.size 50 3 v5 ((2 + q) + 1) (flK (([⟨true, 1, T⟩, ⟨true, 4, TX⟩] ++ cksL cs) ++ [⟨true, 6, h⟩]))) := by
              show World.ownsRow _ _ _ _ _ _ _
              rw [flK_app]
              exact ho5
            clear hg5 ho5 hn5 sb5 hs5 O2 hB
            have A9 := A1.to' b5x
            have r2 := A9.cv 2 (by omega) (.int .i64 p) rfl
            clear A9
            go_wp2_with fail
            refine (CTP _).mono ?_
            rintro e y1 ⟨rfl, hb⟩
            have OQ : Hid (y1.ownsRow W1.heap.size 50 3 v5 ((2 + q) + 1) (flK (([⟨true, 1, T⟩, ⟨true, 4, TX⟩] ++ cksL cs) ++ [⟨true, 6, h⟩]))) := own_to' O5.out hb
            have BQ := Bel.call b5x hb
            clear CTP hb O5 b5x
            have hs6 := BQ.size
            have sb6 : ∀ ob, W1.heap.size ≤ (y1.alloc ob).heap.size := fun ob => by have := BQ.size; simp; omega
            go_wp2_with (at_builtin; refine stopAt ?_)
            unfold Stop
            refine wpList_append_own _ rfl _ _ 26 rfl W1.heap.size 50 iK (.agg #[.bool false, .int .i64 0, .string ⟨#[]⟩]) 3 32 Tryz.underlying26 hi hz0 hz1 hz2 rfl (by decide) _ _ _ rfl (World.ownsRow.alloc OQ.out _) ⟨y1.heap.size, 0, none⟩ 1 1 [.bool true, .int .i64 7, .string TP] rfl rfl (news_new y1 [.bool true, .int .i64 7, .string TP] 50) (fun u hu => by simp at hu; rcases hu with rfl | rfl | rfl <;> rfl) (by unfold maxLen; omega) (by omega) (sb6 _) ?_
            intro v6 x6 ho6 hg6 hn6
            have b6x : Below W1.heap.size W1 x6 := (BQ.alloc BQ.size _).grown hg6 (by go_size) (fun q hq => (OQ.out.lt q hq).1)
            have O6 : Hid (x6.ownsRow W1.heap.size 50 3 v6 (((2 + q) + 1) + 1) (flK ((([⟨true, 1, T⟩, ⟨true, 4, TX⟩] ++ cksL cs) ++ [⟨true, 6, h⟩]) ++ [⟨true, 7, TP⟩]))) := by
              show World.ownsRow _ _ _ _ _ _ _
              rw [flK_app]
              exact ho6
            clear hg6 ho6 hn6 sb6 hs6 OQ BQ
            go_wp2_with fail
            refine (CE _).mono ?_
            rintro e y2 ⟨rfl, hb⟩
            have OE : Hid (y2.ownsRow W1.heap.size 50 3 v6 (((2 + q) + 1) + 1) (flK ((([⟨true, 1, T⟩, ⟨true, 4, TX⟩] ++ cksL cs) ++ [⟨true, 6, h⟩]) ++ [⟨true, 7, TP⟩]))) := own_to' O6.out hb
            have BE := Bel.call b6x hb
            clear CE hb O6 b6x
            have hs7 := BE.size
            have sb7 : ∀ ob, W1.heap.size ≤ (y2.alloc ob).heap.size := fun ob => by have := BE.size; simp; omega
            go_wp2_with (at_builtin; refine stopAt ?_)
            unfold Stop
            refine wpList_append_own _ rfl _ _ 26 rfl W1.heap.size 50 iK (.agg #[.bool false, .int .i64 0, .string ⟨#[]⟩]) 3 32 Tryz.underlying26 hi hz0 hz1 hz2 rfl (by decide) _ _ _ rfl (World.ownsRow.alloc OE.out _) ⟨y2.heap.size, 0, none⟩ 1 1 [.bool true, .int .i64 0, .string ⟨#[]⟩] rfl rfl (news_new y2 [.bool true, .int .i64 0, .string ⟨#[]⟩] 50) (fun u hu => by simp at hu; rcases hu with rfl | rfl | rfl <;> rfl) (by unfold maxLen; omega) (by omega) (sb7 _) ?_
            intro v7 x7 ho7 hg7 hn7
            have b7x : Below W1.heap.size W1 x7 := (BE.alloc BE.size _).grown hg7 (by go_size) (fun q hq => (OE.out.lt q hq).1)
            have O7 : Hid (x7.ownsRow W1.heap.size 50 3 v7 ((((2 + q) + 1) + 1) + 1) (flK (((([⟨true, 1, T⟩, ⟨true, 4, TX⟩] ++ cksL cs) ++ [⟨true, 6, h⟩]) ++ [⟨true, 7, TP⟩]) ++ [⟨true, 0, ⟨#[]⟩⟩]))) := by
              show World.ownsRow _ _ _ _ _ _ _
              rw [flK_app]
              exact ho7
            clear hg7 ho7 hn7 sb7 hs7 OE BE
            have KF : Hid (Kls x7 v7 (((([⟨true, 1, T⟩, ⟨true, 4, TX⟩] ++ cksL cs) ++ [⟨true, 6, h⟩]) ++ [⟨true, 7, TP⟩]) ++ [⟨true, 0, ⟨#[]⟩⟩])) := Kls.own (b := W1.heap.size) (by rw [show ((((([⟨true, 1, T⟩, ⟨true, 4, TX⟩] ++ cksL cs) ++ [⟨true, 6, h⟩]) ++ [⟨true, 7, TP⟩]) ++ [⟨true, 0, ⟨#[]⟩⟩]) : List Ke).length = (((2 + q) + 1) + 1) + 1 by simp [cksL]; have := HM9.out; omega]; exact O7.out)
            clear O7
            go_wp2_with fail
            refine bodyPost_ret (v := .tuple #[v7, .int .i64 y]) (by simp [results, Tryz.results12, go_sem]) rfl ⟨⟨_, rfl, KF.out⟩, Bel.call hB0 b7x⟩
      · have j1 : ¬ (j : Int) < (n : Int) := by omega
        clear hjn hj
        go_wp2_with fail
        refine (CTX _).mono ?_
        rintro e w8 ⟨rfl, b8⟩
        have B8 := Bel.call B7 b8
        have O8 : Hid (w8.ownsRow W1.heap.size 50 3 (.slice (some ⟨b6, 0, none⟩) 1 1) 1 (flK [⟨true, 1, T⟩])) := own_to' OW.out b8
        clear CTX b8 B7 OW A7 q0
        have hs1 := B8.size
        have sb1 : ∀ ob, W1.heap.size ≤ (w8.alloc ob).heap.size := fun ob => by have := B8.size; simp; omega
        go_wp2_with (at_builtin; refine stopAt ?_)
        unfold Stop
        refine wpList_append_own _ rfl _ _ 26 rfl W1.heap.size 50 iK (.agg #[.bool false, .int .i64 0, .string ⟨#[]⟩]) 3 32 Tryz.underlying26 hi hz0 hz1 hz2 rfl (by decide) _ _ _ rfl (World.ownsRow.alloc O8.out _) ⟨w8.heap.size, 0, none⟩ 1 1 [.bool true, .int .i64 4, .string TX] rfl rfl (news_new w8 [.bool true, .int .i64 4, .string TX] 50) (fun u hu => by simp at hu; rcases hu with rfl | rfl | rfl <;> rfl) (by unfold maxLen; omega) (by omega) (sb1 _) ?_
        intro v1 x1 ho1 hg1 hn1
        have b1x : Below W1.heap.size W1 x1 := (B8.alloc B8.size _).grown hg1 (by go_size) (fun q hq => (O8.out.lt q hq).1)
        have O1 : Hid (x1.ownsRow W1.heap.size 50 3 v1 2 (flK ([⟨true, 1, T⟩] ++ [⟨true, 4, TX⟩]))) := by
          show World.ownsRow _ _ _ _ _ _ _
          rw [flK_app]
          exact ho1
        clear hg1 ho1 hn1 sb1 hs1 O8 B8
        have A8 := A1.to' b1x
        have HC8 := HC2.out.to b1x
        obtain ⟨ac8, cc8, ec8, fc⟩ := HC8
        injection ec8 with ea _ ec
        subst ea ec
        obtain ⟨m, hm⟩ : ∃ m, cs.length = m := ⟨_, rfl⟩
        have HM : Hid (cs.length = m) := hm
        have m0 : (m : Int) ≤ 100000 := by omega
        rw [hm] at A8
        have FC : Hid (∀ (i : Nat) (s : ByteArray), cs[i]? = some s → ∃ g o, ac = some ⟨g, o, none⟩ ∧ g < W1.heap.size ∧ W1.cell? ⟨g, o + i, none⟩ = some (.string s)) := fun i s hi => by
          obtain ⟨g, o, e, lt, q⟩ := HC3.out i s hi
          exact ⟨g, o, e, lt, q⟩
        clear fc hm HC2 HC3
        go_wp2_with fail
        go_loopw [10, 13] (fun u i wr => ∃ (q : Nat), q ≤ m ∧ i = .int .i64 (q : Int) ∧ wr.ownsRow W1.heap.size 50 3 u (2 + q) (flK ([⟨true, 1, T⟩, ⟨true, 4, TX⟩] ++ cksL (cs.take q))) ∧ Below W1.heap.size W1 wr) (fun _ i _ => m - (RowKit.intOf i).toNat)
        case atStart => exact ⟨0, by omega, rfl, O1.out, b1x⟩
        case round =>
          clear O1 b1x A8 j0 j1
          obtain ⟨q, hq, rfl, hown, hB⟩ := hrel
          have O2 : Hid (_) := hown
          have A9 := A1.to' hB
          have q0 : (0 : Int) ≤ (q : Int) := by omega
          have r3 := A9.cv 3 (by omega) (.slice ac cs.length cc) rfl
          rw [HM.out] at r3
          by_cases hlt : q < m
          · have q1 : (q : Int) < (m : Int) := by omega
            obtain ⟨s, hsx⟩ : ∃ s, cs[q]? = some s := ⟨_, List.getElem?_eq_getElem (by rw [HM.out]; exact hlt)⟩
            obtain ⟨g, oo, rfl, lt, e0⟩ := FC.out q s hsx
            have e1 := (hB.cell (p := ⟨g, oo + q, none⟩) lt).trans e0
            have HK : Hid (cksL (cs.take (q + 1)) = cksL (cs.take q) ++ [⟨false, 5, s⟩]) := cks_take cs q s hsx
            clear hsx e0 FC HM A9 hown
            have hs2 := hB.size
            have sb2 : ∀ ob, W1.heap.size ≤ (wr.alloc ob).heap.size := fun ob => by simp; omega
            go_wp2_with (at_builtin; refine stopAt ?_)
            unfold Stop
            refine wpList_append_own _ rfl _ _ 26 rfl W1.heap.size 50 iK (.agg #[.bool false, .int .i64 0, .string ⟨#[]⟩]) 3 32 Tryz.underlying26 hi hz0 hz1 hz2 rfl (by decide) _ _ _ rfl (World.ownsRow.alloc O2.out _) ⟨wr.heap.size, 0, none⟩ 1 1 [.bool false, .int .i64 5, .string s] rfl rfl (news_new wr [.bool false, .int .i64 5, .string s] 50) (fun u hu => by simp at hu; rcases hu with rfl | rfl | rfl <;> rfl) (by unfold maxLen; omega) (by omega) (sb2 _) ?_
            intro v2 x2 ho2 hg2 hn2
            have b2x : Below W1.heap.size W1 x2 := (hB.alloc hB.size _).grown hg2 (by go_size) (fun z hz => (World.ownsRow.lt O2.out z hz).1)
            have O3 : Hid (x2.ownsRow W1.heap.size 50 3 v2 (2 + (q + 1)) (flK ([⟨true, 1, T⟩, ⟨true, 4, TX⟩] ++ cksL (cs.take (q + 1))))) := by
              show World.ownsRow _ _ _ _ _ _ _
              rw [HK.out, ← List.append_assoc, flK_app]
              exact ho2
            clear hg2 ho2 hn2 sb2 hs2 O2 hB HK
            go_wp2_with fail
            refine ⟨⟨q + 1, by omega, by first | rfl | (congr 1; omega) | simp, O3.out, b2x⟩, ?_⟩
            simp [RowKit.intOf]; omega
          · have hqm : q = m := by omega
            subst hqm
            have hT : cs.take q = cs := List.take_of_length_le (by rw [HM.out]; omega)
            rw [hT] at hown
            have O2 : Hid (wr.ownsRow W1.heap.size 50 3 u10 (2 + q) (flK ([⟨true, 1, T⟩, ⟨true, 4, TX⟩] ++ cksL cs))) := hown
            have HM9 : Hid (cs.length = q) := HM.out
            clear hown FC HM hT
            have r1 := A9.cv 1 (by omega) (.string h) rfl
            have r2 := A9.cv 2 (by omega) (.int .i64 p) rfl
            clear A9
            have hs5 := hB.size
            have sb5 : ∀ ob, W1.heap.size ≤ (wr.alloc ob).heap.size := fun ob => by have := hB.size; simp; omega
            go_wp2_with (at_builtin; refine stopAt ?_)
            unfold Stop
            refine wpList_append_own _ rfl _ _ 26 rfl W1.heap.size 50 iK (.agg #[.bool false, .int .i64 0, .string ⟨#[]⟩]) 3 32 Tryz.underlying26 hi hz0 hz1 hz2 rfl (by decide) _ _ _ rfl (World.ownsRow.alloc O2.out _) ⟨wr.heap.size, 0, none⟩ 1 1 [.bool true, .int .i64 6, .string h] rfl rfl (news_new wr [.bool true, .int .i64 6, .string h] 50) (fun u hu => by simp at hu; rcases hu with rfl | rfl | rfl <;> rfl) (by unfold maxLen; omega) (by omega) (sb5 _) ?_
            intro v5 x5 ho5 hg5 hn5
            have b5x : Below W1.heap.size W1 x5 := (hB.alloc hB.size _).grown hg5 (by go_size) (fun q hq => (O2.out.lt q hq).1)
            have O5 : Hid (x5.ownsRow W1.heap.size 50 3 v5 ((2 + q) + 1) (flK (([⟨true, 1, T⟩, ⟨true, 4, TX⟩] ++ cksL cs) ++ [⟨true, 6, h⟩]))) := by
              show World.ownsRow _ _ _ _ _ _ _
              rw [flK_app]
              exact ho5
            clear hg5 ho5 hn5 sb5 hs5 O2 hB
            have A9 := A1.to' b5x
            have r2 := A9.cv 2 (by omega) (.int .i64 p) rfl
            clear A9
            go_wp2_with fail
            refine (CTP _).mono ?_
            rintro e y1 ⟨rfl, hb⟩
            have OQ : Hid (y1.ownsRow W1.heap.size 50 3 v5 ((2 + q) + 1) (flK (([⟨true, 1, T⟩, ⟨true, 4, TX⟩] ++ cksL cs) ++ [⟨true, 6, h⟩]))) := own_to' O5.out hb
            have BQ := Bel.call b5x hb
            clear CTP hb O5 b5x
            have hs6 := BQ.size
            have sb6 : ∀ ob, W1.heap.size ≤ (y1.alloc ob).heap.size := fun ob => by have := BQ.size; simp; omega
            go_wp2_with (at_builtin; refine stopAt ?_)
            unfold Stop
            refine wpList_append_own _ rfl _ _ 26 rfl W1.heap.size 50 iK (.agg #[.bool false, .int .i64 0, .string ⟨#[]⟩]) 3 32 Tryz.underlying26 hi hz0 hz1 hz2 rfl (by decide) _ _ _ rfl (World.ownsRow.alloc OQ.out _) ⟨y1.heap.size, 0, none⟩ 1 1 [.bool true, .int .i64 7, .string TP] rfl rfl (news_new y1 [.bool true, .int .i64 7, .string TP] 50) (fun u hu => by simp at hu; rcases hu with rfl | rfl | rfl <;> rfl) (by unfold maxLen; omega) (by omega) (sb6 _) ?_
            intro v6 x6 ho6 hg6 hn6
            have b6x : Below W1.heap.size W1 x6 := (BQ.alloc BQ.size _).grown hg6 (by go_size) (fun q hq => (OQ.out.lt q hq).1)
            have O6 : Hid (x6.ownsRow W1.heap.size 50 3 v6 (((2 + q) + 1) + 1) (flK ((([⟨true, 1, T⟩, ⟨true, 4, TX⟩] ++ cksL cs) ++ [⟨true, 6, h⟩]) ++ [⟨true, 7, TP⟩]))) := by
              show World.ownsRow _ _ _ _ _ _ _
              rw [flK_app]
              exact ho6
            clear hg6 ho6 hn6 sb6 hs6 OQ BQ
            go_wp2_with fail
            refine (CE _).mono ?_
            rintro e y2 ⟨rfl, hb⟩
            have OE : Hid (y2.ownsRow W1.heap.size 50 3 v6 (((2 + q) + 1) + 1) (flK ((([⟨true, 1, T⟩, ⟨true, 4, TX⟩] ++ cksL cs) ++ [⟨true, 6, h⟩]) ++ [⟨true, 7, TP⟩]))) := own_to' O6.out hb
            have BE := Bel.call b6x hb
            clear CE hb O6 b6x
            have hs7 := BE.size
            have sb7 : ∀ ob, W1.heap.size ≤ (y2.alloc ob).heap.size := fun ob => by have := BE.size; simp; omega
            go_wp2_with (at_builtin; refine stopAt ?_)
            unfold Stop
            refine wpList_append_own _ rfl _ _ 26 rfl W1.heap.size 50 iK (.agg #[.bool false, .int .i64 0, .string ⟨#[]⟩]) 3 32 Tryz.underlying26 hi hz0 hz1 hz2 rfl (by decide) _ _ _ rfl (World.ownsRow.alloc OE.out _) ⟨y2.heap.size, 0, none⟩ 1 1 [.bool true, .int .i64 0, .string ⟨#[]⟩] rfl rfl (news_new y2 [.bool true, .int .i64 0, .string ⟨#[]⟩] 50) (fun u hu => by simp at hu; rcases hu with rfl | rfl | rfl <;> rfl) (by unfold maxLen; omega) (by omega) (sb7 _) ?_
            intro v7 x7 ho7 hg7 hn7
            have b7x : Below W1.heap.size W1 x7 := (BE.alloc BE.size _).grown hg7 (by go_size) (fun q hq => (OE.out.lt q hq).1)
            have O7 : Hid (x7.ownsRow W1.heap.size 50 3 v7 ((((2 + q) + 1) + 1) + 1) (flK (((([⟨true, 1, T⟩, ⟨true, 4, TX⟩] ++ cksL cs) ++ [⟨true, 6, h⟩]) ++ [⟨true, 7, TP⟩]) ++ [⟨true, 0, ⟨#[]⟩⟩]))) := by
              show World.ownsRow _ _ _ _ _ _ _
              rw [flK_app]
              exact ho7
            clear hg7 ho7 hn7 sb7 hs7 OE BE
            have KF : Hid (Kls x7 v7 (((([⟨true, 1, T⟩, ⟨true, 4, TX⟩] ++ cksL cs) ++ [⟨true, 6, h⟩]) ++ [⟨true, 7, TP⟩]) ++ [⟨true, 0, ⟨#[]⟩⟩])) := Kls.own (b := W1.heap.size) (by rw [show ((((([⟨true, 1, T⟩, ⟨true, 4, TX⟩] ++ cksL cs) ++ [⟨true, 6, h⟩]) ++ [⟨true, 7, TP⟩]) ++ [⟨true, 0, ⟨#[]⟩⟩]) : List Ke).length = (((2 + q) + 1) + 1) + 1 by simp [cksL]; have := HM9.out; omega]; exact O7.out)
            clear O7
            go_wp2_with fail
            refine bodyPost_ret (v := .tuple #[v7, .int .i64 y]) (by simp [results, Tryz.results12, go_sem]) rfl ⟨⟨_, rfl, KF.out⟩, Bel.call hB0 b7x⟩
end Go.Proofs.YtbhmbdkijpocmaaGreatDoor
