/- The program nego: granted. -/
import Derived.Test.YtmkfnfencllfnaaDoorJ3
set_option linter.all false
set_option maxRecDepth 100000
namespace Go.Proofs.YtmkfnfencllfnaaDoor
open Go.RowKit Go.Shelf Go.Sort
set_option maxHeartbeats 8000000 in
theorem pgr_11 (ws : List Int) (h : ByteArray) (p : Int) (cs : List ByteArray) (X : Int) (va vc : Value) (w : World) (HA : Nls w va ws) (HC : Sls w vc cs) (hc : cs.length ≤ 100000) (x0 : 0 ≤ X) (x1 : X ≤ 65535) (p0 : -9223372036854775808 ≤ p) (p1 : p ≤ 9223372036854775807) (c7 : h.size ≠ 0) (c8 : p ≠ 0) :
    Calls Tryd.prog 31 #[kcV ⟨ws, h, p, cs⟩ va vc, .int .i64 X] w fun e w' => (∃ u, e = .returned u ∧ Kls w' u ([⟨true, 1, tw 0⟩, ⟨true, 4, tw X⟩] ++ cksL cs ++ [⟨true, 6, h⟩] ++ [⟨true, 7, tw (p % 65536)⟩] ++ [endK])) ∧ Below w.heap.size w w' := by
  unfold kcV
  simp only
  have A1 := Arr.new w #[va, Value.string h, .int .i64 p, vc] 58 _ rfl _ 4 (kcC_at va vc h p)
  have hB0 := Bel.al (Below.refl w.heap.size w) (.cells #[va, .string h, .int .i64 p, vc] 58)
  have HC1 := HC.to hB0
  clear HC
  obtain ⟨aa, ca, rfl, _⟩ := HA
  generalize (ws.length : Nat) = nw at *
  unfold endK
  have CE := fun W => pend_any W
  have CP0 := fun W => pair1 0 (by decide) (by decide) W
  have CPX := fun W => pair1 X x0 x1 W
  have CM0 := fun W => pmust_any 1 (tw 0) W
  have CMX := fun W => pmust_any 4 (tw X) W
  have CPP := fun W => pair1 (p % 65536) (by omega) (by omega) W
  have CMP := fun W => pmust_any 7 (tw (p % 65536)) W
  have ip : (p == 0) = false := by simpa using c8
  have ib := i64_and16 p
  generalize tw (p % 65536) = TP at *
  have CMH := fun W => pmust_any 6 h W
  have em := emp_no h (by omega)
  generalize tw 0 = T at *
  generalize tw X = TX at *
  obtain ⟨iK, hi, hz0, hz1, hz2⟩ := info_parts Tryd.infoK
  have CY := fun s W => pmay_any 5 s W
  have hsW : w.heap.size + 1 = (w.alloc (.cells #[.slice aa nw ca, .string h, .int .i64 p, vc] 58)).heap.size := by rw [World.size_alloc]
  go_enter Tryd.func31, Tryd.ntmps31
  go_wp2_with fail
  generalize w.alloc (.cells #[.slice aa nw ca, .string h, .int .i64 p, vc] 58) = W1 at *
  clear hsW
  go_wp2_with fail
  refine (CP0 _).mono ?_
  rintro e w1 ⟨rfl, b1⟩
  clear CP0
  go_wp2_with fail
  refine (CM0 _).mono ?_
  rintro e w2 ⟨rfl, b2⟩
  replace b2 := Bel.call b1 b2
  clear CM0 b1
  go_wp2_with fail
  refine (CPX _).mono ?_
  rintro e w3 ⟨rfl, b3⟩
  replace b3 := Bel.call b2 b3
  clear CPX b2
  go_wp2_with fail
  refine (CMX _).mono ?_
  rintro e w4 ⟨rfl, b4⟩
  have B4 := Bel.call b3 b4
  clear CMX b3 b4
  have O1 : Hid ((w4.alloc (.cells #[.bool true, .int .i64 1, .string T, .bool true, .int .i64 4, .string TX] 60)).ownsRow W1.heap.size 60 3 (.slice (some ⟨w4.heap.size, 0, none⟩) 2 2) 2 (flK [⟨true, 1, T⟩, ⟨true, 4, TX⟩])) := own_newK w4 [⟨true, 1, T⟩, ⟨true, 4, TX⟩] B4.size (by simp)
  have b1x := Bel.al B4 (.cells #[.bool true, .int .i64 1, .string T, .bool true, .int .i64 4, .string TX] 60)
  go_upto_region 2 with (fail)
  generalize w4.alloc (.cells #[.bool true, .int .i64 1, .string T, .bool true, .int .i64 4, .string TX] 60) = W7 at *
  clear B4
  generalize w4.heap.size = b6 at *
  obtain ⟨ac, cc, rfl, fc0⟩ := HC1
  have FC : Hid (∀ (i : Nat) (s : ByteArray), cs[i]? = some s → ∃ g o, ac = some ⟨g, o, none⟩ ∧ g < W1.heap.size ∧ W1.cell? ⟨g, o + i, none⟩ = some (.string s)) := fc0
  clear fc0
  have A8 := A1.to' b1x
  obtain ⟨m, hm⟩ : ∃ m, cs.length = m := ⟨_, rfl⟩
  have HM : Hid (cs.length = m) := hm
  have m0 : (m : Int) ≤ 100000 := by omega
  have r38 := A8.cv 3 (by omega) (.slice ac cs.length cc) rfl
  rw [hm] at r38
  clear hm A8
  go_wp2_with fail
  go_loopw [5, 19] (fun u i wr => ∃ (q : Nat), q ≤ m ∧ i = .int .i64 (q : Int) ∧ wr.ownsRow W1.heap.size 60 3 u (2 + q) (flK ([⟨true, 1, T⟩, ⟨true, 4, TX⟩] ++ cksL (cs.take q))) ∧ Below W1.heap.size W1 wr) (fun _ i _ => m - (RowKit.intOf i).toNat)
  case atStart => exact ⟨0, by omega, rfl, O1.out, b1x⟩
  case round =>
    clear O1 b1x r38
    obtain ⟨q, hq, rfl, hown, hB⟩ := hrel
    have O2 : Hid (_) := hown
    have q0 : (0 : Int) ≤ (q : Int) := by omega
    by_cases hlt : q < m
    · have q1 : (q : Int) < (m : Int) := by omega
      obtain ⟨s, hsx⟩ : ∃ s, cs[q]? = some s := ⟨_, List.getElem?_eq_getElem (by rw [HM.out]; exact hlt)⟩
      obtain ⟨g, oo, rfl, lt, e0⟩ := FC.out q s hsx
      have e1 := (hB.cell (p := ⟨g, oo + q, none⟩) lt).trans e0
      have HK : Hid (cksL (cs.take (q + 1)) = cksL (cs.take q) ++ [⟨false, 5, s⟩]) := cks_take cs q s hsx
      clear hsx e0 FC HM hown
      go_wp2_with fail
      refine (CY s _).mono ?_
      rintro e y0 ⟨rfl, hb⟩
      have O2q : Hid (y0.ownsRow W1.heap.size 60 3 u5 (2 + q) (flK ([⟨true, 1, T⟩, ⟨true, 4, TX⟩] ++ cksL (cs.take q)))) := own_to' O2.out hb
      have hBq := Bel.call hB hb
      clear CY hb O2 hB
      have hsz2 := hBq.size
      have sb2 : ∀ ob, W1.heap.size ≤ (y0.alloc ob).heap.size := fun ob => by have := hBq.size; simp; omega
      go_wp2_with (at_builtin; refine stopAt ?_)
      unfold Stop
      refine wpList_append_own _ rfl _ _ 51 rfl W1.heap.size 60 iK (.agg #[.bool false, .int .i64 0, .string ⟨#[]⟩]) 3 32 Tryd.underlying51 hi hz0 hz1 hz2 rfl (by decide) _ _ _ rfl (World.ownsRow.alloc O2q.out _) ⟨y0.heap.size, 0, none⟩ 1 1 [.bool false, .int .i64 5, .string s] rfl rfl (news_new y0 [.bool false, .int .i64 5, .string s] 60) (fun u hu => by simp at hu; rcases hu with rfl | rfl | rfl <;> rfl) (by unfold maxLen; omega) (by omega) (sb2 _) ?_
      intro v2 x2 ho2 hg2 hn2
      have b2x : Below W1.heap.size W1 x2 := (hBq.alloc hBq.size _).grown hg2 (by go_size) (fun q hq => (World.ownsRow.lt O2q.out q hq).1)
      have O2 : Hid (x2.ownsRow W1.heap.size 60 3 v2 (2 + q + 1) (flK (([⟨true, 1, T⟩, ⟨true, 4, TX⟩] ++ cksL (cs.take q)) ++ [⟨false, 5, s⟩]))) := by
        show World.ownsRow _ _ _ _ _ _ _
        rw [flK_app]
        exact ho2
      clear hg2 ho2 hn2 sb2 hsz2 O2q hBq
      have O3 : Hid (x2.ownsRow W1.heap.size 60 3 v2 (2 + (q + 1)) (flK ([⟨true, 1, T⟩, ⟨true, 4, TX⟩] ++ cksL (cs.take (q + 1))))) := by
        show World.ownsRow _ _ _ _ _ _ _
        rw [HK.out, ← List.append_assoc]
        exact O2.out
      clear O2 HK
      go_wp2_with fail
      refine ⟨⟨q + 1, by omega, by first | rfl | (congr 1; omega) | simp, O3.out, b2x⟩, ?_⟩
      simp [RowKit.intOf]; omega
    · have hqm : q = m := by omega
      subst hqm
      have hT : cs.take q = cs := List.take_of_length_le (by rw [HM.out]; omega)
      rw [hT] at hown
      clear O2
      have O2 : Hid (wr.ownsRow W1.heap.size 60 3 u5 (2 + q) (flK ([⟨true, 1, T⟩, ⟨true, 4, TX⟩] ++ cksL cs))) := hown
      have HM9 : Hid (cs.length = q) := HM.out
      clear hown FC HM hT CY
      have A9 := A1.to' hB
      have r1 := A9.cv 1 (by omega) (.string h) rfl
      have r2 := A9.cv 2 (by omega) (.int .i64 p) rfl
      clear A9
      go_wp2_with fail
      refine (CMH _).mono ?_
      rintro e yh ⟨rfl, hb⟩
      have Oh : Hid (yh.ownsRow W1.heap.size 60 3 u5 ((2 + q)) (flK (([⟨true, 1, T⟩, ⟨true, 4, TX⟩] ++ cksL cs)))) := own_to' O2.out hb
      have Bh := Bel.call hB hb
      clear CMH hb O2 hB
      have hsz5 := Bh.size
      have sb5 : ∀ ob, W1.heap.size ≤ (yh.alloc ob).heap.size := fun ob => by have := Bh.size; simp; omega
      go_wp2_with (at_builtin; refine stopAt ?_)
      unfold Stop
      refine wpList_append_own _ rfl _ _ 51 rfl W1.heap.size 60 iK (.agg #[.bool false, .int .i64 0, .string ⟨#[]⟩]) 3 32 Tryd.underlying51 hi hz0 hz1 hz2 rfl (by decide) _ _ _ rfl (World.ownsRow.alloc Oh.out _) ⟨yh.heap.size, 0, none⟩ 1 1 [.bool true, .int .i64 6, .string h] rfl rfl (news_new yh [.bool true, .int .i64 6, .string h] 60) (fun u hu => by simp at hu; rcases hu with rfl | rfl | rfl <;> rfl) (by unfold maxLen; omega) (by omega) (sb5 _) ?_
      intro v5 x5 ho5 hg5 hn5
      have b5x : Below W1.heap.size W1 x5 := (Bh.alloc Bh.size _).grown hg5 (by go_size) (fun q hq => (World.ownsRow.lt Oh.out q hq).1)
      have O5 : Hid (x5.ownsRow W1.heap.size 60 3 v5 ((2 + q) + 1) (flK (([⟨true, 1, T⟩, ⟨true, 4, TX⟩] ++ cksL cs) ++ [⟨true, 6, h⟩]))) := by
        show World.ownsRow _ _ _ _ _ _ _
        rw [flK_app]
        exact ho5
      clear hg5 ho5 hn5 sb5 hsz5 Oh Bh
      have A9 := A1.to' b5x
      have r2 := A9.cv 2 (by omega) (.int .i64 p) rfl
      clear A9
      go_wp2_with fail
      refine (CPP _).mono ?_
      rintro e yp ⟨rfl, hb⟩
      have Op : Hid (yp.ownsRow W1.heap.size 60 3 v5 (((2 + q) + 1)) (flK ((([⟨true, 1, T⟩, ⟨true, 4, TX⟩] ++ cksL cs) ++ [⟨true, 6, h⟩])))) := own_to' O5.out hb
      have Bp := Bel.call b5x hb
      clear CPP hb O5 b5x
      go_wp2_with fail
      refine (CMP _).mono ?_
      rintro e yq ⟨rfl, hb⟩
      have Oq : Hid (yq.ownsRow W1.heap.size 60 3 v5 (((2 + q) + 1)) (flK ((([⟨true, 1, T⟩, ⟨true, 4, TX⟩] ++ cksL cs) ++ [⟨true, 6, h⟩])))) := own_to' Op.out hb
      have Bq := Bel.call Bp hb
      clear CMP hb Op Bp
      have hsz6 := Bq.size
      have sb6 : ∀ ob, W1.heap.size ≤ (yq.alloc ob).heap.size := fun ob => by have := Bq.size; simp; omega
      go_wp2_with (at_builtin; refine stopAt ?_)
      unfold Stop
      refine wpList_append_own _ rfl _ _ 51 rfl W1.heap.size 60 iK (.agg #[.bool false, .int .i64 0, .string ⟨#[]⟩]) 3 32 Tryd.underlying51 hi hz0 hz1 hz2 rfl (by decide) _ _ _ rfl (World.ownsRow.alloc Oq.out _) ⟨yq.heap.size, 0, none⟩ 1 1 [.bool true, .int .i64 7, .string TP] rfl rfl (news_new yq [.bool true, .int .i64 7, .string TP] 60) (fun u hu => by simp at hu; rcases hu with rfl | rfl | rfl <;> rfl) (by unfold maxLen; omega) (by omega) (sb6 _) ?_
      intro v6 x6 ho6 hg6 hn6
      have b6x : Below W1.heap.size W1 x6 := (Bq.alloc Bq.size _).grown hg6 (by go_size) (fun q hq => (World.ownsRow.lt Oq.out q hq).1)
      have O6 : Hid (x6.ownsRow W1.heap.size 60 3 v6 (((2 + q) + 1) + 1) (flK ((([⟨true, 1, T⟩, ⟨true, 4, TX⟩] ++ cksL cs) ++ [⟨true, 6, h⟩]) ++ [⟨true, 7, TP⟩]))) := by
        show World.ownsRow _ _ _ _ _ _ _
        rw [flK_app]
        exact ho6
      clear hg6 ho6 hn6 sb6 hsz6 Oq Bq
      go_wp2_with fail
      refine (CE _).mono ?_
      rintro e ye ⟨rfl, hb⟩
      have Oe : Hid (ye.ownsRow W1.heap.size 60 3 v6 ((((2 + q) + 1) + 1)) (flK (((([⟨true, 1, T⟩, ⟨true, 4, TX⟩] ++ cksL cs) ++ [⟨true, 6, h⟩]) ++ [⟨true, 7, TP⟩])))) := own_to' O6.out hb
      have Be := Bel.call b6x hb
      clear CE hb O6 b6x
      have hsz7 := Be.size
      have sb7 : ∀ ob, W1.heap.size ≤ (ye.alloc ob).heap.size := fun ob => by have := Be.size; simp; omega
      go_wp2_with (at_builtin; refine stopAt ?_)
      unfold Stop
      refine wpList_append_own _ rfl _ _ 51 rfl W1.heap.size 60 iK (.agg #[.bool false, .int .i64 0, .string ⟨#[]⟩]) 3 32 Tryd.underlying51 hi hz0 hz1 hz2 rfl (by decide) _ _ _ rfl (World.ownsRow.alloc Oe.out _) ⟨ye.heap.size, 0, none⟩ 1 1 [.bool true, .int .i64 0, .string ⟨#[]⟩] rfl rfl (news_new ye [.bool true, .int .i64 0, .string ⟨#[]⟩] 60) (fun u hu => by simp at hu; rcases hu with rfl | rfl | rfl <;> rfl) (by unfold maxLen; omega) (by omega) (sb7 _) ?_
      intro v7 x7 ho7 hg7 hn7
      have b7x : Below W1.heap.size W1 x7 := (Be.alloc Be.size _).grown hg7 (by go_size) (fun q hq => (World.ownsRow.lt Oe.out q hq).1)
      have O7 : Hid (x7.ownsRow W1.heap.size 60 3 v7 ((((2 + q) + 1) + 1) + 1) (flK (((([⟨true, 1, T⟩, ⟨true, 4, TX⟩] ++ cksL cs) ++ [⟨true, 6, h⟩]) ++ [⟨true, 7, TP⟩]) ++ [⟨true, 0, ⟨#[]⟩⟩]))) := by
        show World.ownsRow _ _ _ _ _ _ _
        rw [flK_app]
        exact ho7
      clear hg7 ho7 hn7 sb7 hsz7 Oe Be
      have KF : Hid (Kls x7 v7 (((([⟨true, 1, T⟩, ⟨true, 4, TX⟩] ++ cksL cs) ++ [⟨true, 6, h⟩]) ++ [⟨true, 7, TP⟩]) ++ [⟨true, 0, ⟨#[]⟩⟩])) := Kls.own (b := W1.heap.size) (by rw [show ((((([⟨true, 1, T⟩, ⟨true, 4, TX⟩] ++ cksL cs) ++ [⟨true, 6, h⟩]) ++ [⟨true, 7, TP⟩]) ++ [⟨true, 0, ⟨#[]⟩⟩]) : List Ke).length = (((2 + q) + 1) + 1) + 1 by simp [cksL]; have := HM9.out; omega]; exact O7.out)
      clear O7
      go_wp2_with fail
      refine bodyPost_ret (v := v7) (by simp [results, Tryd.results31, go_sem]) rfl ⟨⟨_, rfl, KF.out⟩, Bel.call hB0 b7x⟩
set_option maxHeartbeats 8000000 in
theorem pgr_10 (ws : List Int) (h : ByteArray) (p : Int) (cs : List ByteArray) (X : Int) (va vc : Value) (w : World) (HA : Nls w va ws) (HC : Sls w vc cs) (hc : cs.length ≤ 100000) (x0 : 0 ≤ X) (x1 : X ≤ 65535) (p0 : -9223372036854775808 ≤ p) (p1 : p ≤ 9223372036854775807) (c7 : h.size ≠ 0) (c8 : p = 0) :
    Calls Tryd.prog 31 #[kcV ⟨ws, h, p, cs⟩ va vc, .int .i64 X] w fun e w' => (∃ u, e = .returned u ∧ Kls w' u ([⟨true, 1, tw 0⟩, ⟨true, 4, tw X⟩] ++ cksL cs ++ [⟨true, 6, h⟩] ++ [endK])) ∧ Below w.heap.size w w' := by
  unfold kcV
  simp only
  have A1 := Arr.new w #[va, Value.string h, .int .i64 p, vc] 58 _ rfl _ 4 (kcC_at va vc h p)
  have hB0 := Bel.al (Below.refl w.heap.size w) (.cells #[va, .string h, .int .i64 p, vc] 58)
  have HC1 := HC.to hB0
  clear HC
  obtain ⟨aa, ca, rfl, _⟩ := HA
  generalize (ws.length : Nat) = nw at *
  unfold endK
  have CE := fun W => pend_any W
  have CP0 := fun W => pair1 0 (by decide) (by decide) W
  have CPX := fun W => pair1 X x0 x1 W
  have CM0 := fun W => pmust_any 1 (tw 0) W
  have CMX := fun W => pmust_any 4 (tw X) W
  subst c8
  have CMH := fun W => pmust_any 6 h W
  have em := emp_no h (by omega)
  generalize tw 0 = T at *
  generalize tw X = TX at *
  obtain ⟨iK, hi, hz0, hz1, hz2⟩ := info_parts Tryd.infoK
  have CY := fun s W => pmay_any 5 s W
  have hsW : w.heap.size + 1 = (w.alloc (.cells #[.slice aa nw ca, .string h, .int .i64 0, vc] 58)).heap.size := by rw [World.size_alloc]
  go_enter Tryd.func31, Tryd.ntmps31
  go_wp2_with fail
  generalize w.alloc (.cells #[.slice aa nw ca, .string h, .int .i64 0, vc] 58) = W1 at *
  clear hsW
  go_wp2_with fail
  refine (CP0 _).mono ?_
  rintro e w1 ⟨rfl, b1⟩
  clear CP0
  go_wp2_with fail
  refine (CM0 _).mono ?_
  rintro e w2 ⟨rfl, b2⟩
  replace b2 := Bel.call b1 b2
  clear CM0 b1
  go_wp2_with fail
  refine (CPX _).mono ?_
  rintro e w3 ⟨rfl, b3⟩
  replace b3 := Bel.call b2 b3
  clear CPX b2
  go_wp2_with fail
  refine (CMX _).mono ?_
  rintro e w4 ⟨rfl, b4⟩
  have B4 := Bel.call b3 b4
  clear CMX b3 b4
  have O1 : Hid ((w4.alloc (.cells #[.bool true, .int .i64 1, .string T, .bool true, .int .i64 4, .string TX] 60)).ownsRow W1.heap.size 60 3 (.slice (some ⟨w4.heap.size, 0, none⟩) 2 2) 2 (flK [⟨true, 1, T⟩, ⟨true, 4, TX⟩])) := own_newK w4 [⟨true, 1, T⟩, ⟨true, 4, TX⟩] B4.size (by simp)
  have b1x := Bel.al B4 (.cells #[.bool true, .int .i64 1, .string T, .bool true, .int .i64 4, .string TX] 60)
  go_upto_region 2 with (fail)
  generalize w4.alloc (.cells #[.bool true, .int .i64 1, .string T, .bool true, .int .i64 4, .string TX] 60) = W7 at *
  clear B4
  generalize w4.heap.size = b6 at *
  obtain ⟨ac, cc, rfl, fc0⟩ := HC1
  have FC : Hid (∀ (i : Nat) (s : ByteArray), cs[i]? = some s → ∃ g o, ac = some ⟨g, o, none⟩ ∧ g < W1.heap.size ∧ W1.cell? ⟨g, o + i, none⟩ = some (.string s)) := fc0
  clear fc0
  have A8 := A1.to' b1x
  obtain ⟨m, hm⟩ : ∃ m, cs.length = m := ⟨_, rfl⟩
  have HM : Hid (cs.length = m) := hm
  have m0 : (m : Int) ≤ 100000 := by omega
  have r38 := A8.cv 3 (by omega) (.slice ac cs.length cc) rfl
  rw [hm] at r38
  clear hm A8
  go_wp2_with fail
  go_loopw [5, 19] (fun u i wr => ∃ (q : Nat), q ≤ m ∧ i = .int .i64 (q : Int) ∧ wr.ownsRow W1.heap.size 60 3 u (2 + q) (flK ([⟨true, 1, T⟩, ⟨true, 4, TX⟩] ++ cksL (cs.take q))) ∧ Below W1.heap.size W1 wr) (fun _ i _ => m - (RowKit.intOf i).toNat)
  case atStart => exact ⟨0, by omega, rfl, O1.out, b1x⟩
  case round =>
    clear O1 b1x r38
    obtain ⟨q, hq, rfl, hown, hB⟩ := hrel
    have O2 : Hid (_) := hown
    have q0 : (0 : Int) ≤ (q : Int) := by omega
    by_cases hlt : q < m
    · have q1 : (q : Int) < (m : Int) := by omega
      obtain ⟨s, hsx⟩ : ∃ s, cs[q]? = some s := ⟨_, List.getElem?_eq_getElem (by rw [HM.out]; exact hlt)⟩
      obtain ⟨g, oo, rfl, lt, e0⟩ := FC.out q s hsx
      have e1 := (hB.cell (p := ⟨g, oo + q, none⟩) lt).trans e0
      have HK : Hid (cksL (cs.take (q + 1)) = cksL (cs.take q) ++ [⟨false, 5, s⟩]) := cks_take cs q s hsx
      clear hsx e0 FC HM hown
      go_wp2_with fail
      refine (CY s _).mono ?_
      rintro e y0 ⟨rfl, hb⟩
      have O2q : Hid (y0.ownsRow W1.heap.size 60 3 u5 (2 + q) (flK ([⟨true, 1, T⟩, ⟨true, 4, TX⟩] ++ cksL (cs.take q)))) := own_to' O2.out hb
      have hBq := Bel.call hB hb
      clear CY hb O2 hB
      have hsz2 := hBq.size
      have sb2 : ∀ ob, W1.heap.size ≤ (y0.alloc ob).heap.size := fun ob => by have := hBq.size; simp; omega
      go_wp2_with (at_builtin; refine stopAt ?_)
      unfold Stop
      refine wpList_append_own _ rfl _ _ 51 rfl W1.heap.size 60 iK (.agg #[.bool false, .int .i64 0, .string ⟨#[]⟩]) 3 32 Tryd.underlying51 hi hz0 hz1 hz2 rfl (by decide) _ _ _ rfl (World.ownsRow.alloc O2q.out _) ⟨y0.heap.size, 0, none⟩ 1 1 [.bool false, .int .i64 5, .string s] rfl rfl (news_new y0 [.bool false, .int .i64 5, .string s] 60) (fun u hu => by simp at hu; rcases hu with rfl | rfl | rfl <;> rfl) (by unfold maxLen; omega) (by omega) (sb2 _) ?_
      intro v2 x2 ho2 hg2 hn2
      have b2x : Below W1.heap.size W1 x2 := (hBq.alloc hBq.size _).grown hg2 (by go_size) (fun q hq => (World.ownsRow.lt O2q.out q hq).1)
      have O2 : Hid (x2.ownsRow W1.heap.size 60 3 v2 (2 + q + 1) (flK (([⟨true, 1, T⟩, ⟨true, 4, TX⟩] ++ cksL (cs.take q)) ++ [⟨false, 5, s⟩]))) := by
        show World.ownsRow _ _ _ _ _ _ _
        rw [flK_app]
        exact ho2
      clear hg2 ho2 hn2 sb2 hsz2 O2q hBq
      have O3 : Hid (x2.ownsRow W1.heap.size 60 3 v2 (2 + (q + 1)) (flK ([⟨true, 1, T⟩, ⟨true, 4, TX⟩] ++ cksL (cs.take (q + 1))))) := by
        show World.ownsRow _ _ _ _ _ _ _
        rw [HK.out, ← List.append_assoc]
        exact O2.out
      clear O2 HK
      go_wp2_with fail
      refine ⟨⟨q + 1, by omega, by first | rfl | (congr 1; omega) | simp, O3.out, b2x⟩, ?_⟩
      simp [RowKit.intOf]; omega
    · have hqm : q = m := by omega
      subst hqm
      have hT : cs.take q = cs := List.take_of_length_le (by rw [HM.out]; omega)
      rw [hT] at hown
      clear O2
      have O2 : Hid (wr.ownsRow W1.heap.size 60 3 u5 (2 + q) (flK ([⟨true, 1, T⟩, ⟨true, 4, TX⟩] ++ cksL cs))) := hown
      have HM9 : Hid (cs.length = q) := HM.out
      clear hown FC HM hT CY
      have A9 := A1.to' hB
      have r1 := A9.cv 1 (by omega) (.string h) rfl
      have r2 := A9.cv 2 (by omega) (.int .i64 0) rfl
      clear A9
      go_wp2_with fail
      refine (CMH _).mono ?_
      rintro e yh ⟨rfl, hb⟩
      have Oh : Hid (yh.ownsRow W1.heap.size 60 3 u5 ((2 + q)) (flK (([⟨true, 1, T⟩, ⟨true, 4, TX⟩] ++ cksL cs)))) := own_to' O2.out hb
      have Bh := Bel.call hB hb
      clear CMH hb O2 hB
      have hsz5 := Bh.size
      have sb5 : ∀ ob, W1.heap.size ≤ (yh.alloc ob).heap.size := fun ob => by have := Bh.size; simp; omega
      go_wp2_with (at_builtin; refine stopAt ?_)
      unfold Stop
      refine wpList_append_own _ rfl _ _ 51 rfl W1.heap.size 60 iK (.agg #[.bool false, .int .i64 0, .string ⟨#[]⟩]) 3 32 Tryd.underlying51 hi hz0 hz1 hz2 rfl (by decide) _ _ _ rfl (World.ownsRow.alloc Oh.out _) ⟨yh.heap.size, 0, none⟩ 1 1 [.bool true, .int .i64 6, .string h] rfl rfl (news_new yh [.bool true, .int .i64 6, .string h] 60) (fun u hu => by simp at hu; rcases hu with rfl | rfl | rfl <;> rfl) (by unfold maxLen; omega) (by omega) (sb5 _) ?_
      intro v5 x5 ho5 hg5 hn5
      have b5x : Below W1.heap.size W1 x5 := (Bh.alloc Bh.size _).grown hg5 (by go_size) (fun q hq => (World.ownsRow.lt Oh.out q hq).1)
      have O5 : Hid (x5.ownsRow W1.heap.size 60 3 v5 ((2 + q) + 1) (flK (([⟨true, 1, T⟩, ⟨true, 4, TX⟩] ++ cksL cs) ++ [⟨true, 6, h⟩]))) := by
        show World.ownsRow _ _ _ _ _ _ _
        rw [flK_app]
        exact ho5
      clear hg5 ho5 hn5 sb5 hsz5 Oh Bh
      have A9 := A1.to' b5x
      have r2 := A9.cv 2 (by omega) (.int .i64 0) rfl
      clear A9
      go_wp2_with fail
      refine (CE _).mono ?_
      rintro e ye ⟨rfl, hb⟩
      have Oe : Hid (ye.ownsRow W1.heap.size 60 3 v5 (((2 + q) + 1)) (flK ((([⟨true, 1, T⟩, ⟨true, 4, TX⟩] ++ cksL cs) ++ [⟨true, 6, h⟩])))) := own_to' O5.out hb
      have Be := Bel.call b5x hb
      clear CE hb O5 b5x
      have hsz7 := Be.size
      have sb7 : ∀ ob, W1.heap.size ≤ (ye.alloc ob).heap.size := fun ob => by have := Be.size; simp; omega
      go_wp2_with (at_builtin; refine stopAt ?_)
      unfold Stop
      refine wpList_append_own _ rfl _ _ 51 rfl W1.heap.size 60 iK (.agg #[.bool false, .int .i64 0, .string ⟨#[]⟩]) 3 32 Tryd.underlying51 hi hz0 hz1 hz2 rfl (by decide) _ _ _ rfl (World.ownsRow.alloc Oe.out _) ⟨ye.heap.size, 0, none⟩ 1 1 [.bool true, .int .i64 0, .string ⟨#[]⟩] rfl rfl (news_new ye [.bool true, .int .i64 0, .string ⟨#[]⟩] 60) (fun u hu => by simp at hu; rcases hu with rfl | rfl | rfl <;> rfl) (by unfold maxLen; omega) (by omega) (sb7 _) ?_
      intro v7 x7 ho7 hg7 hn7
      have b7x : Below W1.heap.size W1 x7 := (Be.alloc Be.size _).grown hg7 (by go_size) (fun q hq => (World.ownsRow.lt Oe.out q hq).1)
      have O7 : Hid (x7.ownsRow W1.heap.size 60 3 v7 (((2 + q) + 1) + 1) (flK ((([⟨true, 1, T⟩, ⟨true, 4, TX⟩] ++ cksL cs) ++ [⟨true, 6, h⟩]) ++ [⟨true, 0, ⟨#[]⟩⟩]))) := by
        show World.ownsRow _ _ _ _ _ _ _
        rw [flK_app]
        exact ho7
      clear hg7 ho7 hn7 sb7 hsz7 Oe Be
      have KF : Hid (Kls x7 v7 ((([⟨true, 1, T⟩, ⟨true, 4, TX⟩] ++ cksL cs) ++ [⟨true, 6, h⟩]) ++ [⟨true, 0, ⟨#[]⟩⟩])) := Kls.own (b := W1.heap.size) (by rw [show (((([⟨true, 1, T⟩, ⟨true, 4, TX⟩] ++ cksL cs) ++ [⟨true, 6, h⟩]) ++ [⟨true, 0, ⟨#[]⟩⟩]) : List Ke).length = ((2 + q) + 1) + 1 by simp [cksL]; have := HM9.out; omega]; exact O7.out)
      clear O7
      go_wp2_with fail
      refine bodyPost_ret (v := v7) (by simp [results, Tryd.results31, go_sem]) rfl ⟨⟨_, rfl, KF.out⟩, Bel.call hB0 b7x⟩
set_option maxHeartbeats 8000000 in
theorem pgr_01 (ws : List Int) (h : ByteArray) (p : Int) (cs : List ByteArray) (X : Int) (va vc : Value) (w : World) (HA : Nls w va ws) (HC : Sls w vc cs) (hc : cs.length ≤ 100000) (x0 : 0 ≤ X) (x1 : X ≤ 65535) (p0 : -9223372036854775808 ≤ p) (p1 : p ≤ 9223372036854775807) (c7 : h.size = 0) (c8 : p ≠ 0) :
    Calls Tryd.prog 31 #[kcV ⟨ws, h, p, cs⟩ va vc, .int .i64 X] w fun e w' => (∃ u, e = .returned u ∧ Kls w' u ([⟨true, 1, tw 0⟩, ⟨true, 4, tw X⟩] ++ cksL cs ++ [⟨true, 7, tw (p % 65536)⟩] ++ [endK])) ∧ Below w.heap.size w w' := by
  unfold kcV
  simp only
  have A1 := Arr.new w #[va, Value.string h, .int .i64 p, vc] 58 _ rfl _ 4 (kcC_at va vc h p)
  have hB0 := Bel.al (Below.refl w.heap.size w) (.cells #[va, .string h, .int .i64 p, vc] 58)
  have HC1 := HC.to hB0
  clear HC
  obtain ⟨aa, ca, rfl, _⟩ := HA
  generalize (ws.length : Nat) = nw at *
  unfold endK
  have CE := fun W => pend_any W
  have CP0 := fun W => pair1 0 (by decide) (by decide) W
  have CPX := fun W => pair1 X x0 x1 W
  have CM0 := fun W => pmust_any 1 (tw 0) W
  have CMX := fun W => pmust_any 4 (tw X) W
  have CPP := fun W => pair1 (p % 65536) (by omega) (by omega) W
  have CMP := fun W => pmust_any 7 (tw (p % 65536)) W
  have ip : (p == 0) = false := by simpa using c8
  have ib := i64_and16 p
  generalize tw (p % 65536) = TP at *
  obtain rfl := emp_is c7
  generalize tw 0 = T at *
  generalize tw X = TX at *
  obtain ⟨iK, hi, hz0, hz1, hz2⟩ := info_parts Tryd.infoK
  have CY := fun s W => pmay_any 5 s W
  have hsW : w.heap.size + 1 = (w.alloc (.cells #[.slice aa nw ca, .string ⟨#[]⟩, .int .i64 p, vc] 58)).heap.size := by rw [World.size_alloc]
  go_enter Tryd.func31, Tryd.ntmps31
  go_wp2_with fail
  generalize w.alloc (.cells #[.slice aa nw ca, .string ⟨#[]⟩, .int .i64 p, vc] 58) = W1 at *
  clear hsW
  go_wp2_with fail
  refine (CP0 _).mono ?_
  rintro e w1 ⟨rfl, b1⟩
  clear CP0
  go_wp2_with fail
  refine (CM0 _).mono ?_
  rintro e w2 ⟨rfl, b2⟩
  replace b2 := Bel.call b1 b2
  clear CM0 b1
  go_wp2_with fail
  refine (CPX _).mono ?_
  rintro e w3 ⟨rfl, b3⟩
  replace b3 := Bel.call b2 b3
  clear CPX b2
  go_wp2_with fail
  refine (CMX _).mono ?_
  rintro e w4 ⟨rfl, b4⟩
  have B4 := Bel.call b3 b4
  clear CMX b3 b4
  have O1 : Hid ((w4.alloc (.cells #[.bool true, .int .i64 1, .string T, .bool true, .int .i64 4, .string TX] 60)).ownsRow W1.heap.size 60 3 (.slice (some ⟨w4.heap.size, 0, none⟩) 2 2) 2 (flK [⟨true, 1, T⟩, ⟨true, 4, TX⟩])) := own_newK w4 [⟨true, 1, T⟩, ⟨true, 4, TX⟩] B4.size (by simp)
  have b1x := Bel.al B4 (.cells #[.bool true, .int .i64 1, .string T, .bool true, .int .i64 4, .string TX] 60)
  go_upto_region 2 with (fail)
  generalize w4.alloc (.cells #[.bool true, .int .i64 1, .string T, .bool true, .int .i64 4, .string TX] 60) = W7 at *
  clear B4
  generalize w4.heap.size = b6 at *
  obtain ⟨ac, cc, rfl, fc0⟩ := HC1
  have FC : Hid (∀ (i : Nat) (s : ByteArray), cs[i]? = some s → ∃ g o, ac = some ⟨g, o, none⟩ ∧ g < W1.heap.size ∧ W1.cell? ⟨g, o + i, none⟩ = some (.string s)) := fc0
  clear fc0
  have A8 := A1.to' b1x
  obtain ⟨m, hm⟩ : ∃ m, cs.length = m := ⟨_, rfl⟩
  have HM : Hid (cs.length = m) := hm
  have m0 : (m : Int) ≤ 100000 := by omega
  have r38 := A8.cv 3 (by omega) (.slice ac cs.length cc) rfl
  rw [hm] at r38
  clear hm A8
  go_wp2_with fail
  go_loopw [5, 19] (fun u i wr => ∃ (q : Nat), q ≤ m ∧ i = .int .i64 (q : Int) ∧ wr.ownsRow W1.heap.size 60 3 u (2 + q) (flK ([⟨true, 1, T⟩, ⟨true, 4, TX⟩] ++ cksL (cs.take q))) ∧ Below W1.heap.size W1 wr) (fun _ i _ => m - (RowKit.intOf i).toNat)
  case atStart => exact ⟨0, by omega, rfl, O1.out, b1x⟩
  case round =>
    clear O1 b1x r38
    obtain ⟨q, hq, rfl, hown, hB⟩ := hrel
    have O2 : Hid (_) := hown
    have q0 : (0 : Int) ≤ (q : Int) := by omega
    by_cases hlt : q < m
    · have q1 : (q : Int) < (m : Int) := by omega
      obtain ⟨s, hsx⟩ : ∃ s, cs[q]? = some s := ⟨_, List.getElem?_eq_getElem (by rw [HM.out]; exact hlt)⟩
      obtain ⟨g, oo, rfl, lt, e0⟩ := FC.out q s hsx
      have e1 := (hB.cell (p := ⟨g, oo + q, none⟩) lt).trans e0
      have HK : Hid (cksL (cs.take (q + 1)) = cksL (cs.take q) ++ [⟨false, 5, s⟩]) := cks_take cs q s hsx
      clear hsx e0 FC HM hown
      go_wp2_with fail
      refine (CY s _).mono ?_
      rintro e y0 ⟨rfl, hb⟩
      have O2q : Hid (y0.ownsRow W1.heap.size 60 3 u5 (2 + q) (flK ([⟨true, 1, T⟩, ⟨true, 4, TX⟩] ++ cksL (cs.take q)))) := own_to' O2.out hb
      have hBq := Bel.call hB hb
      clear CY hb O2 hB
      have hsz2 := hBq.size
      have sb2 : ∀ ob, W1.heap.size ≤ (y0.alloc ob).heap.size := fun ob => by have := hBq.size; simp; omega
      go_wp2_with (at_builtin; refine stopAt ?_)
      unfold Stop
      refine wpList_append_own _ rfl _ _ 51 rfl W1.heap.size 60 iK (.agg #[.bool false, .int .i64 0, .string ⟨#[]⟩]) 3 32 Tryd.underlying51 hi hz0 hz1 hz2 rfl (by decide) _ _ _ rfl (World.ownsRow.alloc O2q.out _) ⟨y0.heap.size, 0, none⟩ 1 1 [.bool false, .int .i64 5, .string s] rfl rfl (news_new y0 [.bool false, .int .i64 5, .string s] 60) (fun u hu => by simp at hu; rcases hu with rfl | rfl | rfl <;> rfl) (by unfold maxLen; omega) (by omega) (sb2 _) ?_
      intro v2 x2 ho2 hg2 hn2
      have b2x : Below W1.heap.size W1 x2 := (hBq.alloc hBq.size _).grown hg2 (by go_size) (fun q hq => (World.ownsRow.lt O2q.out q hq).1)
      have O2 : Hid (x2.ownsRow W1.heap.size 60 3 v2 (2 + q + 1) (flK (([⟨true, 1, T⟩, ⟨true, 4, TX⟩] ++ cksL (cs.take q)) ++ [⟨false, 5, s⟩]))) := by
        show World.ownsRow _ _ _ _ _ _ _
        rw [flK_app]
        exact ho2
      clear hg2 ho2 hn2 sb2 hsz2 O2q hBq
      have O3 : Hid (x2.ownsRow W1.heap.size 60 3 v2 (2 + (q + 1)) (flK ([⟨true, 1, T⟩, ⟨true, 4, TX⟩] ++ cksL (cs.take (q + 1))))) := by
        show World.ownsRow _ _ _ _ _ _ _
        rw [HK.out, ← List.append_assoc]
        exact O2.out
      clear O2 HK
      go_wp2_with fail
      refine ⟨⟨q + 1, by omega, by first | rfl | (congr 1; omega) | simp, O3.out, b2x⟩, ?_⟩
      simp [RowKit.intOf]; omega
    · have hqm : q = m := by omega
      subst hqm
      have hT : cs.take q = cs := List.take_of_length_le (by rw [HM.out]; omega)
      rw [hT] at hown
      clear O2
      have O2 : Hid (wr.ownsRow W1.heap.size 60 3 u5 (2 + q) (flK ([⟨true, 1, T⟩, ⟨true, 4, TX⟩] ++ cksL cs))) := hown
      have HM9 : Hid (cs.length = q) := HM.out
      clear hown FC HM hT CY
      have A9 := A1.to' hB
      have r1 := A9.cv 1 (by omega) (.string ⟨#[]⟩) rfl
      have r2 := A9.cv 2 (by omega) (.int .i64 p) rfl
      clear A9
      go_wp2_with fail
      refine (CPP _).mono ?_
      rintro e yp ⟨rfl, hb⟩
      have Op : Hid (yp.ownsRow W1.heap.size 60 3 u5 ((2 + q)) (flK (([⟨true, 1, T⟩, ⟨true, 4, TX⟩] ++ cksL cs)))) := own_to' O2.out hb
      have Bp := Bel.call hB hb
      clear CPP hb O2 hB
      go_wp2_with fail
      refine (CMP _).mono ?_
      rintro e yq ⟨rfl, hb⟩
      have Oq : Hid (yq.ownsRow W1.heap.size 60 3 u5 ((2 + q)) (flK (([⟨true, 1, T⟩, ⟨true, 4, TX⟩] ++ cksL cs)))) := own_to' Op.out hb
      have Bq := Bel.call Bp hb
      clear CMP hb Op Bp
      have hsz6 := Bq.size
      have sb6 : ∀ ob, W1.heap.size ≤ (yq.alloc ob).heap.size := fun ob => by have := Bq.size; simp; omega
      go_wp2_with (at_builtin; refine stopAt ?_)
      unfold Stop
      refine wpList_append_own _ rfl _ _ 51 rfl W1.heap.size 60 iK (.agg #[.bool false, .int .i64 0, .string ⟨#[]⟩]) 3 32 Tryd.underlying51 hi hz0 hz1 hz2 rfl (by decide) _ _ _ rfl (World.ownsRow.alloc Oq.out _) ⟨yq.heap.size, 0, none⟩ 1 1 [.bool true, .int .i64 7, .string TP] rfl rfl (news_new yq [.bool true, .int .i64 7, .string TP] 60) (fun u hu => by simp at hu; rcases hu with rfl | rfl | rfl <;> rfl) (by unfold maxLen; omega) (by omega) (sb6 _) ?_
      intro v6 x6 ho6 hg6 hn6
      have b6x : Below W1.heap.size W1 x6 := (Bq.alloc Bq.size _).grown hg6 (by go_size) (fun q hq => (World.ownsRow.lt Oq.out q hq).1)
      have O6 : Hid (x6.ownsRow W1.heap.size 60 3 v6 ((2 + q) + 1) (flK (([⟨true, 1, T⟩, ⟨true, 4, TX⟩] ++ cksL cs) ++ [⟨true, 7, TP⟩]))) := by
        show World.ownsRow _ _ _ _ _ _ _
        rw [flK_app]
        exact ho6
      clear hg6 ho6 hn6 sb6 hsz6 Oq Bq
      go_wp2_with fail
      refine (CE _).mono ?_
      rintro e ye ⟨rfl, hb⟩
      have Oe : Hid (ye.ownsRow W1.heap.size 60 3 v6 (((2 + q) + 1)) (flK ((([⟨true, 1, T⟩, ⟨true, 4, TX⟩] ++ cksL cs) ++ [⟨true, 7, TP⟩])))) := own_to' O6.out hb
      have Be := Bel.call b6x hb
      clear CE hb O6 b6x
      have hsz7 := Be.size
      have sb7 : ∀ ob, W1.heap.size ≤ (ye.alloc ob).heap.size := fun ob => by have := Be.size; simp; omega
      go_wp2_with (at_builtin; refine stopAt ?_)
      unfold Stop
      refine wpList_append_own _ rfl _ _ 51 rfl W1.heap.size 60 iK (.agg #[.bool false, .int .i64 0, .string ⟨#[]⟩]) 3 32 Tryd.underlying51 hi hz0 hz1 hz2 rfl (by decide) _ _ _ rfl (World.ownsRow.alloc Oe.out _) ⟨ye.heap.size, 0, none⟩ 1 1 [.bool true, .int .i64 0, .string ⟨#[]⟩] rfl rfl (news_new ye [.bool true, .int .i64 0, .string ⟨#[]⟩] 60) (fun u hu => by simp at hu; rcases hu with rfl | rfl | rfl <;> rfl) (by unfold maxLen; omega) (by omega) (sb7 _) ?_
      intro v7 x7 ho7 hg7 hn7
      have b7x : Below W1.heap.size W1 x7 := (Be.alloc Be.size _).grown hg7 (by go_size) (fun q hq => (World.ownsRow.lt Oe.out q hq).1)
      have O7 : Hid (x7.ownsRow W1.heap.size 60 3 v7 (((2 + q) + 1) + 1) (flK ((([⟨true, 1, T⟩, ⟨true, 4, TX⟩] ++ cksL cs) ++ [⟨true, 7, TP⟩]) ++ [⟨true, 0, ⟨#[]⟩⟩]))) := by
        show World.ownsRow _ _ _ _ _ _ _
        rw [flK_app]
        exact ho7
      clear hg7 ho7 hn7 sb7 hsz7 Oe Be
      have KF : Hid (Kls x7 v7 ((([⟨true, 1, T⟩, ⟨true, 4, TX⟩] ++ cksL cs) ++ [⟨true, 7, TP⟩]) ++ [⟨true, 0, ⟨#[]⟩⟩])) := Kls.own (b := W1.heap.size) (by rw [show (((([⟨true, 1, T⟩, ⟨true, 4, TX⟩] ++ cksL cs) ++ [⟨true, 7, TP⟩]) ++ [⟨true, 0, ⟨#[]⟩⟩]) : List Ke).length = ((2 + q) + 1) + 1 by simp [cksL]; have := HM9.out; omega]; exact O7.out)
      clear O7
      go_wp2_with fail
      refine bodyPost_ret (v := v7) (by simp [results, Tryd.results31, go_sem]) rfl ⟨⟨_, rfl, KF.out⟩, Bel.call hB0 b7x⟩
set_option maxHeartbeats 8000000 in
theorem pgr_00 (ws : List Int) (h : ByteArray) (p : Int) (cs : List ByteArray) (X : Int) (va vc : Value) (w : World) (HA : Nls w va ws) (HC : Sls w vc cs) (hc : cs.length ≤ 100000) (x0 : 0 ≤ X) (x1 : X ≤ 65535) (p0 : -9223372036854775808 ≤ p) (p1 : p ≤ 9223372036854775807) (c7 : h.size = 0) (c8 : p = 0) :
    Calls Tryd.prog 31 #[kcV ⟨ws, h, p, cs⟩ va vc, .int .i64 X] w fun e w' => (∃ u, e = .returned u ∧ Kls w' u ([⟨true, 1, tw 0⟩, ⟨true, 4, tw X⟩] ++ cksL cs ++ [endK])) ∧ Below w.heap.size w w' := by
  unfold kcV
  simp only
  have A1 := Arr.new w #[va, Value.string h, .int .i64 p, vc] 58 _ rfl _ 4 (kcC_at va vc h p)
  have hB0 := Bel.al (Below.refl w.heap.size w) (.cells #[va, .string h, .int .i64 p, vc] 58)
  have HC1 := HC.to hB0
  clear HC
  obtain ⟨aa, ca, rfl, _⟩ := HA
  generalize (ws.length : Nat) = nw at *
  unfold endK
  have CE := fun W => pend_any W
  have CP0 := fun W => pair1 0 (by decide) (by decide) W
  have CPX := fun W => pair1 X x0 x1 W
  have CM0 := fun W => pmust_any 1 (tw 0) W
  have CMX := fun W => pmust_any 4 (tw X) W
  subst c8
  obtain rfl := emp_is c7
  generalize tw 0 = T at *
  generalize tw X = TX at *
  obtain ⟨iK, hi, hz0, hz1, hz2⟩ := info_parts Tryd.infoK
  have CY := fun s W => pmay_any 5 s W
  have hsW : w.heap.size + 1 = (w.alloc (.cells #[.slice aa nw ca, .string ⟨#[]⟩, .int .i64 0, vc] 58)).heap.size := by rw [World.size_alloc]
  go_enter Tryd.func31, Tryd.ntmps31
  go_wp2_with fail
  generalize w.alloc (.cells #[.slice aa nw ca, .string ⟨#[]⟩, .int .i64 0, vc] 58) = W1 at *
  clear hsW
  go_wp2_with fail
  refine (CP0 _).mono ?_
  rintro e w1 ⟨rfl, b1⟩
  clear CP0
  go_wp2_with fail
  refine (CM0 _).mono ?_
  rintro e w2 ⟨rfl, b2⟩
  replace b2 := Bel.call b1 b2
  clear CM0 b1
  go_wp2_with fail
  refine (CPX _).mono ?_
  rintro e w3 ⟨rfl, b3⟩
  replace b3 := Bel.call b2 b3
  clear CPX b2
  go_wp2_with fail
  refine (CMX _).mono ?_
  rintro e w4 ⟨rfl, b4⟩
  have B4 := Bel.call b3 b4
  clear CMX b3 b4
  have O1 : Hid ((w4.alloc (.cells #[.bool true, .int .i64 1, .string T, .bool true, .int .i64 4, .string TX] 60)).ownsRow W1.heap.size 60 3 (.slice (some ⟨w4.heap.size, 0, none⟩) 2 2) 2 (flK [⟨true, 1, T⟩, ⟨true, 4, TX⟩])) := own_newK w4 [⟨true, 1, T⟩, ⟨true, 4, TX⟩] B4.size (by simp)
  have b1x := Bel.al B4 (.cells #[.bool true, .int .i64 1, .string T, .bool true, .int .i64 4, .string TX] 60)
  go_upto_region 2 with (fail)
  generalize w4.alloc (.cells #[.bool true, .int .i64 1, .string T, .bool true, .int .i64 4, .string TX] 60) = W7 at *
  clear B4
  generalize w4.heap.size = b6 at *
  obtain ⟨ac, cc, rfl, fc0⟩ := HC1
  have FC : Hid (∀ (i : Nat) (s : ByteArray), cs[i]? = some s → ∃ g o, ac = some ⟨g, o, none⟩ ∧ g < W1.heap.size ∧ W1.cell? ⟨g, o + i, none⟩ = some (.string s)) := fc0
  clear fc0
  have A8 := A1.to' b1x
  obtain ⟨m, hm⟩ : ∃ m, cs.length = m := ⟨_, rfl⟩
  have HM : Hid (cs.length = m) := hm
  have m0 : (m : Int) ≤ 100000 := by omega
  have r38 := A8.cv 3 (by omega) (.slice ac cs.length cc) rfl
  rw [hm] at r38
  clear hm A8
  go_wp2_with fail
  go_loopw [5, 19] (fun u i wr => ∃ (q : Nat), q ≤ m ∧ i = .int .i64 (q : Int) ∧ wr.ownsRow W1.heap.size 60 3 u (2 + q) (flK ([⟨true, 1, T⟩, ⟨true, 4, TX⟩] ++ cksL (cs.take q))) ∧ Below W1.heap.size W1 wr) (fun _ i _ => m - (RowKit.intOf i).toNat)
  case atStart => exact ⟨0, by omega, rfl, O1.out, b1x⟩
  case round =>
    clear O1 b1x r38
    obtain ⟨q, hq, rfl, hown, hB⟩ := hrel
    have O2 : Hid (_) := hown
    have q0 : (0 : Int) ≤ (q : Int) := by omega
    by_cases hlt : q < m
    · have q1 : (q : Int) < (m : Int) := by omega
      obtain ⟨s, hsx⟩ : ∃ s, cs[q]? = some s := ⟨_, List.getElem?_eq_getElem (by rw [HM.out]; exact hlt)⟩
      obtain ⟨g, oo, rfl, lt, e0⟩ := FC.out q s hsx
      have e1 := (hB.cell (p := ⟨g, oo + q, none⟩) lt).trans e0
      have HK : Hid (cksL (cs.take (q + 1)) = cksL (cs.take q) ++ [⟨false, 5, s⟩]) := cks_take cs q s hsx
      clear hsx e0 FC HM hown
      go_wp2_with fail
      refine (CY s _).mono ?_
      rintro e y0 ⟨rfl, hb⟩
      have O2q : Hid (y0.ownsRow W1.heap.size 60 3 u5 (2 + q) (flK ([⟨true, 1, T⟩, ⟨true, 4, TX⟩] ++ cksL (cs.take q)))) := own_to' O2.out hb
      have hBq := Bel.call hB hb
      clear CY hb O2 hB
      have hsz2 := hBq.size
      have sb2 : ∀ ob, W1.heap.size ≤ (y0.alloc ob).heap.size := fun ob => by have := hBq.size; simp; omega
      go_wp2_with (at_builtin; refine stopAt ?_)
      unfold Stop
      refine wpList_append_own _ rfl _ _ 51 rfl W1.heap.size 60 iK (.agg #[.bool false, .int .i64 0, .string ⟨#[]⟩]) 3 32 Tryd.underlying51 hi hz0 hz1 hz2 rfl (by decide) _ _ _ rfl (World.ownsRow.alloc O2q.out _) ⟨y0.heap.size, 0, none⟩ 1 1 [.bool false, .int .i64 5, .string s] rfl rfl (news_new y0 [.bool false, .int .i64 5, .string s] 60) (fun u hu => by simp at hu; rcases hu with rfl | rfl | rfl <;> rfl) (by unfold maxLen; omega) (by omega) (sb2 _) ?_
      intro v2 x2 ho2 hg2 hn2
      have b2x : Below W1.heap.size W1 x2 := (hBq.alloc hBq.size _).grown hg2 (by go_size) (fun q hq => (World.ownsRow.lt O2q.out q hq).1)
      have O2 : Hid (x2.ownsRow W1.heap.size 60 3 v2 (2 + q + 1) (flK (([⟨true, 1, T⟩, ⟨true, 4, TX⟩] ++ cksL (cs.take q)) ++ [⟨false, 5, s⟩]))) := by
        show World.ownsRow _ _ _ _ _ _ _
        rw [flK_app]
        exact ho2
      clear hg2 ho2 hn2 sb2 hsz2 O2q hBq
      have O3 : Hid (x2.ownsRow W1.heap.size 60 3 v2 (2 + (q + 1)) (flK ([⟨true, 1, T⟩, ⟨true, 4, TX⟩] ++ cksL (cs.take (q + 1))))) := by
        show World.ownsRow _ _ _ _ _ _ _
        rw [HK.out, ← List.append_assoc]
        exact O2.out
      clear O2 HK
      go_wp2_with fail
      refine ⟨⟨q + 1, by omega, by first | rfl | (congr 1; omega) | simp, O3.out, b2x⟩, ?_⟩
      simp [RowKit.intOf]; omega
    · have hqm : q = m := by omega
      subst hqm
      have hT : cs.take q = cs := List.take_of_length_le (by rw [HM.out]; omega)
      rw [hT] at hown
      clear O2
      have O2 : Hid (wr.ownsRow W1.heap.size 60 3 u5 (2 + q) (flK ([⟨true, 1, T⟩, ⟨true, 4, TX⟩] ++ cksL cs))) := hown
      have HM9 : Hid (cs.length = q) := HM.out
      clear hown FC HM hT CY
      have A9 := A1.to' hB
      have r1 := A9.cv 1 (by omega) (.string ⟨#[]⟩) rfl
      have r2 := A9.cv 2 (by omega) (.int .i64 0) rfl
      clear A9
      go_wp2_with fail
      refine (CE _).mono ?_
      rintro e ye ⟨rfl, hb⟩
      have Oe : Hid (ye.ownsRow W1.heap.size 60 3 u5 ((2 + q)) (flK (([⟨true, 1, T⟩, ⟨true, 4, TX⟩] ++ cksL cs)))) := own_to' O2.out hb
      have Be := Bel.call hB hb
      clear CE hb O2 hB
      have hsz7 := Be.size
      have sb7 : ∀ ob, W1.heap.size ≤ (ye.alloc ob).heap.size := fun ob => by have := Be.size; simp; omega
      go_wp2_with (at_builtin; refine stopAt ?_)
      unfold Stop
      refine wpList_append_own _ rfl _ _ 51 rfl W1.heap.size 60 iK (.agg #[.bool false, .int .i64 0, .string ⟨#[]⟩]) 3 32 Tryd.underlying51 hi hz0 hz1 hz2 rfl (by decide) _ _ _ rfl (World.ownsRow.alloc Oe.out _) ⟨ye.heap.size, 0, none⟩ 1 1 [.bool true, .int .i64 0, .string ⟨#[]⟩] rfl rfl (news_new ye [.bool true, .int .i64 0, .string ⟨#[]⟩] 60) (fun u hu => by simp at hu; rcases hu with rfl | rfl | rfl <;> rfl) (by unfold maxLen; omega) (by omega) (sb7 _) ?_
      intro v7 x7 ho7 hg7 hn7
      have b7x : Below W1.heap.size W1 x7 := (Be.alloc Be.size _).grown hg7 (by go_size) (fun q hq => (World.ownsRow.lt Oe.out q hq).1)
      have O7 : Hid (x7.ownsRow W1.heap.size 60 3 v7 ((2 + q) + 1) (flK (([⟨true, 1, T⟩, ⟨true, 4, TX⟩] ++ cksL cs) ++ [⟨true, 0, ⟨#[]⟩⟩]))) := by
        show World.ownsRow _ _ _ _ _ _ _
        rw [flK_app]
        exact ho7
      clear hg7 ho7 hn7 sb7 hsz7 Oe Be
      have KF : Hid (Kls x7 v7 (([⟨true, 1, T⟩, ⟨true, 4, TX⟩] ++ cksL cs) ++ [⟨true, 0, ⟨#[]⟩⟩])) := Kls.own (b := W1.heap.size) (by rw [show ((([⟨true, 1, T⟩, ⟨true, 4, TX⟩] ++ cksL cs) ++ [⟨true, 0, ⟨#[]⟩⟩]) : List Ke).length = (2 + q) + 1 by simp [cksL]; have := HM9.out; omega]; exact O7.out)
      clear O7
      go_wp2_with fail
      refine bodyPost_ret (v := v7) (by simp [results, Tryd.results31, go_sem]) rfl ⟨⟨_, rfl, KF.out⟩, Bel.call hB0 b7x⟩
theorem pgranted_any (c : Kc) (X : Int) (va vc : Value) (w : World) (HA : Nls w va c.ws) (HC : Sls w vc c.cs) (hc : c.cs.length ≤ 100000) (x0 : 0 ≤ X) (x1 : X ≤ 65535) (p0 : -9223372036854775808 ≤ c.p) (p1 : c.p ≤ 9223372036854775807) :
    Calls Tryd.prog 31 #[kcV c va vc, .int .i64 X] w fun e w' => (∃ u, e = .returned u ∧ Kls w' u ([⟨true, 1, tw 0⟩, ⟨true, 4, tw X⟩] ++ cksL c.cs ++ (if c.h.size ≠ 0 then [⟨true, 6, c.h⟩] else []) ++ (if c.p ≠ 0 then [⟨true, 7, tw (c.p % 65536)⟩] else []) ++ [endK])) ∧ Below w.heap.size w w' := by
  obtain ⟨ws, h, p, cs⟩ := c
  simp only at HA HC hc p0 p1 ⊢
  by_cases c7 : h.size = 0
  · rw [if_neg (fun q => q c7), List.append_nil]
    by_cases c8 : p = 0
    · rw [if_neg (fun q => q c8), List.append_nil]
      exact pgr_00 ws h p cs X va vc w HA HC hc x0 x1 p0 p1 c7 c8
    · rw [if_pos c8]
      exact pgr_01 ws h p cs X va vc w HA HC hc x0 x1 p0 p1 c7 c8
  · rw [if_pos c7]
    by_cases c8 : p = 0
    · rw [if_neg (fun q => q c8), List.append_nil]
      exact pgr_10 ws h p cs X va vc w HA HC hc x0 x1 p0 p1 c7 c8
    · rw [if_pos c8]
      exact pgr_11 ws h p cs X va vc w HA HC hc x0 x1 p0 p1 c7 c8
end Go.Proofs.YtmkfnfencllfnaaDoor
