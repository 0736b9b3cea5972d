/- The reference of nego: Ask. -/
import Derived.Test.YtbhmbdkijpocmaaGreatDoorJ2
set_option linter.all false
set_option maxRecDepth 100000
namespace Go.Proofs.YtbhmbdkijpocmaaGreatDoor
open Go.RowKit Go.Shelf Go.Sort Go.Lib
theorem own_to' {w w' : World} {b e m n : Nat} {v : Value} {xs : List Value} (h : w.ownsRow b e m v n xs) (hb : Below w.heap.size w w') : w'.ownsRow b e m v n xs := by
  refine World.ownsRow.kept h (gby hb) ?_
  obtain ⟨ao, cv, rfl⟩ := own_frm h
  cases ao <;> simp [Value.ownBlock]
theorem ask_no (l : List Int) (h : ByteArray) (p : Int) (E : Int) (e : askE l h p = E) (h0 : E ≠ 0) : askL l h p = [] := by unfold askL; rw [if_neg (by rw [e]; exact h0)]
set_option maxHeartbeats 4000000 in
theorem nAsk_0 (l : List Int) (h : ByteArray) (p : Int) (v : Value) (w : World) (H : Nls w v l) (h9 : l.length ≤ 100000) (hh : h.size ≤ 9223372036854775807) (c0 : l.length = 0) :
    Calls Tryz.prog 10 #[v, .string h, .int .i64 p] w fun e w' => (∃ u, e = .returned (.tuple #[u, .int .i64 11]) ∧ Kls w' u []) ∧ Below w.heap.size w w' := by
  obtain ⟨a, c, rfl, _⟩ := H
  rw [c0]
  go_enter Tryz.func10, Tryz.ntmps10
  go_wp2_with fail
  refine bodyPost_ret (v := .tuple #[.slice none 0 0, .int .i64 11]) (by simp [results, Tryz.results10, go_sem]) rfl ⟨⟨_, rfl, Kls.nil _⟩, Below.refl _ _⟩
set_option maxHeartbeats 4000000 in
theorem nAsk_1 (l : List Int) (h : ByteArray) (p : Int) (v : Value) (w : World) (H : Nls w v l) (h9 : l.length ≤ 100000) (hh : h.size ≤ 9223372036854775807) (c0 : l.length ≠ 0) (E : Int) (c1 : prE l = E) (c2 : E ≠ 0) :
    Calls Tryz.prog 10 #[v, .string h, .int .i64 p] w fun e w' => (∃ u, e = .returned (.tuple #[u, .int .i64 E]) ∧ Kls w' u []) ∧ Below w.heap.size w w' := by
  have C1 := rPairs_any l v w H (by omega)
  obtain ⟨a, c, rfl, _⟩ := H
  have i0 : ((l.length : Int) == 0) = false := by simpa using (show ¬ (l.length : Int) = 0 by omega)
  have i1 : (l.length : Int) ≤ 100000 := by omega
  rw [c1] at C1
  have i2 : (E == 0) = false := by simpa using c2
  generalize prS l = S at *
  clear c1
  go_enter Tryz.func10, Tryz.ntmps10
  go_wp2_with fail
  refine C1.mono ?_
  rintro e w1 ⟨rfl, b1⟩
  clear C1
  go_wp2_with fail
  refine bodyPost_ret (v := .tuple #[.slice none 0 0, .int .i64 E]) (by simp [results, Tryz.results10, go_sem]) rfl ⟨⟨_, rfl, Kls.nil _⟩, b1⟩
set_option maxHeartbeats 4000000 in
theorem nAsk_2 (l : List Int) (h : ByteArray) (p : Int) (v : Value) (w : World) (H : Nls w v l) (h9 : l.length ≤ 100000) (hh : h.size ≤ 9223372036854775807) (c0 : l.length ≠ 0) (c1 : prE l = 0) (c2 : h.size ≠ 0) (c3 : hostB h = false) :
    Calls Tryz.prog 10 #[v, .string h, .int .i64 p] w fun e w' => (∃ u, e = .returned (.tuple #[u, .int .i64 20]) ∧ Kls w' u []) ∧ Below w.heap.size w w' := by
  have C1 := rPairs_any l v w H (by omega)
  obtain ⟨a, c, rfl, _⟩ := H
  have i0 : ((l.length : Int) == 0) = false := by simpa using (show ¬ (l.length : Int) = 0 by omega)
  have i1 : (l.length : Int) ≤ 100000 := by omega
  rw [c1] at C1
  have em := emp_no h (by omega)
  have CH := fun W => nhost_any h hh W
  rw [c3] at CH
  generalize prS l = S at *
  clear c1 c3
  go_enter Tryz.func10, Tryz.ntmps10
  go_wp2_with fail
  refine C1.mono ?_
  rintro e w1 ⟨rfl, b1⟩
  clear C1
  go_wp2_with fail
  refine (CH _).mono ?_
  rintro e w2 ⟨rfl, rfl⟩
  clear CH
  go_wp2_with fail
  refine bodyPost_ret (v := .tuple #[.slice none 0 0, .int .i64 20]) (by simp [results, Tryz.results10, go_sem]) rfl ⟨⟨_, rfl, Kls.nil _⟩, b1⟩
set_option maxHeartbeats 4000000 in
theorem nAsk_30 (l : List Int) (h : ByteArray) (p : Int) (v : Value) (w : World) (H : Nls w v l) (h9 : l.length ≤ 100000) (hh : h.size ≤ 9223372036854775807) (c0 : l.length ≠ 0) (c1 : prE l = 0) (c2 : h.size ≠ 0) (c3 : hostB h = true) (c4 : p ≠ 0) (c5 : portB p = false) :
    Calls Tryz.prog 10 #[v, .string h, .int .i64 p] w fun e w' => (∃ u, e = .returned (.tuple #[u, .int .i64 13]) ∧ Kls w' u []) ∧ Below w.heap.size w w' := by
  have C1 := rPairs_any l v w H (by omega)
  obtain ⟨a, c, rfl, _⟩ := H
  have i0 : ((l.length : Int) == 0) = false := by simpa using (show ¬ (l.length : Int) = 0 by omega)
  have i1 : (l.length : Int) ≤ 100000 := by omega
  rw [c1] at C1
  have em := emp_no h (by omega)
  have CH := fun W => nhost_any h hh W
  rw [c3] at CH
  clear c3
  have ip : (p == 0) = false := by simpa using c4
  have CP := fun W => nport_any p W
  rw [c5] at CP
  generalize prS l = S at *
  clear c1 c5
  go_enter Tryz.func10, Tryz.ntmps10
  go_wp2_with fail
  refine C1.mono ?_
  rintro e w1 ⟨rfl, b1⟩
  clear C1
  go_wp2_with fail
  refine (CH _).mono ?_
  rintro e w2 ⟨rfl, rfl⟩
  clear CH
  go_wp2_with fail
  refine (CP _).mono ?_
  rintro e w3 ⟨rfl, rfl⟩
  clear CP
  go_wp2_with fail
  refine bodyPost_ret (v := .tuple #[.slice none 0 0, .int .i64 13]) (by simp [results, Tryz.results10, go_sem]) rfl ⟨⟨_, rfl, Kls.nil _⟩, b1⟩
set_option maxHeartbeats 4000000 in
theorem nAsk_y00 (l : List Int) (h : ByteArray) (p : Int) (v : Value) (w : World) (H : Nls w v l) (h9 : l.length ≤ 100000) (hh : h.size ≤ 9223372036854775807) (c0 : l.length ≠ 0) (c1 : prE l = 0) (c2 : h.size ≠ 0) (c3 : hostB h = true) (c4 : p ≠ 0) (c5 : portB p = true) :
    Calls Tryz.prog 10 #[v, .string h, .int .i64 p] w fun e w' => (∃ u, e = .returned (.tuple #[u, .int .i64 0]) ∧ Kls w' u ([⟨true, 1, tw 0⟩, ⟨true, 4, prS l⟩] ++ [⟨false, 6, h⟩] ++ [⟨false, 7, tw p⟩] ++ [endK])) ∧ Below w.heap.size w w' := by
  have C1 := rPairs_any l v w H (by omega)
  obtain ⟨a, c, rfl, _⟩ := H
  have i0 : ((l.length : Int) == 0) = false := by simpa using (show ¬ (l.length : Int) = 0 by omega)
  have i1 : (l.length : Int) ≤ 100000 := by omega
  rw [c1] at C1
  have em := emp_no h (by omega)
  have CH := fun W => nhost_any h hh W
  rw [c3] at CH
  clear c3
  have ip : (p == 0) = false := by simpa using c4
  have pr : 1 ≤ p ∧ p ≤ 65535 := by unfold portB at c5; rw [Bool.and_eq_true, decide_eq_true_iff, decide_eq_true_iff] at c5; exact c5
  have CP := fun W => nport_any p W
  rw [c5] at CP
  have CQ := fun W => ntwo_any p (by omega) pr.2 W
  generalize tw p = TP at *
  clear c5
  have CT := fun W => ntwo_any 0 (by decide) (by decide) W
  have CE := fun W => nend_any W
  unfold keV endK at CE
  simp only at CE
  unfold endK
  obtain ⟨iK, hi, hz0, hz1, hz2⟩ := info_parts Tryz.infoK
  generalize prS l = S at *
  generalize tw 0 = T at *
  clear c1
  go_enter Tryz.func10, Tryz.ntmps10
  go_wp2_with fail
  refine C1.mono ?_
  rintro e w1 ⟨rfl, b1⟩
  clear C1
  go_wp2_with fail
  refine (CH _).mono ?_
  rintro e w2 ⟨rfl, rfl⟩
  clear CH
  go_wp2_with fail
  refine (CP _).mono ?_
  rintro e w3 ⟨rfl, rfl⟩
  clear CP
  go_wp2_with fail
  refine (CT _).mono ?_
  rintro e w4 ⟨rfl, b4⟩
  have B4 := Bel.call b1 b4
  clear CT b4
  have OW : Hid ((w4.alloc (.cells #[.bool true, .int .i64 1, .string T, .bool true, .int .i64 4, .string S] 50)).ownsRow w.heap.size 50 3 (.slice (some ⟨w4.heap.size, 0, none⟩) 2 2) 2 (flK [⟨true, 1, T⟩, ⟨true, 4, S⟩])) := own_newK w4 [⟨true, 1, T⟩, ⟨true, 4, S⟩] B4.size (by simp)
  have B5 := Bel.al B4 (.cells #[.bool true, .int .i64 1, .string T, .bool true, .int .i64 4, .string S] 50)
  go_upto_region 12 with (fail)
  generalize w4.alloc (.cells #[.bool true, .int .i64 1, .string T, .bool true, .int .i64 4, .string S] 50) = w5 at *
  have hs1 := B5.size
  have sb1 : ∀ ob, w.heap.size ≤ (w5.alloc ob).heap.size := fun ob => by have := B5.size; simp; omega
  go_wp2_with (at_builtin; refine stopAt ?_)
  unfold Stop
  refine wpList_append_own _ rfl _ _ 26 rfl w.heap.size 50 iK (.agg #[.bool false, .int .i64 0, .string ⟨#[]⟩]) 3 32 Tryz.underlying26 hi hz0 hz1 hz2 rfl (by decide) _ _ _ rfl (World.ownsRow.alloc OW.out _) ⟨w5.heap.size, 0, none⟩ 1 1 [.bool false, .int .i64 6, .string h] rfl rfl (news_new w5 [.bool false, .int .i64 6, .string h] 50) (fun u hu => by simp at hu; rcases hu with rfl | rfl | rfl <;> rfl) (by unfold maxLen; omega) (by omega) (sb1 _) ?_
  intro v1 x1 ho1 hg1 hn1
  have b1x : Below w.heap.size w x1 := (B5.alloc B5.size _).grown hg1 (by go_size) (fun q hq => (OW.out.lt q hq).1)
  have O1 : Hid (x1.ownsRow w.heap.size 50 3 v1 3 (flK ([⟨true, 1, T⟩, ⟨true, 4, S⟩] ++ [⟨false, 6, h⟩]))) := by
    show World.ownsRow _ _ _ _ _ _ _
    rw [flK_app]
    exact ho1
  clear hg1 ho1 hn1 sb1 hs1 OW B5
  go_wp2_with fail
  refine (CQ _).mono ?_
  rintro e y1 ⟨rfl, hb⟩
  have OQ : Hid (y1.ownsRow w.heap.size 50 3 v1 3 (flK ([⟨true, 1, T⟩, ⟨true, 4, S⟩] ++ [⟨false, 6, h⟩]))) := own_to' O1.out hb
  have BQ := Bel.call b1x hb
  clear CQ hb O1 b1x
  have hs2 := BQ.size
  have sb2 : ∀ ob, w.heap.size ≤ (y1.alloc ob).heap.size := fun ob => by have := BQ.size; simp; omega
  go_wp2_with (at_builtin; refine stopAt ?_)
  unfold Stop
  refine wpList_append_own _ rfl _ _ 26 rfl w.heap.size 50 iK (.agg #[.bool false, .int .i64 0, .string ⟨#[]⟩]) 3 32 Tryz.underlying26 hi hz0 hz1 hz2 rfl (by decide) _ _ _ rfl (World.ownsRow.alloc OQ.out _) ⟨y1.heap.size, 0, none⟩ 1 1 [.bool false, .int .i64 7, .string TP] rfl rfl (news_new y1 [.bool false, .int .i64 7, .string TP] 50) (fun u hu => by simp at hu; rcases hu with rfl | rfl | rfl <;> rfl) (by unfold maxLen; omega) (by omega) (sb2 _) ?_
  intro v2 x2 ho2 hg2 hn2
  have b2x : Below w.heap.size w x2 := (BQ.alloc BQ.size _).grown hg2 (by go_size) (fun q hq => (OQ.out.lt q hq).1)
  have O2 : Hid (x2.ownsRow w.heap.size 50 3 v2 4 (flK (([⟨true, 1, T⟩, ⟨true, 4, S⟩] ++ [⟨false, 6, h⟩]) ++ [⟨false, 7, TP⟩]))) := by
    show World.ownsRow _ _ _ _ _ _ _
    rw [flK_app]
    exact ho2
  clear hg2 ho2 hn2 sb2 hs2 OQ BQ
  go_wp2_with fail
  refine (CE _).mono ?_
  rintro e y2 ⟨rfl, hb⟩
  have OE : Hid (y2.ownsRow w.heap.size 50 3 v2 4 (flK (([⟨true, 1, T⟩, ⟨true, 4, S⟩] ++ [⟨false, 6, h⟩]) ++ [⟨false, 7, TP⟩]))) := own_to' O2.out hb
  have BE := Bel.call b2x hb
  clear CE hb O2 b2x
  have hs3 := BE.size
  have sb3 : ∀ ob, w.heap.size ≤ (y2.alloc ob).heap.size := fun ob => by have := BE.size; simp; omega
  go_wp2_with (at_builtin; refine stopAt ?_)
  unfold Stop
  refine wpList_append_own _ rfl _ _ 26 rfl w.heap.size 50 iK (.agg #[.bool false, .int .i64 0, .string ⟨#[]⟩]) 3 32 Tryz.underlying26 hi hz0 hz1 hz2 rfl (by decide) _ _ _ rfl (World.ownsRow.alloc OE.out _) ⟨y2.heap.size, 0, none⟩ 1 1 [.bool true, .int .i64 0, .string ⟨#[]⟩] rfl rfl (news_new y2 [.bool true, .int .i64 0, .string ⟨#[]⟩] 50) (fun u hu => by simp at hu; rcases hu with rfl | rfl | rfl <;> rfl) (by unfold maxLen; omega) (by omega) (sb3 _) ?_
  intro v3 x3 ho3 hg3 hn3
  have b3x : Below w.heap.size w x3 := (BE.alloc BE.size _).grown hg3 (by go_size) (fun q hq => (OE.out.lt q hq).1)
  have O3 : Hid (x3.ownsRow w.heap.size 50 3 v3 5 (flK ((([⟨true, 1, T⟩, ⟨true, 4, S⟩] ++ [⟨false, 6, h⟩]) ++ [⟨false, 7, TP⟩]) ++ [⟨true, 0, ⟨#[]⟩⟩]))) := by
    show World.ownsRow _ _ _ _ _ _ _
    rw [flK_app]
    exact ho3
  clear hg3 ho3 hn3 sb3 hs3 OE BE
  have KF : Hid _ := Kls.own O3.out
  clear O3
  go_wp2_with fail
  refine bodyPost_ret (v := .tuple #[v3, .int .i64 0]) (by simp [results, Tryz.results10, go_sem]) rfl ⟨⟨_, rfl, KF.out⟩, b3x⟩
set_option maxHeartbeats 4000000 in
theorem nAsk_y01 (l : List Int) (h : ByteArray) (p : Int) (v : Value) (w : World) (H : Nls w v l) (h9 : l.length ≤ 100000) (hh : h.size ≤ 9223372036854775807) (c0 : l.length ≠ 0) (c1 : prE l = 0) (c2 : h.size ≠ 0) (c3 : hostB h = true) (c4 : p = 0) :
    Calls Tryz.prog 10 #[v, .string h, .int .i64 p] w fun e w' => (∃ u, e = .returned (.tuple #[u, .int .i64 0]) ∧ Kls w' u ([⟨true, 1, tw 0⟩, ⟨true, 4, prS l⟩] ++ [⟨false, 6, h⟩] ++ [endK])) ∧ Below w.heap.size w w' := by
  have C1 := rPairs_any l v w H (by omega)
  obtain ⟨a, c, rfl, _⟩ := H
  have i0 : ((l.length : Int) == 0) = false := by simpa using (show ¬ (l.length : Int) = 0 by omega)
  have i1 : (l.length : Int) ≤ 100000 := by omega
  rw [c1] at C1
  have em := emp_no h (by omega)
  have CH := fun W => nhost_any h hh W
  rw [c3] at CH
  clear c3
  subst c4
  have CT := fun W => ntwo_any 0 (by decide) (by decide) W
  have CE := fun W => nend_any W
  unfold keV endK at CE
  simp only at CE
  unfold endK
  obtain ⟨iK, hi, hz0, hz1, hz2⟩ := info_parts Tryz.infoK
  generalize prS l = S at *
  generalize tw 0 = T at *
  clear c1
  go_enter Tryz.func10, Tryz.ntmps10
  go_wp2_with fail
  refine C1.mono ?_
  rintro e w1 ⟨rfl, b1⟩
  clear C1
  go_wp2_with fail
  refine (CH _).mono ?_
  rintro e w2 ⟨rfl, rfl⟩
  clear CH
  go_wp2_with fail
  refine (CT _).mono ?_
  rintro e w4 ⟨rfl, b4⟩
  have B4 := Bel.call b1 b4
  clear CT b4
  have OW : Hid ((w4.alloc (.cells #[.bool true, .int .i64 1, .string T, .bool true, .int .i64 4, .string S] 50)).ownsRow w.heap.size 50 3 (.slice (some ⟨w4.heap.size, 0, none⟩) 2 2) 2 (flK [⟨true, 1, T⟩, ⟨true, 4, S⟩])) := own_newK w4 [⟨true, 1, T⟩, ⟨true, 4, S⟩] B4.size (by simp)
  have B5 := Bel.al B4 (.cells #[.bool true, .int .i64 1, .string T, .bool true, .int .i64 4, .string S] 50)
  go_upto_region 12 with (fail)
  generalize w4.alloc (.cells #[.bool true, .int .i64 1, .string T, .bool true, .int .i64 4, .string S] 50) = w5 at *
  have hs1 := B5.size
  have sb1 : ∀ ob, w.heap.size ≤ (w5.alloc ob).heap.size := fun ob => by have := B5.size; simp; omega
  go_wp2_with (at_builtin; refine stopAt ?_)
  unfold Stop
  refine wpList_append_own _ rfl _ _ 26 rfl w.heap.size 50 iK (.agg #[.bool false, .int .i64 0, .string ⟨#[]⟩]) 3 32 Tryz.underlying26 hi hz0 hz1 hz2 rfl (by decide) _ _ _ rfl (World.ownsRow.alloc OW.out _) ⟨w5.heap.size, 0, none⟩ 1 1 [.bool false, .int .i64 6, .string h] rfl rfl (news_new w5 [.bool false, .int .i64 6, .string h] 50) (fun u hu => by simp at hu; rcases hu with rfl | rfl | rfl <;> rfl) (by unfold maxLen; omega) (by omega) (sb1 _) ?_
  intro v1 x1 ho1 hg1 hn1
  have b1x : Below w.heap.size w x1 := (B5.alloc B5.size _).grown hg1 (by go_size) (fun q hq => (OW.out.lt q hq).1)
  have O1 : Hid (x1.ownsRow w.heap.size 50 3 v1 3 (flK ([⟨true, 1, T⟩, ⟨true, 4, S⟩] ++ [⟨false, 6, h⟩]))) := by
    show World.ownsRow _ _ _ _ _ _ _
    rw [flK_app]
    exact ho1
  clear hg1 ho1 hn1 sb1 hs1 OW B5
  go_wp2_with fail
  refine (CE _).mono ?_
  rintro e y2 ⟨rfl, hb⟩
  have OE : Hid (y2.ownsRow w.heap.size 50 3 v1 3 (flK ([⟨true, 1, T⟩, ⟨true, 4, S⟩] ++ [⟨false, 6, h⟩]))) := own_to' O1.out hb
  have BE := Bel.call b1x hb
  clear CE hb O1 b1x
  have hs2 := BE.size
  have sb2 : ∀ ob, w.heap.size ≤ (y2.alloc ob).heap.size := fun ob => by have := BE.size; simp; omega
  go_wp2_with (at_builtin; refine stopAt ?_)
  unfold Stop
  refine wpList_append_own _ rfl _ _ 26 rfl w.heap.size 50 iK (.agg #[.bool false, .int .i64 0, .string ⟨#[]⟩]) 3 32 Tryz.underlying26 hi hz0 hz1 hz2 rfl (by decide) _ _ _ rfl (World.ownsRow.alloc OE.out _) ⟨y2.heap.size, 0, none⟩ 1 1 [.bool true, .int .i64 0, .string ⟨#[]⟩] rfl rfl (news_new y2 [.bool true, .int .i64 0, .string ⟨#[]⟩] 50) (fun u hu => by simp at hu; rcases hu with rfl | rfl | rfl <;> rfl) (by unfold maxLen; omega) (by omega) (sb2 _) ?_
  intro v2 x2 ho2 hg2 hn2
  have b2x : Below w.heap.size w x2 := (BE.alloc BE.size _).grown hg2 (by go_size) (fun q hq => (OE.out.lt q hq).1)
  have O2 : Hid (x2.ownsRow w.heap.size 50 3 v2 4 (flK (([⟨true, 1, T⟩, ⟨true, 4, S⟩] ++ [⟨false, 6, h⟩]) ++ [⟨true, 0, ⟨#[]⟩⟩]))) := by
    show World.ownsRow _ _ _ _ _ _ _
    rw [flK_app]
    exact ho2
  clear hg2 ho2 hn2 sb2 hs2 OE BE
  have KF : Hid _ := Kls.own O2.out
  clear O2
  go_wp2_with fail
  refine bodyPost_ret (v := .tuple #[v2, .int .i64 0]) (by simp [results, Tryz.results10, go_sem]) rfl ⟨⟨_, rfl, KF.out⟩, b2x⟩
set_option maxHeartbeats 4000000 in
theorem nAsk_31 (l : List Int) (h : ByteArray) (p : Int) (v : Value) (w : World) (H : Nls w v l) (h9 : l.length ≤ 100000) (hh : h.size ≤ 9223372036854775807) (c0 : l.length ≠ 0) (c1 : prE l = 0) (c2 : h.size = 0) (c4 : p ≠ 0) (c5 : portB p = false) :
    Calls Tryz.prog 10 #[v, .string h, .int .i64 p] w fun e w' => (∃ u, e = .returned (.tuple #[u, .int .i64 13]) ∧ Kls w' u []) ∧ Below w.heap.size w w' := by
  have C1 := rPairs_any l v w H (by omega)
  obtain ⟨a, c, rfl, _⟩ := H
  have i0 : ((l.length : Int) == 0) = false := by simpa using (show ¬ (l.length : Int) = 0 by omega)
  have i1 : (l.length : Int) ≤ 100000 := by omega
  rw [c1] at C1
  obtain rfl := emp_is c2
  have ip : (p == 0) = false := by simpa using c4
  have CP := fun W => nport_any p W
  rw [c5] at CP
  generalize prS l = S at *
  clear c1 c5
  go_enter Tryz.func10, Tryz.ntmps10
  go_wp2_with fail
  refine C1.mono ?_
  rintro e w1 ⟨rfl, b1⟩
  clear C1
  go_wp2_with fail
  refine (CP _).mono ?_
  rintro e w3 ⟨rfl, rfl⟩
  clear CP
  go_wp2_with fail
  refine bodyPost_ret (v := .tuple #[.slice none 0 0, .int .i64 13]) (by simp [results, Tryz.results10, go_sem]) rfl ⟨⟨_, rfl, Kls.nil _⟩, b1⟩
set_option maxHeartbeats 4000000 in
theorem nAsk_y10 (l : List Int) (h : ByteArray) (p : Int) (v : Value) (w : World) (H : Nls w v l) (h9 : l.length ≤ 100000) (hh : h.size ≤ 9223372036854775807) (c0 : l.length ≠ 0) (c1 : prE l = 0) (c2 : h.size = 0) (c4 : p ≠ 0) (c5 : portB p = true) :
    Calls Tryz.prog 10 #[v, .string h, .int .i64 p] w fun e w' => (∃ u, e = .returned (.tuple #[u, .int .i64 0]) ∧ Kls w' u ([⟨true, 1, tw 0⟩, ⟨true, 4, prS l⟩] ++ [⟨false, 7, tw p⟩] ++ [endK])) ∧ Below w.heap.size w w' := by
  have C1 := rPairs_any l v w H (by omega)
  obtain ⟨a, c, rfl, _⟩ := H
  have i0 : ((l.length : Int) == 0) = false := by simpa using (show ¬ (l.length : Int) = 0 by omega)
  have i1 : (l.length : Int) ≤ 100000 := by omega
  rw [c1] at C1
  obtain rfl := emp_is c2
  have ip : (p == 0) = false := by simpa using c4
  have pr : 1 ≤ p ∧ p ≤ 65535 := by unfold portB at c5; rw [Bool.and_eq_true, decide_eq_true_iff, decide_eq_true_iff] at c5; exact c5
  have CP := fun W => nport_any p W
  rw [c5] at CP
  have CQ := fun W => ntwo_any p (by omega) pr.2 W
  generalize tw p = TP at *
  clear c5
  have CT := fun W => ntwo_any 0 (by decide) (by decide) W
  have CE := fun W => nend_any W
  unfold keV endK at CE
  simp only at CE
  unfold endK
  obtain ⟨iK, hi, hz0, hz1, hz2⟩ := info_parts Tryz.infoK
  generalize prS l = S at *
  generalize tw 0 = T at *
  clear c1
  go_enter Tryz.func10, Tryz.ntmps10
  go_wp2_with fail
  refine C1.mono ?_
  rintro e w1 ⟨rfl, b1⟩
  clear C1
  go_wp2_with fail
  refine (CP _).mono ?_
  rintro e w3 ⟨rfl, rfl⟩
  clear CP
  go_wp2_with fail
  refine (CT _).mono ?_
  rintro e w4 ⟨rfl, b4⟩
  have B4 := Bel.call b1 b4
  clear CT b4
  have OW : Hid ((w4.alloc (.cells #[.bool true, .int .i64 1, .string T, .bool true, .int .i64 4, .string S] 50)).ownsRow w.heap.size 50 3 (.slice (some ⟨w4.heap.size, 0, none⟩) 2 2) 2 (flK [⟨true, 1, T⟩, ⟨true, 4, S⟩])) := own_newK w4 [⟨true, 1, T⟩, ⟨true, 4, S⟩] B4.size (by simp)
  have B5 := Bel.al B4 (.cells #[.bool true, .int .i64 1, .string T, .bool true, .int .i64 4, .string S] 50)
  go_upto_region 14 with (fail)
  generalize w4.alloc (.cells #[.bool true, .int .i64 1, .string T, .bool true, .int .i64 4, .string S] 50) = w5 at *
  go_wp2_with fail
  refine (CQ _).mono ?_
  rintro e y1 ⟨rfl, hb⟩
  have OQ : Hid (y1.ownsRow w.heap.size 50 3 (.slice (some ⟨w4.heap.size, 0, none⟩) 2 2) 2 (flK [⟨true, 1, T⟩, ⟨true, 4, S⟩])) := own_to' OW.out hb
  have BQ := Bel.call B5 hb
  clear CQ hb OW B5
  have hs1 := BQ.size
  have sb1 : ∀ ob, w.heap.size ≤ (y1.alloc ob).heap.size := fun ob => by have := BQ.size; simp; omega
  go_wp2_with (at_builtin; refine stopAt ?_)
  unfold Stop
  refine wpList_append_own _ rfl _ _ 26 rfl w.heap.size 50 iK (.agg #[.bool false, .int .i64 0, .string ⟨#[]⟩]) 3 32 Tryz.underlying26 hi hz0 hz1 hz2 rfl (by decide) _ _ _ rfl (World.ownsRow.alloc OQ.out _) ⟨y1.heap.size, 0, none⟩ 1 1 [.bool false, .int .i64 7, .string TP] rfl rfl (news_new y1 [.bool false, .int .i64 7, .string TP] 50) (fun u hu => by simp at hu; rcases hu with rfl | rfl | rfl <;> rfl) (by unfold maxLen; omega) (by omega) (sb1 _) ?_
  intro v1 x1 ho1 hg1 hn1
  have b1x : Below w.heap.size w x1 := (BQ.alloc BQ.size _).grown hg1 (by go_size) (fun q hq => (OQ.out.lt q hq).1)
  have O1 : Hid (x1.ownsRow w.heap.size 50 3 v1 3 (flK ([⟨true, 1, T⟩, ⟨true, 4, S⟩] ++ [⟨false, 7, TP⟩]))) := by
    show World.ownsRow _ _ _ _ _ _ _
    rw [flK_app]
    exact ho1
  clear hg1 ho1 hn1 sb1 hs1 OQ BQ
  go_wp2_with fail
  refine (CE _).mono ?_
  rintro e y2 ⟨rfl, hb⟩
  have OE : Hid (y2.ownsRow w.heap.size 50 3 v1 3 (flK ([⟨true, 1, T⟩, ⟨true, 4, S⟩] ++ [⟨false, 7, TP⟩]))) := own_to' O1.out hb
  have BE := Bel.call b1x hb
  clear CE hb O1 b1x
  have hs2 := BE.size
  have sb2 : ∀ ob, w.heap.size ≤ (y2.alloc ob).heap.size := fun ob => by have := BE.size; simp; omega
  go_wp2_with (at_builtin; refine stopAt ?_)
  unfold Stop
  refine wpList_append_own _ rfl _ _ 26 rfl w.heap.size 50 iK (.agg #[.bool false, .int .i64 0, .string ⟨#[]⟩]) 3 32 Tryz.underlying26 hi hz0 hz1 hz2 rfl (by decide) _ _ _ rfl (World.ownsRow.alloc OE.out _) ⟨y2.heap.size, 0, none⟩ 1 1 [.bool true, .int .i64 0, .string ⟨#[]⟩] rfl rfl (news_new y2 [.bool true, .int .i64 0, .string ⟨#[]⟩] 50) (fun u hu => by simp at hu; rcases hu with rfl | rfl | rfl <;> rfl) (by unfold maxLen; omega) (by omega) (sb2 _) ?_
  intro v2 x2 ho2 hg2 hn2
  have b2x : Below w.heap.size w x2 := (BE.alloc BE.size _).grown hg2 (by go_size) (fun q hq => (OE.out.lt q hq).1)
  have O2 : Hid (x2.ownsRow w.heap.size 50 3 v2 4 (flK (([⟨true, 1, T⟩, ⟨true, 4, S⟩] ++ [⟨false, 7, TP⟩]) ++ [⟨true, 0, ⟨#[]⟩⟩]))) := by
    show World.ownsRow _ _ _ _ _ _ _
    rw [flK_app]
    exact ho2
  clear hg2 ho2 hn2 sb2 hs2 OE BE
  have KF : Hid _ := Kls.own O2.out
  clear O2
  go_wp2_with fail
  refine bodyPost_ret (v := .tuple #[v2, .int .i64 0]) (by simp [results, Tryz.results10, go_sem]) rfl ⟨⟨_, rfl, KF.out⟩, b2x⟩
set_option maxHeartbeats 4000000 in
theorem nAsk_y11 (l : List Int) (h : ByteArray) (p : Int) (v : Value) (w : World) (H : Nls w v l) (h9 : l.length ≤ 100000) (hh : h.size ≤ 9223372036854775807) (c0 : l.length ≠ 0) (c1 : prE l = 0) (c2 : h.size = 0) (c4 : p = 0) :
    Calls Tryz.prog 10 #[v, .string h, .int .i64 p] w fun e w' => (∃ u, e = .returned (.tuple #[u, .int .i64 0]) ∧ Kls w' u ([⟨true, 1, tw 0⟩, ⟨true, 4, prS l⟩] ++ [endK])) ∧ Below w.heap.size w w' := by
  have C1 := rPairs_any l v w H (by omega)
  obtain ⟨a, c, rfl, _⟩ := H
  have i0 : ((l.length : Int) == 0) = false := by simpa using (show ¬ (l.length : Int) = 0 by omega)
  have i1 : (l.length : Int) ≤ 100000 := by omega
  rw [c1] at C1
  obtain rfl := emp_is c2
  subst c4
  have CT := fun W => ntwo_any 0 (by decide) (by decide) W
  have CE := fun W => nend_any W
  unfold keV endK at CE
  simp only at CE
  unfold endK
  obtain ⟨iK, hi, hz0, hz1, hz2⟩ := info_parts Tryz.infoK
  generalize prS l = S at *
  generalize tw 0 = T at *
  clear c1
  go_enter Tryz.func10, Tryz.ntmps10
  go_wp2_with fail
  refine C1.mono ?_
  rintro e w1 ⟨rfl, b1⟩
  clear C1
  go_wp2_with fail
  refine (CT _).mono ?_
  rintro e w4 ⟨rfl, b4⟩
  have B4 := Bel.call b1 b4
  clear CT b4
  have OW : Hid ((w4.alloc (.cells #[.bool true, .int .i64 1, .string T, .bool true, .int .i64 4, .string S] 50)).ownsRow w.heap.size 50 3 (.slice (some ⟨w4.heap.size, 0, none⟩) 2 2) 2 (flK [⟨true, 1, T⟩, ⟨true, 4, S⟩])) := own_newK w4 [⟨true, 1, T⟩, ⟨true, 4, S⟩] B4.size (by simp)
  have B5 := Bel.al B4 (.cells #[.bool true, .int .i64 1, .string T, .bool true, .int .i64 4, .string S] 50)
  go_upto_region 15 with (fail)
  generalize w4.alloc (.cells #[.bool true, .int .i64 1, .string T, .bool true, .int .i64 4, .string S] 50) = w5 at *
  go_wp2_with fail
  refine (CE _).mono ?_
  rintro e y2 ⟨rfl, hb⟩
  have OE : Hid (y2.ownsRow w.heap.size 50 3 (.slice (some ⟨w4.heap.size, 0, none⟩) 2 2) 2 (flK [⟨true, 1, T⟩, ⟨true, 4, S⟩])) := own_to' OW.out hb
  have BE := Bel.call B5 hb
  clear CE hb OW B5
  have hs1 := BE.size
  have sb1 : ∀ ob, w.heap.size ≤ (y2.alloc ob).heap.size := fun ob => by have := BE.size; simp; omega
  go_wp2_with (at_builtin; refine stopAt ?_)
  unfold Stop
  refine wpList_append_own _ rfl _ _ 26 rfl w.heap.size 50 iK (.agg #[.bool false, .int .i64 0, .string ⟨#[]⟩]) 3 32 Tryz.underlying26 hi hz0 hz1 hz2 rfl (by decide) _ _ _ rfl (World.ownsRow.alloc OE.out _) ⟨y2.heap.size, 0, none⟩ 1 1 [.bool true, .int .i64 0, .string ⟨#[]⟩] rfl rfl (news_new y2 [.bool true, .int .i64 0, .string ⟨#[]⟩] 50) (fun u hu => by simp at hu; rcases hu with rfl | rfl | rfl <;> rfl) (by unfold maxLen; omega) (by omega) (sb1 _) ?_
  intro v1 x1 ho1 hg1 hn1
  have b1x : Below w.heap.size w x1 := (BE.alloc BE.size _).grown hg1 (by go_size) (fun q hq => (OE.out.lt q hq).1)
  have O1 : Hid (x1.ownsRow w.heap.size 50 3 v1 3 (flK ([⟨true, 1, T⟩, ⟨true, 4, S⟩] ++ [⟨true, 0, ⟨#[]⟩⟩]))) := by
    show World.ownsRow _ _ _ _ _ _ _
    rw [flK_app]
    exact ho1
  clear hg1 ho1 hn1 sb1 hs1 OE BE
  have KF : Hid _ := Kls.own O1.out
  clear O1
  go_wp2_with fail
  refine bodyPost_ret (v := .tuple #[v1, .int .i64 0]) (by simp [results, Tryz.results10, go_sem]) rfl ⟨⟨_, rfl, KF.out⟩, b1x⟩
theorem nAsk_any (l : List Int) (h : ByteArray) (p : Int) (v : Value) (w : World) (H : Nls w v l) (h9 : l.length ≤ 100000) (hh : h.size ≤ 9223372036854775807) :
    Calls Tryz.prog 10 #[v, .string h, .int .i64 p] w fun e w' => (∃ u, e = .returned (.tuple #[u, .int .i64 (askE l h p)]) ∧ Kls w' u (askL l h p)) ∧ Below w.heap.size w w' := by
  by_cases c0 : l.length = 0
  · have e : askE l h p = 11 := by unfold askE; rw [if_pos c0]
    rw [ask_no l h p 11 e (by decide), e]
    exact nAsk_0 l h p v w H h9 hh c0
  by_cases c1 : prE l = 0
  case neg =>
    have e : askE l h p = prE l := by unfold askE; rw [if_neg c0, if_pos c1]
    rw [ask_no l h p _ e c1, e]
    exact nAsk_1 l h p v w H h9 hh c0 _ rfl c1
  have c1' : ¬ prE l ≠ 0 := fun q => q c1
  by_cases c2 : h.size ≠ 0 ∧ hostB h = false
  · have e : askE l h p = 20 := by unfold askE; rw [if_neg c0, if_neg c1', if_pos c2]
    rw [ask_no l h p _ e (by decide), e]
    exact nAsk_2 l h p v w H h9 hh c0 c1 c2.1 c2.2
  have c3 : h.size ≠ 0 → hostB h = true := fun q => by
    cases hq : hostB h
    · exact absurd ⟨q, hq⟩ c2
    · rfl
  by_cases c4 : p ≠ 0 ∧ portB p = false
  · have e : askE l h p = 13 := by unfold askE; rw [if_neg c0, if_neg c1', if_neg c2, if_pos c4]
    rw [ask_no l h p _ e (by decide), e]
    by_cases hz : h.size = 0
    · exact nAsk_31 l h p v w H h9 hh c0 c1 hz c4.1 c4.2
    · exact nAsk_30 l h p v w H h9 hh c0 c1 hz (c3 hz) c4.1 c4.2
  have c5 : p ≠ 0 → portB p = true := fun q => by
    cases hq : portB p
    · exact absurd ⟨q, hq⟩ c4
    · rfl
  have e : askE l h p = 0 := by unfold askE; rw [if_neg c0, if_neg c1', if_neg c2, if_neg c4]
  unfold askL
  rw [if_pos e, e]
  by_cases hz : h.size = 0
  · rw [if_neg (fun q => q hz), List.append_nil]
    by_cases pz : p = 0
    · rw [if_neg (fun q => q pz), List.append_nil]
      exact nAsk_y11 l h p v w H h9 hh c0 c1 hz pz
    · rw [if_pos pz]
      exact nAsk_y10 l h p v w H h9 hh c0 c1 hz pz (c5 pz)
  · rw [if_pos hz]
    by_cases pz : p = 0
    · rw [if_neg (fun q => q pz), List.append_nil]
      exact nAsk_y01 l h p v w H h9 hh c0 c1 hz (c3 hz) pz
    · rw [if_pos pz]
      exact nAsk_y00 l h p v w H h9 hh c0 c1 hz (c3 hz) pz (c5 pz)
end Go.Proofs.YtbhmbdkijpocmaaGreatDoor
