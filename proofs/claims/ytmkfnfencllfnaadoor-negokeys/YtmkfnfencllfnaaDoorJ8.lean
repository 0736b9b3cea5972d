/- The program nego: Ask. -/
import Derived.Test.YtmkfnfencllfnaaDoorJ6
set_option linter.all false
set_option maxRecDepth 100000
namespace Go.Proofs.YtmkfnfencllfnaaDoor
open Go.RowKit Go.Shelf Go.Sort
theorem fst_zero : ∀ (es : List Int), fstL es = 0 → ∀ e ∈ es, e = 0
  | [], _, e, h => by cases h
  | x :: l, h0, e, h => by
    have hx : x = 0 := by
      have h0' : (if x = 0 then fstL l else x) = 0 := h0
      split at h0'
      · assumption
      · exact h0'
    have hl : fstL l = 0 := by
      have h0' : (if x = 0 then fstL l else x) = 0 := h0
      rwa [if_pos hx] at h0'
    rcases List.mem_cons.1 h with rfl | h
    · exact hx
    · exact fst_zero l hl e h
theorem at4 (a b c d : Value) : ∀ j, j < 4 → (#[a, b, c, d] : Array Value)[j]? = some (([a, b, c, d] : List Value).getD j undef) := fun j hj => by
  match j, hj with
  | 0, _ => rfl
  | 1, _ => rfl
  | 2, _ => rfl
  | 3, _ => rfl
theorem ask1 (e : Int) (g : Nat) (w : World) (h : w.cell? ⟨g, 0, none⟩ = some (.int .i64 e)) : Calls Tryd.prog 20 #[.pointer (some ⟨g, 0, none⟩)] w fun x w' => x = .returned (.int .i64 e) ∧ Below w.heap.size w w' := by
  go_enter Tryd.func20, Tryd.ntmps20
  go_wp2_with fail
  go_ret
  exact ⟨rfl, Below.refl _ _⟩
set_option maxHeartbeats 8000000 in
theorem pAsk_11 (l : List Int) (h : ByteArray) (p : Int) (v : Value) (w : World) (HA : Nls w v l) (h9 : l.length ≤ 100000) (hh : h.size ≤ 9223372036854775807) (p0 : -9223372036854775808 ≤ p) (p1 : p ≤ 9223372036854775807) (c7 : h.size ≠ 0) (c8 : p ≠ 0) :
    Calls Tryd.prog 13 #[v, .string h, .int .i64 p] w fun e w' => (∃ u, e = .returned (.tuple #[u, .int .i64 (fstL [(if 0 < l.length then 0 else 11), prE l, (if hostB h = true then 0 else 20), (if portB p = true then 0 else 13)])]) ∧ Kls w' u (if fstL [(if 0 < l.length then 0 else 11), prE l, (if hostB h = true then 0 else 20), (if portB p = true then 0 else 13)] = 0 then [⟨true, 1, tw 0⟩, ⟨true, 4, prS l⟩] ++ [⟨false, 6, h⟩] ++ [⟨false, 7, tw p⟩] ++ [endK] else [])) ∧ Below w.heap.size w w' := by
  have C1 := tP l v w HA h9
  obtain ⟨aa, ca, rfl, _⟩ := HA
  unfold endK
  have CIP := fun W => pisPort_any p W
  have CPP := fun W (q : portB p = true) => by
    unfold portB at q
    rw [Bool.and_eq_true, decide_eq_true_iff, decide_eq_true_iff] at q
    exact pair1 p (by omega) (by omega) W
  have CMP := fun W => pmay_any 7 (tw p) W
  have ip : (p == 0) = false := by simpa using c8
  have CU4 := fun W => punless_any (portB p) 13 W
  have HP4 : Hid ((if portB p = true then (0 : Int) else 13) = 0 → portB p = true) := fun q => by
    split at q
    · assumption
    · cases q
  generalize (if portB p = true then (0 : Int) else 13) = e4 at *
  generalize portB p = b4 at *
  generalize tw p = TP at *
  have CIH := fun W => pisHost_any h hh W
  have CMH := fun W => pmay_any 6 h W
  have em := emp_no h (by omega)
  have CU3 := fun W => punless_any (hostB h) 20 W
  generalize (if hostB h = true then (0 : Int) else 20) = e3 at *
  generalize hostB h = b3 at *
  have CU1 := fun W => punless_any (decide (0 < l.length)) 11 W
  have q1 : (if decide (0 < l.length) = true then (0 : Int) else 11) = (if 0 < l.length then 0 else 11) := by simp
  rw [q1] at CU1
  clear q1
  generalize (if 0 < l.length then (0 : Int) else 11) = e1 at *
  have CP0 := fun W => pair1 0 (by decide) (by decide) W
  have CM1 := fun W => pmust_any 1 (tw 0) W
  have CM4 := fun W => pmust_any 4 (prS l) W
  have CE := fun W => pend_any W
  generalize tw 0 = T at *
  generalize prS l = S at *
  generalize prE l = E at *
  obtain ⟨iK, hi, hz0, hz1, hz2⟩ := info_parts Tryd.infoK
  have FZ : Hid (fstL [e1, E, e3, e4] = 0 → e4 = 0) := fun q => fst_zero _ q e4 (by simp)
  have CF := fun (f1 f2 f3 f4 : Value) (W : World) (Q1 : Qs W f1 e1) (Q2 : Qs W f2 E) (Q3 : Qs W f3 e3) (Q4 : Qs W f4 e4) => (show Calls Tryd.prog 18 #[.slice (some ⟨W.heap.size, 0, none⟩) 4 4] (W.alloc (.cells #[f1, f2, f3, f4] 66)) _ from pfirst_any [e1, E, e3, e4] [f1, f2, f3, f4] W.heap.size (W.alloc (.cells #[f1, f2, f3, f4] 66)) (by simp) (by simp) (Arr.new W #[f1, f2, f3, f4] 66 _ rfl _ 4 (at4 f1 f2 f3 f4)) (fun j hj => by
    have B := Bel.al (Below.refl W.heap.size W) (.cells #[f1, f2, f3, f4] 66)
    match j, hj with
    | 0, _ => exact Q1.to B
    | 1, _ => exact Q2.to B
    | 2, _ => exact Q3.to B
    | 3, _ => exact Q4.to B))
  generalize fstL [e1, E, e3, e4] = D at *
  have HR1 : Hid (D = 0 → (if D = 0 then ([⟨true, 1, T⟩, ⟨true, 4, S⟩] ++ [⟨false, 6, h⟩] ++ [⟨false, 7, TP⟩] ++ [⟨true, 0, ⟨#[]⟩⟩] : List Ke) else []) = ([⟨true, 1, T⟩, ⟨true, 4, S⟩] ++ [⟨false, 6, h⟩] ++ [⟨false, 7, TP⟩] ++ [⟨true, 0, ⟨#[]⟩⟩] : List Ke)) := fun q => if_pos q
  have HR0 : Hid (D ≠ 0 → (if D = 0 then ([⟨true, 1, T⟩, ⟨true, 4, S⟩] ++ [⟨false, 6, h⟩] ++ [⟨false, 7, TP⟩] ++ [⟨true, 0, ⟨#[]⟩⟩] : List Ke) else []) = []) := fun q => if_neg q
  generalize (if D = 0 then ([⟨true, 1, T⟩, ⟨true, 4, S⟩] ++ [⟨false, 6, h⟩] ++ [⟨false, 7, TP⟩] ++ [⟨true, 0, ⟨#[]⟩⟩] : List Ke) else []) = RES at *
  generalize hz : (l.length : Nat) = nl at *
  clear hz
  have gz : decide ((nl : Int) > 0) = decide (0 < nl) := by simp
  go_enter Tryd.func13, Tryd.ntmps13
  go_wp2_with fail
  refine C1.mono ?_
  rintro e w1 ⟨rfl, b1⟩
  clear C1
  have A2 := Arr.new w1 #[Value.int .i64 E] 33 _ rfl _ 1 (oneAt _)
  have B2 := Bel.al b1 (.cells #[.int .i64 E] 33)
  go_upto_region 2 with (fail)
  generalize w1.alloc (.cells #[.int .i64 E] 33) = w2 at *
  generalize w1.heap.size = g9 at *
  clear b1
  go_wp2_with fail
  refine (CU1 _).mono ?_
  rintro e w3 ⟨⟨u1, rfl, Q1⟩, b3⟩
  have B3 := Bel.call B2 b3
  have A3 := Arr.to' (n := 0) A2 b3
  obtain ⟨f1, s1, rfl, _⟩ := id Q1
  clear CU1 B2 A2 b3
  go_wp2_with fail
  refine (CIH _).mono ?_
  rintro e w3b ⟨rfl, rfl⟩
  clear CIH
  go_wp2_with fail
  refine (CU3 _).mono ?_
  rintro e w4 ⟨⟨u3, rfl, Q3⟩, b4'⟩
  have B4 := Bel.call B3 b4'
  have A4 := Arr.to' (n := 0) A3 b4'
  replace Q1 := Q1.to b4'
  obtain ⟨f3, s3, rfl, _⟩ := id Q3
  clear CU3 B3 A3 b4'
  go_wp2_with fail
  refine (CIP _).mono ?_
  rintro e w4b ⟨rfl, rfl⟩
  clear CIP
  go_wp2_with fail
  refine (CU4 _).mono ?_
  rintro e w5 ⟨⟨u4, rfl, Q4⟩, b5⟩
  have B5 := Bel.call B4 b5
  have A5 := Arr.to' (n := 0) A4 b5
  replace Q1 := Q1.to b5
  replace Q3 := Q3.to b5
  obtain ⟨f4, s4, rfl, _⟩ := id Q4
  have Q2 : Qs w5 (.func (.func 20) #[] #[.pointer (some ⟨g9, 0, none⟩)]) E := ⟨_, _, rfl, en_ask1, fun w' hb => ask1 E g9 w' ((Arr.to' (n := 0) A5 hb).cv 0 (by omega) (.int .i64 E) rfl)⟩
  have C5 := CF _ _ _ _ w5 Q1 Q2 Q3 Q4
  have B6 := Bel.al B5 (.cells #[.func (.func f1) #[] s1, .func (.func 20) #[] #[.pointer (some ⟨g9, 0, none⟩)], .func (.func f3) #[] s3, .func (.func f4) #[] s4] 66)
  clear CU4 B4 A4 b5 A5 Q1 Q2 Q3 Q4 CF B5
  go_wp2_with fail
  refine C5.mono ?_
  rintro e w7 ⟨rfl, b7⟩
  have B7 := Bel.call B6 b7
  clear C5 B6 b7
  by_cases hD : D = 0
  case neg =>
    have HR : Hid (RES = []) := HR0.out hD
    clear HR0 HR1
    have nD : (D == 0) = false := by simpa using hD
    have nD' : (D != 0) = true := by simpa using hD
    clear hD FZ
    go_wp2_with fail
    refine bodyPost_ret (v := .tuple #[.slice none 0 0, .int .i64 D]) (by simp [results, Tryd.results13, go_sem]) rfl ⟨⟨_, rfl, by rw [HR.out]; exact Kls.nil _⟩, B7⟩
  have CPQ := fun W => CPP W (HP4.out (FZ.out hD))
  clear CPP HP4
  have HR : Hid (RES = ([⟨true, 1, T⟩, ⟨true, 4, S⟩] ++ [⟨false, 6, h⟩] ++ [⟨false, 7, TP⟩] ++ [⟨true, 0, ⟨#[]⟩⟩] : List Ke)) := HR1.out hD
  clear HR0 HR1
  subst hD
  clear FZ
  go_wp2_with fail
  refine (CP0 _).mono ?_
  rintro e w8 ⟨rfl, b8⟩
  replace B7 := Bel.call B7 b8
  clear CP0 b8
  go_wp2_with fail
  refine (CM1 _).mono ?_
  rintro e w9 ⟨rfl, b9⟩
  replace B7 := Bel.call B7 b9
  clear CM1 b9
  go_wp2_with fail
  refine (CM4 _).mono ?_
  rintro e wa ⟨rfl, ba⟩
  replace B7 := Bel.call B7 ba
  clear CM4 ba
  have O1 : Hid ((wa.alloc (.cells #[.bool true, .int .i64 1, .string T, .bool true, .int .i64 4, .string S] 60)).ownsRow w.heap.size 60 3 (.slice (some ⟨wa.heap.size, 0, none⟩) 2 2) 2 (flK [⟨true, 1, T⟩, ⟨true, 4, S⟩])) := own_newK wa [⟨true, 1, T⟩, ⟨true, 4, S⟩] B7.size (by simp)
  have b1x := Bel.al B7 (.cells #[.bool true, .int .i64 1, .string T, .bool true, .int .i64 4, .string S] 60)
  go_upto_region 6 with (fail)
  generalize wa.alloc (.cells #[.bool true, .int .i64 1, .string T, .bool true, .int .i64 4, .string S] 60) = wc at *
  clear B7
  generalize wa.heap.size = gc at *
  go_wp2_with fail
  refine (CMH _).mono ?_
  rintro e yh ⟨rfl, hb⟩
  have Oh : Hid (yh.ownsRow w.heap.size 60 3 (.slice (some ⟨gc, 0, none⟩) 2 2) (2) (flK ([⟨true, 1, T⟩, ⟨true, 4, S⟩]))) := own_to' O1.out hb
  have Bh := Bel.call b1x hb
  clear CMH hb O1 b1x
  have hsz5 := Bh.size
  have sb5 : ∀ ob, w.heap.size ≤ (yh.alloc ob).heap.size := fun ob => by have := Bh.size; simp; omega
  go_wp2_with (at_builtin; refine stopAt ?_)
  unfold Stop
  refine wpList_append_own _ rfl _ _ 51 rfl w.heap.size 60 iK (.agg #[.bool false, .int .i64 0, .string ⟨#[]⟩]) 3 32 Tryd.underlying51 hi hz0 hz1 hz2 rfl (by decide) _ _ _ rfl (World.ownsRow.alloc Oh.out _) ⟨yh.heap.size, 0, none⟩ 1 1 [.bool false, .int .i64 6, .string h] rfl rfl (news_new yh [.bool false, .int .i64 6, .string h] 60) (fun u hu => by simp at hu; rcases hu with rfl | rfl | rfl <;> rfl) (by unfold maxLen; omega) (by omega) (sb5 _) ?_
  intro v5 x5 ho5 hg5 hn5
  have b5x : Below w.heap.size w x5 := (Bh.alloc Bh.size _).grown hg5 (by go_size) (fun q hq => (World.ownsRow.lt Oh.out q hq).1)
  have O5 : Hid (x5.ownsRow w.heap.size 60 3 v5 (2 + 1) (flK ([⟨true, 1, T⟩, ⟨true, 4, S⟩] ++ [⟨false, 6, h⟩]))) := by
    show World.ownsRow _ _ _ _ _ _ _
    rw [flK_app]
    exact ho5
  clear hg5 ho5 hn5 sb5 hsz5 Oh Bh
  go_wp2_with fail
  refine (CPQ _).mono ?_
  rintro e yp ⟨rfl, hb⟩
  have Op : Hid (yp.ownsRow w.heap.size 60 3 v5 ((2 + 1)) (flK (([⟨true, 1, T⟩, ⟨true, 4, S⟩] ++ [⟨false, 6, h⟩])))) := own_to' O5.out hb
  have Bp := Bel.call b5x hb
  clear CPQ hb O5 b5x
  go_wp2_with fail
  refine (CMP _).mono ?_
  rintro e yq ⟨rfl, hb⟩
  have Oq : Hid (yq.ownsRow w.heap.size 60 3 v5 ((2 + 1)) (flK (([⟨true, 1, T⟩, ⟨true, 4, S⟩] ++ [⟨false, 6, h⟩])))) := own_to' Op.out hb
  have Bq := Bel.call Bp hb
  clear CMP hb Op Bp
  have hsz6 := Bq.size
  have sb6 : ∀ ob, w.heap.size ≤ (yq.alloc ob).heap.size := fun ob => by have := Bq.size; simp; omega
  go_wp2_with (at_builtin; refine stopAt ?_)
  unfold Stop
  refine wpList_append_own _ rfl _ _ 51 rfl w.heap.size 60 iK (.agg #[.bool false, .int .i64 0, .string ⟨#[]⟩]) 3 32 Tryd.underlying51 hi hz0 hz1 hz2 rfl (by decide) _ _ _ rfl (World.ownsRow.alloc Oq.out _) ⟨yq.heap.size, 0, none⟩ 1 1 [.bool false, .int .i64 7, .string TP] rfl rfl (news_new yq [.bool false, .int .i64 7, .string TP] 60) (fun u hu => by simp at hu; rcases hu with rfl | rfl | rfl <;> rfl) (by unfold maxLen; omega) (by omega) (sb6 _) ?_
  intro v6 x6 ho6 hg6 hn6
  have b6x : Below w.heap.size w x6 := (Bq.alloc Bq.size _).grown hg6 (by go_size) (fun q hq => (World.ownsRow.lt Oq.out q hq).1)
  have O6 : Hid (x6.ownsRow w.heap.size 60 3 v6 ((2 + 1) + 1) (flK (([⟨true, 1, T⟩, ⟨true, 4, S⟩] ++ [⟨false, 6, h⟩]) ++ [⟨false, 7, TP⟩]))) := by
    show World.ownsRow _ _ _ _ _ _ _
    rw [flK_app]
    exact ho6
  clear hg6 ho6 hn6 sb6 hsz6 Oq Bq
  go_wp2_with fail
  refine (CE _).mono ?_
  rintro e ye ⟨rfl, hb⟩
  have Oe : Hid (ye.ownsRow w.heap.size 60 3 v6 (((2 + 1) + 1)) (flK ((([⟨true, 1, T⟩, ⟨true, 4, S⟩] ++ [⟨false, 6, h⟩]) ++ [⟨false, 7, TP⟩])))) := own_to' O6.out hb
  have Be := Bel.call b6x hb
  clear CE hb O6 b6x
  have hsz7 := Be.size
  have sb7 : ∀ ob, w.heap.size ≤ (ye.alloc ob).heap.size := fun ob => by have := Be.size; simp; omega
  go_wp2_with (at_builtin; refine stopAt ?_)
  unfold Stop
  refine wpList_append_own _ rfl _ _ 51 rfl w.heap.size 60 iK (.agg #[.bool false, .int .i64 0, .string ⟨#[]⟩]) 3 32 Tryd.underlying51 hi hz0 hz1 hz2 rfl (by decide) _ _ _ rfl (World.ownsRow.alloc Oe.out _) ⟨ye.heap.size, 0, none⟩ 1 1 [.bool true, .int .i64 0, .string ⟨#[]⟩] rfl rfl (news_new ye [.bool true, .int .i64 0, .string ⟨#[]⟩] 60) (fun u hu => by simp at hu; rcases hu with rfl | rfl | rfl <;> rfl) (by unfold maxLen; omega) (by omega) (sb7 _) ?_
  intro v7 x7 ho7 hg7 hn7
  have b7x : Below w.heap.size w x7 := (Be.alloc Be.size _).grown hg7 (by go_size) (fun q hq => (World.ownsRow.lt Oe.out q hq).1)
  have O7 : Hid (x7.ownsRow w.heap.size 60 3 v7 (((2 + 1) + 1) + 1) (flK ((([⟨true, 1, T⟩, ⟨true, 4, S⟩] ++ [⟨false, 6, h⟩]) ++ [⟨false, 7, TP⟩]) ++ [⟨true, 0, ⟨#[]⟩⟩]))) := by
    show World.ownsRow _ _ _ _ _ _ _
    rw [flK_app]
    exact ho7
  clear hg7 ho7 hn7 sb7 hsz7 Oe Be
  have KF : Hid (Kls x7 v7 ((([⟨true, 1, T⟩, ⟨true, 4, S⟩] ++ [⟨false, 6, h⟩]) ++ [⟨false, 7, TP⟩]) ++ [⟨true, 0, ⟨#[]⟩⟩])) := Kls.own (b := w.heap.size) O7.out
  clear O7
  go_wp2_with fail
  refine bodyPost_ret (v := .tuple #[v7, .int .i64 0]) (by simp [results, Tryd.results13, go_sem]) rfl ⟨⟨_, rfl, by rw [HR.out]; exact KF.out⟩, b7x⟩
set_option maxHeartbeats 8000000 in
theorem pAsk_10 (l : List Int) (h : ByteArray) (p : Int) (v : Value) (w : World) (HA : Nls w v l) (h9 : l.length ≤ 100000) (hh : h.size ≤ 9223372036854775807) (p0 : -9223372036854775808 ≤ p) (p1 : p ≤ 9223372036854775807) (c7 : h.size ≠ 0) (c8 : p = 0) :
    Calls Tryd.prog 13 #[v, .string h, .int .i64 p] w fun e w' => (∃ u, e = .returned (.tuple #[u, .int .i64 (fstL [(if 0 < l.length then 0 else 11), prE l, (if hostB h = true then 0 else 20), 0])]) ∧ Kls w' u (if fstL [(if 0 < l.length then 0 else 11), prE l, (if hostB h = true then 0 else 20), 0] = 0 then [⟨true, 1, tw 0⟩, ⟨true, 4, prS l⟩] ++ [⟨false, 6, h⟩] ++ [endK] else [])) ∧ Below w.heap.size w w' := by
  have C1 := tP l v w HA h9
  obtain ⟨aa, ca, rfl, _⟩ := HA
  unfold endK
  subst c8
  have CU4 := fun W => punless_any true 13 W
  rw [if_pos rfl] at CU4
  obtain ⟨e4, he4⟩ : ∃ e : Int, e = 0 := ⟨_, rfl⟩
  rw [← he4] at CU4
  rw [show fstL [(if 0 < l.length then 0 else 11), prE l, (if hostB h = true then 0 else 20), 0] = fstL [(if 0 < l.length then 0 else 11), prE l, (if hostB h = true then 0 else 20), e4] by rw [he4]]
  clear he4
  have CIH := fun W => pisHost_any h hh W
  have CMH := fun W => pmay_any 6 h W
  have em := emp_no h (by omega)
  have CU3 := fun W => punless_any (hostB h) 20 W
  generalize (if hostB h = true then (0 : Int) else 20) = e3 at *
  generalize hostB h = b3 at *
  have CU1 := fun W => punless_any (decide (0 < l.length)) 11 W
  have q1 : (if decide (0 < l.length) = true then (0 : Int) else 11) = (if 0 < l.length then 0 else 11) := by simp
  rw [q1] at CU1
  clear q1
  generalize (if 0 < l.length then (0 : Int) else 11) = e1 at *
  have CP0 := fun W => pair1 0 (by decide) (by decide) W
  have CM1 := fun W => pmust_any 1 (tw 0) W
  have CM4 := fun W => pmust_any 4 (prS l) W
  have CE := fun W => pend_any W
  generalize tw 0 = T at *
  generalize prS l = S at *
  generalize prE l = E at *
  obtain ⟨iK, hi, hz0, hz1, hz2⟩ := info_parts Tryd.infoK
  have FZ : Hid (fstL [e1, E, e3, e4] = 0 → e4 = 0) := fun q => fst_zero _ q e4 (by simp)
  have CF := fun (f1 f2 f3 f4 : Value) (W : World) (Q1 : Qs W f1 e1) (Q2 : Qs W f2 E) (Q3 : Qs W f3 e3) (Q4 : Qs W f4 e4) => (show Calls Tryd.prog 18 #[.slice (some ⟨W.heap.size, 0, none⟩) 4 4] (W.alloc (.cells #[f1, f2, f3, f4] 66)) _ from pfirst_any [e1, E, e3, e4] [f1, f2, f3, f4] W.heap.size (W.alloc (.cells #[f1, f2, f3, f4] 66)) (by simp) (by simp) (Arr.new W #[f1, f2, f3, f4] 66 _ rfl _ 4 (at4 f1 f2 f3 f4)) (fun j hj => by
    have B := Bel.al (Below.refl W.heap.size W) (.cells #[f1, f2, f3, f4] 66)
    match j, hj with
    | 0, _ => exact Q1.to B
    | 1, _ => exact Q2.to B
    | 2, _ => exact Q3.to B
    | 3, _ => exact Q4.to B))
  generalize fstL [e1, E, e3, e4] = D at *
  have HR1 : Hid (D = 0 → (if D = 0 then ([⟨true, 1, T⟩, ⟨true, 4, S⟩] ++ [⟨false, 6, h⟩] ++ [⟨true, 0, ⟨#[]⟩⟩] : List Ke) else []) = ([⟨true, 1, T⟩, ⟨true, 4, S⟩] ++ [⟨false, 6, h⟩] ++ [⟨true, 0, ⟨#[]⟩⟩] : List Ke)) := fun q => if_pos q
  have HR0 : Hid (D ≠ 0 → (if D = 0 then ([⟨true, 1, T⟩, ⟨true, 4, S⟩] ++ [⟨false, 6, h⟩] ++ [⟨true, 0, ⟨#[]⟩⟩] : List Ke) else []) = []) := fun q => if_neg q
  generalize (if D = 0 then ([⟨true, 1, T⟩, ⟨true, 4, S⟩] ++ [⟨false, 6, h⟩] ++ [⟨true, 0, ⟨#[]⟩⟩] : List Ke) else []) = RES at *
  generalize hz : (l.length : Nat) = nl at *
  clear hz
  have gz : decide ((nl : Int) > 0) = decide (0 < nl) := by simp
  go_enter Tryd.func13, Tryd.ntmps13
  go_wp2_with fail
  refine C1.mono ?_
  rintro e w1 ⟨rfl, b1⟩
  clear C1
  have A2 := Arr.new w1 #[Value.int .i64 E] 33 _ rfl _ 1 (oneAt _)
  have B2 := Bel.al b1 (.cells #[.int .i64 E] 33)
  go_upto_region 2 with (fail)
  generalize w1.alloc (.cells #[.int .i64 E] 33) = w2 at *
  generalize w1.heap.size = g9 at *
  clear b1
  go_wp2_with fail
  refine (CU1 _).mono ?_
  rintro e w3 ⟨⟨u1, rfl, Q1⟩, b3⟩
  have B3 := Bel.call B2 b3
  have A3 := Arr.to' (n := 0) A2 b3
  obtain ⟨f1, s1, rfl, _⟩ := id Q1
  clear CU1 B2 A2 b3
  go_wp2_with fail
  refine (CIH _).mono ?_
  rintro e w3b ⟨rfl, rfl⟩
  clear CIH
  go_wp2_with fail
  refine (CU3 _).mono ?_
  rintro e w4 ⟨⟨u3, rfl, Q3⟩, b4'⟩
  have B4 := Bel.call B3 b4'
  have A4 := Arr.to' (n := 0) A3 b4'
  replace Q1 := Q1.to b4'
  obtain ⟨f3, s3, rfl, _⟩ := id Q3
  clear CU3 B3 A3 b4'
  go_wp2_with fail
  refine (CU4 _).mono ?_
  rintro e w5 ⟨⟨u4, rfl, Q4⟩, b5⟩
  have B5 := Bel.call B4 b5
  have A5 := Arr.to' (n := 0) A4 b5
  replace Q1 := Q1.to b5
  replace Q3 := Q3.to b5
  obtain ⟨f4, s4, rfl, _⟩ := id Q4
  have Q2 : Qs w5 (.func (.func 20) #[] #[.pointer (some ⟨g9, 0, none⟩)]) E := ⟨_, _, rfl, en_ask1, fun w' hb => ask1 E g9 w' ((Arr.to' (n := 0) A5 hb).cv 0 (by omega) (.int .i64 E) rfl)⟩
  have C5 := CF _ _ _ _ w5 Q1 Q2 Q3 Q4
  have B6 := Bel.al B5 (.cells #[.func (.func f1) #[] s1, .func (.func 20) #[] #[.pointer (some ⟨g9, 0, none⟩)], .func (.func f3) #[] s3, .func (.func f4) #[] s4] 66)
  clear CU4 B4 A4 b5 A5 Q1 Q2 Q3 Q4 CF B5
  go_wp2_with fail
  refine C5.mono ?_
  rintro e w7 ⟨rfl, b7⟩
  have B7 := Bel.call B6 b7
  clear C5 B6 b7
  by_cases hD : D = 0
  case neg =>
    have HR : Hid (RES = []) := HR0.out hD
    clear HR0 HR1
    have nD : (D == 0) = false := by simpa using hD
    have nD' : (D != 0) = true := by simpa using hD
    clear hD FZ
    go_wp2_with fail
    refine bodyPost_ret (v := .tuple #[.slice none 0 0, .int .i64 D]) (by simp [results, Tryd.results13, go_sem]) rfl ⟨⟨_, rfl, by rw [HR.out]; exact Kls.nil _⟩, B7⟩
  have HR : Hid (RES = ([⟨true, 1, T⟩, ⟨true, 4, S⟩] ++ [⟨false, 6, h⟩] ++ [⟨true, 0, ⟨#[]⟩⟩] : List Ke)) := HR1.out hD
  clear HR0 HR1
  subst hD
  clear FZ
  go_wp2_with fail
  refine (CP0 _).mono ?_
  rintro e w8 ⟨rfl, b8⟩
  replace B7 := Bel.call B7 b8
  clear CP0 b8
  go_wp2_with fail
  refine (CM1 _).mono ?_
  rintro e w9 ⟨rfl, b9⟩
  replace B7 := Bel.call B7 b9
  clear CM1 b9
  go_wp2_with fail
  refine (CM4 _).mono ?_
  rintro e wa ⟨rfl, ba⟩
  replace B7 := Bel.call B7 ba
  clear CM4 ba
  have O1 : Hid ((wa.alloc (.cells #[.bool true, .int .i64 1, .string T, .bool true, .int .i64 4, .string S] 60)).ownsRow w.heap.size 60 3 (.slice (some ⟨wa.heap.size, 0, none⟩) 2 2) 2 (flK [⟨true, 1, T⟩, ⟨true, 4, S⟩])) := own_newK wa [⟨true, 1, T⟩, ⟨true, 4, S⟩] B7.size (by simp)
  have b1x := Bel.al B7 (.cells #[.bool true, .int .i64 1, .string T, .bool true, .int .i64 4, .string S] 60)
  go_upto_region 6 with (fail)
  generalize wa.alloc (.cells #[.bool true, .int .i64 1, .string T, .bool true, .int .i64 4, .string S] 60) = wc at *
  clear B7
  generalize wa.heap.size = gc at *
  go_wp2_with fail
  refine (CMH _).mono ?_
  rintro e yh ⟨rfl, hb⟩
  have Oh : Hid (yh.ownsRow w.heap.size 60 3 (.slice (some ⟨gc, 0, none⟩) 2 2) (2) (flK ([⟨true, 1, T⟩, ⟨true, 4, S⟩]))) := own_to' O1.out hb
  have Bh := Bel.call b1x hb
  clear CMH hb O1 b1x
  have hsz5 := Bh.size
  have sb5 : ∀ ob, w.heap.size ≤ (yh.alloc ob).heap.size := fun ob => by have := Bh.size; simp; omega
  go_wp2_with (at_builtin; refine stopAt ?_)
  unfold Stop
  refine wpList_append_own _ rfl _ _ 51 rfl w.heap.size 60 iK (.agg #[.bool false, .int .i64 0, .string ⟨#[]⟩]) 3 32 Tryd.underlying51 hi hz0 hz1 hz2 rfl (by decide) _ _ _ rfl (World.ownsRow.alloc Oh.out _) ⟨yh.heap.size, 0, none⟩ 1 1 [.bool false, .int .i64 6, .string h] rfl rfl (news_new yh [.bool false, .int .i64 6, .string h] 60) (fun u hu => by simp at hu; rcases hu with rfl | rfl | rfl <;> rfl) (by unfold maxLen; omega) (by omega) (sb5 _) ?_
  intro v5 x5 ho5 hg5 hn5
  have b5x : Below w.heap.size w x5 := (Bh.alloc Bh.size _).grown hg5 (by go_size) (fun q hq => (World.ownsRow.lt Oh.out q hq).1)
  have O5 : Hid (x5.ownsRow w.heap.size 60 3 v5 (2 + 1) (flK ([⟨true, 1, T⟩, ⟨true, 4, S⟩] ++ [⟨false, 6, h⟩]))) := by
    show World.ownsRow _ _ _ _ _ _ _
    rw [flK_app]
    exact ho5
  clear hg5 ho5 hn5 sb5 hsz5 Oh Bh
  go_wp2_with fail
  refine (CE _).mono ?_
  rintro e ye ⟨rfl, hb⟩
  have Oe : Hid (ye.ownsRow w.heap.size 60 3 v5 ((2 + 1)) (flK (([⟨true, 1, T⟩, ⟨true, 4, S⟩] ++ [⟨false, 6, h⟩])))) := own_to' O5.out hb
  have Be := Bel.call b5x hb
  clear CE hb O5 b5x
  have hsz7 := Be.size
  have sb7 : ∀ ob, w.heap.size ≤ (ye.alloc ob).heap.size := fun ob => by have := Be.size; simp; omega
  go_wp2_with (at_builtin; refine stopAt ?_)
  unfold Stop
  refine wpList_append_own _ rfl _ _ 51 rfl w.heap.size 60 iK (.agg #[.bool false, .int .i64 0, .string ⟨#[]⟩]) 3 32 Tryd.underlying51 hi hz0 hz1 hz2 rfl (by decide) _ _ _ rfl (World.ownsRow.alloc Oe.out _) ⟨ye.heap.size, 0, none⟩ 1 1 [.bool true, .int .i64 0, .string ⟨#[]⟩] rfl rfl (news_new ye [.bool true, .int .i64 0, .string ⟨#[]⟩] 60) (fun u hu => by simp at hu; rcases hu with rfl | rfl | rfl <;> rfl) (by unfold maxLen; omega) (by omega) (sb7 _) ?_
  intro v7 x7 ho7 hg7 hn7
  have b7x : Below w.heap.size w x7 := (Be.alloc Be.size _).grown hg7 (by go_size) (fun q hq => (World.ownsRow.lt Oe.out q hq).1)
  have O7 : Hid (x7.ownsRow w.heap.size 60 3 v7 ((2 + 1) + 1) (flK (([⟨true, 1, T⟩, ⟨true, 4, S⟩] ++ [⟨false, 6, h⟩]) ++ [⟨true, 0, ⟨#[]⟩⟩]))) := by
    show World.ownsRow _ _ _ _ _ _ _
    rw [flK_app]
    exact ho7
  clear hg7 ho7 hn7 sb7 hsz7 Oe Be
  have KF : Hid (Kls x7 v7 (([⟨true, 1, T⟩, ⟨true, 4, S⟩] ++ [⟨false, 6, h⟩]) ++ [⟨true, 0, ⟨#[]⟩⟩])) := Kls.own (b := w.heap.size) O7.out
  clear O7
  go_wp2_with fail
  refine bodyPost_ret (v := .tuple #[v7, .int .i64 0]) (by simp [results, Tryd.results13, go_sem]) rfl ⟨⟨_, rfl, by rw [HR.out]; exact KF.out⟩, b7x⟩
set_option maxHeartbeats 8000000 in
theorem pAsk_01 (l : List Int) (h : ByteArray) (p : Int) (v : Value) (w : World) (HA : Nls w v l) (h9 : l.length ≤ 100000) (hh : h.size ≤ 9223372036854775807) (p0 : -9223372036854775808 ≤ p) (p1 : p ≤ 9223372036854775807) (c7 : h.size = 0) (c8 : p ≠ 0) :
    Calls Tryd.prog 13 #[v, .string h, .int .i64 p] w fun e w' => (∃ u, e = .returned (.tuple #[u, .int .i64 (fstL [(if 0 < l.length then 0 else 11), prE l, 0, (if portB p = true then 0 else 13)])]) ∧ Kls w' u (if fstL [(if 0 < l.length then 0 else 11), prE l, 0, (if portB p = true then 0 else 13)] = 0 then [⟨true, 1, tw 0⟩, ⟨true, 4, prS l⟩] ++ [⟨false, 7, tw p⟩] ++ [endK] else [])) ∧ Below w.heap.size w w' := by
  have C1 := tP l v w HA h9
  obtain ⟨aa, ca, rfl, _⟩ := HA
  unfold endK
  have CIP := fun W => pisPort_any p W
  have CPP := fun W (q : portB p = true) => by
    unfold portB at q
    rw [Bool.and_eq_true, decide_eq_true_iff, decide_eq_true_iff] at q
    exact pair1 p (by omega) (by omega) W
  have CMP := fun W => pmay_any 7 (tw p) W
  have ip : (p == 0) = false := by simpa using c8
  have CU4 := fun W => punless_any (portB p) 13 W
  have HP4 : Hid ((if portB p = true then (0 : Int) else 13) = 0 → portB p = true) := fun q => by
    split at q
    · assumption
    · cases q
  generalize (if portB p = true then (0 : Int) else 13) = e4 at *
  generalize portB p = b4 at *
  generalize tw p = TP at *
  obtain rfl := emp_is c7
  have CU3 := fun W => punless_any true 20 W
  rw [if_pos rfl] at CU3
  obtain ⟨e3, he3⟩ : ∃ e : Int, e = 0 := ⟨_, rfl⟩
  rw [← he3] at CU3
  rw [show fstL [(if 0 < l.length then 0 else 11), prE l, 0, e4] = fstL [(if 0 < l.length then 0 else 11), prE l, e3, e4] by rw [he3]]
  clear he3
  have CU1 := fun W => punless_any (decide (0 < l.length)) 11 W
  have q1 : (if decide (0 < l.length) = true then (0 : Int) else 11) = (if 0 < l.length then 0 else 11) := by simp
  rw [q1] at CU1
  clear q1
  generalize (if 0 < l.length then (0 : Int) else 11) = e1 at *
  have CP0 := fun W => pair1 0 (by decide) (by decide) W
  have CM1 := fun W => pmust_any 1 (tw 0) W
  have CM4 := fun W => pmust_any 4 (prS l) W
  have CE := fun W => pend_any W
  generalize tw 0 = T at *
  generalize prS l = S at *
  generalize prE l = E at *
  obtain ⟨iK, hi, hz0, hz1, hz2⟩ := info_parts Tryd.infoK
  have FZ : Hid (fstL [e1, E, e3, e4] = 0 → e4 = 0) := fun q => fst_zero _ q e4 (by simp)
  have CF := fun (f1 f2 f3 f4 : Value) (W : World) (Q1 : Qs W f1 e1) (Q2 : Qs W f2 E) (Q3 : Qs W f3 e3) (Q4 : Qs W f4 e4) => (show Calls Tryd.prog 18 #[.slice (some ⟨W.heap.size, 0, none⟩) 4 4] (W.alloc (.cells #[f1, f2, f3, f4] 66)) _ from pfirst_any [e1, E, e3, e4] [f1, f2, f3, f4] W.heap.size (W.alloc (.cells #[f1, f2, f3, f4] 66)) (by simp) (by simp) (Arr.new W #[f1, f2, f3, f4] 66 _ rfl _ 4 (at4 f1 f2 f3 f4)) (fun j hj => by
    have B := Bel.al (Below.refl W.heap.size W) (.cells #[f1, f2, f3, f4] 66)
    match j, hj with
    | 0, _ => exact Q1.to B
    | 1, _ => exact Q2.to B
    | 2, _ => exact Q3.to B
    | 3, _ => exact Q4.to B))
  generalize fstL [e1, E, e3, e4] = D at *
  have HR1 : Hid (D = 0 → (if D = 0 then ([⟨true, 1, T⟩, ⟨true, 4, S⟩] ++ [⟨false, 7, TP⟩] ++ [⟨true, 0, ⟨#[]⟩⟩] : List Ke) else []) = ([⟨true, 1, T⟩, ⟨true, 4, S⟩] ++ [⟨false, 7, TP⟩] ++ [⟨true, 0, ⟨#[]⟩⟩] : List Ke)) := fun q => if_pos q
  have HR0 : Hid (D ≠ 0 → (if D = 0 then ([⟨true, 1, T⟩, ⟨true, 4, S⟩] ++ [⟨false, 7, TP⟩] ++ [⟨true, 0, ⟨#[]⟩⟩] : List Ke) else []) = []) := fun q => if_neg q
  generalize (if D = 0 then ([⟨true, 1, T⟩, ⟨true, 4, S⟩] ++ [⟨false, 7, TP⟩] ++ [⟨true, 0, ⟨#[]⟩⟩] : List Ke) else []) = RES at *
  generalize hz : (l.length : Nat) = nl at *
  clear hz
  have gz : decide ((nl : Int) > 0) = decide (0 < nl) := by simp
  go_enter Tryd.func13, Tryd.ntmps13
  go_wp2_with fail
  refine C1.mono ?_
  rintro e w1 ⟨rfl, b1⟩
  clear C1
  have A2 := Arr.new w1 #[Value.int .i64 E] 33 _ rfl _ 1 (oneAt _)
  have B2 := Bel.al b1 (.cells #[.int .i64 E] 33)
  go_upto_region 2 with (fail)
  generalize w1.alloc (.cells #[.int .i64 E] 33) = w2 at *
  generalize w1.heap.size = g9 at *
  clear b1
  go_wp2_with fail
  refine (CU1 _).mono ?_
  rintro e w3 ⟨⟨u1, rfl, Q1⟩, b3⟩
  have B3 := Bel.call B2 b3
  have A3 := Arr.to' (n := 0) A2 b3
  obtain ⟨f1, s1, rfl, _⟩ := id Q1
  clear CU1 B2 A2 b3
  go_wp2_with fail
  refine (CU3 _).mono ?_
  rintro e w4 ⟨⟨u3, rfl, Q3⟩, b4'⟩
  have B4 := Bel.call B3 b4'
  have A4 := Arr.to' (n := 0) A3 b4'
  replace Q1 := Q1.to b4'
  obtain ⟨f3, s3, rfl, _⟩ := id Q3
  clear CU3 B3 A3 b4'
  go_wp2_with fail
  refine (CIP _).mono ?_
  rintro e w4b ⟨rfl, rfl⟩
  clear CIP
  go_wp2_with fail
  refine (CU4 _).mono ?_
  rintro e w5 ⟨⟨u4, rfl, Q4⟩, b5⟩
  have B5 := Bel.call B4 b5
  have A5 := Arr.to' (n := 0) A4 b5
  replace Q1 := Q1.to b5
  replace Q3 := Q3.to b5
  obtain ⟨f4, s4, rfl, _⟩ := id Q4
  have Q2 : Qs w5 (.func (.func 20) #[] #[.pointer (some ⟨g9, 0, none⟩)]) E := ⟨_, _, rfl, en_ask1, fun w' hb => ask1 E g9 w' ((Arr.to' (n := 0) A5 hb).cv 0 (by omega) (.int .i64 E) rfl)⟩
  have C5 := CF _ _ _ _ w5 Q1 Q2 Q3 Q4
  have B6 := Bel.al B5 (.cells #[.func (.func f1) #[] s1, .func (.func 20) #[] #[.pointer (some ⟨g9, 0, none⟩)], .func (.func f3) #[] s3, .func (.func f4) #[] s4] 66)
  clear CU4 B4 A4 b5 A5 Q1 Q2 Q3 Q4 CF B5
  go_wp2_with fail
  refine C5.mono ?_
  rintro e w7 ⟨rfl, b7⟩
  have B7 := Bel.call B6 b7
  clear C5 B6 b7
  by_cases hD : D = 0
  case neg =>
    have HR : Hid (RES = []) := HR0.out hD
    clear HR0 HR1
    have nD : (D == 0) = false := by simpa using hD
    have nD' : (D != 0) = true := by simpa using hD
    clear hD FZ
    go_wp2_with fail
    refine bodyPost_ret (v := .tuple #[.slice none 0 0, .int .i64 D]) (by simp [results, Tryd.results13, go_sem]) rfl ⟨⟨_, rfl, by rw [HR.out]; exact Kls.nil _⟩, B7⟩
  have CPQ := fun W => CPP W (HP4.out (FZ.out hD))
  clear CPP HP4
  have HR : Hid (RES = ([⟨true, 1, T⟩, ⟨true, 4, S⟩] ++ [⟨false, 7, TP⟩] ++ [⟨true, 0, ⟨#[]⟩⟩] : List Ke)) := HR1.out hD
  clear HR0 HR1
  subst hD
  clear FZ
  go_wp2_with fail
  refine (CP0 _).mono ?_
  rintro e w8 ⟨rfl, b8⟩
  replace B7 := Bel.call B7 b8
  clear CP0 b8
  go_wp2_with fail
  refine (CM1 _).mono ?_
  rintro e w9 ⟨rfl, b9⟩
  replace B7 := Bel.call B7 b9
  clear CM1 b9
  go_wp2_with fail
  refine (CM4 _).mono ?_
  rintro e wa ⟨rfl, ba⟩
  replace B7 := Bel.call B7 ba
  clear CM4 ba
  have O1 : Hid ((wa.alloc (.cells #[.bool true, .int .i64 1, .string T, .bool true, .int .i64 4, .string S] 60)).ownsRow w.heap.size 60 3 (.slice (some ⟨wa.heap.size, 0, none⟩) 2 2) 2 (flK [⟨true, 1, T⟩, ⟨true, 4, S⟩])) := own_newK wa [⟨true, 1, T⟩, ⟨true, 4, S⟩] B7.size (by simp)
  have b1x := Bel.al B7 (.cells #[.bool true, .int .i64 1, .string T, .bool true, .int .i64 4, .string S] 60)
  go_upto_region 6 with (fail)
  generalize wa.alloc (.cells #[.bool true, .int .i64 1, .string T, .bool true, .int .i64 4, .string S] 60) = wc at *
  clear B7
  generalize wa.heap.size = gc at *
  go_wp2_with fail
  refine (CPQ _).mono ?_
  rintro e yp ⟨rfl, hb⟩
  have Op : Hid (yp.ownsRow w.heap.size 60 3 (.slice (some ⟨gc, 0, none⟩) 2 2) (2) (flK ([⟨true, 1, T⟩, ⟨true, 4, S⟩]))) := own_to' O1.out hb
  have Bp := Bel.call b1x hb
  clear CPQ hb O1 b1x
  go_wp2_with fail
  refine (CMP _).mono ?_
  rintro e yq ⟨rfl, hb⟩
  have Oq : Hid (yq.ownsRow w.heap.size 60 3 (.slice (some ⟨gc, 0, none⟩) 2 2) (2) (flK ([⟨true, 1, T⟩, ⟨true, 4, S⟩]))) := own_to' Op.out hb
  have Bq := Bel.call Bp hb
  clear CMP hb Op Bp
  have hsz6 := Bq.size
  have sb6 : ∀ ob, w.heap.size ≤ (yq.alloc ob).heap.size := fun ob => by have := Bq.size; simp; omega
  go_wp2_with (at_builtin; refine stopAt ?_)
  unfold Stop
  refine wpList_append_own _ rfl _ _ 51 rfl w.heap.size 60 iK (.agg #[.bool false, .int .i64 0, .string ⟨#[]⟩]) 3 32 Tryd.underlying51 hi hz0 hz1 hz2 rfl (by decide) _ _ _ rfl (World.ownsRow.alloc Oq.out _) ⟨yq.heap.size, 0, none⟩ 1 1 [.bool false, .int .i64 7, .string TP] rfl rfl (news_new yq [.bool false, .int .i64 7, .string TP] 60) (fun u hu => by simp at hu; rcases hu with rfl | rfl | rfl <;> rfl) (by unfold maxLen; omega) (by omega) (sb6 _) ?_
  intro v6 x6 ho6 hg6 hn6
  have b6x : Below w.heap.size w x6 := (Bq.alloc Bq.size _).grown hg6 (by go_size) (fun q hq => (World.ownsRow.lt Oq.out q hq).1)
  have O6 : Hid (x6.ownsRow w.heap.size 60 3 v6 (2 + 1) (flK ([⟨true, 1, T⟩, ⟨true, 4, S⟩] ++ [⟨false, 7, TP⟩]))) := by
    show World.ownsRow _ _ _ _ _ _ _
    rw [flK_app]
    exact ho6
  clear hg6 ho6 hn6 sb6 hsz6 Oq Bq
  go_wp2_with fail
  refine (CE _).mono ?_
  rintro e ye ⟨rfl, hb⟩
  have Oe : Hid (ye.ownsRow w.heap.size 60 3 v6 ((2 + 1)) (flK (([⟨true, 1, T⟩, ⟨true, 4, S⟩] ++ [⟨false, 7, TP⟩])))) := own_to' O6.out hb
  have Be := Bel.call b6x hb
  clear CE hb O6 b6x
  have hsz7 := Be.size
  have sb7 : ∀ ob, w.heap.size ≤ (ye.alloc ob).heap.size := fun ob => by have := Be.size; simp; omega
  go_wp2_with (at_builtin; refine stopAt ?_)
  unfold Stop
  refine wpList_append_own _ rfl _ _ 51 rfl w.heap.size 60 iK (.agg #[.bool false, .int .i64 0, .string ⟨#[]⟩]) 3 32 Tryd.underlying51 hi hz0 hz1 hz2 rfl (by decide) _ _ _ rfl (World.ownsRow.alloc Oe.out _) ⟨ye.heap.size, 0, none⟩ 1 1 [.bool true, .int .i64 0, .string ⟨#[]⟩] rfl rfl (news_new ye [.bool true, .int .i64 0, .string ⟨#[]⟩] 60) (fun u hu => by simp at hu; rcases hu with rfl | rfl | rfl <;> rfl) (by unfold maxLen; omega) (by omega) (sb7 _) ?_
  intro v7 x7 ho7 hg7 hn7
  have b7x : Below w.heap.size w x7 := (Be.alloc Be.size _).grown hg7 (by go_size) (fun q hq => (World.ownsRow.lt Oe.out q hq).1)
  have O7 : Hid (x7.ownsRow w.heap.size 60 3 v7 ((2 + 1) + 1) (flK (([⟨true, 1, T⟩, ⟨true, 4, S⟩] ++ [⟨false, 7, TP⟩]) ++ [⟨true, 0, ⟨#[]⟩⟩]))) := by
    show World.ownsRow _ _ _ _ _ _ _
    rw [flK_app]
    exact ho7
  clear hg7 ho7 hn7 sb7 hsz7 Oe Be
  have KF : Hid (Kls x7 v7 (([⟨true, 1, T⟩, ⟨true, 4, S⟩] ++ [⟨false, 7, TP⟩]) ++ [⟨true, 0, ⟨#[]⟩⟩])) := Kls.own (b := w.heap.size) O7.out
  clear O7
  go_wp2_with fail
  refine bodyPost_ret (v := .tuple #[v7, .int .i64 0]) (by simp [results, Tryd.results13, go_sem]) rfl ⟨⟨_, rfl, by rw [HR.out]; exact KF.out⟩, b7x⟩
set_option maxHeartbeats 8000000 in
theorem pAsk_00 (l : List Int) (h : ByteArray) (p : Int) (v : Value) (w : World) (HA : Nls w v l) (h9 : l.length ≤ 100000) (hh : h.size ≤ 9223372036854775807) (p0 : -9223372036854775808 ≤ p) (p1 : p ≤ 9223372036854775807) (c7 : h.size = 0) (c8 : p = 0) :
    Calls Tryd.prog 13 #[v, .string h, .int .i64 p] w fun e w' => (∃ u, e = .returned (.tuple #[u, .int .i64 (fstL [(if 0 < l.length then 0 else 11), prE l, 0, 0])]) ∧ Kls w' u (if fstL [(if 0 < l.length then 0 else 11), prE l, 0, 0] = 0 then [⟨true, 1, tw 0⟩, ⟨true, 4, prS l⟩] ++ [endK] else [])) ∧ Below w.heap.size w w' := by
  have C1 := tP l v w HA h9
  obtain ⟨aa, ca, rfl, _⟩ := HA
  unfold endK
  subst c8
  have CU4 := fun W => punless_any true 13 W
  rw [if_pos rfl] at CU4
  obtain ⟨e4, he4⟩ : ∃ e : Int, e = 0 := ⟨_, rfl⟩
  rw [← he4] at CU4
  rw [show fstL [(if 0 < l.length then 0 else 11), prE l, 0, 0] = fstL [(if 0 < l.length then 0 else 11), prE l, 0, e4] by rw [he4]]
  clear he4
  obtain rfl := emp_is c7
  have CU3 := fun W => punless_any true 20 W
  rw [if_pos rfl] at CU3
  obtain ⟨e3, he3⟩ : ∃ e : Int, e = 0 := ⟨_, rfl⟩
  rw [← he3] at CU3
  rw [show fstL [(if 0 < l.length then 0 else 11), prE l, 0, e4] = fstL [(if 0 < l.length then 0 else 11), prE l, e3, e4] by rw [he3]]
  clear he3
  have CU1 := fun W => punless_any (decide (0 < l.length)) 11 W
  have q1 : (if decide (0 < l.length) = true then (0 : Int) else 11) = (if 0 < l.length then 0 else 11) := by simp
  rw [q1] at CU1
  clear q1
  generalize (if 0 < l.length then (0 : Int) else 11) = e1 at *
  have CP0 := fun W => pair1 0 (by decide) (by decide) W
  have CM1 := fun W => pmust_any 1 (tw 0) W
  have CM4 := fun W => pmust_any 4 (prS l) W
  have CE := fun W => pend_any W
  generalize tw 0 = T at *
  generalize prS l = S at *
  generalize prE l = E at *
  obtain ⟨iK, hi, hz0, hz1, hz2⟩ := info_parts Tryd.infoK
  have FZ : Hid (fstL [e1, E, e3, e4] = 0 → e4 = 0) := fun q => fst_zero _ q e4 (by simp)
  have CF := fun (f1 f2 f3 f4 : Value) (W : World) (Q1 : Qs W f1 e1) (Q2 : Qs W f2 E) (Q3 : Qs W f3 e3) (Q4 : Qs W f4 e4) => (show Calls Tryd.prog 18 #[.slice (some ⟨W.heap.size, 0, none⟩) 4 4] (W.alloc (.cells #[f1, f2, f3, f4] 66)) _ from pfirst_any [e1, E, e3, e4] [f1, f2, f3, f4] W.heap.size (W.alloc (.cells #[f1, f2, f3, f4] 66)) (by simp) (by simp) (Arr.new W #[f1, f2, f3, f4] 66 _ rfl _ 4 (at4 f1 f2 f3 f4)) (fun j hj => by
    have B := Bel.al (Below.refl W.heap.size W) (.cells #[f1, f2, f3, f4] 66)
    match j, hj with
    | 0, _ => exact Q1.to B
    | 1, _ => exact Q2.to B
    | 2, _ => exact Q3.to B
    | 3, _ => exact Q4.to B))
  generalize fstL [e1, E, e3, e4] = D at *
  have HR1 : Hid (D = 0 → (if D = 0 then ([⟨true, 1, T⟩, ⟨true, 4, S⟩] ++ [⟨true, 0, ⟨#[]⟩⟩] : List Ke) else []) = ([⟨true, 1, T⟩, ⟨true, 4, S⟩] ++ [⟨true, 0, ⟨#[]⟩⟩] : List Ke)) := fun q => if_pos q
  have HR0 : Hid (D ≠ 0 → (if D = 0 then ([⟨true, 1, T⟩, ⟨true, 4, S⟩] ++ [⟨true, 0, ⟨#[]⟩⟩] : List Ke) else []) = []) := fun q => if_neg q
  generalize (if D = 0 then ([⟨true, 1, T⟩, ⟨true, 4, S⟩] ++ [⟨true, 0, ⟨#[]⟩⟩] : List Ke) else []) = RES at *
  generalize hz : (l.length : Nat) = nl at *
  clear hz
  have gz : decide ((nl : Int) > 0) = decide (0 < nl) := by simp
  go_enter Tryd.func13, Tryd.ntmps13
  go_wp2_with fail
  refine C1.mono ?_
  rintro e w1 ⟨rfl, b1⟩
  clear C1
  have A2 := Arr.new w1 #[Value.int .i64 E] 33 _ rfl _ 1 (oneAt _)
  have B2 := Bel.al b1 (.cells #[.int .i64 E] 33)
  go_upto_region 2 with (fail)
  generalize w1.alloc (.cells #[.int .i64 E] 33) = w2 at *
  generalize w1.heap.size = g9 at *
  clear b1
  go_wp2_with fail
  refine (CU1 _).mono ?_
  rintro e w3 ⟨⟨u1, rfl, Q1⟩, b3⟩
  have B3 := Bel.call B2 b3
  have A3 := Arr.to' (n := 0) A2 b3
  obtain ⟨f1, s1, rfl, _⟩ := id Q1
  clear CU1 B2 A2 b3
  go_wp2_with fail
  refine (CU3 _).mono ?_
  rintro e w4 ⟨⟨u3, rfl, Q3⟩, b4'⟩
  have B4 := Bel.call B3 b4'
  have A4 := Arr.to' (n := 0) A3 b4'
  replace Q1 := Q1.to b4'
  obtain ⟨f3, s3, rfl, _⟩ := id Q3
  clear CU3 B3 A3 b4'
  go_wp2_with fail
  refine (CU4 _).mono ?_
  rintro e w5 ⟨⟨u4, rfl, Q4⟩, b5⟩
  have B5 := Bel.call B4 b5
  have A5 := Arr.to' (n := 0) A4 b5
  replace Q1 := Q1.to b5
  replace Q3 := Q3.to b5
  obtain ⟨f4, s4, rfl, _⟩ := id Q4
  have Q2 : Qs w5 (.func (.func 20) #[] #[.pointer (some ⟨g9, 0, none⟩)]) E := ⟨_, _, rfl, en_ask1, fun w' hb => ask1 E g9 w' ((Arr.to' (n := 0) A5 hb).cv 0 (by omega) (.int .i64 E) rfl)⟩
  have C5 := CF _ _ _ _ w5 Q1 Q2 Q3 Q4
  have B6 := Bel.al B5 (.cells #[.func (.func f1) #[] s1, .func (.func 20) #[] #[.pointer (some ⟨g9, 0, none⟩)], .func (.func f3) #[] s3, .func (.func f4) #[] s4] 66)
  clear CU4 B4 A4 b5 A5 Q1 Q2 Q3 Q4 CF B5
  go_wp2_with fail
  refine C5.mono ?_
  rintro e w7 ⟨rfl, b7⟩
  have B7 := Bel.call B6 b7
  clear C5 B6 b7
  by_cases hD : D = 0
  case neg =>
    have HR : Hid (RES = []) := HR0.out hD
    clear HR0 HR1
    have nD : (D == 0) = false := by simpa using hD
    have nD' : (D != 0) = true := by simpa using hD
    clear hD FZ
    go_wp2_with fail
    refine bodyPost_ret (v := .tuple #[.slice none 0 0, .int .i64 D]) (by simp [results, Tryd.results13, go_sem]) rfl ⟨⟨_, rfl, by rw [HR.out]; exact Kls.nil _⟩, B7⟩
  have HR : Hid (RES = ([⟨true, 1, T⟩, ⟨true, 4, S⟩] ++ [⟨true, 0, ⟨#[]⟩⟩] : List Ke)) := HR1.out hD
  clear HR0 HR1
  subst hD
  clear FZ
  go_wp2_with fail
  refine (CP0 _).mono ?_
  rintro e w8 ⟨rfl, b8⟩
  replace B7 := Bel.call B7 b8
  clear CP0 b8
  go_wp2_with fail
  refine (CM1 _).mono ?_
  rintro e w9 ⟨rfl, b9⟩
  replace B7 := Bel.call B7 b9
  clear CM1 b9
  go_wp2_with fail
  refine (CM4 _).mono ?_
  rintro e wa ⟨rfl, ba⟩
  replace B7 := Bel.call B7 ba
  clear CM4 ba
  have O1 : Hid ((wa.alloc (.cells #[.bool true, .int .i64 1, .string T, .bool true, .int .i64 4, .string S] 60)).ownsRow w.heap.size 60 3 (.slice (some ⟨wa.heap.size, 0, none⟩) 2 2) 2 (flK [⟨true, 1, T⟩, ⟨true, 4, S⟩])) := own_newK wa [⟨true, 1, T⟩, ⟨true, 4, S⟩] B7.size (by simp)
  have b1x := Bel.al B7 (.cells #[.bool true, .int .i64 1, .string T, .bool true, .int .i64 4, .string S] 60)
  go_upto_region 6 with (fail)
  generalize wa.alloc (.cells #[.bool true, .int .i64 1, .string T, .bool true, .int .i64 4, .string S] 60) = wc at *
  clear B7
  generalize wa.heap.size = gc at *
  go_wp2_with fail
  refine (CE _).mono ?_
  rintro e ye ⟨rfl, hb⟩
  have Oe : Hid (ye.ownsRow w.heap.size 60 3 (.slice (some ⟨gc, 0, none⟩) 2 2) (2) (flK ([⟨true, 1, T⟩, ⟨true, 4, S⟩]))) := own_to' O1.out hb
  have Be := Bel.call b1x hb
  clear CE hb O1 b1x
  have hsz7 := Be.size
  have sb7 : ∀ ob, w.heap.size ≤ (ye.alloc ob).heap.size := fun ob => by have := Be.size; simp; omega
  go_wp2_with (at_builtin; refine stopAt ?_)
  unfold Stop
  refine wpList_append_own _ rfl _ _ 51 rfl w.heap.size 60 iK (.agg #[.bool false, .int .i64 0, .string ⟨#[]⟩]) 3 32 Tryd.underlying51 hi hz0 hz1 hz2 rfl (by decide) _ _ _ rfl (World.ownsRow.alloc Oe.out _) ⟨ye.heap.size, 0, none⟩ 1 1 [.bool true, .int .i64 0, .string ⟨#[]⟩] rfl rfl (news_new ye [.bool true, .int .i64 0, .string ⟨#[]⟩] 60) (fun u hu => by simp at hu; rcases hu with rfl | rfl | rfl <;> rfl) (by unfold maxLen; omega) (by omega) (sb7 _) ?_
  intro v7 x7 ho7 hg7 hn7
  have b7x : Below w.heap.size w x7 := (Be.alloc Be.size _).grown hg7 (by go_size) (fun q hq => (World.ownsRow.lt Oe.out q hq).1)
  have O7 : Hid (x7.ownsRow w.heap.size 60 3 v7 (2 + 1) (flK ([⟨true, 1, T⟩, ⟨true, 4, S⟩] ++ [⟨true, 0, ⟨#[]⟩⟩]))) := by
    show World.ownsRow _ _ _ _ _ _ _
    rw [flK_app]
    exact ho7
  clear hg7 ho7 hn7 sb7 hsz7 Oe Be
  have KF : Hid (Kls x7 v7 ([⟨true, 1, T⟩, ⟨true, 4, S⟩] ++ [⟨true, 0, ⟨#[]⟩⟩])) := Kls.own (b := w.heap.size) O7.out
  clear O7
  go_wp2_with fail
  refine bodyPost_ret (v := .tuple #[v7, .int .i64 0]) (by simp [results, Tryd.results13, go_sem]) rfl ⟨⟨_, rfl, by rw [HR.out]; exact KF.out⟩, b7x⟩
theorem fst4 (a b c d : Int) : fstL [a, b, c, d] = if a ≠ 0 then a else if b ≠ 0 then b else if c ≠ 0 then c else d := by
  simp only [fstL]
  by_cases h1 : a = 0 <;> by_cases h2 : b = 0 <;> by_cases h3 : c = 0 <;> by_cases h4 : d = 0 <;> simp [h1, h2, h3, h4]
theorem ask_is (l : List Int) (h : ByteArray) (p : Int) (e3 e4 : Int) (h3 : e3 = if h.size ≠ 0 ∧ hostB h = false then 20 else 0) (h4 : e4 = if p ≠ 0 ∧ portB p = false then 13 else 0) : fstL [(if 0 < l.length then 0 else 11), prE l, e3, e4] = askE l h p := by
  rw [fst4, h3, h4]
  unfold askE
  have z0 : ¬ ((0 : Int) ≠ 0) := fun q => q rfl
  by_cases h1 : l.length = 0
  · have n : ¬ 0 < l.length := by omega
    rw [if_pos h1, if_neg n]
    rfl
  · have n : 0 < l.length := by omega
    rw [if_neg h1, if_pos n, if_neg z0]
    by_cases h2 : prE l = 0
    · have z2 : ¬ (prE l ≠ 0) := fun q => q h2
      rw [if_neg z2, if_neg z2]
      by_cases h5 : h.size ≠ 0 ∧ hostB h = false
      · rw [if_pos h5, if_pos h5]
        rfl
      · rw [if_neg h5, if_neg h5, if_neg z0]
    · have z2 : prE l ≠ 0 := h2
      rw [if_pos z2, if_pos z2]
theorem tA : CAs := by
  intro l h p v w HA h9 hh p0 p1
  by_cases c7 : h.size = 0
  · have n7 : (0 : Int) = if h.size ≠ 0 ∧ hostB h = false then 20 else 0 := (if_neg (fun q => q.1 c7)).symm
    have m7 : ¬ (h.size ≠ 0) := fun q => q c7
    by_cases c8 : p = 0
    · have n8 : (0 : Int) = if p ≠ 0 ∧ portB p = false then 13 else 0 := (if_neg (fun q => q.1 c8)).symm
      have m8 : ¬ (p ≠ 0) := fun q => q c8
      have C := pAsk_00 l h p v w HA h9 hh p0 p1 c7 c8
      rw [ask_is l h p _ _ n7 n8] at C
      unfold askL
      rwa [if_neg m7, if_neg m8, List.append_nil, List.append_nil]
    · have n8 : (if portB p = true then (0 : Int) else 13) = if p ≠ 0 ∧ portB p = false then 13 else 0 := by cases portB p <;> simp [c8]
      have m8 : p ≠ 0 := c8
      have C := pAsk_01 l h p v w HA h9 hh p0 p1 c7 c8
      rw [ask_is l h p _ _ n7 n8] at C
      unfold askL
      rwa [if_neg m7, if_pos m8, List.append_nil]
  · have n7 : (if hostB h = true then (0 : Int) else 20) = if h.size ≠ 0 ∧ hostB h = false then 20 else 0 := by cases hostB h <;> simp [c7]
    have m7 : h.size ≠ 0 := c7
    by_cases c8 : p = 0
    · have n8 : (0 : Int) = if p ≠ 0 ∧ portB p = false then 13 else 0 := (if_neg (fun q => q.1 c8)).symm
      have m8 : ¬ (p ≠ 0) := fun q => q c8
      have C := pAsk_10 l h p v w HA h9 hh p0 p1 c7 c8
      rw [ask_is l h p _ _ n7 n8] at C
      unfold askL
      rwa [if_pos m7, if_neg m8, List.append_nil]
    · have n8 : (if portB p = true then (0 : Int) else 13) = if p ≠ 0 ∧ portB p = false then 13 else 0 := by cases portB p <;> simp [c8]
      have m8 : p ≠ 0 := c8
      have C := pAsk_11 l h p v w HA h9 hh p0 p1 c7 c8
      rw [ask_is l h p _ _ n7 n8] at C
      unfold askL
      rwa [if_pos m7, if_pos m8]
end Go.Proofs.YtmkfnfencllfnaaDoor
