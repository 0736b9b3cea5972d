/- Layer 5's questions: unless, the closures, firstError. -/
import Derived.Deep.Cut
import Derived.Test.YtoolbnbfbegjaaaGreatJ24
set_option linter.all false
set_option maxRecDepth 100000
namespace Go.Proofs.YtoolbnbfbegjaaaGreat
open Go.RowKit Go.Sort
attribute [local go_sem] eq24
theorem unl_true (c : Int) (w : World) : Calls Tryz.prog 51 #[.bool true, .int .i64 c] w fun e w' => e = .returned (.int .i64 0) ∧ Below w.heap.size w w' := by
  go_enter Tryz.func51, Tryz.ntmps51
  go_wp2
  go_ret
  exact ⟨rfl, Below.refl _ _⟩
theorem unl_false (c : Int) (w : World) : Calls Tryz.prog 51 #[.bool false, .int .i64 c] w fun e w' => e = .returned (.int .i64 c) ∧ Below w.heap.size w w' := by
  go_enter Tryz.func51, Tryz.ntmps51
  go_wp2
  go_ret
  exact ⟨rfl, Below.refl _ _⟩
theorem unl (b : Bool) (c : Int) (w : World) : Calls Tryz.prog 51 #[.bool b, .int .i64 c] w fun e w' => e = .returned (.int .i64 (if b = true then 0 else c)) ∧ Below w.heap.size w w' := by
  cases b
  · exact unl_false c w
  · exact unl_true c w
set_option maxHeartbeats 4000000 in
theorem unit_z (A r : Int) (b : Bool) (g : Nat) (w : World) (hz : (lim A 0 == 0 && (lim A 1 == 0 && (lim A 2 == 0 && lim A 3 == 0))) = true) (Aa : Arr w g 4 (fun j => .int .u64 (lim (A) j)))
    (C1 : ∀ W, Calls Tryz.prog 51 #[.bool false, .int .i64 13] W fun e w' => e = .returned (.int .i64 13) ∧ Below W.heap.size W w') :
    Calls Tryz.prog 50 #[.pointer (some ⟨g, 0, none⟩)] w fun e w' => e = .returned (.int .i64 13) ∧ Below w.heap.size w w' := by
  have hB := Below.refl w.heap.size w
  go_enter Tryz.func50, Tryz.ntmps50
  have ca := Aa.c
  go_wp2_with fail
  refine (C1 _).mono ?_
  rintro e w11 ⟨rfl, hb⟩
  replace Aa := Arr.to' Aa hb
  replace hB := Bel.call hB hb
  clear hb ca
  go_wp2_with fail
  go_ret
  exact ⟨rfl, hB⟩
set_option maxHeartbeats 4000000 in
theorem unit_n (A r : Int) (b : Bool) (g : Nat) (w : World) (hz : (lim A 0 == 0 && (lim A 1 == 0 && (lim A 2 == 0 && lim A 3 == 0))) = false) (Aa : Arr w g 4 (fun j => .int .u64 (lim (A) j)))
    (C1 : ∀ W, Calls Tryz.prog 36 #[nv A] W fun e w' => e = .returned (.bool b) ∧ Below W.heap.size W w')
    (C2 : ∀ W, Calls Tryz.prog 51 #[.bool b, .int .i64 13] W fun e w' => e = .returned (.int .i64 r) ∧ Below W.heap.size W w') :
    Calls Tryz.prog 50 #[.pointer (some ⟨g, 0, none⟩)] w fun e w' => e = .returned (.int .i64 r) ∧ Below w.heap.size w w' := by
  have hB := Below.refl w.heap.size w
  go_enter Tryz.func50, Tryz.ntmps50
  have ca := Aa.c
  go_wp2_with fail
  refine (C1 _).mono ?_
  rintro e w11 ⟨rfl, hb⟩
  replace Aa := Arr.to' Aa hb
  replace hB := Bel.call hB hb
  clear hb ca
  go_wp2_with fail
  refine (C2 _).mono ?_
  rintro e w12 ⟨rfl, hb⟩
  replace Aa := Arr.to' Aa hb
  replace hB := Bel.call hB hb
  clear hb
  go_wp2_with fail
  go_ret
  exact ⟨rfl, hB⟩
set_option maxHeartbeats 4000000 in
theorem dig_core (s : ByteArray) (r : Int) (g : Nat) (w : World) (Aa : Arr w g 1 (fun _ => .string s))
    (C1 : ∀ W, Calls Tryz.prog 51 #[.bool ((s.size : Int) == 32), .int .i64 10] W fun e w' => e = .returned (.int .i64 r) ∧ Below W.heap.size W w') :
    Calls Tryz.prog 56 #[.pointer (some ⟨g, 0, none⟩)] w fun e w' => e = .returned (.int .i64 r) ∧ Below w.heap.size w w' := by
  have hB := Below.refl w.heap.size w
  go_enter Tryz.func56, Tryz.ntmps56
  have ca_0 := Aa.cv 0 (by omega) (.string s) rfl
  go_wp2_with fail
  refine (C1 _).mono ?_
  rintro e w11 ⟨rfl, hb⟩
  replace Aa := Arr.to' Aa hb
  replace hB := Bel.call hB hb
  clear hb ca_0
  go_wp2_with fail
  go_ret
  exact ⟨rfl, hB⟩
set_option maxHeartbeats 4000000 in
theorem pub_true (X Y r : Int) (b : Bool) (g : Nat) (w : World) (Aa : Arr w g 9 (px (X) (Y) true))
    (C1 : ∀ W, Calls Tryz.prog 51 #[.bool false, .int .i64 15] W fun e w' => e = .returned (.int .i64 r) ∧ Below W.heap.size W w') :
    Calls Tryz.prog 67 #[.pointer (some ⟨g, 0, none⟩)] w fun e w' => e = .returned (.int .i64 r) ∧ Below w.heap.size w w' := by
  have hB := Below.refl w.heap.size w
  go_enter Tryz.func67, Tryz.ntmps67
  obtain ⟨ca_0, ca_1, ca_2, ca_3, ca_4, ca_5, ca_6, ca_7, ca_8⟩ := Arr.c_px Aa
  go_wp2_with fail
  refine (C1 _).mono ?_
  rintro e w11 ⟨rfl, hb⟩
  replace Aa := Arr.to' Aa hb
  replace hB := Bel.call hB hb
  clear hb ca_0 ca_1 ca_2 ca_3 ca_4 ca_5 ca_6 ca_7 ca_8
  go_wp2_with fail
  go_ret
  exact ⟨rfl, hB⟩
set_option maxHeartbeats 4000000 in
theorem pub_false (X Y r : Int) (b : Bool) (g : Nat) (w : World) (Aa : Arr w g 9 (px (X) (Y) false))
    (C1 : ∀ W, Calls Tryz.prog 68 #[pv X Y false] W fun e w' => e = .returned (.bool b) ∧ Below W.heap.size W w')
    (C2 : ∀ W, Calls Tryz.prog 51 #[.bool b, .int .i64 15] W fun e w' => e = .returned (.int .i64 r) ∧ Below W.heap.size W w') :
    Calls Tryz.prog 67 #[.pointer (some ⟨g, 0, none⟩)] w fun e w' => e = .returned (.int .i64 r) ∧ Below w.heap.size w w' := by
  have hB := Below.refl w.heap.size w
  go_enter Tryz.func67, Tryz.ntmps67
  obtain ⟨ca_0, ca_1, ca_2, ca_3, ca_4, ca_5, ca_6, ca_7, ca_8⟩ := Arr.c_px Aa
  go_wp2_with fail
  refine (C1 _).mono ?_
  rintro e w11 ⟨rfl, hb⟩
  replace Aa := Arr.to' Aa hb
  replace hB := Bel.call hB hb
  clear hb ca_0 ca_1 ca_2 ca_3 ca_4 ca_5 ca_6 ca_7 ca_8
  go_wp2_with fail
  refine (C2 _).mono ?_
  rintro e w12 ⟨rfl, hb⟩
  replace Aa := Arr.to' Aa hb
  replace hB := Bel.call hB hb
  clear hb
  go_wp2_with fail
  go_ret
  exact ⟨rfl, hB⟩
set_option maxHeartbeats 8000000 in
theorem met_core (X Y R S I N a b U V : Int) (i k : Bool) (s : ByteArray) (w : World)
    (C1 : ∀ W, Calls Tryz.prog 61 #[nv S] W fun e w' => e = .returned (nv I) ∧ Below W.heap.size W w')
    (C2 : ∀ W, Calls Tryz.prog 59 #[.string s] W fun e w' => e = .returned (nv N) ∧ Below W.heap.size W w')
    (C3 : ∀ W, Calls Tryz.prog 60 #[nv N, nv I] W fun e w' => e = .returned (nv a) ∧ Below W.heap.size W w')
    (C4 : ∀ W, Calls Tryz.prog 60 #[nv R, nv I] W fun e w' => e = .returned (nv b) ∧ Below W.heap.size W w')
    (C5 : ∀ W, Calls Tryz.prog 52 #[nv a, nv b, pv X Y i] W fun e w' => e = .returned (pv U V k) ∧ Below W.heap.size W w') :
    Calls Tryz.prog 70 #[pv X Y i, .string s, gv R S] w fun e w' => e = .returned (pv U V k) ∧ Below w.heap.size w w' := by
  go_enter Tryz.func70, Tryz.ntmps70
  obtain ⟨W0, hW0⟩ : ∃ W0, W0 = (((w.alloc (.cells #[.int .u64 (lim (X) 0), .int .u64 (lim (X) 1), .int .u64 (lim (X) 2), .int .u64 (lim (X) 3), .int .u64 (lim (Y) 0), .int .u64 (lim (Y) 1), .int .u64 (lim (Y) 2), .int .u64 (lim (Y) 3), .bool i] 28)).alloc (.cells #[.int .u64 (lim (R) 0), .int .u64 (lim (R) 1), .int .u64 (lim (R) 2), .int .u64 (lim (R) 3), .int .u64 (lim (S) 0), .int .u64 (lim (S) 1), .int .u64 (lim (S) 2), .int .u64 (lim (S) 3)] 26)).alloc (.cells #[.int .u64 0, .int .u64 0, .int .u64 0, .int .u64 0, .int .u64 0, .int .u64 0, .int .u64 0, .int .u64 0, .bool false] 28)) := ⟨_, rfl⟩
  have Aq : Arr W0 (w.heap.size) 9 (px (X) (Y) i) := by subst hW0; refine Arr.mk9p ?_ ?_ ?_ ?_ ?_ ?_ ?_ ?_ ?_ ?_ <;> simp [go_sem, px, sx, zx]
  have As : Arr W0 (w.heap.size + 1) 8 (sgx (R) (S)) := by subst hW0; refine Arr.mk8' ?_ ?_ ?_ ?_ ?_ ?_ ?_ ?_ ?_ <;> simp [go_sem, sgx, zg]
  have Ao : Arr W0 (w.heap.size + 1 + 1) 9 (zx 8) := by subst hW0; refine Arr.mk9p ?_ ?_ ?_ ?_ ?_ ?_ ?_ ?_ ?_ ?_ <;> simp [go_sem, px, sx, zx]
  have hB : Below w.heap.size w W0 := by subst hW0; go_grown
  subst hW0
  obtain ⟨cs_0, cs_1, cs_2, cs_3, cs_4, cs_5, cs_6, cs_7⟩ := Arr.c_sgx As
  go_wp2_with fail
  refine (C1 _).mono ?_
  rintro e w1 ⟨rfl, hb⟩
  replace Aq := Arr.to' Aq hb
  replace As := Arr.to' As hb
  replace Ao := Arr.to' Ao hb
  replace hB := Bel.call hB hb
  clear hb cs_0 cs_1 cs_2 cs_3 cs_4 cs_5 cs_6 cs_7
  have lq_2 := Aq.lt
  have ls_2 := As.lt
  have lo_2 := Ao.lt
  have lB_2 := hB.size
  replace Aq := (Arr.al' Aq (.cells #[.int .u64 (lim (I) 0), .int .u64 (lim (I) 1), .int .u64 (lim (I) 2), .int .u64 (lim (I) 3)] 24))
  replace As := (Arr.al' As (.cells #[.int .u64 (lim (I) 0), .int .u64 (lim (I) 1), .int .u64 (lim (I) 2), .int .u64 (lim (I) 3)] 24))
  replace Ao := (Arr.al' Ao (.cells #[.int .u64 (lim (I) 0), .int .u64 (lim (I) 1), .int .u64 (lim (I) 2), .int .u64 (lim (I) 3)] 24))
  have Av : Arr ((w1.alloc (.cells #[.int .u64 (lim (I) 0), .int .u64 (lim (I) 1), .int .u64 (lim (I) 2), .int .u64 (lim (I) 3)] 24))) (w1.heap.size) 4 (fun j => .int .u64 (lim (I) j)) := by refine Arr.mk4 ?_ ?_ ?_ ?_ ?_ ?_ ?_ ?_ <;> simp [go_sem]
  replace hB := (Bel.al hB (.cells #[.int .u64 (lim (I) 0), .int .u64 (lim (I) 1), .int .u64 (lim (I) 2), .int .u64 (lim (I) 3)] 24))
  obtain ⟨rq0, rq1, rq2, rq3, rq4, rq5, rq6, rq7, rq8⟩ := Arr.g_px Aq
  obtain ⟨rs0, rs1, rs2, rs3, rs4, rs5, rs6, rs7⟩ := Arr.g_sgx As
  obtain ⟨rv0, rv1, rv2, rv3⟩ := Arr.g4 Av
  go_wp2_with fail
  refine wp_region_below_tail 10 (by kernel_rfl) (by kernel_rfl) ?_
  simp only [List.take_succ_cons, List.take_zero, List.drop_succ_cons, List.drop_zero]
  repeat (go_big_quiet_step (first | (go_at_call 59; with_reducible first | exact Calls.regrown_of (C2 _)) | (go_at_call 60; with_reducible first | exact Calls.regrown_of (C3 _) | exact Calls.regrown_of (C4 _)) | (go_at_call 52; with_reducible first | exact Calls.regrown_of (C5 _))))
  refine wpQuiet_nil ?_
  intro w2 hw'
  obtain ⟨⟨dq, osq⟩, hw''⟩ := hw'
  have hb := below_of hw''
  clear hw''
  replace Ao := Arr.to' Ao hb
  replace hB := Bel.call hB hb
  clear hb rq0 rq1 rq2 rq3 rq4 rq5 rq6 rq7 rq8 rs0 rs1 rs2 rs3 rs4 rs5 rs6 rs7 rv0 rv1 rv2 rv3 Aq As Av
  have hS := hB.size
  obtain ⟨co_0, co_1, co_2, co_3, co_4, co_5, co_6, co_7, co_8⟩ := Arr.c_zp Ao
  have zo := Ao.z
  go_wp2_with fail
  refine bodyPost_ret (v := pv U V k) (by simp [results, Tryz.results70, go_sem, co_0, co_1, co_2, co_3, co_4, co_5, co_6, co_7, co_8]) rfl ⟨rfl, ?_⟩
  go_grown
set_option maxHeartbeats 8000000 in
theorem hld_true (X Y R S U V a r : Int) (i : Bool) (s : ByteArray) (g1 g2 g3 : Nat) (w : World) (Aq : Arr w g1 9 (px (X) (Y) i)) (Ad : Arr w g2 1 (fun _ => .string s)) (As : Arr w g3 8 (sgx (R) (S)))
    (C1 : ∀ W, Calls Tryz.prog 70 #[pv X Y i, .string s, gv R S] W fun e w' => e = .returned (pv U V true) ∧ Below W.heap.size W w')
    (C2 : ∀ W, Calls Tryz.prog 51 #[.bool false, .int .i64 16] W fun e w' => e = .returned (.int .i64 r) ∧ Below W.heap.size W w') :
    Calls Tryz.prog 69 #[.pointer (some ⟨g1, 0, none⟩), .pointer (some ⟨g2, 0, none⟩), .pointer (some ⟨g3, 0, none⟩)] w fun e w' => e = .returned (.int .i64 r) ∧ Below w.heap.size w w' := by
  have hB := Below.refl w.heap.size w
  go_enter Tryz.func69, Tryz.ntmps69
  obtain ⟨cq_0, cq_1, cq_2, cq_3, cq_4, cq_5, cq_6, cq_7, cq_8⟩ := Arr.c_px Aq
  have cd_0 := Ad.cv 0 (by omega) (.string s) rfl
  obtain ⟨cs_0, cs_1, cs_2, cs_3, cs_4, cs_5, cs_6, cs_7⟩ := Arr.c_sgx As
  go_wp2_with fail
  refine (C1 _).mono ?_
  rintro e w11 ⟨rfl, hb⟩
  replace Aq := Arr.to' Aq hb
  replace Ad := Arr.to' Ad hb
  replace As := Arr.to' As hb
  replace hB := Bel.call hB hb
  clear hb cq_0 cq_1 cq_2 cq_3 cq_4 cq_5 cq_6 cq_7 cq_8 cd_0 cs_0 cs_1 cs_2 cs_3 cs_4 cs_5 cs_6 cs_7
  have lq_1 := Aq.lt
  have ld_1 := Ad.lt
  have ls_1 := As.lt
  have lB_1 := hB.size
  replace Aq := (Arr.al' Aq (.cells #[.int .u64 (lim (U) 0), .int .u64 (lim (U) 1), .int .u64 (lim (U) 2), .int .u64 (lim (U) 3), .int .u64 (lim (V) 0), .int .u64 (lim (V) 1), .int .u64 (lim (V) 2), .int .u64 (lim (V) 3), .bool true] 28))
  replace Ad := (Arr.al' Ad (.cells #[.int .u64 (lim (U) 0), .int .u64 (lim (U) 1), .int .u64 (lim (U) 2), .int .u64 (lim (U) 3), .int .u64 (lim (V) 0), .int .u64 (lim (V) 1), .int .u64 (lim (V) 2), .int .u64 (lim (V) 3), .bool true] 28))
  replace As := (Arr.al' As (.cells #[.int .u64 (lim (U) 0), .int .u64 (lim (U) 1), .int .u64 (lim (U) 2), .int .u64 (lim (U) 3), .int .u64 (lim (V) 0), .int .u64 (lim (V) 1), .int .u64 (lim (V) 2), .int .u64 (lim (V) 3), .bool true] 28))
  have At : Arr ((w11.alloc (.cells #[.int .u64 (lim (U) 0), .int .u64 (lim (U) 1), .int .u64 (lim (U) 2), .int .u64 (lim (U) 3), .int .u64 (lim (V) 0), .int .u64 (lim (V) 1), .int .u64 (lim (V) 2), .int .u64 (lim (V) 3), .bool true] 28))) (w11.heap.size) 9 (px (U) (V) true) := by refine Arr.mk9p ?_ ?_ ?_ ?_ ?_ ?_ ?_ ?_ ?_ ?_ <;> simp [go_sem, px, sx, zx]
  replace hB := (Bel.al hB (.cells #[.int .u64 (lim (U) 0), .int .u64 (lim (U) 1), .int .u64 (lim (U) 2), .int .u64 (lim (U) 3), .int .u64 (lim (V) 0), .int .u64 (lim (V) 1), .int .u64 (lim (V) 2), .int .u64 (lim (V) 3), .bool true] 28))
  obtain ⟨rq0, rq1, rq2, rq3, rq4, rq5, rq6, rq7, rq8⟩ := Arr.g_px Aq
  obtain ⟨rs0, rs1, rs2, rs3, rs4, rs5, rs6, rs7⟩ := Arr.g_sgx As
  obtain ⟨rt0, rt1, rt2, rt3, rt4, rt5, rt6, rt7, rt8⟩ := Arr.g_px At
  go_wp2_with fail
  refine wp_region_quiet_below (by kernel_rfl) (by kernel_rfl) ?_
  repeat (go_big_quiet_step (first | (go_at_call 51; with_reducible first | exact Calls.regrown_of (C2 _))))
  refine wpQuiet_nil ?_
  intro w2 hw'
  obtain ⟨⟨dq, osq⟩, hw''⟩ := hw'
  have hb := below_of hw''
  clear hw''
  replace Aq := Arr.to' Aq hb
  replace Ad := Arr.to' Ad hb
  replace As := Arr.to' As hb
  replace At := Arr.to' At hb
  replace hB := Bel.call hB hb
  clear hb rq0 rq1 rq2 rq3 rq4 rq5 rq6 rq7 rq8 rs0 rs1 rs2 rs3 rs4 rs5 rs6 rs7 rt0 rt1 rt2 rt3 rt4 rt5 rt6 rt7 rt8
  go_wp2_with fail
  go_ret
  exact ⟨rfl, hB⟩
set_option maxHeartbeats 8000000 in
theorem hld_false (X Y R S U V a r : Int) (i : Bool) (s : ByteArray) (g1 g2 g3 : Nat) (w : World) (Aq : Arr w g1 9 (px (X) (Y) i)) (Ad : Arr w g2 1 (fun _ => .string s)) (As : Arr w g3 8 (sgx (R) (S)))
    (C1 : ∀ W, Calls Tryz.prog 70 #[pv X Y i, .string s, gv R S] W fun e w' => e = .returned (pv U V false) ∧ Below W.heap.size W w')
    (C2 : ∀ W, Calls Tryz.prog 57 #[pv U V false] W fun e w' => e = .returned (nv a) ∧ Below W.heap.size W w')
    (C3 : ∀ W, Calls Tryz.prog 51 #[.bool (lim a 0 == lim R 0 && (lim a 1 == lim R 1 && (lim a 2 == lim R 2 && lim a 3 == lim R 3))), .int .i64 16] W fun e w' => e = .returned (.int .i64 r) ∧ Below W.heap.size W w') :
    Calls Tryz.prog 69 #[.pointer (some ⟨g1, 0, none⟩), .pointer (some ⟨g2, 0, none⟩), .pointer (some ⟨g3, 0, none⟩)] w fun e w' => e = .returned (.int .i64 r) ∧ Below w.heap.size w w' := by
  have hB := Below.refl w.heap.size w
  go_enter Tryz.func69, Tryz.ntmps69
  obtain ⟨cq_0, cq_1, cq_2, cq_3, cq_4, cq_5, cq_6, cq_7, cq_8⟩ := Arr.c_px Aq
  have cd_0 := Ad.cv 0 (by omega) (.string s) rfl
  obtain ⟨cs_0, cs_1, cs_2, cs_3, cs_4, cs_5, cs_6, cs_7⟩ := Arr.c_sgx As
  go_wp2_with fail
  refine (C1 _).mono ?_
  rintro e w11 ⟨rfl, hb⟩
  replace Aq := Arr.to' Aq hb
  replace Ad := Arr.to' Ad hb
  replace As := Arr.to' As hb
  replace hB := Bel.call hB hb
  clear hb cq_0 cq_1 cq_2 cq_3 cq_4 cq_5 cq_6 cq_7 cq_8 cd_0 cs_0 cs_1 cs_2 cs_3 cs_4 cs_5 cs_6 cs_7
  have lq_1 := Aq.lt
  have ld_1 := Ad.lt
  have ls_1 := As.lt
  have lB_1 := hB.size
  replace Aq := (Arr.al' Aq (.cells #[.int .u64 (lim (U) 0), .int .u64 (lim (U) 1), .int .u64 (lim (U) 2), .int .u64 (lim (U) 3), .int .u64 (lim (V) 0), .int .u64 (lim (V) 1), .int .u64 (lim (V) 2), .int .u64 (lim (V) 3), .bool false] 28))
  replace Ad := (Arr.al' Ad (.cells #[.int .u64 (lim (U) 0), .int .u64 (lim (U) 1), .int .u64 (lim (U) 2), .int .u64 (lim (U) 3), .int .u64 (lim (V) 0), .int .u64 (lim (V) 1), .int .u64 (lim (V) 2), .int .u64 (lim (V) 3), .bool false] 28))
  replace As := (Arr.al' As (.cells #[.int .u64 (lim (U) 0), .int .u64 (lim (U) 1), .int .u64 (lim (U) 2), .int .u64 (lim (U) 3), .int .u64 (lim (V) 0), .int .u64 (lim (V) 1), .int .u64 (lim (V) 2), .int .u64 (lim (V) 3), .bool false] 28))
  have At : Arr ((w11.alloc (.cells #[.int .u64 (lim (U) 0), .int .u64 (lim (U) 1), .int .u64 (lim (U) 2), .int .u64 (lim (U) 3), .int .u64 (lim (V) 0), .int .u64 (lim (V) 1), .int .u64 (lim (V) 2), .int .u64 (lim (V) 3), .bool false] 28))) (w11.heap.size) 9 (px (U) (V) false) := by refine Arr.mk9p ?_ ?_ ?_ ?_ ?_ ?_ ?_ ?_ ?_ ?_ <;> simp [go_sem, px, sx, zx]
  replace hB := (Bel.al hB (.cells #[.int .u64 (lim (U) 0), .int .u64 (lim (U) 1), .int .u64 (lim (U) 2), .int .u64 (lim (U) 3), .int .u64 (lim (V) 0), .int .u64 (lim (V) 1), .int .u64 (lim (V) 2), .int .u64 (lim (V) 3), .bool false] 28))
  obtain ⟨rq0, rq1, rq2, rq3, rq4, rq5, rq6, rq7, rq8⟩ := Arr.g_px Aq
  obtain ⟨rs0, rs1, rs2, rs3, rs4, rs5, rs6, rs7⟩ := Arr.g_sgx As
  obtain ⟨rt0, rt1, rt2, rt3, rt4, rt5, rt6, rt7, rt8⟩ := Arr.g_px At
  go_wp2_with fail
  refine wp_region_quiet_below (by kernel_rfl) (by kernel_rfl) ?_
  repeat (go_big_quiet_step (first | (go_at_call 57; with_reducible first | exact Calls.regrown_of (C2 _)) | (go_at_call 51; with_reducible first | exact Calls.regrown_of (C3 _))))
  refine wpQuiet_nil ?_
  intro w2 hw'
  obtain ⟨⟨dq, osq⟩, hw''⟩ := hw'
  have hb := below_of hw''
  clear hw''
  replace Aq := Arr.to' Aq hb
  replace Ad := Arr.to' Ad hb
  replace As := Arr.to' As hb
  replace At := Arr.to' At hb
  replace hB := Bel.call hB hb
  clear hb rq0 rq1 rq2 rq3 rq4 rq5 rq6 rq7 rq8 rs0 rs1 rs2 rs3 rs4 rs5 rs6 rs7 rt0 rt1 rt2 rt3 rt4 rt5 rt6 rt7 rt8
  go_wp2_with fail
  go_ret
  exact ⟨rfl, hB⟩
end Go.Proofs.YtoolbnbfbegjaaaGreat
