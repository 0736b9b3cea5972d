/- The lower one of two signatures, and what is a secret number, in ecdsa and in the reference. -/
import Derived.Deep.Cut
import Derived.Test.YtoolbnbfbegjaaaGreatJ24
set_option linter.all false
set_option maxRecDepth 100000
namespace Go.Proofs.YtoolbnbfbegjaaaGreat
open Go.RowKit Go.Sort
attribute [local go_sem] eq24
set_option maxHeartbeats 8000000 in
theorem low_no1 (R S : Int) (w : World)
    (C1 : ∀ W, Calls Tryz.prog 36 #[nv R] W fun e w' => e = .returned (.bool false) ∧ Below W.heap.size W w') :
    Calls Tryz.prog 11 #[gv R S] w fun e w' => e = .returned (gv R S) ∧ Below w.heap.size w w' := by
  go_enter Tryz.func11, Tryz.ntmps11
  obtain ⟨W0, hW0⟩ : ∃ W0, W0 = ((w.alloc (.cells #[.int .u64 (lim (R) 0), .int .u64 (lim (R) 1), .int .u64 (lim (R) 2), .int .u64 (lim (R) 3), .int .u64 (lim (S) 0), .int .u64 (lim (S) 1), .int .u64 (lim (S) 2), .int .u64 (lim (S) 3)] 26)).alloc (.cells #[.int .u64 0, .int .u64 0, .int .u64 0, .int .u64 0, .int .u64 0, .int .u64 0, .int .u64 0, .int .u64 0] 26)) := ⟨_, rfl⟩
  have As : Arr W0 (w.heap.size) 8 (sgx (R) (S)) := by subst hW0; refine Arr.mk8' ?_ ?_ ?_ ?_ ?_ ?_ ?_ ?_ ?_ <;> simp [go_sem, sgx, zg]
  have Ao : Arr W0 (w.heap.size + 1) 8 (zg) := by subst hW0; refine Arr.mk8' ?_ ?_ ?_ ?_ ?_ ?_ ?_ ?_ ?_ <;> simp [go_sem, sgx, zg]
  have hB : Below w.heap.size w W0 := by subst hW0; go_grown
  subst hW0
  obtain ⟨cs_0, cs_1, cs_2, cs_3, cs_4, cs_5, cs_6, cs_7⟩ := Arr.c_sgx As
  go_wp2_with fail
  refine (C1 _).mono ?_
  rintro e w1 ⟨rfl, hb⟩
  replace As := Arr.to' As hb
  replace Ao := Arr.to' Ao hb
  replace hB := Bel.call hB hb
  clear hb cs_0 cs_1 cs_2 cs_3 cs_4 cs_5 cs_6 cs_7
  obtain ⟨cs_0, cs_1, cs_2, cs_3, cs_4, cs_5, cs_6, cs_7⟩ := Arr.c_sgx As
  have hS := hB.size
  obtain ⟨co_0, co_1, co_2, co_3, co_4, co_5, co_6, co_7⟩ := Arr.c_zg Ao
  have zo := Ao.z
  go_wp2_with fail
  refine bodyPost_ret (v := gv R S) (by simp [results, Tryz.results11, go_sem, co_0, co_1, co_2, co_3, co_4, co_5, co_6, co_7]) rfl ⟨rfl, ?_⟩
  go_grown
set_option maxHeartbeats 8000000 in
theorem low_no2 (R S : Int) (w : World)
    (C1 : ∀ W, Calls Tryz.prog 36 #[nv R] W fun e w' => e = .returned (.bool true) ∧ Below W.heap.size W w')
    (C2 : ∀ W, Calls Tryz.prog 36 #[nv S] W fun e w' => e = .returned (.bool false) ∧ Below W.heap.size W w') :
    Calls Tryz.prog 11 #[gv R S] w fun e w' => e = .returned (gv R S) ∧ Below w.heap.size w w' := by
  go_enter Tryz.func11, Tryz.ntmps11
  obtain ⟨W0, hW0⟩ : ∃ W0, W0 = ((w.alloc (.cells #[.int .u64 (lim (R) 0), .int .u64 (lim (R) 1), .int .u64 (lim (R) 2), .int .u64 (lim (R) 3), .int .u64 (lim (S) 0), .int .u64 (lim (S) 1), .int .u64 (lim (S) 2), .int .u64 (lim (S) 3)] 26)).alloc (.cells #[.int .u64 0, .int .u64 0, .int .u64 0, .int .u64 0, .int .u64 0, .int .u64 0, .int .u64 0, .int .u64 0] 26)) := ⟨_, rfl⟩
  have As : Arr W0 (w.heap.size) 8 (sgx (R) (S)) := by subst hW0; refine Arr.mk8' ?_ ?_ ?_ ?_ ?_ ?_ ?_ ?_ ?_ <;> simp [go_sem, sgx, zg]
  have Ao : Arr W0 (w.heap.size + 1) 8 (zg) := by subst hW0; refine Arr.mk8' ?_ ?_ ?_ ?_ ?_ ?_ ?_ ?_ ?_ <;> simp [go_sem, sgx, zg]
  have hB : Below w.heap.size w W0 := by subst hW0; go_grown
  subst hW0
  obtain ⟨cs_0, cs_1, cs_2, cs_3, cs_4, cs_5, cs_6, cs_7⟩ := Arr.c_sgx As
  go_wp2_with fail
  refine (C1 _).mono ?_
  rintro e w1 ⟨rfl, hb⟩
  replace As := Arr.to' As hb
  replace Ao := Arr.to' Ao hb
  replace hB := Bel.call hB hb
  clear hb cs_0 cs_1 cs_2 cs_3 cs_4 cs_5 cs_6 cs_7
  obtain ⟨cs_0, cs_1, cs_2, cs_3, cs_4, cs_5, cs_6, cs_7⟩ := Arr.c_sgx As
  go_wp2_with fail
  refine (C2 _).mono ?_
  rintro e w12 ⟨rfl, hb⟩
  replace As := Arr.to' As hb
  replace Ao := Arr.to' Ao hb
  replace hB := Bel.call hB hb
  clear hb cs_0 cs_1 cs_2 cs_3 cs_4 cs_5 cs_6 cs_7
  obtain ⟨cs_0, cs_1, cs_2, cs_3, cs_4, cs_5, cs_6, cs_7⟩ := Arr.c_sgx As
  have hS := hB.size
  obtain ⟨co_0, co_1, co_2, co_3, co_4, co_5, co_6, co_7⟩ := Arr.c_zg Ao
  have zo := Ao.z
  go_wp2_with fail
  refine bodyPost_ret (v := gv R S) (by simp [results, Tryz.results11, go_sem, co_0, co_1, co_2, co_3, co_4, co_5, co_6, co_7]) rfl ⟨rfl, ?_⟩
  go_grown
set_option maxHeartbeats 8000000 in
theorem low_lt (R S O c : Int) (hc : c < 0) (w : World)
    (C1 : ∀ W, Calls Tryz.prog 36 #[nv R] W fun e w' => e = .returned (.bool true) ∧ Below W.heap.size W w')
    (C2 : ∀ W, Calls Tryz.prog 36 #[nv S] W fun e w' => e = .returned (.bool true) ∧ Below W.heap.size W w')
    (C3 : ∀ W, Calls Tryz.prog 37 #[.agg #[.int .u64 0, .int .u64 0, .int .u64 0, .int .u64 0], nv S] W fun e w' => e = .returned (nv O) ∧ Below W.heap.size W w')
    (C4 : ∀ W, Calls Tryz.prog 38 #[nv O, nv S] W fun e w' => e = .returned (.int .i64 c) ∧ Below W.heap.size W w') :
    Calls Tryz.prog 11 #[gv R S] w fun e w' => e = .returned (gv R O) ∧ Below w.heap.size w w' := by
  go_enter Tryz.func11, Tryz.ntmps11
  obtain ⟨W0, hW0⟩ : ∃ W0, W0 = ((w.alloc (.cells #[.int .u64 (lim (R) 0), .int .u64 (lim (R) 1), .int .u64 (lim (R) 2), .int .u64 (lim (R) 3), .int .u64 (lim (S) 0), .int .u64 (lim (S) 1), .int .u64 (lim (S) 2), .int .u64 (lim (S) 3)] 26)).alloc (.cells #[.int .u64 0, .int .u64 0, .int .u64 0, .int .u64 0, .int .u64 0, .int .u64 0, .int .u64 0, .int .u64 0] 26)) := ⟨_, rfl⟩
  have As : Arr W0 (w.heap.size) 8 (sgx (R) (S)) := by subst hW0; refine Arr.mk8' ?_ ?_ ?_ ?_ ?_ ?_ ?_ ?_ ?_ <;> simp [go_sem, sgx, zg]
  have Ao : Arr W0 (w.heap.size + 1) 8 (zg) := by subst hW0; refine Arr.mk8' ?_ ?_ ?_ ?_ ?_ ?_ ?_ ?_ ?_ <;> simp [go_sem, sgx, zg]
  have hB : Below w.heap.size w W0 := by subst hW0; go_grown
  subst hW0
  obtain ⟨cs_0, cs_1, cs_2, cs_3, cs_4, cs_5, cs_6, cs_7⟩ := Arr.c_sgx As
  go_wp2_with fail
  refine (C1 _).mono ?_
  rintro e w1 ⟨rfl, hb⟩
  replace As := Arr.to' As hb
  replace Ao := Arr.to' Ao hb
  replace hB := Bel.call hB hb
  clear hb cs_0 cs_1 cs_2 cs_3 cs_4 cs_5 cs_6 cs_7
  obtain ⟨cs_0, cs_1, cs_2, cs_3, cs_4, cs_5, cs_6, cs_7⟩ := Arr.c_sgx As
  go_wp2_with fail
  refine (C2 _).mono ?_
  rintro e w12 ⟨rfl, hb⟩
  replace As := Arr.to' As hb
  replace Ao := Arr.to' Ao hb
  replace hB := Bel.call hB hb
  clear hb cs_0 cs_1 cs_2 cs_3 cs_4 cs_5 cs_6 cs_7
  obtain ⟨cs_0, cs_1, cs_2, cs_3, cs_4, cs_5, cs_6, cs_7⟩ := Arr.c_sgx As
  go_wp2_with fail
  refine (C3 _).mono ?_
  rintro e w13 ⟨rfl, hb⟩
  replace As := Arr.to' As hb
  replace Ao := Arr.to' Ao hb
  replace hB := Bel.call hB hb
  clear hb cs_0 cs_1 cs_2 cs_3 cs_4 cs_5 cs_6 cs_7
  have ls_2 := As.lt
  have lo_2 := Ao.lt
  have lB_2 := hB.size
  replace As := (Arr.al' As (.cells #[.int .u64 (lim (O) 0), .int .u64 (lim (O) 1), .int .u64 (lim (O) 2), .int .u64 (lim (O) 3)] 24))
  replace Ao := (Arr.al' Ao (.cells #[.int .u64 (lim (O) 0), .int .u64 (lim (O) 1), .int .u64 (lim (O) 2), .int .u64 (lim (O) 3)] 24))
  have At : Arr ((w13.alloc (.cells #[.int .u64 (lim (O) 0), .int .u64 (lim (O) 1), .int .u64 (lim (O) 2), .int .u64 (lim (O) 3)] 24))) (w13.heap.size) 4 (fun j => .int .u64 (lim (O) j)) := by refine Arr.mk4 ?_ ?_ ?_ ?_ ?_ ?_ ?_ ?_ <;> simp [go_sem]
  replace hB := (Bel.al hB (.cells #[.int .u64 (lim (O) 0), .int .u64 (lim (O) 1), .int .u64 (lim (O) 2), .int .u64 (lim (O) 3)] 24))
  obtain ⟨cs_0, cs_1, cs_2, cs_3, cs_4, cs_5, cs_6, cs_7⟩ := Arr.c_sgx As
  have ct := At.c
  go_wp2_with fail
  refine (C4 _).mono ?_
  rintro e w14 ⟨rfl, hb⟩
  replace As := Arr.to' As hb
  replace Ao := Arr.to' Ao hb
  replace At := Arr.to' At hb
  replace hB := Bel.call hB hb
  clear hb cs_0 cs_1 cs_2 cs_3 cs_4 cs_5 cs_6 cs_7 ct
  obtain ⟨cs_0, cs_1, cs_2, cs_3, cs_4, cs_5, cs_6, cs_7⟩ := Arr.c_sgx As
  have zs := As.z
  have ct := At.c
  have hS := hB.size
  obtain ⟨co_0, co_1, co_2, co_3, co_4, co_5, co_6, co_7⟩ := Arr.c_zg Ao
  have zo := Ao.z
  go_wp2_with fail
  refine bodyPost_ret (v := gv R O) (by simp [results, Tryz.results11, go_sem, co_0, co_1, co_2, co_3, co_4, co_5, co_6, co_7]) rfl ⟨rfl, ?_⟩
  go_grown
set_option maxHeartbeats 8000000 in
theorem low_ge (R S O c : Int) (hc : ¬ c < 0) (w : World)
    (C1 : ∀ W, Calls Tryz.prog 36 #[nv R] W fun e w' => e = .returned (.bool true) ∧ Below W.heap.size W w')
    (C2 : ∀ W, Calls Tryz.prog 36 #[nv S] W fun e w' => e = .returned (.bool true) ∧ Below W.heap.size W w')
    (C3 : ∀ W, Calls Tryz.prog 37 #[.agg #[.int .u64 0, .int .u64 0, .int .u64 0, .int .u64 0], nv S] W fun e w' => e = .returned (nv O) ∧ Below W.heap.size W w')
    (C4 : ∀ W, Calls Tryz.prog 38 #[nv O, nv S] W fun e w' => e = .returned (.int .i64 c) ∧ Below W.heap.size W w') :
    Calls Tryz.prog 11 #[gv R S] w fun e w' => e = .returned (gv R S) ∧ Below w.heap.size w w' := by
  go_enter Tryz.func11, Tryz.ntmps11
  obtain ⟨W0, hW0⟩ : ∃ W0, W0 = ((w.alloc (.cells #[.int .u64 (lim (R) 0), .int .u64 (lim (R) 1), .int .u64 (lim (R) 2), .int .u64 (lim (R) 3), .int .u64 (lim (S) 0), .int .u64 (lim (S) 1), .int .u64 (lim (S) 2), .int .u64 (lim (S) 3)] 26)).alloc (.cells #[.int .u64 0, .int .u64 0, .int .u64 0, .int .u64 0, .int .u64 0, .int .u64 0, .int .u64 0, .int .u64 0] 26)) := ⟨_, rfl⟩
  have As : Arr W0 (w.heap.size) 8 (sgx (R) (S)) := by subst hW0; refine Arr.mk8' ?_ ?_ ?_ ?_ ?_ ?_ ?_ ?_ ?_ <;> simp [go_sem, sgx, zg]
  have Ao : Arr W0 (w.heap.size + 1) 8 (zg) := by subst hW0; refine Arr.mk8' ?_ ?_ ?_ ?_ ?_ ?_ ?_ ?_ ?_ <;> simp [go_sem, sgx, zg]
  have hB : Below w.heap.size w W0 := by subst hW0; go_grown
  subst hW0
  obtain ⟨cs_0, cs_1, cs_2, cs_3, cs_4, cs_5, cs_6, cs_7⟩ := Arr.c_sgx As
  go_wp2_with fail
  refine (C1 _).mono ?_
  rintro e w1 ⟨rfl, hb⟩
  replace As := Arr.to' As hb
  replace Ao := Arr.to' Ao hb
  replace hB := Bel.call hB hb
  clear hb cs_0 cs_1 cs_2 cs_3 cs_4 cs_5 cs_6 cs_7
  obtain ⟨cs_0, cs_1, cs_2, cs_3, cs_4, cs_5, cs_6, cs_7⟩ := Arr.c_sgx As
  go_wp2_with fail
  refine (C2 _).mono ?_
  rintro e w12 ⟨rfl, hb⟩
  replace As := Arr.to' As hb
  replace Ao := Arr.to' Ao hb
  replace hB := Bel.call hB hb
  clear hb cs_0 cs_1 cs_2 cs_3 cs_4 cs_5 cs_6 cs_7
  obtain ⟨cs_0, cs_1, cs_2, cs_3, cs_4, cs_5, cs_6, cs_7⟩ := Arr.c_sgx As
  go_wp2_with fail
  refine (C3 _).mono ?_
  rintro e w13 ⟨rfl, hb⟩
  replace As := Arr.to' As hb
  replace Ao := Arr.to' Ao hb
  replace hB := Bel.call hB hb
  clear hb cs_0 cs_1 cs_2 cs_3 cs_4 cs_5 cs_6 cs_7
  have ls_2 := As.lt
  have lo_2 := Ao.lt
  have lB_2 := hB.size
  replace As := (Arr.al' As (.cells #[.int .u64 (lim (O) 0), .int .u64 (lim (O) 1), .int .u64 (lim (O) 2), .int .u64 (lim (O) 3)] 24))
  replace Ao := (Arr.al' Ao (.cells #[.int .u64 (lim (O) 0), .int .u64 (lim (O) 1), .int .u64 (lim (O) 2), .int .u64 (lim (O) 3)] 24))
  have At : Arr ((w13.alloc (.cells #[.int .u64 (lim (O) 0), .int .u64 (lim (O) 1), .int .u64 (lim (O) 2), .int .u64 (lim (O) 3)] 24))) (w13.heap.size) 4 (fun j => .int .u64 (lim (O) j)) := by refine Arr.mk4 ?_ ?_ ?_ ?_ ?_ ?_ ?_ ?_ <;> simp [go_sem]
  replace hB := (Bel.al hB (.cells #[.int .u64 (lim (O) 0), .int .u64 (lim (O) 1), .int .u64 (lim (O) 2), .int .u64 (lim (O) 3)] 24))
  obtain ⟨cs_0, cs_1, cs_2, cs_3, cs_4, cs_5, cs_6, cs_7⟩ := Arr.c_sgx As
  have ct := At.c
  go_wp2_with fail
  refine (C4 _).mono ?_
  rintro e w14 ⟨rfl, hb⟩
  replace As := Arr.to' As hb
  replace Ao := Arr.to' Ao hb
  replace At := Arr.to' At hb
  replace hB := Bel.call hB hb
  clear hb cs_0 cs_1 cs_2 cs_3 cs_4 cs_5 cs_6 cs_7 ct
  obtain ⟨cs_0, cs_1, cs_2, cs_3, cs_4, cs_5, cs_6, cs_7⟩ := Arr.c_sgx As
  have zs := As.z
  have ct := At.c
  have hS := hB.size
  obtain ⟨co_0, co_1, co_2, co_3, co_4, co_5, co_6, co_7⟩ := Arr.c_zg Ao
  have zo := Ao.z
  go_wp2_with fail
  refine bodyPost_ret (v := gv R S) (by simp [results, Tryz.results11, go_sem, co_0, co_1, co_2, co_3, co_4, co_5, co_6, co_7]) rfl ⟨rfl, ?_⟩
  go_grown
set_option maxHeartbeats 8000000 in
theorem rlow_r0 (R S : Int) (w : World)
    (C1 : ∀ W, Calls Tryz.prog 19 #[] W fun e w' => e = .returned (nv nn) ∧ Below W.heap.size W w')
    (C2 : ∀ W, Calls Tryz.prog 21 #[nv R, nv nn] W fun e w' => e = .returned (.int .i64 0) ∧ Below W.heap.size W w') :
    Calls Tryz.prog 12 #[gv R S] w fun e w' => e = .returned (gv R S) ∧ Below w.heap.size w w' := by
  go_enter Tryz.func12, Tryz.ntmps12
  go_wp2_with fail
  obtain ⟨W0, hW0⟩ : ∃ W0, W0 = ((w.alloc (.cells #[.int .u64 (lim (R) 0), .int .u64 (lim (R) 1), .int .u64 (lim (R) 2), .int .u64 (lim (R) 3), .int .u64 (lim (S) 0), .int .u64 (lim (S) 1), .int .u64 (lim (S) 2), .int .u64 (lim (S) 3)] 26)).alloc (.cells #[.int .u64 0, .int .u64 0, .int .u64 0, .int .u64 0, .int .u64 0, .int .u64 0, .int .u64 0, .int .u64 0] 26)) := ⟨_, rfl⟩
  have As : Arr W0 (w.heap.size) 8 (sgx (R) (S)) := by subst hW0; refine Arr.mk8' ?_ ?_ ?_ ?_ ?_ ?_ ?_ ?_ ?_ <;> simp [go_sem, sgx, zg]
  have Ao : Arr W0 (w.heap.size + 1) 8 (zg) := by subst hW0; refine Arr.mk8' ?_ ?_ ?_ ?_ ?_ ?_ ?_ ?_ ?_ <;> simp [go_sem, sgx, zg]
  have hB : Below w.heap.size w W0 := by subst hW0; go_grown
  subst hW0
  obtain ⟨rs0, rs1, rs2, rs3, rs4, rs5, rs6, rs7⟩ := Arr.g_sgx As
  refine wp_region_quiet_below (by kernel_rfl) (by kernel_rfl) ?_
  repeat (go_big_quiet_step (first | (go_at_call 19; with_reducible first | exact Calls.regrown_of (C1 _)) | (go_at_call 21; with_reducible first | exact Calls.regrown_of (C2 _))))
  refine wpQuiet_nil ?_
  intro w1 hw'
  obtain ⟨⟨dq, osq⟩, hw''⟩ := hw'
  have hb := below_of hw''
  clear hw''
  replace As := Arr.to' As hb
  replace Ao := Arr.to' Ao hb
  replace hB := Bel.call hB hb
  clear hb rs0 rs1 rs2 rs3 rs4 rs5 rs6 rs7
  obtain ⟨cs_0, cs_1, cs_2, cs_3, cs_4, cs_5, cs_6, cs_7⟩ := Arr.c_sgx As
  have hS := hB.size
  obtain ⟨co_0, co_1, co_2, co_3, co_4, co_5, co_6, co_7⟩ := Arr.c_zg Ao
  have zo := Ao.z
  go_wp2_with fail
  refine bodyPost_ret (v := gv R S) (by simp [results, Tryz.results12, go_sem, co_0, co_1, co_2, co_3, co_4, co_5, co_6, co_7]) rfl ⟨rfl, ?_⟩
  go_grown
set_option maxHeartbeats 8000000 in
theorem rlow_s0 (R S : Int) (w : World)
    (C1 : ∀ W, Calls Tryz.prog 19 #[] W fun e w' => e = .returned (nv nn) ∧ Below W.heap.size W w')
    (C2 : ∀ W, Calls Tryz.prog 21 #[nv R, nv nn] W fun e w' => e = .returned (.int .i64 (-1)) ∧ Below W.heap.size W w')
    (C3 : ∀ W, Calls Tryz.prog 21 #[nv S, nv nn] W fun e w' => e = .returned (.int .i64 0) ∧ Below W.heap.size W w') :
    Calls Tryz.prog 12 #[gv R S] w fun e w' => e = .returned (gv R S) ∧ Below w.heap.size w w' := by
  go_enter Tryz.func12, Tryz.ntmps12
  go_wp2_with fail
  obtain ⟨W0, hW0⟩ : ∃ W0, W0 = ((w.alloc (.cells #[.int .u64 (lim (R) 0), .int .u64 (lim (R) 1), .int .u64 (lim (R) 2), .int .u64 (lim (R) 3), .int .u64 (lim (S) 0), .int .u64 (lim (S) 1), .int .u64 (lim (S) 2), .int .u64 (lim (S) 3)] 26)).alloc (.cells #[.int .u64 0, .int .u64 0, .int .u64 0, .int .u64 0, .int .u64 0, .int .u64 0, .int .u64 0, .int .u64 0] 26)) := ⟨_, rfl⟩
  have As : Arr W0 (w.heap.size) 8 (sgx (R) (S)) := by subst hW0; refine Arr.mk8' ?_ ?_ ?_ ?_ ?_ ?_ ?_ ?_ ?_ <;> simp [go_sem, sgx, zg]
  have Ao : Arr W0 (w.heap.size + 1) 8 (zg) := by subst hW0; refine Arr.mk8' ?_ ?_ ?_ ?_ ?_ ?_ ?_ ?_ ?_ <;> simp [go_sem, sgx, zg]
  have hB : Below w.heap.size w W0 := by subst hW0; go_grown
  subst hW0
  obtain ⟨rs0, rs1, rs2, rs3, rs4, rs5, rs6, rs7⟩ := Arr.g_sgx As
  refine wp_region_quiet_below (by kernel_rfl) (by kernel_rfl) ?_
  repeat (go_big_quiet_step (first | (go_at_call 19; with_reducible first | exact Calls.regrown_of (C1 _)) | (go_at_call 21; with_reducible first | exact Calls.regrown_of (C2 _) | exact Calls.regrown_of (C3 _))))
  refine wpQuiet_nil ?_
  intro w1 hw'
  obtain ⟨⟨dq, osq⟩, hw''⟩ := hw'
  have hb := below_of hw''
  clear hw''
  replace As := Arr.to' As hb
  replace Ao := Arr.to' Ao hb
  replace hB := Bel.call hB hb
  clear hb rs0 rs1 rs2 rs3 rs4 rs5 rs6 rs7
  obtain ⟨cs_0, cs_1, cs_2, cs_3, cs_4, cs_5, cs_6, cs_7⟩ := Arr.c_sgx As
  have hS := hB.size
  obtain ⟨co_0, co_1, co_2, co_3, co_4, co_5, co_6, co_7⟩ := Arr.c_zg Ao
  have zo := Ao.z
  go_wp2_with fail
  refine bodyPost_ret (v := gv R S) (by simp [results, Tryz.results12, go_sem, co_0, co_1, co_2, co_3, co_4, co_5, co_6, co_7]) rfl ⟨rfl, ?_⟩
  go_grown
set_option maxHeartbeats 8000000 in
theorem rlow_r1 (R S : Int) (w : World)
    (C1 : ∀ W, Calls Tryz.prog 19 #[] W fun e w' => e = .returned (nv nn) ∧ Below W.heap.size W w')
    (C2 : ∀ W, Calls Tryz.prog 21 #[nv R, nv nn] W fun e w' => e = .returned (.int .i64 1) ∧ Below W.heap.size W w') :
    Calls Tryz.prog 12 #[gv R S] w fun e w' => e = .returned (gv R S) ∧ Below w.heap.size w w' := by
  go_enter Tryz.func12, Tryz.ntmps12
  go_wp2_with fail
  obtain ⟨W0, hW0⟩ : ∃ W0, W0 = ((w.alloc (.cells #[.int .u64 (lim (R) 0), .int .u64 (lim (R) 1), .int .u64 (lim (R) 2), .int .u64 (lim (R) 3), .int .u64 (lim (S) 0), .int .u64 (lim (S) 1), .int .u64 (lim (S) 2), .int .u64 (lim (S) 3)] 26)).alloc (.cells #[.int .u64 0, .int .u64 0, .int .u64 0, .int .u64 0, .int .u64 0, .int .u64 0, .int .u64 0, .int .u64 0] 26)) := ⟨_, rfl⟩
  have As : Arr W0 (w.heap.size) 8 (sgx (R) (S)) := by subst hW0; refine Arr.mk8' ?_ ?_ ?_ ?_ ?_ ?_ ?_ ?_ ?_ <;> simp [go_sem, sgx, zg]
  have Ao : Arr W0 (w.heap.size + 1) 8 (zg) := by subst hW0; refine Arr.mk8' ?_ ?_ ?_ ?_ ?_ ?_ ?_ ?_ ?_ <;> simp [go_sem, sgx, zg]
  have hB : Below w.heap.size w W0 := by subst hW0; go_grown
  subst hW0
  obtain ⟨rs0, rs1, rs2, rs3, rs4, rs5, rs6, rs7⟩ := Arr.g_sgx As
  refine wp_region_quiet_below (by kernel_rfl) (by kernel_rfl) ?_
  repeat (go_big_quiet_step (first | (go_at_call 19; with_reducible first | exact Calls.regrown_of (C1 _)) | (go_at_call 21; with_reducible first | exact Calls.regrown_of (C2 _))))
  refine wpQuiet_nil ?_
  intro w1 hw'
  obtain ⟨⟨dq, osq⟩, hw''⟩ := hw'
  have hb := below_of hw''
  clear hw''
  replace As := Arr.to' As hb
  replace Ao := Arr.to' Ao hb
  replace hB := Bel.call hB hb
  clear hb rs0 rs1 rs2 rs3 rs4 rs5 rs6 rs7
  obtain ⟨cs_0, cs_1, cs_2, cs_3, cs_4, cs_5, cs_6, cs_7⟩ := Arr.c_sgx As
  have hS := hB.size
  obtain ⟨co_0, co_1, co_2, co_3, co_4, co_5, co_6, co_7⟩ := Arr.c_zg Ao
  have zo := Ao.z
  go_wp2_with fail
  refine bodyPost_ret (v := gv R S) (by simp [results, Tryz.results12, go_sem, co_0, co_1, co_2, co_3, co_4, co_5, co_6, co_7]) rfl ⟨rfl, ?_⟩
  go_grown
set_option maxHeartbeats 8000000 in
theorem rlow_s1 (R S : Int) (w : World)
    (C1 : ∀ W, Calls Tryz.prog 19 #[] W fun e w' => e = .returned (nv nn) ∧ Below W.heap.size W w')
    (C2 : ∀ W, Calls Tryz.prog 21 #[nv R, nv nn] W fun e w' => e = .returned (.int .i64 (-1)) ∧ Below W.heap.size W w')
    (C3 : ∀ W, Calls Tryz.prog 21 #[nv S, nv nn] W fun e w' => e = .returned (.int .i64 1) ∧ Below W.heap.size W w') :
    Calls Tryz.prog 12 #[gv R S] w fun e w' => e = .returned (gv R S) ∧ Below w.heap.size w w' := by
  go_enter Tryz.func12, Tryz.ntmps12
  go_wp2_with fail
  obtain ⟨W0, hW0⟩ : ∃ W0, W0 = ((w.alloc (.cells #[.int .u64 (lim (R) 0), .int .u64 (lim (R) 1), .int .u64 (lim (R) 2), .int .u64 (lim (R) 3), .int .u64 (lim (S) 0), .int .u64 (lim (S) 1), .int .u64 (lim (S) 2), .int .u64 (lim (S) 3)] 26)).alloc (.cells #[.int .u64 0, .int .u64 0, .int .u64 0, .int .u64 0, .int .u64 0, .int .u64 0, .int .u64 0, .int .u64 0] 26)) := ⟨_, rfl⟩
  have As : Arr W0 (w.heap.size) 8 (sgx (R) (S)) := by subst hW0; refine Arr.mk8' ?_ ?_ ?_ ?_ ?_ ?_ ?_ ?_ ?_ <;> simp [go_sem, sgx, zg]
  have Ao : Arr W0 (w.heap.size + 1) 8 (zg) := by subst hW0; refine Arr.mk8' ?_ ?_ ?_ ?_ ?_ ?_ ?_ ?_ ?_ <;> simp [go_sem, sgx, zg]
  have hB : Below w.heap.size w W0 := by subst hW0; go_grown
  subst hW0
  obtain ⟨rs0, rs1, rs2, rs3, rs4, rs5, rs6, rs7⟩ := Arr.g_sgx As
  refine wp_region_quiet_below (by kernel_rfl) (by kernel_rfl) ?_
  repeat (go_big_quiet_step (first | (go_at_call 19; with_reducible first | exact Calls.regrown_of (C1 _)) | (go_at_call 21; with_reducible first | exact Calls.regrown_of (C2 _) | exact Calls.regrown_of (C3 _))))
  refine wpQuiet_nil ?_
  intro w1 hw'
  obtain ⟨⟨dq, osq⟩, hw''⟩ := hw'
  have hb := below_of hw''
  clear hw''
  replace As := Arr.to' As hb
  replace Ao := Arr.to' Ao hb
  replace hB := Bel.call hB hb
  clear hb rs0 rs1 rs2 rs3 rs4 rs5 rs6 rs7
  obtain ⟨cs_0, cs_1, cs_2, cs_3, cs_4, cs_5, cs_6, cs_7⟩ := Arr.c_sgx As
  have hS := hB.size
  obtain ⟨co_0, co_1, co_2, co_3, co_4, co_5, co_6, co_7⟩ := Arr.c_zg Ao
  have zo := Ao.z
  go_wp2_with fail
  refine bodyPost_ret (v := gv R S) (by simp [results, Tryz.results12, go_sem, co_0, co_1, co_2, co_3, co_4, co_5, co_6, co_7]) rfl ⟨rfl, ?_⟩
  go_grown
set_option maxHeartbeats 8000000 in
theorem rlow_lt (R S O c : Int) (hc : c < 0) (w : World)
    (C1 : ∀ W, Calls Tryz.prog 19 #[] W fun e w' => e = .returned (nv nn) ∧ Below W.heap.size W w')
    (C2 : ∀ W, Calls Tryz.prog 21 #[nv R, nv nn] W fun e w' => e = .returned (.int .i64 (-1)) ∧ Below W.heap.size W w')
    (C3 : ∀ W, Calls Tryz.prog 21 #[nv S, nv nn] W fun e w' => e = .returned (.int .i64 (-1)) ∧ Below W.heap.size W w')
    (C4 : ∀ W, Calls Tryz.prog 25 #[.agg #[.int .u64 0, .int .u64 0, .int .u64 0, .int .u64 0], nv S, nv nn] W fun e w' => e = .returned (nv O) ∧ Below W.heap.size W w')
    (C5 : ∀ W, Calls Tryz.prog 21 #[nv O, nv S] W fun e w' => e = .returned (.int .i64 c) ∧ Below W.heap.size W w') :
    Calls Tryz.prog 12 #[gv R S] w fun e w' => e = .returned (gv R O) ∧ Below w.heap.size w w' := by
  go_enter Tryz.func12, Tryz.ntmps12
  go_wp2_with fail
  obtain ⟨W0, hW0⟩ : ∃ W0, W0 = ((w.alloc (.cells #[.int .u64 (lim (R) 0), .int .u64 (lim (R) 1), .int .u64 (lim (R) 2), .int .u64 (lim (R) 3), .int .u64 (lim (S) 0), .int .u64 (lim (S) 1), .int .u64 (lim (S) 2), .int .u64 (lim (S) 3)] 26)).alloc (.cells #[.int .u64 0, .int .u64 0, .int .u64 0, .int .u64 0, .int .u64 0, .int .u64 0, .int .u64 0, .int .u64 0] 26)) := ⟨_, rfl⟩
  have As : Arr W0 (w.heap.size) 8 (sgx (R) (S)) := by subst hW0; refine Arr.mk8' ?_ ?_ ?_ ?_ ?_ ?_ ?_ ?_ ?_ <;> simp [go_sem, sgx, zg]
  have Ao : Arr W0 (w.heap.size + 1) 8 (zg) := by subst hW0; refine Arr.mk8' ?_ ?_ ?_ ?_ ?_ ?_ ?_ ?_ ?_ <;> simp [go_sem, sgx, zg]
  have hB : Below w.heap.size w W0 := by subst hW0; go_grown
  subst hW0
  obtain ⟨rs0, rs1, rs2, rs3, rs4, rs5, rs6, rs7⟩ := Arr.g_sgx As
  refine wp_region_quiet_below (by kernel_rfl) (by kernel_rfl) ?_
  repeat (go_big_quiet_step (first | (go_at_call 19; with_reducible first | exact Calls.regrown_of (C1 _)) | (go_at_call 21; with_reducible first | exact Calls.regrown_of (C2 _) | exact Calls.regrown_of (C3 _))))
  refine wpQuiet_nil ?_
  intro w1 hw'
  obtain ⟨⟨dq, osq⟩, hw''⟩ := hw'
  have hb := below_of hw''
  clear hw''
  replace As := Arr.to' As hb
  replace Ao := Arr.to' Ao hb
  replace hB := Bel.call hB hb
  clear hb rs0 rs1 rs2 rs3 rs4 rs5 rs6 rs7
  go_wp2_with fail
  apply wp_region_alloc_tail 5 (by kernel_rfl) (by kernel_rfl) (by kernel_rfl) (.cells #[.int .u64 0, .int .u64 0, .int .u64 0, .int .u64 0] 24) _ rfl (fun _ _ => by simp [go_sem])
  · intro W hW
    obtain ⟨rs0, rs1, rs2, rs3, rs4, rs5, rs6, rs7⟩ := Arr.g_sgx (Arr.to' As hW)
    simp only [List.take_succ_cons, List.take_zero]
    repeat (go_big_quiet_step (first | (go_at_call 19; with_reducible first | exact Calls.regrown_of (C1 _)) | (go_at_call 25; with_reducible first | exact Calls.regrown_of (C4 _))))
    exact wpQuiet_nil rfl
  intro v2 w12 hb1 hb2
  simp only [List.drop_succ_cons, List.drop_zero, Act.put, List.setIfInBounds_toArray, List.set_cons_succ, List.set_cons_zero]
  have Es := Arr.to' As hb1
  have ls_v2 := Es.lt
  have Bs := Arr.to' (Arr.al' Es _) hb2
  have Eo := Arr.to' Ao hb1
  have lo_v2 := Eo.lt
  have Bo := Arr.to' (Arr.al' Eo _) hb2
  have Bt := (Arr.mk4 (w := (v2.alloc (.cells #[.int .u64 0, .int .u64 0, .int .u64 0, .int .u64 0] 24))) (f := fun _ => .int .u64 0) (b := v2.heap.size) (by simp [go_sem]) (by simp [go_sem]) (by simp [go_sem]) (by simp [go_sem]) (by simp [go_sem]) (by simp [go_sem]) (by simp [go_sem]) (by simp [go_sem])).below hb2 (by go_size)
  have lB_v2 := (Bel.call hB hb1).size
  have hB' := Bel.call (Bel.al (Bel.call hB hb1) _) hb2
  clear hb1 hb2 Es Eo As Ao hB
  have As := Bs
  have Ao := Bo
  have At := Bt
  have hB := hB'
  clear Bs Bo Bt hB'
  have ct := At.c
  have zt := At.z
  have Bs := Arr.st4o (b' := v2.heap.size) As (by have := As.lt; have := At.lt; omega) (O)
  have Bo := Arr.st4o (b' := v2.heap.size) Ao (by have := Ao.lt; have := At.lt; omega) (O)
  have Bt := Arr.st4 At (O)
  have hB' := Bel.st4 hB (b := v2.heap.size) (by have := hB.size; omega) (O)
  clear As Ao At hB
  have As := Bs
  have Ao := Bo
  have At := Bt
  have hB := hB'
  clear Bs Bo Bt hB'
  obtain ⟨cs_0, cs_1, cs_2, cs_3, cs_4, cs_5, cs_6, cs_7⟩ := Arr.c_sgx As
  have ct := At.c
  go_wp2_with fail
  refine (C5 _).mono ?_
  rintro e w13 ⟨rfl, hb⟩
  replace As := Arr.to' As hb
  replace Ao := Arr.to' Ao hb
  replace At := Arr.to' At hb
  replace hB := Bel.call hB hb
  clear hb ct zt cs_0 cs_1 cs_2 cs_3 cs_4 cs_5 cs_6 cs_7
  obtain ⟨cs_0, cs_1, cs_2, cs_3, cs_4, cs_5, cs_6, cs_7⟩ := Arr.c_sgx As
  have zs := As.z
  have ct := At.c
  have hS := hB.size
  obtain ⟨co_0, co_1, co_2, co_3, co_4, co_5, co_6, co_7⟩ := Arr.c_zg Ao
  have zo := Ao.z
  go_wp2_with fail
  refine bodyPost_ret (v := gv R O) (by simp [results, Tryz.results12, go_sem, co_0, co_1, co_2, co_3, co_4, co_5, co_6, co_7]) rfl ⟨rfl, ?_⟩
  go_grown
set_option maxHeartbeats 8000000 in
theorem rlow_ge (R S O c : Int) (hc : ¬ c < 0) (w : World)
    (C1 : ∀ W, Calls Tryz.prog 19 #[] W fun e w' => e = .returned (nv nn) ∧ Below W.heap.size W w')
    (C2 : ∀ W, Calls Tryz.prog 21 #[nv R, nv nn] W fun e w' => e = .returned (.int .i64 (-1)) ∧ Below W.heap.size W w')
    (C3 : ∀ W, Calls Tryz.prog 21 #[nv S, nv nn] W fun e w' => e = .returned (.int .i64 (-1)) ∧ Below W.heap.size W w')
    (C4 : ∀ W, Calls Tryz.prog 25 #[.agg #[.int .u64 0, .int .u64 0, .int .u64 0, .int .u64 0], nv S, nv nn] W fun e w' => e = .returned (nv O) ∧ Below W.heap.size W w')
    (C5 : ∀ W, Calls Tryz.prog 21 #[nv O, nv S] W fun e w' => e = .returned (.int .i64 c) ∧ Below W.heap.size W w') :
    Calls Tryz.prog 12 #[gv R S] w fun e w' => e = .returned (gv R S) ∧ Below w.heap.size w w' := by
  go_enter Tryz.func12, Tryz.ntmps12
  go_wp2_with fail
  obtain ⟨W0, hW0⟩ : ∃ W0, W0 = ((w.alloc (.cells #[.int .u64 (lim (R) 0), .int .u64 (lim (R) 1), .int .u64 (lim (R) 2), .int .u64 (lim (R) 3), .int .u64 (lim (S) 0), .int .u64 (lim (S) 1), .int .u64 (lim (S) 2), .int .u64 (lim (S) 3)] 26)).alloc (.cells #[.int .u64 0, .int .u64 0, .int .u64 0, .int .u64 0, .int .u64 0, .int .u64 0, .int .u64 0, .int .u64 0] 26)) := ⟨_, rfl⟩
  have As : Arr W0 (w.heap.size) 8 (sgx (R) (S)) := by subst hW0; refine Arr.mk8' ?_ ?_ ?_ ?_ ?_ ?_ ?_ ?_ ?_ <;> simp [go_sem, sgx, zg]
  have Ao : Arr W0 (w.heap.size + 1) 8 (zg) := by subst hW0; refine Arr.mk8' ?_ ?_ ?_ ?_ ?_ ?_ ?_ ?_ ?_ <;> simp [go_sem, sgx, zg]
  have hB : Below w.heap.size w W0 := by subst hW0; go_grown
  subst hW0
  obtain ⟨rs0, rs1, rs2, rs3, rs4, rs5, rs6, rs7⟩ := Arr.g_sgx As
  refine wp_region_quiet_below (by kernel_rfl) (by kernel_rfl) ?_
  repeat (go_big_quiet_step (first | (go_at_call 19; with_reducible first | exact Calls.regrown_of (C1 _)) | (go_at_call 21; with_reducible first | exact Calls.regrown_of (C2 _) | exact Calls.regrown_of (C3 _))))
  refine wpQuiet_nil ?_
  intro w1 hw'
  obtain ⟨⟨dq, osq⟩, hw''⟩ := hw'
  have hb := below_of hw''
  clear hw''
  replace As := Arr.to' As hb
  replace Ao := Arr.to' Ao hb
  replace hB := Bel.call hB hb
  clear hb rs0 rs1 rs2 rs3 rs4 rs5 rs6 rs7
  go_wp2_with fail
  apply wp_region_alloc_tail 5 (by kernel_rfl) (by kernel_rfl) (by kernel_rfl) (.cells #[.int .u64 0, .int .u64 0, .int .u64 0, .int .u64 0] 24) _ rfl (fun _ _ => by simp [go_sem])
  · intro W hW
    obtain ⟨rs0, rs1, rs2, rs3, rs4, rs5, rs6, rs7⟩ := Arr.g_sgx (Arr.to' As hW)
    simp only [List.take_succ_cons, List.take_zero]
    repeat (go_big_quiet_step (first | (go_at_call 19; with_reducible first | exact Calls.regrown_of (C1 _)) | (go_at_call 25; with_reducible first | exact Calls.regrown_of (C4 _))))
    exact wpQuiet_nil rfl
  intro v2 w12 hb1 hb2
  simp only [List.drop_succ_cons, List.drop_zero, Act.put, List.setIfInBounds_toArray, List.set_cons_succ, List.set_cons_zero]
  have Es := Arr.to' As hb1
  have ls_v2 := Es.lt
  have Bs := Arr.to' (Arr.al' Es _) hb2
  have Eo := Arr.to' Ao hb1
  have lo_v2 := Eo.lt
  have Bo := Arr.to' (Arr.al' Eo _) hb2
  have Bt := (Arr.mk4 (w := (v2.alloc (.cells #[.int .u64 0, .int .u64 0, .int .u64 0, .int .u64 0] 24))) (f := fun _ => .int .u64 0) (b := v2.heap.size) (by simp [go_sem]) (by simp [go_sem]) (by simp [go_sem]) (by simp [go_sem]) (by simp [go_sem]) (by simp [go_sem]) (by simp [go_sem]) (by simp [go_sem])).below hb2 (by go_size)
  have lB_v2 := (Bel.call hB hb1).size
  have hB' := Bel.call (Bel.al (Bel.call hB hb1) _) hb2
  clear hb1 hb2 Es Eo As Ao hB
  have As := Bs
  have Ao := Bo
  have At := Bt
  have hB := hB'
  clear Bs Bo Bt hB'
  have ct := At.c
  have zt := At.z
  have Bs := Arr.st4o (b' := v2.heap.size) As (by have := As.lt; have := At.lt; omega) (O)
  have Bo := Arr.st4o (b' := v2.heap.size) Ao (by have := Ao.lt; have := At.lt; omega) (O)
  have Bt := Arr.st4 At (O)
  have hB' := Bel.st4 hB (b := v2.heap.size) (by have := hB.size; omega) (O)
  clear As Ao At hB
  have As := Bs
  have Ao := Bo
  have At := Bt
  have hB := hB'
  clear Bs Bo Bt hB'
  obtain ⟨cs_0, cs_1, cs_2, cs_3, cs_4, cs_5, cs_6, cs_7⟩ := Arr.c_sgx As
  have ct := At.c
  go_wp2_with fail
  refine (C5 _).mono ?_
  rintro e w13 ⟨rfl, hb⟩
  replace As := Arr.to' As hb
  replace Ao := Arr.to' Ao hb
  replace At := Arr.to' At hb
  replace hB := Bel.call hB hb
  clear hb ct zt cs_0 cs_1 cs_2 cs_3 cs_4 cs_5 cs_6 cs_7
  obtain ⟨cs_0, cs_1, cs_2, cs_3, cs_4, cs_5, cs_6, cs_7⟩ := Arr.c_sgx As
  have zs := As.z
  have ct := At.c
  have hS := hB.size
  obtain ⟨co_0, co_1, co_2, co_3, co_4, co_5, co_6, co_7⟩ := Arr.c_zg Ao
  have zo := Ao.z
  go_wp2_with fail
  refine bodyPost_ret (v := gv R S) (by simp [results, Tryz.results12, go_sem, co_0, co_1, co_2, co_3, co_4, co_5, co_6, co_7]) rfl ⟨rfl, ?_⟩
  go_grown
set_option maxHeartbeats 4000000 in
theorem sec_z (A : Int) (hz : (lim A 0 == 0 && (lim A 1 == 0 && (lim A 2 == 0 && lim A 3 == 0))) = true) (w : World) : Calls Tryz.prog 16 #[nv A] w fun e w' => e = .returned (.bool false) ∧ Below w.heap.size w w' := by
  go_enter Tryz.func16, Tryz.ntmps16
  go_wp2_with fail
  obtain ⟨W0, hW0⟩ : ∃ W0, W0 = (w.alloc (.cells #[.int .u64 (lim (A) 0), .int .u64 (lim (A) 1), .int .u64 (lim (A) 2), .int .u64 (lim (A) 3)] 24)) := ⟨_, rfl⟩
  have Aa : Arr W0 (w.heap.size) 4 (fun j => .int .u64 (lim (A) j)) := by subst hW0; refine Arr.mk4 ?_ ?_ ?_ ?_ ?_ ?_ ?_ ?_ <;> simp [go_sem]
  have hB : Below w.heap.size w W0 := by subst hW0; go_grown
  subst hW0
  obtain ⟨ra0, ra1, ra2, ra3⟩ := Arr.g4 Aa
  refine wp_region_quiet_below (by kernel_rfl) (by kernel_rfl) ?_
  repeat (go_big_quiet_step (fail))
  refine wpQuiet_nil ?_
  intro w1 hw'
  obtain ⟨⟨dq, osq⟩, hw''⟩ := hw'
  have hb := below_of hw''
  clear hw''
  replace hB := Bel.call hB hb
  clear hb ra0 ra1 ra2 ra3 Aa
  go_wp2_with fail
  go_ret
  exact ⟨rfl, hB⟩
set_option maxHeartbeats 8000000 in
theorem sec_n (A c : Int) (hz : (lim A 0 == 0 && (lim A 1 == 0 && (lim A 2 == 0 && lim A 3 == 0))) = false) (w : World)
    (C1 : ∀ W, Calls Tryz.prog 19 #[] W fun e w' => e = .returned (nv nn) ∧ Below W.heap.size W w')
    (C2 : ∀ W, Calls Tryz.prog 21 #[nv A, nv nn] W fun e w' => e = .returned (.int .i64 c) ∧ Below W.heap.size W w') :
    Calls Tryz.prog 16 #[nv A] w fun e w' => e = .returned (.bool (decide (c < 0))) ∧ Below w.heap.size w w' := by
  go_enter Tryz.func16, Tryz.ntmps16
  go_wp2_with fail
  obtain ⟨W0, hW0⟩ : ∃ W0, W0 = (w.alloc (.cells #[.int .u64 (lim (A) 0), .int .u64 (lim (A) 1), .int .u64 (lim (A) 2), .int .u64 (lim (A) 3)] 24)) := ⟨_, rfl⟩
  have Aa : Arr W0 (w.heap.size) 4 (fun j => .int .u64 (lim (A) j)) := by subst hW0; refine Arr.mk4 ?_ ?_ ?_ ?_ ?_ ?_ ?_ ?_ <;> simp [go_sem]
  have hB : Below w.heap.size w W0 := by subst hW0; go_grown
  subst hW0
  obtain ⟨ra0, ra1, ra2, ra3⟩ := Arr.g4 Aa
  refine wp_region_quiet_below (by kernel_rfl) (by kernel_rfl) ?_
  repeat (go_big_quiet_step (first | (go_at_call 19; with_reducible first | exact Calls.regrown_of (C1 _)) | (go_at_call 21; with_reducible first | exact Calls.regrown_of (C2 _))))
  refine wpQuiet_nil ?_
  intro w1 hw'
  obtain ⟨⟨dq, osq⟩, hw''⟩ := hw'
  have hb := below_of hw''
  clear hw''
  replace hB := Bel.call hB hb
  clear hb ra0 ra1 ra2 ra3 Aa
  go_wp2_with fail
  go_ret
  exact ⟨rfl, hB⟩
end Go.Proofs.YtoolbnbfbegjaaaGreat
