/- The sum of a point with a third coordinate and a plain one; Add. -/
import Derived.Test.YtoolbnbfbegjaaaGreatJ21
set_option linter.all false
set_option maxRecDepth 100000
namespace Go.Proofs.YtoolbnbfbegjaaaGreat
open Go.RowKit Go.Sort
attribute [local go_sem] eq24
set_option maxHeartbeats 8000000 in
theorem plus_b (X Y Z U V : Int) (i : Bool) (w : World) : Calls Tryz.prog 87 #[jv X Y i Z, pv U V true] w fun e w' => e = .returned (jv X Y i Z) ∧ Below w.heap.size w w' := by
  go_enter Tryz.func87, Tryz.ntmps87
  obtain ⟨W0, hW0⟩ : ∃ W0, W0 = (((w.alloc (.cells #[.int .u64 (lim (X) 0), .int .u64 (lim (X) 1), .int .u64 (lim (X) 2), .int .u64 (lim (X) 3), .int .u64 (lim (Y) 0), .int .u64 (lim (Y) 1), .int .u64 (lim (Y) 2), .int .u64 (lim (Y) 3), .bool i, .int .u64 (lim (Z) 0), .int .u64 (lim (Z) 1), .int .u64 (lim (Z) 2), .int .u64 (lim (Z) 3)] 99)).alloc (.cells #[.int .u64 (lim (U) 0), .int .u64 (lim (U) 1), .int .u64 (lim (U) 2), .int .u64 (lim (U) 3), .int .u64 (lim (V) 0), .int .u64 (lim (V) 1), .int .u64 (lim (V) 2), .int .u64 (lim (V) 3), .bool true] 28)).alloc (.cells #[.int .u64 0, .int .u64 0, .int .u64 0, .int .u64 0, .int .u64 0, .int .u64 0, .int .u64 0, .int .u64 0, .bool false, .int .u64 0, .int .u64 0, .int .u64 0, .int .u64 0] 99)) := ⟨_, rfl⟩
  have Aa : Arr W0 (w.heap.size) 13 (sx (X) (Y) i (Z)) := by subst hW0; refine Arr.mk13 ?_ ?_ ?_ ?_ ?_ ?_ ?_ ?_ ?_ ?_ ?_ ?_ ?_ ?_ <;> simp [go_sem, px, sx, zx]
  have Ab : Arr W0 (w.heap.size + 1) 9 (px (U) (V) true) := by subst hW0; refine Arr.mk9p ?_ ?_ ?_ ?_ ?_ ?_ ?_ ?_ ?_ ?_ <;> simp [go_sem, px, sx, zx]
  have Ao : Arr W0 (w.heap.size + 1 + 1) 13 (zx 8) := by subst hW0; refine Arr.mk13 ?_ ?_ ?_ ?_ ?_ ?_ ?_ ?_ ?_ ?_ ?_ ?_ ?_ ?_ <;> simp [go_sem, px, sx, zx]
  have hB : Below w.heap.size w W0 := by subst hW0; go_grown
  subst hW0
  obtain ⟨ca_0, ca_1, ca_2, ca_3, ca_4, ca_5, ca_6, ca_7, ca_8, ca_9, ca_10, ca_11, ca_12⟩ := Arr.c_sx Aa
  obtain ⟨cb_0, cb_1, cb_2, cb_3, cb_4, cb_5, cb_6, cb_7, cb_8⟩ := Arr.c_px Ab
  have hS := hB.size
  obtain ⟨co_0, co_1, co_2, co_3, co_4, co_5, co_6, co_7, co_8, co_9, co_10, co_11, co_12⟩ := Arr.c_zs Ao
  have zo := Ao.z
  go_wp2_with fail
  refine bodyPost_ret (v := jv X Y i Z) (by simp [results, Tryz.results87, go_sem, co_0, co_1, co_2, co_3, co_4, co_5, co_6, co_7, co_8, co_9, co_10, co_11, co_12]) rfl ⟨rfl, ?_⟩
  go_grown
set_option maxHeartbeats 8000000 in
theorem plus_a (X Y Z U V : Int) (w : World)
    (C1 : ∀ W, Calls Tryz.prog 83 #[pv U V false] W fun e w' => e = .returned (jv U V false 1) ∧ Below W.heap.size W w') :
    Calls Tryz.prog 87 #[jv X Y true Z, pv U V false] w fun e w' => e = .returned (jv U V false 1) ∧ Below w.heap.size w w' := by
  go_enter Tryz.func87, Tryz.ntmps87
  obtain ⟨W0, hW0⟩ : ∃ W0, W0 = (((w.alloc (.cells #[.int .u64 (lim (X) 0), .int .u64 (lim (X) 1), .int .u64 (lim (X) 2), .int .u64 (lim (X) 3), .int .u64 (lim (Y) 0), .int .u64 (lim (Y) 1), .int .u64 (lim (Y) 2), .int .u64 (lim (Y) 3), .bool true, .int .u64 (lim (Z) 0), .int .u64 (lim (Z) 1), .int .u64 (lim (Z) 2), .int .u64 (lim (Z) 3)] 99)).alloc (.cells #[.int .u64 (lim (U) 0), .int .u64 (lim (U) 1), .int .u64 (lim (U) 2), .int .u64 (lim (U) 3), .int .u64 (lim (V) 0), .int .u64 (lim (V) 1), .int .u64 (lim (V) 2), .int .u64 (lim (V) 3), .bool false] 28)).alloc (.cells #[.int .u64 0, .int .u64 0, .int .u64 0, .int .u64 0, .int .u64 0, .int .u64 0, .int .u64 0, .int .u64 0, .bool false, .int .u64 0, .int .u64 0, .int .u64 0, .int .u64 0] 99)) := ⟨_, rfl⟩
  have Aa : Arr W0 (w.heap.size) 13 (sx (X) (Y) true (Z)) := by subst hW0; refine Arr.mk13 ?_ ?_ ?_ ?_ ?_ ?_ ?_ ?_ ?_ ?_ ?_ ?_ ?_ ?_ <;> simp [go_sem, px, sx, zx]
  have Ab : Arr W0 (w.heap.size + 1) 9 (px (U) (V) false) := by subst hW0; refine Arr.mk9p ?_ ?_ ?_ ?_ ?_ ?_ ?_ ?_ ?_ ?_ <;> simp [go_sem, px, sx, zx]
  have Ao : Arr W0 (w.heap.size + 1 + 1) 13 (zx 8) := by subst hW0; refine Arr.mk13 ?_ ?_ ?_ ?_ ?_ ?_ ?_ ?_ ?_ ?_ ?_ ?_ ?_ ?_ <;> simp [go_sem, px, sx, zx]
  have hB : Below w.heap.size w W0 := by subst hW0; go_grown
  subst hW0
  obtain ⟨ca_0, ca_1, ca_2, ca_3, ca_4, ca_5, ca_6, ca_7, ca_8, ca_9, ca_10, ca_11, ca_12⟩ := Arr.c_sx Aa
  obtain ⟨cb_0, cb_1, cb_2, cb_3, cb_4, cb_5, cb_6, cb_7, cb_8⟩ := Arr.c_px Ab
  go_wp2_with fail
  refine (C1 _).mono ?_
  rintro e w11 ⟨rfl, hb⟩
  replace Ao := Arr.to' Ao hb
  replace hB := Bel.call hB hb
  clear hb ca_0 ca_1 ca_2 ca_3 ca_4 ca_5 ca_6 ca_7 ca_8 ca_9 ca_10 ca_11 ca_12 cb_0 cb_1 cb_2 cb_3 cb_4 cb_5 cb_6 cb_7 cb_8 Aa Ab
  have hS := hB.size
  obtain ⟨co_0, co_1, co_2, co_3, co_4, co_5, co_6, co_7, co_8, co_9, co_10, co_11, co_12⟩ := Arr.c_zs Ao
  have zo := Ao.z
  go_wp2_with fail
  refine bodyPost_ret (v := jv U V false 1) (by simp [results, Tryz.results87, go_sem, co_0, co_1, co_2, co_3, co_4, co_5, co_6, co_7, co_8, co_9, co_10, co_11, co_12]) rfl ⟨rfl, ?_⟩
  go_grown
set_option maxHeartbeats 8000000 in
theorem plus_1 (X Y Z U V z2 k1 M z3 k2 N x y z : Int) (hM : (lim M 0 == 0 && (lim M 1 == 0 && (lim M 2 == 0 && lim M 3 == 0))) = false) (w : World)
    (C1 : ∀ W, Calls Tryz.prog 104 #[nv Z] W fun e w' => e = .returned (nv z2) ∧ Below W.heap.size W w')
    (C2 : ∀ W, Calls Tryz.prog 111 #[nv U, nv z2] W fun e w' => e = .returned (nv k1) ∧ Below W.heap.size W w')
    (C3 : ∀ W, Calls Tryz.prog 112 #[nv k1, nv X] W fun e w' => e = .returned (nv M) ∧ Below W.heap.size W w')
    (C4 : ∀ W, Calls Tryz.prog 111 #[nv Z, nv z2] W fun e w' => e = .returned (nv z3) ∧ Below W.heap.size W w')
    (C5 : ∀ W, Calls Tryz.prog 111 #[nv V, nv z3] W fun e w' => e = .returned (nv k2) ∧ Below W.heap.size W w')
    (C6 : ∀ W, Calls Tryz.prog 112 #[nv k2, nv Y] W fun e w' => e = .returned (nv N) ∧ Below W.heap.size W w')
    (C7 : ∀ W, Calls Tryz.prog 115 #[jv X Y false Z, nv M, nv N] W fun e w' => e = .returned (jv x y false z) ∧ Below W.heap.size W w') :
    Calls Tryz.prog 87 #[jv X Y false Z, pv U V false] w fun e w' => e = .returned (jv x y false z) ∧ Below w.heap.size w w' := by
  go_enter Tryz.func87, Tryz.ntmps87
  obtain ⟨W0, hW0⟩ : ∃ W0, W0 = (((w.alloc (.cells #[.int .u64 (lim (X) 0), .int .u64 (lim (X) 1), .int .u64 (lim (X) 2), .int .u64 (lim (X) 3), .int .u64 (lim (Y) 0), .int .u64 (lim (Y) 1), .int .u64 (lim (Y) 2), .int .u64 (lim (Y) 3), .bool false, .int .u64 (lim (Z) 0), .int .u64 (lim (Z) 1), .int .u64 (lim (Z) 2), .int .u64 (lim (Z) 3)] 99)).alloc (.cells #[.int .u64 (lim (U) 0), .int .u64 (lim (U) 1), .int .u64 (lim (U) 2), .int .u64 (lim (U) 3), .int .u64 (lim (V) 0), .int .u64 (lim (V) 1), .int .u64 (lim (V) 2), .int .u64 (lim (V) 3), .bool false] 28)).alloc (.cells #[.int .u64 0, .int .u64 0, .int .u64 0, .int .u64 0, .int .u64 0, .int .u64 0, .int .u64 0, .int .u64 0, .bool false, .int .u64 0, .int .u64 0, .int .u64 0, .int .u64 0] 99)) := ⟨_, rfl⟩
  have Aa : Arr W0 (w.heap.size) 13 (sx (X) (Y) false (Z)) := by subst hW0; refine Arr.mk13 ?_ ?_ ?_ ?_ ?_ ?_ ?_ ?_ ?_ ?_ ?_ ?_ ?_ ?_ <;> simp [go_sem, px, sx, zx]
  have Ab : Arr W0 (w.heap.size + 1) 9 (px (U) (V) false) := by subst hW0; refine Arr.mk9p ?_ ?_ ?_ ?_ ?_ ?_ ?_ ?_ ?_ ?_ <;> simp [go_sem, px, sx, zx]
  have Ao : Arr W0 (w.heap.size + 1 + 1) 13 (zx 8) := by subst hW0; refine Arr.mk13 ?_ ?_ ?_ ?_ ?_ ?_ ?_ ?_ ?_ ?_ ?_ ?_ ?_ ?_ <;> simp [go_sem, px, sx, zx]
  have hB : Below w.heap.size w W0 := by subst hW0; go_grown
  subst hW0
  obtain ⟨ca_0, ca_1, ca_2, ca_3, ca_4, ca_5, ca_6, ca_7, ca_8, ca_9, ca_10, ca_11, ca_12⟩ := Arr.c_sx Aa
  obtain ⟨cb_0, cb_1, cb_2, cb_3, cb_4, cb_5, cb_6, cb_7, cb_8⟩ := Arr.c_px Ab
  go_wp2_with fail
  refine (C1 _).mono ?_
  rintro e w11 ⟨rfl, hb⟩
  replace Aa := Arr.to' Aa hb
  replace Ab := Arr.to' Ab hb
  replace Ao := Arr.to' Ao hb
  replace hB := Bel.call hB hb
  clear hb ca_0 ca_1 ca_2 ca_3 ca_4 ca_5 ca_6 ca_7 ca_8 ca_9 ca_10 ca_11 ca_12 cb_0 cb_1 cb_2 cb_3 cb_4 cb_5 cb_6 cb_7 cb_8
  have la_2 := Aa.lt
  have lb_2 := Ab.lt
  have lo_2 := Ao.lt
  have lB_2 := hB.size
  replace Aa := (Arr.al' Aa (.cells #[.int .u64 (lim (z2) 0), .int .u64 (lim (z2) 1), .int .u64 (lim (z2) 2), .int .u64 (lim (z2) 3)] 24))
  replace Ab := (Arr.al' Ab (.cells #[.int .u64 (lim (z2) 0), .int .u64 (lim (z2) 1), .int .u64 (lim (z2) 2), .int .u64 (lim (z2) 3)] 24))
  replace Ao := (Arr.al' Ao (.cells #[.int .u64 (lim (z2) 0), .int .u64 (lim (z2) 1), .int .u64 (lim (z2) 2), .int .u64 (lim (z2) 3)] 24))
  have Aq : Arr ((w11.alloc (.cells #[.int .u64 (lim (z2) 0), .int .u64 (lim (z2) 1), .int .u64 (lim (z2) 2), .int .u64 (lim (z2) 3)] 24))) (w11.heap.size) 4 (fun j => .int .u64 (lim (z2) j)) := by refine Arr.mk4 ?_ ?_ ?_ ?_ ?_ ?_ ?_ ?_ <;> simp [go_sem]
  replace hB := (Bel.al hB (.cells #[.int .u64 (lim (z2) 0), .int .u64 (lim (z2) 1), .int .u64 (lim (z2) 2), .int .u64 (lim (z2) 3)] 24))
  go_wp2_with fail
  apply wp_region_alloc_tail 8 (by kernel_rfl) (by kernel_rfl) (by kernel_rfl) (.cells #[.int .u64 0, .int .u64 0, .int .u64 0, .int .u64 0] 24) _ rfl (fun _ _ => by simp [go_sem])
  · intro W hW
    obtain ⟨ra0, ra1, ra2, ra3, ra4, ra5, ra6, ra7, ra8, ra9, ra10, ra11, ra12⟩ := Arr.g_sx (Arr.to' Aa hW)
    obtain ⟨rb0, rb1, rb2, rb3, rb4, rb5, rb6, rb7, rb8⟩ := Arr.g_px (Arr.to' Ab hW)
    obtain ⟨rq0, rq1, rq2, rq3⟩ := Arr.g4 (Arr.to' Aq hW)
    simp only [List.take_succ_cons, List.take_zero]
    repeat (go_big_quiet_step (first | (go_at_call 104; with_reducible first | exact Calls.regrown_of (C1 _)) | (go_at_call 111; with_reducible first | exact Calls.regrown_of (C2 _) | exact Calls.regrown_of (C4 _) | exact Calls.regrown_of (C5 _)) | (go_at_call 112; with_reducible first | exact Calls.regrown_of (C3 _) | exact Calls.regrown_of (C6 _)) | (go_at_call 115; with_reducible first | exact Calls.regrown_of (C7 _))))
    exact wpQuiet_nil rfl
  intro v2 w12 hb1 hb2
  simp only [List.drop_succ_cons, List.drop_zero, Act.put, List.setIfInBounds_toArray, List.set_cons_succ, List.set_cons_zero]
  have Ea := Arr.to' Aa hb1
  have la_v2 := Ea.lt
  have Ba := Arr.to' (Arr.al' Ea _) hb2
  have Eb := Arr.to' Ab hb1
  have lb_v2 := Eb.lt
  have Bb := Arr.to' (Arr.al' Eb _) hb2
  have Eo := Arr.to' Ao hb1
  have lo_v2 := Eo.lt
  have Bo := Arr.to' (Arr.al' Eo _) hb2
  have Eq := Arr.to' Aq hb1
  have lq_v2 := Eq.lt
  have Bq := Arr.to' (Arr.al' Eq _) hb2
  have Bm := (Arr.mk4 (w := (v2.alloc (.cells #[.int .u64 0, .int .u64 0, .int .u64 0, .int .u64 0] 24))) (f := fun _ => .int .u64 0) (b := v2.heap.size) (by simp [go_sem]) (by simp [go_sem]) (by simp [go_sem]) (by simp [go_sem]) (by simp [go_sem]) (by simp [go_sem]) (by simp [go_sem]) (by simp [go_sem])).below hb2 (by go_size)
  have lB_v2 := (Bel.call hB hb1).size
  have hB' := Bel.call (Bel.al (Bel.call hB hb1) _) hb2
  clear hb1 hb2 Ea Eb Eo Eq Aa Ab Ao Aq hB
  have Aa := Ba
  have Ab := Bb
  have Ao := Bo
  have Aq := Bq
  have Am := Bm
  have hB := hB'
  clear Ba Bb Bo Bq Bm hB'
  have cm := Am.c
  have zm := Am.z
  have Ba := Arr.st4o (b' := v2.heap.size) Aa (by have := Aa.lt; have := Am.lt; omega) (M)
  have Bb := Arr.st4o (b' := v2.heap.size) Ab (by have := Ab.lt; have := Am.lt; omega) (M)
  have Bo := Arr.st4o (b' := v2.heap.size) Ao (by have := Ao.lt; have := Am.lt; omega) (M)
  have Bq := Arr.st4o (b' := v2.heap.size) Aq (by have := Aq.lt; have := Am.lt; omega) (M)
  have Bm := Arr.st4 Am (M)
  have hB' := Bel.st4 hB (b := v2.heap.size) (by have := hB.size; omega) (M)
  clear Aa Ab Ao Aq Am hB
  have Aa := Ba
  have Ab := Bb
  have Ao := Bo
  have Aq := Bq
  have Am := Bm
  have hB := hB'
  clear Ba Bb Bo Bq Bm hB'
  go_wp2_with fail
  apply wp_region_alloc_tail 11 (by kernel_rfl) (by kernel_rfl) (by kernel_rfl) (.cells #[.int .u64 0, .int .u64 0, .int .u64 0, .int .u64 0] 24) _ rfl (fun _ _ => by simp [go_sem])
  · intro W hW
    obtain ⟨ra0, ra1, ra2, ra3, ra4, ra5, ra6, ra7, ra8, ra9, ra10, ra11, ra12⟩ := Arr.g_sx (Arr.to' Aa hW)
    obtain ⟨rb0, rb1, rb2, rb3, rb4, rb5, rb6, rb7, rb8⟩ := Arr.g_px (Arr.to' Ab hW)
    obtain ⟨rq0, rq1, rq2, rq3⟩ := Arr.g4 (Arr.to' Aq hW)
    simp only [List.take_succ_cons, List.take_zero]
    repeat (go_big_quiet_step (first | (go_at_call 104; with_reducible first | exact Calls.regrown_of (C1 _)) | (go_at_call 111; with_reducible first | exact Calls.regrown_of (C2 _) | exact Calls.regrown_of (C4 _) | exact Calls.regrown_of (C5 _)) | (go_at_call 112; with_reducible first | exact Calls.regrown_of (C3 _) | exact Calls.regrown_of (C6 _)) | (go_at_call 115; with_reducible first | exact Calls.regrown_of (C7 _))))
    exact wpQuiet_nil rfl
  intro v3 w13 hb1 hb2
  simp only [List.drop_succ_cons, List.drop_zero, Act.put, List.setIfInBounds_toArray, List.set_cons_succ, List.set_cons_zero]
  have Ea := Arr.to' Aa hb1
  have la_v3 := Ea.lt
  have Ba := Arr.to' (Arr.al' Ea _) hb2
  have Eb := Arr.to' Ab hb1
  have lb_v3 := Eb.lt
  have Bb := Arr.to' (Arr.al' Eb _) hb2
  have Eo := Arr.to' Ao hb1
  have lo_v3 := Eo.lt
  have Bo := Arr.to' (Arr.al' Eo _) hb2
  have Eq := Arr.to' Aq hb1
  have lq_v3 := Eq.lt
  have Bq := Arr.to' (Arr.al' Eq _) hb2
  have Em := Arr.to' Am hb1
  have lm_v3 := Em.lt
  have Bm := Arr.to' (Arr.al' Em _) hb2
  have Bn := (Arr.mk4 (w := (v3.alloc (.cells #[.int .u64 0, .int .u64 0, .int .u64 0, .int .u64 0] 24))) (f := fun _ => .int .u64 0) (b := v3.heap.size) (by simp [go_sem]) (by simp [go_sem]) (by simp [go_sem]) (by simp [go_sem]) (by simp [go_sem]) (by simp [go_sem]) (by simp [go_sem]) (by simp [go_sem])).below hb2 (by go_size)
  have lB_v3 := (Bel.call hB hb1).size
  have hB' := Bel.call (Bel.al (Bel.call hB hb1) _) hb2
  clear hb1 hb2 Ea Eb Eo Eq Em Aa Ab Ao Aq Am hB
  have Aa := Ba
  have Ab := Bb
  have Ao := Bo
  have Aq := Bq
  have Am := Bm
  have An := Bn
  have hB := hB'
  clear Ba Bb Bo Bq Bm Bn hB'
  have cn := An.c
  have zn := An.z
  have Ba := Arr.st4o (b' := v3.heap.size) Aa (by have := Aa.lt; have := An.lt; omega) (N)
  have Bb := Arr.st4o (b' := v3.heap.size) Ab (by have := Ab.lt; have := An.lt; omega) (N)
  have Bo := Arr.st4o (b' := v3.heap.size) Ao (by have := Ao.lt; have := An.lt; omega) (N)
  have Bq := Arr.st4o (b' := v3.heap.size) Aq (by have := Aq.lt; have := An.lt; omega) (N)
  have Bm := Arr.st4o (b' := v3.heap.size) Am (by have := Am.lt; have := An.lt; omega) (N)
  have Bn := Arr.st4 An (N)
  have hB' := Bel.st4 hB (b := v3.heap.size) (by have := hB.size; omega) (N)
  clear Aa Ab Ao Aq Am An hB
  have Aa := Ba
  have Ab := Bb
  have Ao := Bo
  have Aq := Bq
  have Am := Bm
  have An := Bn
  have hB := hB'
  clear Ba Bb Bo Bq Bm Bn hB'
  obtain ⟨ca_0, ca_1, ca_2, ca_3, ca_4, ca_5, ca_6, ca_7, ca_8, ca_9, ca_10, ca_11, ca_12⟩ := Arr.c_sx Aa
  have cm := Am.c
  have cn := An.c
  go_wp2_with fail
  refine (C7 _).mono ?_
  rintro e w14 ⟨rfl, hb⟩
  replace Ao := Arr.to' Ao hb
  replace hB := Bel.call hB hb
  clear hb cn zn ca_0 ca_1 ca_2 ca_3 ca_4 ca_5 ca_6 ca_7 ca_8 ca_9 ca_10 ca_11 ca_12 cm Aa Ab Aq Am An
  have hS := hB.size
  obtain ⟨co_0, co_1, co_2, co_3, co_4, co_5, co_6, co_7, co_8, co_9, co_10, co_11, co_12⟩ := Arr.c_zs Ao
  have zo := Ao.z
  go_wp2_with fail
  refine bodyPost_ret (v := jv x y false z) (by simp [results, Tryz.results87, go_sem, co_0, co_1, co_2, co_3, co_4, co_5, co_6, co_7, co_8, co_9, co_10, co_11, co_12]) rfl ⟨rfl, ?_⟩
  go_grown
set_option maxHeartbeats 8000000 in
theorem plus_2 (X Y Z U V z2 k1 M z3 k2 N : Int) (hM : (lim M 0 == 0 && (lim M 1 == 0 && (lim M 2 == 0 && lim M 3 == 0))) = true) (hN : (lim N 0 == 0 && (lim N 1 == 0 && (lim N 2 == 0 && lim N 3 == 0))) = false) (w : World)
    (C1 : ∀ W, Calls Tryz.prog 104 #[nv Z] W fun e w' => e = .returned (nv z2) ∧ Below W.heap.size W w')
    (C2 : ∀ W, Calls Tryz.prog 111 #[nv U, nv z2] W fun e w' => e = .returned (nv k1) ∧ Below W.heap.size W w')
    (C3 : ∀ W, Calls Tryz.prog 112 #[nv k1, nv X] W fun e w' => e = .returned (nv M) ∧ Below W.heap.size W w')
    (C4 : ∀ W, Calls Tryz.prog 111 #[nv Z, nv z2] W fun e w' => e = .returned (nv z3) ∧ Below W.heap.size W w')
    (C5 : ∀ W, Calls Tryz.prog 111 #[nv V, nv z3] W fun e w' => e = .returned (nv k2) ∧ Below W.heap.size W w')
    (C6 : ∀ W, Calls Tryz.prog 112 #[nv k2, nv Y] W fun e w' => e = .returned (nv N) ∧ Below W.heap.size W w')
    (C7 : ∀ W, Calls Tryz.prog 84 #[] W fun e w' => e = .returned (pv 0 0 true) ∧ Below W.heap.size W w')
    (C8 : ∀ W, Calls Tryz.prog 83 #[pv 0 0 true] W fun e w' => e = .returned (jv 0 0 true 1) ∧ Below W.heap.size W w') :
    Calls Tryz.prog 87 #[jv X Y false Z, pv U V false] w fun e w' => e = .returned (jv 0 0 true 1) ∧ Below w.heap.size w w' := by
  go_enter Tryz.func87, Tryz.ntmps87
  obtain ⟨W0, hW0⟩ : ∃ W0, W0 = (((w.alloc (.cells #[.int .u64 (lim (X) 0), .int .u64 (lim (X) 1), .int .u64 (lim (X) 2), .int .u64 (lim (X) 3), .int .u64 (lim (Y) 0), .int .u64 (lim (Y) 1), .int .u64 (lim (Y) 2), .int .u64 (lim (Y) 3), .bool false, .int .u64 (lim (Z) 0), .int .u64 (lim (Z) 1), .int .u64 (lim (Z) 2), .int .u64 (lim (Z) 3)] 99)).alloc (.cells #[.int .u64 (lim (U) 0), .int .u64 (lim (U) 1), .int .u64 (lim (U) 2), .int .u64 (lim (U) 3), .int .u64 (lim (V) 0), .int .u64 (lim (V) 1), .int .u64 (lim (V) 2), .int .u64 (lim (V) 3), .bool false] 28)).alloc (.cells #[.int .u64 0, .int .u64 0, .int .u64 0, .int .u64 0, .int .u64 0, .int .u64 0, .int .u64 0, .int .u64 0, .bool false, .int .u64 0, .int .u64 0, .int .u64 0, .int .u64 0] 99)) := ⟨_, rfl⟩
  have Aa : Arr W0 (w.heap.size) 13 (sx (X) (Y) false (Z)) := by subst hW0; refine Arr.mk13 ?_ ?_ ?_ ?_ ?_ ?_ ?_ ?_ ?_ ?_ ?_ ?_ ?_ ?_ <;> simp [go_sem, px, sx, zx]
  have Ab : Arr W0 (w.heap.size + 1) 9 (px (U) (V) false) := by subst hW0; refine Arr.mk9p ?_ ?_ ?_ ?_ ?_ ?_ ?_ ?_ ?_ ?_ <;> simp [go_sem, px, sx, zx]
  have Ao : Arr W0 (w.heap.size + 1 + 1) 13 (zx 8) := by subst hW0; refine Arr.mk13 ?_ ?_ ?_ ?_ ?_ ?_ ?_ ?_ ?_ ?_ ?_ ?_ ?_ ?_ <;> simp [go_sem, px, sx, zx]
  have hB : Below w.heap.size w W0 := by subst hW0; go_grown
  subst hW0
  obtain ⟨ca_0, ca_1, ca_2, ca_3, ca_4, ca_5, ca_6, ca_7, ca_8, ca_9, ca_10, ca_11, ca_12⟩ := Arr.c_sx Aa
  obtain ⟨cb_0, cb_1, cb_2, cb_3, cb_4, cb_5, cb_6, cb_7, cb_8⟩ := Arr.c_px Ab
  go_wp2_with fail
  refine (C1 _).mono ?_
  rintro e w11 ⟨rfl, hb⟩
  replace Aa := Arr.to' Aa hb
  replace Ab := Arr.to' Ab hb
  replace Ao := Arr.to' Ao hb
  replace hB := Bel.call hB hb
  clear hb ca_0 ca_1 ca_2 ca_3 ca_4 ca_5 ca_6 ca_7 ca_8 ca_9 ca_10 ca_11 ca_12 cb_0 cb_1 cb_2 cb_3 cb_4 cb_5 cb_6 cb_7 cb_8
  have la_2 := Aa.lt
  have lb_2 := Ab.lt
  have lo_2 := Ao.lt
  have lB_2 := hB.size
  replace Aa := (Arr.al' Aa (.cells #[.int .u64 (lim (z2) 0), .int .u64 (lim (z2) 1), .int .u64 (lim (z2) 2), .int .u64 (lim (z2) 3)] 24))
  replace Ab := (Arr.al' Ab (.cells #[.int .u64 (lim (z2) 0), .int .u64 (lim (z2) 1), .int .u64 (lim (z2) 2), .int .u64 (lim (z2) 3)] 24))
  replace Ao := (Arr.al' Ao (.cells #[.int .u64 (lim (z2) 0), .int .u64 (lim (z2) 1), .int .u64 (lim (z2) 2), .int .u64 (lim (z2) 3)] 24))
  have Aq : Arr ((w11.alloc (.cells #[.int .u64 (lim (z2) 0), .int .u64 (lim (z2) 1), .int .u64 (lim (z2) 2), .int .u64 (lim (z2) 3)] 24))) (w11.heap.size) 4 (fun j => .int .u64 (lim (z2) j)) := by refine Arr.mk4 ?_ ?_ ?_ ?_ ?_ ?_ ?_ ?_ <;> simp [go_sem]
  replace hB := (Bel.al hB (.cells #[.int .u64 (lim (z2) 0), .int .u64 (lim (z2) 1), .int .u64 (lim (z2) 2), .int .u64 (lim (z2) 3)] 24))
  go_wp2_with fail
  apply wp_region_alloc_tail 8 (by kernel_rfl) (by kernel_rfl) (by kernel_rfl) (.cells #[.int .u64 0, .int .u64 0, .int .u64 0, .int .u64 0] 24) _ rfl (fun _ _ => by simp [go_sem])
  · intro W hW
    obtain ⟨ra0, ra1, ra2, ra3, ra4, ra5, ra6, ra7, ra8, ra9, ra10, ra11, ra12⟩ := Arr.g_sx (Arr.to' Aa hW)
    obtain ⟨rb0, rb1, rb2, rb3, rb4, rb5, rb6, rb7, rb8⟩ := Arr.g_px (Arr.to' Ab hW)
    obtain ⟨rq0, rq1, rq2, rq3⟩ := Arr.g4 (Arr.to' Aq hW)
    simp only [List.take_succ_cons, List.take_zero]
    repeat (go_big_quiet_step (first | (go_at_call 104; with_reducible first | exact Calls.regrown_of (C1 _)) | (go_at_call 111; with_reducible first | exact Calls.regrown_of (C2 _) | exact Calls.regrown_of (C4 _) | exact Calls.regrown_of (C5 _)) | (go_at_call 112; with_reducible first | exact Calls.regrown_of (C3 _) | exact Calls.regrown_of (C6 _)) | (go_at_call 84; with_reducible first | exact Calls.regrown_of (C7 _)) | (go_at_call 83; with_reducible first | exact Calls.regrown_of (C8 _))))
    exact wpQuiet_nil rfl
  intro v2 w12 hb1 hb2
  simp only [List.drop_succ_cons, List.drop_zero, Act.put, List.setIfInBounds_toArray, List.set_cons_succ, List.set_cons_zero]
  have Ea := Arr.to' Aa hb1
  have la_v2 := Ea.lt
  have Ba := Arr.to' (Arr.al' Ea _) hb2
  have Eb := Arr.to' Ab hb1
  have lb_v2 := Eb.lt
  have Bb := Arr.to' (Arr.al' Eb _) hb2
  have Eo := Arr.to' Ao hb1
  have lo_v2 := Eo.lt
  have Bo := Arr.to' (Arr.al' Eo _) hb2
  have Eq := Arr.to' Aq hb1
  have lq_v2 := Eq.lt
  have Bq := Arr.to' (Arr.al' Eq _) hb2
  have Bm := (Arr.mk4 (w := (v2.alloc (.cells #[.int .u64 0, .int .u64 0, .int .u64 0, .int .u64 0] 24))) (f := fun _ => .int .u64 0) (b := v2.heap.size) (by simp [go_sem]) (by simp [go_sem]) (by simp [go_sem]) (by simp [go_sem]) (by simp [go_sem]) (by simp [go_sem]) (by simp [go_sem]) (by simp [go_sem])).below hb2 (by go_size)
  have lB_v2 := (Bel.call hB hb1).size
  have hB' := Bel.call (Bel.al (Bel.call hB hb1) _) hb2
  clear hb1 hb2 Ea Eb Eo Eq Aa Ab Ao Aq hB
  have Aa := Ba
  have Ab := Bb
  have Ao := Bo
  have Aq := Bq
  have Am := Bm
  have hB := hB'
  clear Ba Bb Bo Bq Bm hB'
  have cm := Am.c
  have zm := Am.z
  have Ba := Arr.st4o (b' := v2.heap.size) Aa (by have := Aa.lt; have := Am.lt; omega) (M)
  have Bb := Arr.st4o (b' := v2.heap.size) Ab (by have := Ab.lt; have := Am.lt; omega) (M)
  have Bo := Arr.st4o (b' := v2.heap.size) Ao (by have := Ao.lt; have := Am.lt; omega) (M)
  have Bq := Arr.st4o (b' := v2.heap.size) Aq (by have := Aq.lt; have := Am.lt; omega) (M)
  have Bm := Arr.st4 Am (M)
  have hB' := Bel.st4 hB (b := v2.heap.size) (by have := hB.size; omega) (M)
  clear Aa Ab Ao Aq Am hB
  have Aa := Ba
  have Ab := Bb
  have Ao := Bo
  have Aq := Bq
  have Am := Bm
  have hB := hB'
  clear Ba Bb Bo Bq Bm hB'
  go_wp2_with fail
  apply wp_region_alloc_tail 11 (by kernel_rfl) (by kernel_rfl) (by kernel_rfl) (.cells #[.int .u64 0, .int .u64 0, .int .u64 0, .int .u64 0] 24) _ rfl (fun _ _ => by simp [go_sem])
  · intro W hW
    obtain ⟨ra0, ra1, ra2, ra3, ra4, ra5, ra6, ra7, ra8, ra9, ra10, ra11, ra12⟩ := Arr.g_sx (Arr.to' Aa hW)
    obtain ⟨rb0, rb1, rb2, rb3, rb4, rb5, rb6, rb7, rb8⟩ := Arr.g_px (Arr.to' Ab hW)
    obtain ⟨rq0, rq1, rq2, rq3⟩ := Arr.g4 (Arr.to' Aq hW)
    simp only [List.take_succ_cons, List.take_zero]
    repeat (go_big_quiet_step (first | (go_at_call 104; with_reducible first | exact Calls.regrown_of (C1 _)) | (go_at_call 111; with_reducible first | exact Calls.regrown_of (C2 _) | exact Calls.regrown_of (C4 _) | exact Calls.regrown_of (C5 _)) | (go_at_call 112; with_reducible first | exact Calls.regrown_of (C3 _) | exact Calls.regrown_of (C6 _)) | (go_at_call 84; with_reducible first | exact Calls.regrown_of (C7 _)) | (go_at_call 83; with_reducible first | exact Calls.regrown_of (C8 _))))
    exact wpQuiet_nil rfl
  intro v3 w13 hb1 hb2
  simp only [List.drop_succ_cons, List.drop_zero, Act.put, List.setIfInBounds_toArray, List.set_cons_succ, List.set_cons_zero]
  have Ea := Arr.to' Aa hb1
  have la_v3 := Ea.lt
  have Ba := Arr.to' (Arr.al' Ea _) hb2
  have Eb := Arr.to' Ab hb1
  have lb_v3 := Eb.lt
  have Bb := Arr.to' (Arr.al' Eb _) hb2
  have Eo := Arr.to' Ao hb1
  have lo_v3 := Eo.lt
  have Bo := Arr.to' (Arr.al' Eo _) hb2
  have Eq := Arr.to' Aq hb1
  have lq_v3 := Eq.lt
  have Bq := Arr.to' (Arr.al' Eq _) hb2
  have Em := Arr.to' Am hb1
  have lm_v3 := Em.lt
  have Bm := Arr.to' (Arr.al' Em _) hb2
  have Bn := (Arr.mk4 (w := (v3.alloc (.cells #[.int .u64 0, .int .u64 0, .int .u64 0, .int .u64 0] 24))) (f := fun _ => .int .u64 0) (b := v3.heap.size) (by simp [go_sem]) (by simp [go_sem]) (by simp [go_sem]) (by simp [go_sem]) (by simp [go_sem]) (by simp [go_sem]) (by simp [go_sem]) (by simp [go_sem])).below hb2 (by go_size)
  have lB_v3 := (Bel.call hB hb1).size
  have hB' := Bel.call (Bel.al (Bel.call hB hb1) _) hb2
  clear hb1 hb2 Ea Eb Eo Eq Em Aa Ab Ao Aq Am hB
  have Aa := Ba
  have Ab := Bb
  have Ao := Bo
  have Aq := Bq
  have Am := Bm
  have An := Bn
  have hB := hB'
  clear Ba Bb Bo Bq Bm Bn hB'
  have cn := An.c
  have zn := An.z
  have Ba := Arr.st4o (b' := v3.heap.size) Aa (by have := Aa.lt; have := An.lt; omega) (N)
  have Bb := Arr.st4o (b' := v3.heap.size) Ab (by have := Ab.lt; have := An.lt; omega) (N)
  have Bo := Arr.st4o (b' := v3.heap.size) Ao (by have := Ao.lt; have := An.lt; omega) (N)
  have Bq := Arr.st4o (b' := v3.heap.size) Aq (by have := Aq.lt; have := An.lt; omega) (N)
  have Bm := Arr.st4o (b' := v3.heap.size) Am (by have := Am.lt; have := An.lt; omega) (N)
  have Bn := Arr.st4 An (N)
  have hB' := Bel.st4 hB (b := v3.heap.size) (by have := hB.size; omega) (N)
  clear Aa Ab Ao Aq Am An hB
  have Aa := Ba
  have Ab := Bb
  have Ao := Bo
  have Aq := Bq
  have Am := Bm
  have An := Bn
  have hB := hB'
  clear Ba Bb Bo Bq Bm Bn hB'
  have cm := Am.c
  have cn := An.c
  go_wp2_with fail
  refine (C7 _).mono ?_
  rintro e w14 ⟨rfl, hb⟩
  replace Aa := Arr.to' Aa hb
  replace Ab := Arr.to' Ab hb
  replace Ao := Arr.to' Ao hb
  replace Aq := Arr.to' Aq hb
  replace Am := Arr.to' Am hb
  replace An := Arr.to' An hb
  replace hB := Bel.call hB hb
  clear hb cn zn cm
  go_wp2_with fail
  refine (C8 _).mono ?_
  rintro e w15 ⟨rfl, hb⟩
  replace Ao := Arr.to' Ao hb
  replace hB := Bel.call hB hb
  clear hb Aa Ab Aq Am An
  have hS := hB.size
  obtain ⟨co_0, co_1, co_2, co_3, co_4, co_5, co_6, co_7, co_8, co_9, co_10, co_11, co_12⟩ := Arr.c_zs Ao
  have zo := Ao.z
  go_wp2_with fail
  refine bodyPost_ret (v := jv 0 0 true 1) (by simp [results, Tryz.results87, go_sem, co_0, co_1, co_2, co_3, co_4, co_5, co_6, co_7, co_8, co_9, co_10, co_11, co_12]) rfl ⟨rfl, ?_⟩
  go_grown
set_option maxHeartbeats 8000000 in
theorem plus_3 (X Y Z U V z2 k1 M z3 k2 N x y z : Int) (hM : (lim M 0 == 0 && (lim M 1 == 0 && (lim M 2 == 0 && lim M 3 == 0))) = true) (hN : (lim N 0 == 0 && (lim N 1 == 0 && (lim N 2 == 0 && lim N 3 == 0))) = true) (w : World)
    (C1 : ∀ W, Calls Tryz.prog 104 #[nv Z] W fun e w' => e = .returned (nv z2) ∧ Below W.heap.size W w')
    (C2 : ∀ W, Calls Tryz.prog 111 #[nv U, nv z2] W fun e w' => e = .returned (nv k1) ∧ Below W.heap.size W w')
    (C3 : ∀ W, Calls Tryz.prog 112 #[nv k1, nv X] W fun e w' => e = .returned (nv M) ∧ Below W.heap.size W w')
    (C4 : ∀ W, Calls Tryz.prog 111 #[nv Z, nv z2] W fun e w' => e = .returned (nv z3) ∧ Below W.heap.size W w')
    (C5 : ∀ W, Calls Tryz.prog 111 #[nv V, nv z3] W fun e w' => e = .returned (nv k2) ∧ Below W.heap.size W w')
    (C6 : ∀ W, Calls Tryz.prog 112 #[nv k2, nv Y] W fun e w' => e = .returned (nv N) ∧ Below W.heap.size W w')
    (C7 : ∀ W, Calls Tryz.prog 86 #[jv X Y false Z] W fun e w' => e = .returned (jv x y false z) ∧ Below W.heap.size W w') :
    Calls Tryz.prog 87 #[jv X Y false Z, pv U V false] w fun e w' => e = .returned (jv x y false z) ∧ Below w.heap.size w w' := by
  go_enter Tryz.func87, Tryz.ntmps87
  obtain ⟨W0, hW0⟩ : ∃ W0, W0 = (((w.alloc (.cells #[.int .u64 (lim (X) 0), .int .u64 (lim (X) 1), .int .u64 (lim (X) 2), .int .u64 (lim (X) 3), .int .u64 (lim (Y) 0), .int .u64 (lim (Y) 1), .int .u64 (lim (Y) 2), .int .u64 (lim (Y) 3), .bool false, .int .u64 (lim (Z) 0), .int .u64 (lim (Z) 1), .int .u64 (lim (Z) 2), .int .u64 (lim (Z) 3)] 99)).alloc (.cells #[.int .u64 (lim (U) 0), .int .u64 (lim (U) 1), .int .u64 (lim (U) 2), .int .u64 (lim (U) 3), .int .u64 (lim (V) 0), .int .u64 (lim (V) 1), .int .u64 (lim (V) 2), .int .u64 (lim (V) 3), .bool false] 28)).alloc (.cells #[.int .u64 0, .int .u64 0, .int .u64 0, .int .u64 0, .int .u64 0, .int .u64 0, .int .u64 0, .int .u64 0, .bool false, .int .u64 0, .int .u64 0, .int .u64 0, .int .u64 0] 99)) := ⟨_, rfl⟩
  have Aa : Arr W0 (w.heap.size) 13 (sx (X) (Y) false (Z)) := by subst hW0; refine Arr.mk13 ?_ ?_ ?_ ?_ ?_ ?_ ?_ ?_ ?_ ?_ ?_ ?_ ?_ ?_ <;> simp [go_sem, px, sx, zx]
  have Ab : Arr W0 (w.heap.size + 1) 9 (px (U) (V) false) := by subst hW0; refine Arr.mk9p ?_ ?_ ?_ ?_ ?_ ?_ ?_ ?_ ?_ ?_ <;> simp [go_sem, px, sx, zx]
  have Ao : Arr W0 (w.heap.size + 1 + 1) 13 (zx 8) := by subst hW0; refine Arr.mk13 ?_ ?_ ?_ ?_ ?_ ?_ ?_ ?_ ?_ ?_ ?_ ?_ ?_ ?_ <;> simp [go_sem, px, sx, zx]
  have hB : Below w.heap.size w W0 := by subst hW0; go_grown
  subst hW0
  obtain ⟨ca_0, ca_1, ca_2, ca_3, ca_4, ca_5, ca_6, ca_7, ca_8, ca_9, ca_10, ca_11, ca_12⟩ := Arr.c_sx Aa
  obtain ⟨cb_0, cb_1, cb_2, cb_3, cb_4, cb_5, cb_6, cb_7, cb_8⟩ := Arr.c_px Ab
  go_wp2_with fail
  refine (C1 _).mono ?_
  rintro e w11 ⟨rfl, hb⟩
  replace Aa := Arr.to' Aa hb
  replace Ab := Arr.to' Ab hb
  replace Ao := Arr.to' Ao hb
  replace hB := Bel.call hB hb
  clear hb ca_0 ca_1 ca_2 ca_3 ca_4 ca_5 ca_6 ca_7 ca_8 ca_9 ca_10 ca_11 ca_12 cb_0 cb_1 cb_2 cb_3 cb_4 cb_5 cb_6 cb_7 cb_8
  have la_2 := Aa.lt
  have lb_2 := Ab.lt
  have lo_2 := Ao.lt
  have lB_2 := hB.size
  replace Aa := (Arr.al' Aa (.cells #[.int .u64 (lim (z2) 0), .int .u64 (lim (z2) 1), .int .u64 (lim (z2) 2), .int .u64 (lim (z2) 3)] 24))
  replace Ab := (Arr.al' Ab (.cells #[.int .u64 (lim (z2) 0), .int .u64 (lim (z2) 1), .int .u64 (lim (z2) 2), .int .u64 (lim (z2) 3)] 24))
  replace Ao := (Arr.al' Ao (.cells #[.int .u64 (lim (z2) 0), .int .u64 (lim (z2) 1), .int .u64 (lim (z2) 2), .int .u64 (lim (z2) 3)] 24))
  have Aq : Arr ((w11.alloc (.cells #[.int .u64 (lim (z2) 0), .int .u64 (lim (z2) 1), .int .u64 (lim (z2) 2), .int .u64 (lim (z2) 3)] 24))) (w11.heap.size) 4 (fun j => .int .u64 (lim (z2) j)) := by refine Arr.mk4 ?_ ?_ ?_ ?_ ?_ ?_ ?_ ?_ <;> simp [go_sem]
  replace hB := (Bel.al hB (.cells #[.int .u64 (lim (z2) 0), .int .u64 (lim (z2) 1), .int .u64 (lim (z2) 2), .int .u64 (lim (z2) 3)] 24))
  go_wp2_with fail
  apply wp_region_alloc_tail 8 (by kernel_rfl) (by kernel_rfl) (by kernel_rfl) (.cells #[.int .u64 0, .int .u64 0, .int .u64 0, .int .u64 0] 24) _ rfl (fun _ _ => by simp [go_sem])
  · intro W hW
    obtain ⟨ra0, ra1, ra2, ra3, ra4, ra5, ra6, ra7, ra8, ra9, ra10, ra11, ra12⟩ := Arr.g_sx (Arr.to' Aa hW)
    obtain ⟨rb0, rb1, rb2, rb3, rb4, rb5, rb6, rb7, rb8⟩ := Arr.g_px (Arr.to' Ab hW)
    obtain ⟨rq0, rq1, rq2, rq3⟩ := Arr.g4 (Arr.to' Aq hW)
    simp only [List.take_succ_cons, List.take_zero]
    repeat (go_big_quiet_step (first | (go_at_call 104; with_reducible first | exact Calls.regrown_of (C1 _)) | (go_at_call 111; with_reducible first | exact Calls.regrown_of (C2 _) | exact Calls.regrown_of (C4 _) | exact Calls.regrown_of (C5 _)) | (go_at_call 112; with_reducible first | exact Calls.regrown_of (C3 _) | exact Calls.regrown_of (C6 _)) | (go_at_call 86; with_reducible first | exact Calls.regrown_of (C7 _))))
    exact wpQuiet_nil rfl
  intro v2 w12 hb1 hb2
  simp only [List.drop_succ_cons, List.drop_zero, Act.put, List.setIfInBounds_toArray, List.set_cons_succ, List.set_cons_zero]
  have Ea := Arr.to' Aa hb1
  have la_v2 := Ea.lt
  have Ba := Arr.to' (Arr.al' Ea _) hb2
  have Eb := Arr.to' Ab hb1
  have lb_v2 := Eb.lt
  have Bb := Arr.to' (Arr.al' Eb _) hb2
  have Eo := Arr.to' Ao hb1
  have lo_v2 := Eo.lt
  have Bo := Arr.to' (Arr.al' Eo _) hb2
  have Eq := Arr.to' Aq hb1
  have lq_v2 := Eq.lt
  have Bq := Arr.to' (Arr.al' Eq _) hb2
  have Bm := (Arr.mk4 (w := (v2.alloc (.cells #[.int .u64 0, .int .u64 0, .int .u64 0, .int .u64 0] 24))) (f := fun _ => .int .u64 0) (b := v2.heap.size) (by simp [go_sem]) (by simp [go_sem]) (by simp [go_sem]) (by simp [go_sem]) (by simp [go_sem]) (by simp [go_sem]) (by simp [go_sem]) (by simp [go_sem])).below hb2 (by go_size)
  have lB_v2 := (Bel.call hB hb1).size
  have hB' := Bel.call (Bel.al (Bel.call hB hb1) _) hb2
  clear hb1 hb2 Ea Eb Eo Eq Aa Ab Ao Aq hB
  have Aa := Ba
  have Ab := Bb
  have Ao := Bo
  have Aq := Bq
  have Am := Bm
  have hB := hB'
  clear Ba Bb Bo Bq Bm hB'
  have cm := Am.c
  have zm := Am.z
  have Ba := Arr.st4o (b' := v2.heap.size) Aa (by have := Aa.lt; have := Am.lt; omega) (M)
  have Bb := Arr.st4o (b' := v2.heap.size) Ab (by have := Ab.lt; have := Am.lt; omega) (M)
  have Bo := Arr.st4o (b' := v2.heap.size) Ao (by have := Ao.lt; have := Am.lt; omega) (M)
  have Bq := Arr.st4o (b' := v2.heap.size) Aq (by have := Aq.lt; have := Am.lt; omega) (M)
  have Bm := Arr.st4 Am (M)
  have hB' := Bel.st4 hB (b := v2.heap.size) (by have := hB.size; omega) (M)
  clear Aa Ab Ao Aq Am hB
  have Aa := Ba
  have Ab := Bb
  have Ao := Bo
  have Aq := Bq
  have Am := Bm
  have hB := hB'
  clear Ba Bb Bo Bq Bm hB'
  go_wp2_with fail
  apply wp_region_alloc_tail 11 (by kernel_rfl) (by kernel_rfl) (by kernel_rfl) (.cells #[.int .u64 0, .int .u64 0, .int .u64 0, .int .u64 0] 24) _ rfl (fun _ _ => by simp [go_sem])
  · intro W hW
    obtain ⟨ra0, ra1, ra2, ra3, ra4, ra5, ra6, ra7, ra8, ra9, ra10, ra11, ra12⟩ := Arr.g_sx (Arr.to' Aa hW)
    obtain ⟨rb0, rb1, rb2, rb3, rb4, rb5, rb6, rb7, rb8⟩ := Arr.g_px (Arr.to' Ab hW)
    obtain ⟨rq0, rq1, rq2, rq3⟩ := Arr.g4 (Arr.to' Aq hW)
    simp only [List.take_succ_cons, List.take_zero]
    repeat (go_big_quiet_step (first | (go_at_call 104; with_reducible first | exact Calls.regrown_of (C1 _)) | (go_at_call 111; with_reducible first | exact Calls.regrown_of (C2 _) | exact Calls.regrown_of (C4 _) | exact Calls.regrown_of (C5 _)) | (go_at_call 112; with_reducible first | exact Calls.regrown_of (C3 _) | exact Calls.regrown_of (C6 _)) | (go_at_call 86; with_reducible first | exact Calls.regrown_of (C7 _))))
    exact wpQuiet_nil rfl
  intro v3 w13 hb1 hb2
  simp only [List.drop_succ_cons, List.drop_zero, Act.put, List.setIfInBounds_toArray, List.set_cons_succ, List.set_cons_zero]
  have Ea := Arr.to' Aa hb1
  have la_v3 := Ea.lt
  have Ba := Arr.to' (Arr.al' Ea _) hb2
  have Eb := Arr.to' Ab hb1
  have lb_v3 := Eb.lt
  have Bb := Arr.to' (Arr.al' Eb _) hb2
  have Eo := Arr.to' Ao hb1
  have lo_v3 := Eo.lt
  have Bo := Arr.to' (Arr.al' Eo _) hb2
  have Eq := Arr.to' Aq hb1
  have lq_v3 := Eq.lt
  have Bq := Arr.to' (Arr.al' Eq _) hb2
  have Em := Arr.to' Am hb1
  have lm_v3 := Em.lt
  have Bm := Arr.to' (Arr.al' Em _) hb2
  have Bn := (Arr.mk4 (w := (v3.alloc (.cells #[.int .u64 0, .int .u64 0, .int .u64 0, .int .u64 0] 24))) (f := fun _ => .int .u64 0) (b := v3.heap.size) (by simp [go_sem]) (by simp [go_sem]) (by simp [go_sem]) (by simp [go_sem]) (by simp [go_sem]) (by simp [go_sem]) (by simp [go_sem]) (by simp [go_sem])).below hb2 (by go_size)
  have lB_v3 := (Bel.call hB hb1).size
  have hB' := Bel.call (Bel.al (Bel.call hB hb1) _) hb2
  clear hb1 hb2 Ea Eb Eo Eq Em Aa Ab Ao Aq Am hB
  have Aa := Ba
  have Ab := Bb
  have Ao := Bo
  have Aq := Bq
  have Am := Bm
  have An := Bn
  have hB := hB'
  clear Ba Bb Bo Bq Bm Bn hB'
  have cn := An.c
  have zn := An.z
  have Ba := Arr.st4o (b' := v3.heap.size) Aa (by have := Aa.lt; have := An.lt; omega) (N)
  have Bb := Arr.st4o (b' := v3.heap.size) Ab (by have := Ab.lt; have := An.lt; omega) (N)
  have Bo := Arr.st4o (b' := v3.heap.size) Ao (by have := Ao.lt; have := An.lt; omega) (N)
  have Bq := Arr.st4o (b' := v3.heap.size) Aq (by have := Aq.lt; have := An.lt; omega) (N)
  have Bm := Arr.st4o (b' := v3.heap.size) Am (by have := Am.lt; have := An.lt; omega) (N)
  have Bn := Arr.st4 An (N)
  have hB' := Bel.st4 hB (b := v3.heap.size) (by have := hB.size; omega) (N)
  clear Aa Ab Ao Aq Am An hB
  have Aa := Ba
  have Ab := Bb
  have Ao := Bo
  have Aq := Bq
  have Am := Bm
  have An := Bn
  have hB := hB'
  clear Ba Bb Bo Bq Bm Bn hB'
  obtain ⟨ca_0, ca_1, ca_2, ca_3, ca_4, ca_5, ca_6, ca_7, ca_8, ca_9, ca_10, ca_11, ca_12⟩ := Arr.c_sx Aa
  have cm := Am.c
  have cn := An.c
  go_wp2_with fail
  refine (C7 _).mono ?_
  rintro e w14 ⟨rfl, hb⟩
  replace Ao := Arr.to' Ao hb
  replace hB := Bel.call hB hb
  clear hb cn zn ca_0 ca_1 ca_2 ca_3 ca_4 ca_5 ca_6 ca_7 ca_8 ca_9 ca_10 ca_11 ca_12 cm Aa Ab Aq Am An
  have hS := hB.size
  obtain ⟨co_0, co_1, co_2, co_3, co_4, co_5, co_6, co_7, co_8, co_9, co_10, co_11, co_12⟩ := Arr.c_zs Ao
  have zo := Ao.z
  go_wp2_with fail
  refine bodyPost_ret (v := jv x y false z) (by simp [results, Tryz.results87, go_sem, co_0, co_1, co_2, co_3, co_4, co_5, co_6, co_7, co_8, co_9, co_10, co_11, co_12]) rfl ⟨rfl, ?_⟩
  go_grown
end Go.Proofs.YtoolbnbfbegjaaaGreat
