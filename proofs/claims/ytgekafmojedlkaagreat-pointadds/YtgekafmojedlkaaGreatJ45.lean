/- The reference's lowered, slope and Add. -/
import Derived.Test.YtgekafmojedlkaaGreatJ42
set_option linter.all false
set_option maxRecDepth 100000
namespace Go.Proofs.YtgekafmojedlkaaGreat
open Go.RowKit Go.Sort
attribute [local go_sem] eq24
set_option maxHeartbeats 8000000 in
theorem lowered_none (x y z : Int) (hz : (lim z 0 == 0 && (lim z 1 == 0 && (lim z 2 == 0 && lim z 3 == 0))) = true) (w : World) : Calls Tryz.prog 27 #[tv x y z] w fun e w' => e = .returned (.agg #[.int .u64 0, .int .u64 0, .int .u64 0, .int .u64 0, .int .u64 0, .int .u64 0, .int .u64 0, .int .u64 0, .bool true]) ∧ Below w.heap.size w w' := by
  go_enter Tryz.func27, Tryz.ntmps27
  have Ba : Arr (((w.alloc (.cells #[.int .u64 (lim (x) 0), .int .u64 (lim (x) 1), .int .u64 (lim (x) 2), .int .u64 (lim (x) 3), .int .u64 (lim (y) 0), .int .u64 (lim (y) 1), .int .u64 (lim (y) 2), .int .u64 (lim (y) 3), .int .u64 (lim (z) 0), .int .u64 (lim (z) 1), .int .u64 (lim (z) 2), .int .u64 (lim (z) 3)] 49)).alloc (.cells #[.int .u64 0, .int .u64 0, .int .u64 0, .int .u64 0, .int .u64 0, .int .u64 0, .int .u64 0, .int .u64 0, .bool false] 26))) (w.heap.size) 12 (trx (x) (y) (z)) := by refine Arr.mk12 ?_ ?_ ?_ ?_ ?_ ?_ ?_ ?_ ?_ ?_ ?_ ?_ ?_ <;> simp [go_sem, px, sx, zx, trx, trz]
  have Bo : Arr (((w.alloc (.cells #[.int .u64 (lim (x) 0), .int .u64 (lim (x) 1), .int .u64 (lim (x) 2), .int .u64 (lim (x) 3), .int .u64 (lim (y) 0), .int .u64 (lim (y) 1), .int .u64 (lim (y) 2), .int .u64 (lim (y) 3), .int .u64 (lim (z) 0), .int .u64 (lim (z) 1), .int .u64 (lim (z) 2), .int .u64 (lim (z) 3)] 49)).alloc (.cells #[.int .u64 0, .int .u64 0, .int .u64 0, .int .u64 0, .int .u64 0, .int .u64 0, .int .u64 0, .int .u64 0, .bool false] 26))) (w.heap.size + 1) 9 (zx 8) := by refine Arr.mk9p ?_ ?_ ?_ ?_ ?_ ?_ ?_ ?_ ?_ ?_ <;> simp [go_sem, px, sx, zx, trx, trz]
  have hB' : Below w.heap.size w ((w.alloc (.cells #[.int .u64 (lim (x) 0), .int .u64 (lim (x) 1), .int .u64 (lim (x) 2), .int .u64 (lim (x) 3), .int .u64 (lim (y) 0), .int .u64 (lim (y) 1), .int .u64 (lim (y) 2), .int .u64 (lim (y) 3), .int .u64 (lim (z) 0), .int .u64 (lim (z) 1), .int .u64 (lim (z) 2), .int .u64 (lim (z) 3)] 49)).alloc (.cells #[.int .u64 0, .int .u64 0, .int .u64 0, .int .u64 0, .int .u64 0, .int .u64 0, .int .u64 0, .int .u64 0, .bool false] 26)) := by go_grown
  have Aa := Ba
  have Ao := Bo
  have hB := hB'
  clear Ba Bo hB'
  have ca_0 := Aa.cv 0 (by omega) (.int .u64 (lim (x) 0)) rfl
  have ca_1 := Aa.cv 1 (by omega) (.int .u64 (lim (x) 1)) rfl
  have ca_2 := Aa.cv 2 (by omega) (.int .u64 (lim (x) 2)) rfl
  have ca_3 := Aa.cv 3 (by omega) (.int .u64 (lim (x) 3)) rfl
  have ca_4 := Aa.cv 4 (by omega) (.int .u64 (lim (y) 0)) rfl
  have ca_5 := Aa.cv 5 (by omega) (.int .u64 (lim (y) 1)) rfl
  have ca_6 := Aa.cv 6 (by omega) (.int .u64 (lim (y) 2)) rfl
  have ca_7 := Aa.cv 7 (by omega) (.int .u64 (lim (y) 3)) rfl
  have ca_8 := Aa.cv 8 (by omega) (.int .u64 (lim (z) 0)) rfl
  have ca_9 := Aa.cv 9 (by omega) (.int .u64 (lim (z) 1)) rfl
  have ca_10 := Aa.cv 10 (by omega) (.int .u64 (lim (z) 2)) rfl
  have ca_11 := Aa.cv 11 (by omega) (.int .u64 (lim (z) 3)) rfl
  have hS := hB.size
  have co_0 := Ao.cv 0 (by omega) (.int .u64 0) rfl
  have co_1 := Ao.cv 1 (by omega) (.int .u64 0) rfl
  have co_2 := Ao.cv 2 (by omega) (.int .u64 0) rfl
  have co_3 := Ao.cv 3 (by omega) (.int .u64 0) rfl
  have co_4 := Ao.cv 4 (by omega) (.int .u64 0) rfl
  have co_5 := Ao.cv 5 (by omega) (.int .u64 0) rfl
  have co_6 := Ao.cv 6 (by omega) (.int .u64 0) rfl
  have co_7 := Ao.cv 7 (by omega) (.int .u64 0) rfl
  have co_8 := Ao.cv 8 (by omega) (.bool false) rfl
  have zo := Ao.z
  go_wp2_with fail
  refine bodyPost_ret (v := .agg #[.int .u64 0, .int .u64 0, .int .u64 0, .int .u64 0, .int .u64 0, .int .u64 0, .int .u64 0, .int .u64 0, .bool true]) (by simp [results, Tryz.results27, go_sem, co_0, co_1, co_2, co_3, co_4, co_5, co_6, co_7, co_8]) rfl ⟨rfl, ?_⟩
  go_grown
set_option maxHeartbeats 8000000 in
theorem lowered_core (x y z I i2 X i3 Y : Int) (ok : Bool) (hz : (lim z 0 == 0 && (lim z 1 == 0 && (lim z 2 == 0 && lim z 3 == 0))) = false) (w : World)
    (C1 : ∀ W, Calls Tryz.prog 13 #[] W fun e w' => e = .returned (nv pp) ∧ Below W.heap.size W w')
    (C2 : ∀ W, Calls Tryz.prog 50 #[nv z, nv pp] W fun e w' => e = .returned (.tuple #[nv I, .bool ok]) ∧ Below W.heap.size W w')
    (C3 : ∀ W, Calls Tryz.prog 15 #[nv I, nv I] W fun e w' => e = .returned (nv i2) ∧ Below W.heap.size W w')
    (C4 : ∀ W, Calls Tryz.prog 15 #[nv x, nv i2] W fun e w' => e = .returned (nv X) ∧ Below W.heap.size W w')
    (C5 : ∀ W, Calls Tryz.prog 15 #[nv i2, nv I] W fun e w' => e = .returned (nv i3) ∧ Below W.heap.size W w')
    (C6 : ∀ W, Calls Tryz.prog 15 #[nv y, nv i3] W fun e w' => e = .returned (nv Y) ∧ Below W.heap.size W w') :
    Calls Tryz.prog 27 #[tv x y z] w fun e w' => e = .returned (pv X Y false) ∧ Below w.heap.size w w' := by
  go_enter Tryz.func27, Tryz.ntmps27
  have Ba : Arr (((w.alloc (.cells #[.int .u64 (lim (x) 0), .int .u64 (lim (x) 1), .int .u64 (lim (x) 2), .int .u64 (lim (x) 3), .int .u64 (lim (y) 0), .int .u64 (lim (y) 1), .int .u64 (lim (y) 2), .int .u64 (lim (y) 3), .int .u64 (lim (z) 0), .int .u64 (lim (z) 1), .int .u64 (lim (z) 2), .int .u64 (lim (z) 3)] 49)).alloc (.cells #[.int .u64 0, .int .u64 0, .int .u64 0, .int .u64 0, .int .u64 0, .int .u64 0, .int .u64 0, .int .u64 0, .bool false] 26))) (w.heap.size) 12 (trx (x) (y) (z)) := by refine Arr.mk12 ?_ ?_ ?_ ?_ ?_ ?_ ?_ ?_ ?_ ?_ ?_ ?_ ?_ <;> simp [go_sem, px, sx, zx, trx, trz]
  have Bo : Arr (((w.alloc (.cells #[.int .u64 (lim (x) 0), .int .u64 (lim (x) 1), .int .u64 (lim (x) 2), .int .u64 (lim (x) 3), .int .u64 (lim (y) 0), .int .u64 (lim (y) 1), .int .u64 (lim (y) 2), .int .u64 (lim (y) 3), .int .u64 (lim (z) 0), .int .u64 (lim (z) 1), .int .u64 (lim (z) 2), .int .u64 (lim (z) 3)] 49)).alloc (.cells #[.int .u64 0, .int .u64 0, .int .u64 0, .int .u64 0, .int .u64 0, .int .u64 0, .int .u64 0, .int .u64 0, .bool false] 26))) (w.heap.size + 1) 9 (zx 8) := by refine Arr.mk9p ?_ ?_ ?_ ?_ ?_ ?_ ?_ ?_ ?_ ?_ <;> simp [go_sem, px, sx, zx, trx, trz]
  have hB' : Below w.heap.size w ((w.alloc (.cells #[.int .u64 (lim (x) 0), .int .u64 (lim (x) 1), .int .u64 (lim (x) 2), .int .u64 (lim (x) 3), .int .u64 (lim (y) 0), .int .u64 (lim (y) 1), .int .u64 (lim (y) 2), .int .u64 (lim (y) 3), .int .u64 (lim (z) 0), .int .u64 (lim (z) 1), .int .u64 (lim (z) 2), .int .u64 (lim (z) 3)] 49)).alloc (.cells #[.int .u64 0, .int .u64 0, .int .u64 0, .int .u64 0, .int .u64 0, .int .u64 0, .int .u64 0, .int .u64 0, .bool false] 26)) := by go_grown
  have Aa := Ba
  have Ao := Bo
  have hB := hB'
  clear Ba Bo hB'
  have ca_0 := Aa.cv 0 (by omega) (.int .u64 (lim (x) 0)) rfl
  have ca_1 := Aa.cv 1 (by omega) (.int .u64 (lim (x) 1)) rfl
  have ca_2 := Aa.cv 2 (by omega) (.int .u64 (lim (x) 2)) rfl
  have ca_3 := Aa.cv 3 (by omega) (.int .u64 (lim (x) 3)) rfl
  have ca_4 := Aa.cv 4 (by omega) (.int .u64 (lim (y) 0)) rfl
  have ca_5 := Aa.cv 5 (by omega) (.int .u64 (lim (y) 1)) rfl
  have ca_6 := Aa.cv 6 (by omega) (.int .u64 (lim (y) 2)) rfl
  have ca_7 := Aa.cv 7 (by omega) (.int .u64 (lim (y) 3)) rfl
  have ca_8 := Aa.cv 8 (by omega) (.int .u64 (lim (z) 0)) rfl
  have ca_9 := Aa.cv 9 (by omega) (.int .u64 (lim (z) 1)) rfl
  have ca_10 := Aa.cv 10 (by omega) (.int .u64 (lim (z) 2)) rfl
  have ca_11 := Aa.cv 11 (by omega) (.int .u64 (lim (z) 3)) rfl
  go_wp2_with fail
  clear ca_0 ca_1 ca_2 ca_3 ca_4 ca_5 ca_6 ca_7 ca_8 ca_9 ca_10 ca_11
  apply wp_region_pure_tail 4 3 #[true, true, true, true, false, false, false, true, false, false] #[true, true, true, true, true, true, true, false, false, false] (by kernel_rfl) (by intro c d v a w h; cases d <;> exact h) (by kernel_rfl) (by kernel_rfl) (.cells #[.int .u64 0, .int .u64 0, .int .u64 0, .int .u64 0] 24) _ rfl (fun _ _ => by simp [go_sem])
  · intro W hW
    have ra0 := (Arr.to' Aa hW).cg 0 (by omega) (.int .u64 (lim (x) 0)) rfl
    have ra1 := (Arr.to' Aa hW).cg 1 (by omega) (.int .u64 (lim (x) 1)) rfl
    have ra2 := (Arr.to' Aa hW).cg 2 (by omega) (.int .u64 (lim (x) 2)) rfl
    have ra3 := (Arr.to' Aa hW).cg 3 (by omega) (.int .u64 (lim (x) 3)) rfl
    have ra4 := (Arr.to' Aa hW).cg 4 (by omega) (.int .u64 (lim (y) 0)) rfl
    have ra5 := (Arr.to' Aa hW).cg 5 (by omega) (.int .u64 (lim (y) 1)) rfl
    have ra6 := (Arr.to' Aa hW).cg 6 (by omega) (.int .u64 (lim (y) 2)) rfl
    have ra7 := (Arr.to' Aa hW).cg 7 (by omega) (.int .u64 (lim (y) 3)) rfl
    have ra8 := (Arr.to' Aa hW).cg 8 (by omega) (.int .u64 (lim (z) 0)) rfl
    have ra9 := (Arr.to' Aa hW).cg 9 (by omega) (.int .u64 (lim (z) 1)) rfl
    have ra10 := (Arr.to' Aa hW).cg 10 (by omega) (.int .u64 (lim (z) 2)) rfl
    have ra11 := (Arr.to' Aa hW).cg 11 (by omega) (.int .u64 (lim (z) 3)) rfl
    simp only [List.take_succ_cons, List.take_zero]
    repeat (go_big_quiet_step (first | (go_at_call 13; with_reducible first | exact Calls.regrown_of (C1 _)) | (go_at_call 50; with_reducible first | exact Calls.regrown_of (C2 _)) | (go_at_call 15; with_reducible first | exact Calls.regrown_of (C3 _) | exact Calls.regrown_of (C4 _) | exact Calls.regrown_of (C5 _) | exact Calls.regrown_of (C6 _))))
    exact wpQuiet_nil rfl
  · exact ⟨_, Or.inl ⟨rfl, fun _ => rfl⟩, ⟨_, Or.inl ⟨rfl, fun _ => rfl⟩, ⟨_, Or.inl ⟨rfl, fun _ => rfl⟩, rfl⟩⟩⟩
  · intro v; exact ⟨_, Or.inl ⟨rfl, fun _ => rfl⟩, ⟨_, Or.inl ⟨rfl, fun _ => rfl⟩, ⟨_, Or.inl ⟨rfl, fun _ => rfl⟩, rfl⟩⟩⟩
  intro v1 w11 hb1 hb2
  simp only [List.drop_succ_cons, List.drop_zero, Act.put, List.setIfInBounds_toArray, List.set_cons_succ, List.set_cons_zero]
  have Ea := Arr.to' Aa hb1
  have la_v1 := Ea.lt
  have Ba := Arr.to' (Arr.al' Ea (.cells #[.int .u64 0, .int .u64 0, .int .u64 0, .int .u64 0] 24)) hb2
  have Eo := Arr.to' Ao hb1
  have lo_v1 := Eo.lt
  have Bo := Arr.to' (Arr.al' Eo (.cells #[.int .u64 0, .int .u64 0, .int .u64 0, .int .u64 0] 24)) hb2
  have Bi := (Arr.mk4 (w := (v1.alloc (.cells #[.int .u64 0, .int .u64 0, .int .u64 0, .int .u64 0] 24))) (f := fun _ => .int .u64 0) (b := v1.heap.size) (by simp [go_sem]) (by simp [go_sem]) (by simp [go_sem]) (by simp [go_sem]) (by simp [go_sem]) (by simp [go_sem]) (by simp [go_sem]) (by simp [go_sem])).below hb2 (by go_size)
  have lB_v1 := (Bel.call hB hb1).size
  have hB' := Bel.call (Bel.al (Bel.call hB hb1) (.cells #[.int .u64 0, .int .u64 0, .int .u64 0, .int .u64 0] 24)) hb2
  clear hb1 hb2 Ea Eo Aa Ao hB
  have Aa := Ba
  have Ao := Bo
  have Ai := Bi
  have hB := hB'
  clear Ba Bo Bi hB'
  have ci := Ai.c
  have zi := Ai.z
  have Ba := Arr.st4o (b' := v1.heap.size) Aa (by have := Aa.lt; have := Ai.lt; omega) (I)
  have Bo := Arr.st4o (b' := v1.heap.size) Ao (by have := Ao.lt; have := Ai.lt; omega) (I)
  have Bi := Arr.st4 Ai (I)
  have hB' := Bel.st4 hB (b := v1.heap.size) (by have := hB.size; omega) (I)
  clear Aa Ao Ai hB
  have Aa := Ba
  have Ao := Bo
  have Ai := Bi
  have hB := hB'
  clear Ba Bo Bi hB'
  have ci := Ai.c
  go_wp2_with fail
  refine (C3 _).mono ?_
  rintro e w12 ⟨rfl, hb⟩
  have Ba := Arr.to' Aa hb
  have Bo := Arr.to' Ao hb
  have Bi := Arr.to' Ai hb
  have hB' := Bel.call hB hb
  clear hb ci zi Aa Ao Ai hB
  have Aa := Ba
  have Ao := Bo
  have Ai := Bi
  have hB := hB'
  clear Ba Bo Bi hB'
  have la_2 := Aa.lt
  have lo_2 := Ao.lt
  have li_2 := Ai.lt
  have lB_2 := hB.size
  have Ba := (Arr.al' Aa (.cells #[.int .u64 (lim (i2) 0), .int .u64 (lim (i2) 1), .int .u64 (lim (i2) 2), .int .u64 (lim (i2) 3)] 24))
  have Bo := (Arr.al' Ao (.cells #[.int .u64 (lim (i2) 0), .int .u64 (lim (i2) 1), .int .u64 (lim (i2) 2), .int .u64 (lim (i2) 3)] 24))
  have Bi := (Arr.al' Ai (.cells #[.int .u64 (lim (i2) 0), .int .u64 (lim (i2) 1), .int .u64 (lim (i2) 2), .int .u64 (lim (i2) 3)] 24))
  have Bq : Arr ((w12.alloc (.cells #[.int .u64 (lim (i2) 0), .int .u64 (lim (i2) 1), .int .u64 (lim (i2) 2), .int .u64 (lim (i2) 3)] 24))) (w12.heap.size) 4 (fun j => .int .u64 (lim (i2) j)) := by refine Arr.mk4 ?_ ?_ ?_ ?_ ?_ ?_ ?_ ?_ <;> simp [go_sem]
  have hB' := (Bel.al hB (.cells #[.int .u64 (lim (i2) 0), .int .u64 (lim (i2) 1), .int .u64 (lim (i2) 2), .int .u64 (lim (i2) 3)] 24))
  clear Aa Ao Ai hB
  have Aa := Ba
  have Ao := Bo
  have Ai := Bi
  have Aq := Bq
  have hB := hB'
  clear Ba Bo Bi Bq hB'
  have ra0 := Aa.cg 0 (by omega) (.int .u64 (lim (x) 0)) rfl
  have ra1 := Aa.cg 1 (by omega) (.int .u64 (lim (x) 1)) rfl
  have ra2 := Aa.cg 2 (by omega) (.int .u64 (lim (x) 2)) rfl
  have ra3 := Aa.cg 3 (by omega) (.int .u64 (lim (x) 3)) rfl
  have ra4 := Aa.cg 4 (by omega) (.int .u64 (lim (y) 0)) rfl
  have ra5 := Aa.cg 5 (by omega) (.int .u64 (lim (y) 1)) rfl
  have ra6 := Aa.cg 6 (by omega) (.int .u64 (lim (y) 2)) rfl
  have ra7 := Aa.cg 7 (by omega) (.int .u64 (lim (y) 3)) rfl
  have ra8 := Aa.cg 8 (by omega) (.int .u64 (lim (z) 0)) rfl
  have ra9 := Aa.cg 9 (by omega) (.int .u64 (lim (z) 1)) rfl
  have ra10 := Aa.cg 10 (by omega) (.int .u64 (lim (z) 2)) rfl
  have ra11 := Aa.cg 11 (by omega) (.int .u64 (lim (z) 3)) rfl
  have rq0 := fun ds os => cell_regrown (Aq.c 0 (by omega)) ds os
  have rq1 := fun ds os => cell_regrown (Aq.c 1 (by omega)) ds os
  have rq2 := fun ds os => cell_regrown (Aq.c 2 (by omega)) ds os
  have rq3 := fun ds os => cell_regrown (Aq.c 3 (by omega)) ds os
  have ri0 := fun ds os => cell_regrown (Ai.c 0 (by omega)) ds os
  have ri1 := fun ds os => cell_regrown (Ai.c 1 (by omega)) ds os
  have ri2 := fun ds os => cell_regrown (Ai.c 2 (by omega)) ds os
  have ri3 := fun ds os => cell_regrown (Ai.c 3 (by omega)) ds os
  go_wp2_with fail
  refine wp_region_below_tail 11 (by kernel_rfl) (by kernel_rfl) ?_
  simp only [List.take_succ_cons, List.take_zero, List.drop_succ_cons, List.drop_zero]
  repeat (go_big_quiet_step (first | (go_at_call 13; with_reducible first | exact Calls.regrown_of (C1 _)) | (go_at_call 50; with_reducible first | exact Calls.regrown_of (C2 _)) | (go_at_call 15; with_reducible first | exact Calls.regrown_of (C3 _) | exact Calls.regrown_of (C4 _) | exact Calls.regrown_of (C5 _) | exact Calls.regrown_of (C6 _))))
  refine wpQuiet_nil ?_
  intro w3 hw'
  obtain ⟨⟨dq, osq⟩, hw''⟩ := hw'
  have hb := below_of hw''
  clear hw''
  have Bo := Arr.to' Ao hb
  have hB' := Bel.call hB hb
  clear hb ra0 ra1 ra2 ra3 ra4 ra5 ra6 ra7 ra8 ra9 ra10 ra11 rq0 rq1 rq2 rq3 ri0 ri1 ri2 ri3 Aa Ao Ai Aq hB
  have Ao := Bo
  have hB := hB'
  clear Bo hB'
  have hS := hB.size
  have co_0 := Ao.cv 0 (by omega) (.int .u64 0) rfl
  have co_1 := Ao.cv 1 (by omega) (.int .u64 0) rfl
  have co_2 := Ao.cv 2 (by omega) (.int .u64 0) rfl
  have co_3 := Ao.cv 3 (by omega) (.int .u64 0) rfl
  have co_4 := Ao.cv 4 (by omega) (.int .u64 0) rfl
  have co_5 := Ao.cv 5 (by omega) (.int .u64 0) rfl
  have co_6 := Ao.cv 6 (by omega) (.int .u64 0) rfl
  have co_7 := Ao.cv 7 (by omega) (.int .u64 0) rfl
  have co_8 := Ao.cv 8 (by omega) (.bool false) rfl
  have zo := Ao.z
  go_wp2_with fail
  refine bodyPost_ret (v := pv X Y false) (by simp [results, Tryz.results27, go_sem, co_0, co_1, co_2, co_3, co_4, co_5, co_6, co_7, co_8]) rfl ⟨rfl, ?_⟩
  go_grown
set_option maxHeartbeats 8000000 in
theorem slope_line (X Y U V d I f T : Int) (i k ok : Bool) (hx : (lim X 0 == lim U 0 && (lim X 1 == lim U 1 && (lim X 2 == lim U 2 && lim X 3 == lim U 3))) = false) (w : World)
    (C1 : ∀ W, Calls Tryz.prog 16 #[nv U, nv X] W fun e w' => e = .returned (nv d) ∧ Below W.heap.size W w')
    (C2 : ∀ W, Calls Tryz.prog 13 #[] W fun e w' => e = .returned (nv pp) ∧ Below W.heap.size W w')
    (C3 : ∀ W, Calls Tryz.prog 50 #[nv d, nv pp] W fun e w' => e = .returned (.tuple #[nv I, .bool ok]) ∧ Below W.heap.size W w')
    (C4 : ∀ W, Calls Tryz.prog 16 #[nv V, nv Y] W fun e w' => e = .returned (nv f) ∧ Below W.heap.size W w')
    (C5 : ∀ W, Calls Tryz.prog 15 #[nv f, nv I] W fun e w' => e = .returned (nv T) ∧ Below W.heap.size W w') :
    Calls Tryz.prog 26 #[pv X Y i, pv U V k] w fun e w' => e = .returned (.tuple #[nv T, .bool true]) ∧ Below w.heap.size w w' := by
  go_enter Tryz.func26, Tryz.ntmps26
  have Ba : Arr ((((w.alloc (.cells #[.int .u64 (lim (X) 0), .int .u64 (lim (X) 1), .int .u64 (lim (X) 2), .int .u64 (lim (X) 3), .int .u64 (lim (Y) 0), .int .u64 (lim (Y) 1), .int .u64 (lim (Y) 2), .int .u64 (lim (Y) 3), .bool i] 26)).alloc (.cells #[.int .u64 (lim (U) 0), .int .u64 (lim (U) 1), .int .u64 (lim (U) 2), .int .u64 (lim (U) 3), .int .u64 (lim (V) 0), .int .u64 (lim (V) 1), .int .u64 (lim (V) 2), .int .u64 (lim (V) 3), .bool k] 26)).alloc (.cells #[.int .u64 0, .int .u64 0, .int .u64 0, .int .u64 0] 24))) (w.heap.size) 9 (px (X) (Y) i) := by refine Arr.mk9p ?_ ?_ ?_ ?_ ?_ ?_ ?_ ?_ ?_ ?_ <;> simp [go_sem, px, sx, zx, trx, trz]
  have Bb : Arr ((((w.alloc (.cells #[.int .u64 (lim (X) 0), .int .u64 (lim (X) 1), .int .u64 (lim (X) 2), .int .u64 (lim (X) 3), .int .u64 (lim (Y) 0), .int .u64 (lim (Y) 1), .int .u64 (lim (Y) 2), .int .u64 (lim (Y) 3), .bool i] 26)).alloc (.cells #[.int .u64 (lim (U) 0), .int .u64 (lim (U) 1), .int .u64 (lim (U) 2), .int .u64 (lim (U) 3), .int .u64 (lim (V) 0), .int .u64 (lim (V) 1), .int .u64 (lim (V) 2), .int .u64 (lim (V) 3), .bool k] 26)).alloc (.cells #[.int .u64 0, .int .u64 0, .int .u64 0, .int .u64 0] 24))) (w.heap.size + 1) 9 (px (U) (V) k) := by refine Arr.mk9p ?_ ?_ ?_ ?_ ?_ ?_ ?_ ?_ ?_ ?_ <;> simp [go_sem, px, sx, zx, trx, trz]
  have Bo : Arr ((((w.alloc (.cells #[.int .u64 (lim (X) 0), .int .u64 (lim (X) 1), .int .u64 (lim (X) 2), .int .u64 (lim (X) 3), .int .u64 (lim (Y) 0), .int .u64 (lim (Y) 1), .int .u64 (lim (Y) 2), .int .u64 (lim (Y) 3), .bool i] 26)).alloc (.cells #[.int .u64 (lim (U) 0), .int .u64 (lim (U) 1), .int .u64 (lim (U) 2), .int .u64 (lim (U) 3), .int .u64 (lim (V) 0), .int .u64 (lim (V) 1), .int .u64 (lim (V) 2), .int .u64 (lim (V) 3), .bool k] 26)).alloc (.cells #[.int .u64 0, .int .u64 0, .int .u64 0, .int .u64 0] 24))) (w.heap.size + 1 + 1) 4 (fun _ => .int .u64 0) := by refine Arr.mk4 ?_ ?_ ?_ ?_ ?_ ?_ ?_ ?_ <;> simp [go_sem]
  have hB' : Below w.heap.size w (((w.alloc (.cells #[.int .u64 (lim (X) 0), .int .u64 (lim (X) 1), .int .u64 (lim (X) 2), .int .u64 (lim (X) 3), .int .u64 (lim (Y) 0), .int .u64 (lim (Y) 1), .int .u64 (lim (Y) 2), .int .u64 (lim (Y) 3), .bool i] 26)).alloc (.cells #[.int .u64 (lim (U) 0), .int .u64 (lim (U) 1), .int .u64 (lim (U) 2), .int .u64 (lim (U) 3), .int .u64 (lim (V) 0), .int .u64 (lim (V) 1), .int .u64 (lim (V) 2), .int .u64 (lim (V) 3), .bool k] 26)).alloc (.cells #[.int .u64 0, .int .u64 0, .int .u64 0, .int .u64 0] 24)) := by go_grown
  have Aa := Ba
  have Ab := Bb
  have Ao := Bo
  have hB := hB'
  clear Ba Bb Bo hB'
  have ca_0 := Aa.cv 0 (by omega) (.int .u64 (lim (X) 0)) rfl
  have ca_1 := Aa.cv 1 (by omega) (.int .u64 (lim (X) 1)) rfl
  have ca_2 := Aa.cv 2 (by omega) (.int .u64 (lim (X) 2)) rfl
  have ca_3 := Aa.cv 3 (by omega) (.int .u64 (lim (X) 3)) rfl
  have ca_4 := Aa.cv 4 (by omega) (.int .u64 (lim (Y) 0)) rfl
  have ca_5 := Aa.cv 5 (by omega) (.int .u64 (lim (Y) 1)) rfl
  have ca_6 := Aa.cv 6 (by omega) (.int .u64 (lim (Y) 2)) rfl
  have ca_7 := Aa.cv 7 (by omega) (.int .u64 (lim (Y) 3)) rfl
  have ca_8 := Aa.cv 8 (by omega) (.bool i) rfl
  have cb_0 := Ab.cv 0 (by omega) (.int .u64 (lim (U) 0)) rfl
  have cb_1 := Ab.cv 1 (by omega) (.int .u64 (lim (U) 1)) rfl
  have cb_2 := Ab.cv 2 (by omega) (.int .u64 (lim (U) 2)) rfl
  have cb_3 := Ab.cv 3 (by omega) (.int .u64 (lim (U) 3)) rfl
  have cb_4 := Ab.cv 4 (by omega) (.int .u64 (lim (V) 0)) rfl
  have cb_5 := Ab.cv 5 (by omega) (.int .u64 (lim (V) 1)) rfl
  have cb_6 := Ab.cv 6 (by omega) (.int .u64 (lim (V) 2)) rfl
  have cb_7 := Ab.cv 7 (by omega) (.int .u64 (lim (V) 3)) rfl
  have cb_8 := Ab.cv 8 (by omega) (.bool k) rfl
  go_wp2_with fail
  refine (C1 _).mono ?_
  rintro e w11 ⟨rfl, hb⟩
  have Ba := Arr.to' Aa hb
  have Bb := Arr.to' Ab hb
  have Bo := Arr.to' Ao hb
  have hB' := Bel.call hB hb
  clear hb ca_0 ca_1 ca_2 ca_3 ca_4 ca_5 ca_6 ca_7 ca_8 cb_0 cb_1 cb_2 cb_3 cb_4 cb_5 cb_6 cb_7 cb_8 Aa Ab Ao hB
  have Aa := Ba
  have Ab := Bb
  have Ao := Bo
  have hB := hB'
  clear Ba Bb Bo hB'
  go_wp2_with fail
  refine (C2 _).mono ?_
  rintro e w12 ⟨rfl, hb⟩
  have Ba := Arr.to' Aa hb
  have Bb := Arr.to' Ab hb
  have Bo := Arr.to' Ao hb
  have hB' := Bel.call hB hb
  clear hb Aa Ab Ao hB
  have Aa := Ba
  have Ab := Bb
  have Ao := Bo
  have hB := hB'
  clear Ba Bb Bo hB'
  go_wp2_with fail
  refine (C3 _).mono ?_
  rintro e w13 ⟨rfl, hb⟩
  have Ba := Arr.to' Aa hb
  have Bb := Arr.to' Ab hb
  have Bo := Arr.to' Ao hb
  have hB' := Bel.call hB hb
  clear hb Aa Ab Ao hB
  have Aa := Ba
  have Ab := Bb
  have Ao := Bo
  have hB := hB'
  clear Ba Bb Bo hB'
  have la_2 := Aa.lt
  have lb_2 := Ab.lt
  have lo_2 := Ao.lt
  have lB_2 := hB.size
  have Ba := (Arr.al' Aa (.cells #[.int .u64 (lim (I) 0), .int .u64 (lim (I) 1), .int .u64 (lim (I) 2), .int .u64 (lim (I) 3)] 24))
  have Bb := (Arr.al' Ab (.cells #[.int .u64 (lim (I) 0), .int .u64 (lim (I) 1), .int .u64 (lim (I) 2), .int .u64 (lim (I) 3)] 24))
  have Bo := (Arr.al' Ao (.cells #[.int .u64 (lim (I) 0), .int .u64 (lim (I) 1), .int .u64 (lim (I) 2), .int .u64 (lim (I) 3)] 24))
  have Bt : Arr ((w13.alloc (.cells #[.int .u64 (lim (I) 0), .int .u64 (lim (I) 1), .int .u64 (lim (I) 2), .int .u64 (lim (I) 3)] 24))) (w13.heap.size) 4 (fun j => .int .u64 (lim (I) j)) := by refine Arr.mk4 ?_ ?_ ?_ ?_ ?_ ?_ ?_ ?_ <;> simp [go_sem]
  have hB' := (Bel.al hB (.cells #[.int .u64 (lim (I) 0), .int .u64 (lim (I) 1), .int .u64 (lim (I) 2), .int .u64 (lim (I) 3)] 24))
  clear Aa Ab Ao hB
  have Aa := Ba
  have Ab := Bb
  have Ao := Bo
  have At := Bt
  have hB := hB'
  clear Ba Bb Bo Bt hB'
  have ra0 := Aa.cg 0 (by omega) (.int .u64 (lim (X) 0)) rfl
  have ra1 := Aa.cg 1 (by omega) (.int .u64 (lim (X) 1)) rfl
  have ra2 := Aa.cg 2 (by omega) (.int .u64 (lim (X) 2)) rfl
  have ra3 := Aa.cg 3 (by omega) (.int .u64 (lim (X) 3)) rfl
  have ra4 := Aa.cg 4 (by omega) (.int .u64 (lim (Y) 0)) rfl
  have ra5 := Aa.cg 5 (by omega) (.int .u64 (lim (Y) 1)) rfl
  have ra6 := Aa.cg 6 (by omega) (.int .u64 (lim (Y) 2)) rfl
  have ra7 := Aa.cg 7 (by omega) (.int .u64 (lim (Y) 3)) rfl
  have ra8 := Aa.cg 8 (by omega) (.bool i) rfl
  have rb0 := Ab.cg 0 (by omega) (.int .u64 (lim (U) 0)) rfl
  have rb1 := Ab.cg 1 (by omega) (.int .u64 (lim (U) 1)) rfl
  have rb2 := Ab.cg 2 (by omega) (.int .u64 (lim (U) 2)) rfl
  have rb3 := Ab.cg 3 (by omega) (.int .u64 (lim (U) 3)) rfl
  have rb4 := Ab.cg 4 (by omega) (.int .u64 (lim (V) 0)) rfl
  have rb5 := Ab.cg 5 (by omega) (.int .u64 (lim (V) 1)) rfl
  have rb6 := Ab.cg 6 (by omega) (.int .u64 (lim (V) 2)) rfl
  have rb7 := Ab.cg 7 (by omega) (.int .u64 (lim (V) 3)) rfl
  have rb8 := Ab.cg 8 (by omega) (.bool k) rfl
  have rt0 := fun ds os => cell_regrown (At.c 0 (by omega)) ds os
  have rt1 := fun ds os => cell_regrown (At.c 1 (by omega)) ds os
  have rt2 := fun ds os => cell_regrown (At.c 2 (by omega)) ds os
  have rt3 := fun ds os => cell_regrown (At.c 3 (by omega)) ds os
  go_wp2_with fail
  refine wp_region_below_tail 7 (by kernel_rfl) (by kernel_rfl) ?_
  simp only [List.take_succ_cons, List.take_zero, List.drop_succ_cons, List.drop_zero]
  repeat (go_big_quiet_step (first | (go_at_call 16; with_reducible first | exact Calls.regrown_of (C4 _)) | (go_at_call 15; with_reducible first | exact Calls.regrown_of (C5 _))))
  refine wpQuiet_nil ?_
  intro w4 hw'
  obtain ⟨⟨dq, osq⟩, hw''⟩ := hw'
  have hb := below_of hw''
  clear hw''
  have Bo := Arr.to' Ao hb
  have hB' := Bel.call hB hb
  clear hb ra0 ra1 ra2 ra3 ra4 ra5 ra6 ra7 ra8 rb0 rb1 rb2 rb3 rb4 rb5 rb6 rb7 rb8 rt0 rt1 rt2 rt3 Aa Ab Ao At hB
  have Ao := Bo
  have hB := hB'
  clear Bo hB'
  have hS := hB.size
  have co := Ao.c
  have zo := Ao.z
  go_wp2_with fail
  refine bodyPost_ret (v := .tuple #[nv T, .bool true]) (by simp [results, Tryz.results26, go_sem, co]) rfl ⟨rfl, ?_⟩
  go_grown
set_option maxHeartbeats 8000000 in
theorem slope_none (X Y U V n : Int) (i k : Bool) (hx : (lim X 0 == lim U 0 && (lim X 1 == lim U 1 && (lim X 2 == lim U 2 && lim X 3 == lim U 3))) = true) (hn : (lim n 0 == 0 && (lim n 1 == 0 && (lim n 2 == 0 && lim n 3 == 0))) = true) (w : World)
    (C1 : ∀ W, Calls Tryz.prog 14 #[nv Y, nv V] W fun e w' => e = .returned (nv n) ∧ Below W.heap.size W w') :
    Calls Tryz.prog 26 #[pv X Y i, pv U V k] w fun e w' => e = .returned (.tuple #[.agg #[.int .u64 0, .int .u64 0, .int .u64 0, .int .u64 0], .bool false]) ∧ Below w.heap.size w w' := by
  go_enter Tryz.func26, Tryz.ntmps26
  have Ba : Arr ((((w.alloc (.cells #[.int .u64 (lim (X) 0), .int .u64 (lim (X) 1), .int .u64 (lim (X) 2), .int .u64 (lim (X) 3), .int .u64 (lim (Y) 0), .int .u64 (lim (Y) 1), .int .u64 (lim (Y) 2), .int .u64 (lim (Y) 3), .bool i] 26)).alloc (.cells #[.int .u64 (lim (U) 0), .int .u64 (lim (U) 1), .int .u64 (lim (U) 2), .int .u64 (lim (U) 3), .int .u64 (lim (V) 0), .int .u64 (lim (V) 1), .int .u64 (lim (V) 2), .int .u64 (lim (V) 3), .bool k] 26)).alloc (.cells #[.int .u64 0, .int .u64 0, .int .u64 0, .int .u64 0] 24))) (w.heap.size) 9 (px (X) (Y) i) := by refine Arr.mk9p ?_ ?_ ?_ ?_ ?_ ?_ ?_ ?_ ?_ ?_ <;> simp [go_sem, px, sx, zx, trx, trz]
  have Bb : Arr ((((w.alloc (.cells #[.int .u64 (lim (X) 0), .int .u64 (lim (X) 1), .int .u64 (lim (X) 2), .int .u64 (lim (X) 3), .int .u64 (lim (Y) 0), .int .u64 (lim (Y) 1), .int .u64 (lim (Y) 2), .int .u64 (lim (Y) 3), .bool i] 26)).alloc (.cells #[.int .u64 (lim (U) 0), .int .u64 (lim (U) 1), .int .u64 (lim (U) 2), .int .u64 (lim (U) 3), .int .u64 (lim (V) 0), .int .u64 (lim (V) 1), .int .u64 (lim (V) 2), .int .u64 (lim (V) 3), .bool k] 26)).alloc (.cells #[.int .u64 0, .int .u64 0, .int .u64 0, .int .u64 0] 24))) (w.heap.size + 1) 9 (px (U) (V) k) := by refine Arr.mk9p ?_ ?_ ?_ ?_ ?_ ?_ ?_ ?_ ?_ ?_ <;> simp [go_sem, px, sx, zx, trx, trz]
  have Bo : Arr ((((w.alloc (.cells #[.int .u64 (lim (X) 0), .int .u64 (lim (X) 1), .int .u64 (lim (X) 2), .int .u64 (lim (X) 3), .int .u64 (lim (Y) 0), .int .u64 (lim (Y) 1), .int .u64 (lim (Y) 2), .int .u64 (lim (Y) 3), .bool i] 26)).alloc (.cells #[.int .u64 (lim (U) 0), .int .u64 (lim (U) 1), .int .u64 (lim (U) 2), .int .u64 (lim (U) 3), .int .u64 (lim (V) 0), .int .u64 (lim (V) 1), .int .u64 (lim (V) 2), .int .u64 (lim (V) 3), .bool k] 26)).alloc (.cells #[.int .u64 0, .int .u64 0, .int .u64 0, .int .u64 0] 24))) (w.heap.size + 1 + 1) 4 (fun _ => .int .u64 0) := by refine Arr.mk4 ?_ ?_ ?_ ?_ ?_ ?_ ?_ ?_ <;> simp [go_sem]
  have hB' : Below w.heap.size w (((w.alloc (.cells #[.int .u64 (lim (X) 0), .int .u64 (lim (X) 1), .int .u64 (lim (X) 2), .int .u64 (lim (X) 3), .int .u64 (lim (Y) 0), .int .u64 (lim (Y) 1), .int .u64 (lim (Y) 2), .int .u64 (lim (Y) 3), .bool i] 26)).alloc (.cells #[.int .u64 (lim (U) 0), .int .u64 (lim (U) 1), .int .u64 (lim (U) 2), .int .u64 (lim (U) 3), .int .u64 (lim (V) 0), .int .u64 (lim (V) 1), .int .u64 (lim (V) 2), .int .u64 (lim (V) 3), .bool k] 26)).alloc (.cells #[.int .u64 0, .int .u64 0, .int .u64 0, .int .u64 0] 24)) := by go_grown
  have Aa := Ba
  have Ab := Bb
  have Ao := Bo
  have hB := hB'
  clear Ba Bb Bo hB'
  have ca_0 := Aa.cv 0 (by omega) (.int .u64 (lim (X) 0)) rfl
  have ca_1 := Aa.cv 1 (by omega) (.int .u64 (lim (X) 1)) rfl
  have ca_2 := Aa.cv 2 (by omega) (.int .u64 (lim (X) 2)) rfl
  have ca_3 := Aa.cv 3 (by omega) (.int .u64 (lim (X) 3)) rfl
  have ca_4 := Aa.cv 4 (by omega) (.int .u64 (lim (Y) 0)) rfl
  have ca_5 := Aa.cv 5 (by omega) (.int .u64 (lim (Y) 1)) rfl
  have ca_6 := Aa.cv 6 (by omega) (.int .u64 (lim (Y) 2)) rfl
  have ca_7 := Aa.cv 7 (by omega) (.int .u64 (lim (Y) 3)) rfl
  have ca_8 := Aa.cv 8 (by omega) (.bool i) rfl
  have cb_0 := Ab.cv 0 (by omega) (.int .u64 (lim (U) 0)) rfl
  have cb_1 := Ab.cv 1 (by omega) (.int .u64 (lim (U) 1)) rfl
  have cb_2 := Ab.cv 2 (by omega) (.int .u64 (lim (U) 2)) rfl
  have cb_3 := Ab.cv 3 (by omega) (.int .u64 (lim (U) 3)) rfl
  have cb_4 := Ab.cv 4 (by omega) (.int .u64 (lim (V) 0)) rfl
  have cb_5 := Ab.cv 5 (by omega) (.int .u64 (lim (V) 1)) rfl
  have cb_6 := Ab.cv 6 (by omega) (.int .u64 (lim (V) 2)) rfl
  have cb_7 := Ab.cv 7 (by omega) (.int .u64 (lim (V) 3)) rfl
  have cb_8 := Ab.cv 8 (by omega) (.bool k) rfl
  go_wp2_with fail
  refine (C1 _).mono ?_
  rintro e w11 ⟨rfl, hb⟩
  have Ba := Arr.to' Aa hb
  have Bb := Arr.to' Ab hb
  have Bo := Arr.to' Ao hb
  have hB' := Bel.call hB hb
  clear hb ca_0 ca_1 ca_2 ca_3 ca_4 ca_5 ca_6 ca_7 ca_8 cb_0 cb_1 cb_2 cb_3 cb_4 cb_5 cb_6 cb_7 cb_8 Aa Ab Ao hB
  have Aa := Ba
  have Ab := Bb
  have Ao := Bo
  have hB := hB'
  clear Ba Bb Bo hB'
  have hS := hB.size
  have co := Ao.c
  have zo := Ao.z
  go_wp2_with fail
  refine bodyPost_ret (v := .tuple #[.agg #[.int .u64 0, .int .u64 0, .int .u64 0, .int .u64 0], .bool false]) (by simp [results, Tryz.results26, go_sem, co]) rfl ⟨rfl, ?_⟩
  go_grown
set_option maxHeartbeats 8000000 in
theorem slope_tan (X Y U V n d I x2 c m T : Int) (i k ok : Bool) (hx : (lim X 0 == lim U 0 && (lim X 1 == lim U 1 && (lim X 2 == lim U 2 && lim X 3 == lim U 3))) = true) (hn : (lim n 0 == 0 && (lim n 1 == 0 && (lim n 2 == 0 && lim n 3 == 0))) = false) (w : World)
    (C1 : ∀ W, Calls Tryz.prog 14 #[nv Y, nv V] W fun e w' => e = .returned (nv n) ∧ Below W.heap.size W w')
    (C2 : ∀ W, Calls Tryz.prog 14 #[nv Y, nv Y] W fun e w' => e = .returned (nv d) ∧ Below W.heap.size W w')
    (C3 : ∀ W, Calls Tryz.prog 13 #[] W fun e w' => e = .returned (nv pp) ∧ Below W.heap.size W w')
    (C4 : ∀ W, Calls Tryz.prog 50 #[nv d, nv pp] W fun e w' => e = .returned (.tuple #[nv I, .bool ok]) ∧ Below W.heap.size W w')
    (C5 : ∀ W, Calls Tryz.prog 15 #[nv X, nv X] W fun e w' => e = .returned (nv x2) ∧ Below W.heap.size W w')
    (C6 : ∀ W, Calls Tryz.prog 16 #[nv x2, .agg #[.int .u64 1, .int .u64 0, .int .u64 0, .int .u64 0]] W fun e w' => e = .returned (nv c) ∧ Below W.heap.size W w')
    (C7 : ∀ W, Calls Tryz.prog 15 #[.agg #[.int .u64 3, .int .u64 0, .int .u64 0, .int .u64 0], nv c] W fun e w' => e = .returned (nv m) ∧ Below W.heap.size W w')
    (C8 : ∀ W, Calls Tryz.prog 15 #[nv m, nv I] W fun e w' => e = .returned (nv T) ∧ Below W.heap.size W w') :
    Calls Tryz.prog 26 #[pv X Y i, pv U V k] w fun e w' => e = .returned (.tuple #[nv T, .bool true]) ∧ Below w.heap.size w w' := by
  go_enter Tryz.func26, Tryz.ntmps26
  have Ba : Arr ((((w.alloc (.cells #[.int .u64 (lim (X) 0), .int .u64 (lim (X) 1), .int .u64 (lim (X) 2), .int .u64 (lim (X) 3), .int .u64 (lim (Y) 0), .int .u64 (lim (Y) 1), .int .u64 (lim (Y) 2), .int .u64 (lim (Y) 3), .bool i] 26)).alloc (.cells #[.int .u64 (lim (U) 0), .int .u64 (lim (U) 1), .int .u64 (lim (U) 2), .int .u64 (lim (U) 3), .int .u64 (lim (V) 0), .int .u64 (lim (V) 1), .int .u64 (lim (V) 2), .int .u64 (lim (V) 3), .bool k] 26)).alloc (.cells #[.int .u64 0, .int .u64 0, .int .u64 0, .int .u64 0] 24))) (w.heap.size) 9 (px (X) (Y) i) := by refine Arr.mk9p ?_ ?_ ?_ ?_ ?_ ?_ ?_ ?_ ?_ ?_ <;> simp [go_sem, px, sx, zx, trx, trz]
  have Bb : Arr ((((w.alloc (.cells #[.int .u64 (lim (X) 0), .int .u64 (lim (X) 1), .int .u64 (lim (X) 2), .int .u64 (lim (X) 3), .int .u64 (lim (Y) 0), .int .u64 (lim (Y) 1), .int .u64 (lim (Y) 2), .int .u64 (lim (Y) 3), .bool i] 26)).alloc (.cells #[.int .u64 (lim (U) 0), .int .u64 (lim (U) 1), .int .u64 (lim (U) 2), .int .u64 (lim (U) 3), .int .u64 (lim (V) 0), .int .u64 (lim (V) 1), .int .u64 (lim (V) 2), .int .u64 (lim (V) 3), .bool k] 26)).alloc (.cells #[.int .u64 0, .int .u64 0, .int .u64 0, .int .u64 0] 24))) (w.heap.size + 1) 9 (px (U) (V) k) := by refine Arr.mk9p ?_ ?_ ?_ ?_ ?_ ?_ ?_ ?_ ?_ ?_ <;> simp [go_sem, px, sx, zx, trx, trz]
  have Bo : Arr ((((w.alloc (.cells #[.int .u64 (lim (X) 0), .int .u64 (lim (X) 1), .int .u64 (lim (X) 2), .int .u64 (lim (X) 3), .int .u64 (lim (Y) 0), .int .u64 (lim (Y) 1), .int .u64 (lim (Y) 2), .int .u64 (lim (Y) 3), .bool i] 26)).alloc (.cells #[.int .u64 (lim (U) 0), .int .u64 (lim (U) 1), .int .u64 (lim (U) 2), .int .u64 (lim (U) 3), .int .u64 (lim (V) 0), .int .u64 (lim (V) 1), .int .u64 (lim (V) 2), .int .u64 (lim (V) 3), .bool k] 26)).alloc (.cells #[.int .u64 0, .int .u64 0, .int .u64 0, .int .u64 0] 24))) (w.heap.size + 1 + 1) 4 (fun _ => .int .u64 0) := by refine Arr.mk4 ?_ ?_ ?_ ?_ ?_ ?_ ?_ ?_ <;> simp [go_sem]
  have hB' : Below w.heap.size w (((w.alloc (.cells #[.int .u64 (lim (X) 0), .int .u64 (lim (X) 1), .int .u64 (lim (X) 2), .int .u64 (lim (X) 3), .int .u64 (lim (Y) 0), .int .u64 (lim (Y) 1), .int .u64 (lim (Y) 2), .int .u64 (lim (Y) 3), .bool i] 26)).alloc (.cells #[.int .u64 (lim (U) 0), .int .u64 (lim (U) 1), .int .u64 (lim (U) 2), .int .u64 (lim (U) 3), .int .u64 (lim (V) 0), .int .u64 (lim (V) 1), .int .u64 (lim (V) 2), .int .u64 (lim (V) 3), .bool k] 26)).alloc (.cells #[.int .u64 0, .int .u64 0, .int .u64 0, .int .u64 0] 24)) := by go_grown
  have Aa := Ba
  have Ab := Bb
  have Ao := Bo
  have hB := hB'
  clear Ba Bb Bo hB'
  have ca_0 := Aa.cv 0 (by omega) (.int .u64 (lim (X) 0)) rfl
  have ca_1 := Aa.cv 1 (by omega) (.int .u64 (lim (X) 1)) rfl
  have ca_2 := Aa.cv 2 (by omega) (.int .u64 (lim (X) 2)) rfl
  have ca_3 := Aa.cv 3 (by omega) (.int .u64 (lim (X) 3)) rfl
  have ca_4 := Aa.cv 4 (by omega) (.int .u64 (lim (Y) 0)) rfl
  have ca_5 := Aa.cv 5 (by omega) (.int .u64 (lim (Y) 1)) rfl
  have ca_6 := Aa.cv 6 (by omega) (.int .u64 (lim (Y) 2)) rfl
  have ca_7 := Aa.cv 7 (by omega) (.int .u64 (lim (Y) 3)) rfl
  have ca_8 := Aa.cv 8 (by omega) (.bool i) rfl
  have cb_0 := Ab.cv 0 (by omega) (.int .u64 (lim (U) 0)) rfl
  have cb_1 := Ab.cv 1 (by omega) (.int .u64 (lim (U) 1)) rfl
  have cb_2 := Ab.cv 2 (by omega) (.int .u64 (lim (U) 2)) rfl
  have cb_3 := Ab.cv 3 (by omega) (.int .u64 (lim (U) 3)) rfl
  have cb_4 := Ab.cv 4 (by omega) (.int .u64 (lim (V) 0)) rfl
  have cb_5 := Ab.cv 5 (by omega) (.int .u64 (lim (V) 1)) rfl
  have cb_6 := Ab.cv 6 (by omega) (.int .u64 (lim (V) 2)) rfl
  have cb_7 := Ab.cv 7 (by omega) (.int .u64 (lim (V) 3)) rfl
  have cb_8 := Ab.cv 8 (by omega) (.bool k) rfl
  go_wp2_with fail
  refine (C1 _).mono ?_
  rintro e w11 ⟨rfl, hb⟩
  have Ba := Arr.to' Aa hb
  have Bb := Arr.to' Ab hb
  have Bo := Arr.to' Ao hb
  have hB' := Bel.call hB hb
  clear hb ca_0 ca_1 ca_2 ca_3 ca_4 ca_5 ca_6 ca_7 ca_8 cb_0 cb_1 cb_2 cb_3 cb_4 cb_5 cb_6 cb_7 cb_8 Aa Ab Ao hB
  have Aa := Ba
  have Ab := Bb
  have Ao := Bo
  have hB := hB'
  clear Ba Bb Bo hB'
  have ca_0 := Aa.cv 0 (by omega) (.int .u64 (lim (X) 0)) rfl
  have ca_1 := Aa.cv 1 (by omega) (.int .u64 (lim (X) 1)) rfl
  have ca_2 := Aa.cv 2 (by omega) (.int .u64 (lim (X) 2)) rfl
  have ca_3 := Aa.cv 3 (by omega) (.int .u64 (lim (X) 3)) rfl
  have ca_4 := Aa.cv 4 (by omega) (.int .u64 (lim (Y) 0)) rfl
  have ca_5 := Aa.cv 5 (by omega) (.int .u64 (lim (Y) 1)) rfl
  have ca_6 := Aa.cv 6 (by omega) (.int .u64 (lim (Y) 2)) rfl
  have ca_7 := Aa.cv 7 (by omega) (.int .u64 (lim (Y) 3)) rfl
  have ca_8 := Aa.cv 8 (by omega) (.bool i) rfl
  go_wp2_with fail
  refine (C2 _).mono ?_
  rintro e w12 ⟨rfl, hb⟩
  have Ba := Arr.to' Aa hb
  have Bb := Arr.to' Ab hb
  have Bo := Arr.to' Ao hb
  have hB' := Bel.call hB hb
  clear hb ca_0 ca_1 ca_2 ca_3 ca_4 ca_5 ca_6 ca_7 ca_8 Aa Ab Ao hB
  have Aa := Ba
  have Ab := Bb
  have Ao := Bo
  have hB := hB'
  clear Ba Bb Bo hB'
  go_wp2_with fail
  refine (C3 _).mono ?_
  rintro e w13 ⟨rfl, hb⟩
  have Ba := Arr.to' Aa hb
  have Bb := Arr.to' Ab hb
  have Bo := Arr.to' Ao hb
  have hB' := Bel.call hB hb
  clear hb Aa Ab Ao hB
  have Aa := Ba
  have Ab := Bb
  have Ao := Bo
  have hB := hB'
  clear Ba Bb Bo hB'
  go_wp2_with fail
  refine (C4 _).mono ?_
  rintro e w14 ⟨rfl, hb⟩
  have Ba := Arr.to' Aa hb
  have Bb := Arr.to' Ab hb
  have Bo := Arr.to' Ao hb
  have hB' := Bel.call hB hb
  clear hb Aa Ab Ao hB
  have Aa := Ba
  have Ab := Bb
  have Ao := Bo
  have hB := hB'
  clear Ba Bb Bo hB'
  have la_2 := Aa.lt
  have lb_2 := Ab.lt
  have lo_2 := Ao.lt
  have lB_2 := hB.size
  have Ba := (Arr.al' Aa (.cells #[.int .u64 (lim (I) 0), .int .u64 (lim (I) 1), .int .u64 (lim (I) 2), .int .u64 (lim (I) 3)] 24))
  have Bb := (Arr.al' Ab (.cells #[.int .u64 (lim (I) 0), .int .u64 (lim (I) 1), .int .u64 (lim (I) 2), .int .u64 (lim (I) 3)] 24))
  have Bo := (Arr.al' Ao (.cells #[.int .u64 (lim (I) 0), .int .u64 (lim (I) 1), .int .u64 (lim (I) 2), .int .u64 (lim (I) 3)] 24))
  have Bt : Arr ((w14.alloc (.cells #[.int .u64 (lim (I) 0), .int .u64 (lim (I) 1), .int .u64 (lim (I) 2), .int .u64 (lim (I) 3)] 24))) (w14.heap.size) 4 (fun j => .int .u64 (lim (I) j)) := by refine Arr.mk4 ?_ ?_ ?_ ?_ ?_ ?_ ?_ ?_ <;> simp [go_sem]
  have hB' := (Bel.al hB (.cells #[.int .u64 (lim (I) 0), .int .u64 (lim (I) 1), .int .u64 (lim (I) 2), .int .u64 (lim (I) 3)] 24))
  clear Aa Ab Ao hB
  have Aa := Ba
  have Ab := Bb
  have Ao := Bo
  have At := Bt
  have hB := hB'
  clear Ba Bb Bo Bt hB'
  have ra0 := Aa.cg 0 (by omega) (.int .u64 (lim (X) 0)) rfl
  have ra1 := Aa.cg 1 (by omega) (.int .u64 (lim (X) 1)) rfl
  have ra2 := Aa.cg 2 (by omega) (.int .u64 (lim (X) 2)) rfl
  have ra3 := Aa.cg 3 (by omega) (.int .u64 (lim (X) 3)) rfl
  have ra4 := Aa.cg 4 (by omega) (.int .u64 (lim (Y) 0)) rfl
  have ra5 := Aa.cg 5 (by omega) (.int .u64 (lim (Y) 1)) rfl
  have ra6 := Aa.cg 6 (by omega) (.int .u64 (lim (Y) 2)) rfl
  have ra7 := Aa.cg 7 (by omega) (.int .u64 (lim (Y) 3)) rfl
  have ra8 := Aa.cg 8 (by omega) (.bool i) rfl
  have rt0 := fun ds os => cell_regrown (At.c 0 (by omega)) ds os
  have rt1 := fun ds os => cell_regrown (At.c 1 (by omega)) ds os
  have rt2 := fun ds os => cell_regrown (At.c 2 (by omega)) ds os
  have rt3 := fun ds os => cell_regrown (At.c 3 (by omega)) ds os
  go_wp2_with fail
  refine wp_region_below_tail 11 (by kernel_rfl) (by kernel_rfl) ?_
  simp only [List.take_succ_cons, List.take_zero, List.drop_succ_cons, List.drop_zero]
  repeat (go_big_quiet_step (first | (go_at_call 15; with_reducible first | exact Calls.regrown_of (C5 _) | exact Calls.regrown_of (C7 _) | exact Calls.regrown_of (C8 _)) | (go_at_call 16; with_reducible first | exact Calls.regrown_of (C6 _))))
  refine wpQuiet_nil ?_
  intro w5 hw'
  obtain ⟨⟨dq, osq⟩, hw''⟩ := hw'
  have hb := below_of hw''
  clear hw''
  have Bo := Arr.to' Ao hb
  have hB' := Bel.call hB hb
  clear hb ra0 ra1 ra2 ra3 ra4 ra5 ra6 ra7 ra8 rt0 rt1 rt2 rt3 Aa Ab Ao At hB
  have Ao := Bo
  have hB := hB'
  clear Bo hB'
  have hS := hB.size
  have co := Ao.c
  have zo := Ao.z
  go_wp2_with fail
  refine bodyPost_ret (v := .tuple #[nv T, .bool true]) (by simp [results, Tryz.results26, go_sem, co]) rfl ⟨rfl, ?_⟩
  go_grown
end Go.Proofs.YtgekafmojedlkaaGreat
