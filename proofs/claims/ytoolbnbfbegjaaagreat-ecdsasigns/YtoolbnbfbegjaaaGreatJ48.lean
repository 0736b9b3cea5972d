/- The reference's lowered, slope and Add. -/
import Derived.Test.YtoolbnbfbegjaaaGreatJ45
set_option linter.all false
set_option maxRecDepth 100000
namespace Go.Proofs.YtoolbnbfbegjaaaGreat
open Go.RowKit Go.Sort
attribute [local go_sem] eq24
set_option maxHeartbeats 8000000 in
theorem lowered_none (x y z : Int) (hz : (lim z 0 == 0 && (lim z 1 == 0 && (lim z 2 == 0 && lim z 3 == 0))) = true) (w : World) : Calls Tryz.prog 53 #[tv x y z] w fun e w' => e = .returned (.agg #[.int .u64 0, .int .u64 0, .int .u64 0, .int .u64 0, .int .u64 0, .int .u64 0, .int .u64 0, .int .u64 0, .bool true]) ∧ Below w.heap.size w w' := by
  go_enter Tryz.func53, Tryz.ntmps53
  obtain ⟨W0, hW0⟩ : ∃ W0, W0 = ((w.alloc (.cells #[.int .u64 (lim (x) 0), .int .u64 (lim (x) 1), .int .u64 (lim (x) 2), .int .u64 (lim (x) 3), .int .u64 (lim (y) 0), .int .u64 (lim (y) 1), .int .u64 (lim (y) 2), .int .u64 (lim (y) 3), .int .u64 (lim (z) 0), .int .u64 (lim (z) 1), .int .u64 (lim (z) 2), .int .u64 (lim (z) 3)] 81)).alloc (.cells #[.int .u64 0, .int .u64 0, .int .u64 0, .int .u64 0, .int .u64 0, .int .u64 0, .int .u64 0, .int .u64 0, .bool false] 28)) := ⟨_, rfl⟩
  have Aa : Arr W0 (w.heap.size) 12 (trx (x) (y) (z)) := by subst hW0; refine Arr.mk12 ?_ ?_ ?_ ?_ ?_ ?_ ?_ ?_ ?_ ?_ ?_ ?_ ?_ <;> simp [go_sem, px, sx, zx, trx, trz]
  have Ao : Arr W0 (w.heap.size + 1) 9 (zx 8) := by subst hW0; refine Arr.mk9p ?_ ?_ ?_ ?_ ?_ ?_ ?_ ?_ ?_ ?_ <;> simp [go_sem, px, sx, zx, trx, trz]
  have hB : Below w.heap.size w W0 := by subst hW0; go_grown
  subst hW0
  obtain ⟨ca_0, ca_1, ca_2, ca_3, ca_4, ca_5, ca_6, ca_7, ca_8, ca_9, ca_10, ca_11⟩ := Arr.c_trx Aa
  have hS := hB.size
  obtain ⟨co_0, co_1, co_2, co_3, co_4, co_5, co_6, co_7, co_8⟩ := Arr.c_zp Ao
  have zo := Ao.z
  go_wp2_with fail
  refine bodyPost_ret (v := .agg #[.int .u64 0, .int .u64 0, .int .u64 0, .int .u64 0, .int .u64 0, .int .u64 0, .int .u64 0, .int .u64 0, .bool true]) (by simp [results, Tryz.results53, go_sem, co_0, co_1, co_2, co_3, co_4, co_5, co_6, co_7, co_8]) rfl ⟨rfl, ?_⟩
  go_grown
set_option maxHeartbeats 8000000 in
theorem lowered_core (x y z I i2 X i3 Y : Int) (ok : Bool) (hz : (lim z 0 == 0 && (lim z 1 == 0 && (lim z 2 == 0 && lim z 3 == 0))) = false) (w : World)
    (C1 : ∀ W, Calls Tryz.prog 71 #[] W fun e w' => e = .returned (nv pp) ∧ Below W.heap.size W w')
    (C2 : ∀ W, Calls Tryz.prog 34 #[nv z, nv pp] W fun e w' => e = .returned (.tuple #[nv I, .bool ok]) ∧ Below W.heap.size W w')
    (C3 : ∀ W, Calls Tryz.prog 73 #[nv I, nv I] W fun e w' => e = .returned (nv i2) ∧ Below W.heap.size W w')
    (C4 : ∀ W, Calls Tryz.prog 73 #[nv x, nv i2] W fun e w' => e = .returned (nv X) ∧ Below W.heap.size W w')
    (C5 : ∀ W, Calls Tryz.prog 73 #[nv i2, nv I] W fun e w' => e = .returned (nv i3) ∧ Below W.heap.size W w')
    (C6 : ∀ W, Calls Tryz.prog 73 #[nv y, nv i3] W fun e w' => e = .returned (nv Y) ∧ Below W.heap.size W w') :
    Calls Tryz.prog 53 #[tv x y z] w fun e w' => e = .returned (pv X Y false) ∧ Below w.heap.size w w' := by
  go_enter Tryz.func53, Tryz.ntmps53
  obtain ⟨W0, hW0⟩ : ∃ W0, W0 = ((w.alloc (.cells #[.int .u64 (lim (x) 0), .int .u64 (lim (x) 1), .int .u64 (lim (x) 2), .int .u64 (lim (x) 3), .int .u64 (lim (y) 0), .int .u64 (lim (y) 1), .int .u64 (lim (y) 2), .int .u64 (lim (y) 3), .int .u64 (lim (z) 0), .int .u64 (lim (z) 1), .int .u64 (lim (z) 2), .int .u64 (lim (z) 3)] 81)).alloc (.cells #[.int .u64 0, .int .u64 0, .int .u64 0, .int .u64 0, .int .u64 0, .int .u64 0, .int .u64 0, .int .u64 0, .bool false] 28)) := ⟨_, rfl⟩
  have Aa : Arr W0 (w.heap.size) 12 (trx (x) (y) (z)) := by subst hW0; refine Arr.mk12 ?_ ?_ ?_ ?_ ?_ ?_ ?_ ?_ ?_ ?_ ?_ ?_ ?_ <;> simp [go_sem, px, sx, zx, trx, trz]
  have Ao : Arr W0 (w.heap.size + 1) 9 (zx 8) := by subst hW0; refine Arr.mk9p ?_ ?_ ?_ ?_ ?_ ?_ ?_ ?_ ?_ ?_ <;> simp [go_sem, px, sx, zx, trx, trz]
  have hB : Below w.heap.size w W0 := by subst hW0; go_grown
  subst hW0
  obtain ⟨ca_0, ca_1, ca_2, ca_3, ca_4, ca_5, ca_6, ca_7, ca_8, ca_9, ca_10, ca_11⟩ := Arr.c_trx Aa
  go_wp2_with fail
  clear ca_0 ca_1 ca_2 ca_3 ca_4 ca_5 ca_6 ca_7 ca_8 ca_9 ca_10 ca_11
  apply wp_region_pure_tail 4 3 #[true, true, true, true, false, false, false, true, false, false] #[true, true, true, true, true, true, true, false, false, false] (by kernel_rfl) (by intro c d v a w h; cases d <;> exact h) (by kernel_rfl) (by kernel_rfl) (.cells #[.int .u64 0, .int .u64 0, .int .u64 0, .int .u64 0] 24) _ rfl (fun _ _ => by simp [go_sem])
  · intro W hW
    obtain ⟨ra0, ra1, ra2, ra3, ra4, ra5, ra6, ra7, ra8, ra9, ra10, ra11⟩ := Arr.g_trx (Arr.to' Aa hW)
    simp only [List.take_succ_cons, List.take_zero]
    repeat (go_big_quiet_step (first | (go_at_call 71; with_reducible first | exact Calls.regrown_of (C1 _)) | (go_at_call 34; with_reducible first | exact Calls.regrown_of (C2 _)) | (go_at_call 73; with_reducible first | exact Calls.regrown_of (C3 _) | exact Calls.regrown_of (C4 _) | exact Calls.regrown_of (C5 _) | exact Calls.regrown_of (C6 _))))
    exact wpQuiet_nil rfl
  · exact ⟨_, Or.inl ⟨rfl, fun _ => rfl⟩, ⟨_, Or.inl ⟨rfl, fun _ => rfl⟩, ⟨_, Or.inl ⟨rfl, fun _ => rfl⟩, rfl⟩⟩⟩
  · intro v; exact ⟨_, Or.inl ⟨rfl, fun _ => rfl⟩, ⟨_, Or.inl ⟨rfl, fun _ => rfl⟩, ⟨_, Or.inl ⟨rfl, fun _ => rfl⟩, rfl⟩⟩⟩
  intro v1 w11 hb1 hb2
  simp only [List.drop_succ_cons, List.drop_zero, Act.put, List.setIfInBounds_toArray, List.set_cons_succ, List.set_cons_zero]
  have Ea := Arr.to' Aa hb1
  have la_v1 := Ea.lt
  have Ba := Arr.to' (Arr.al' Ea _) hb2
  have Eo := Arr.to' Ao hb1
  have lo_v1 := Eo.lt
  have Bo := Arr.to' (Arr.al' Eo _) hb2
  have Bi := (Arr.mk4 (w := (v1.alloc (.cells #[.int .u64 0, .int .u64 0, .int .u64 0, .int .u64 0] 24))) (f := fun _ => .int .u64 0) (b := v1.heap.size) (by simp [go_sem]) (by simp [go_sem]) (by simp [go_sem]) (by simp [go_sem]) (by simp [go_sem]) (by simp [go_sem]) (by simp [go_sem]) (by simp [go_sem])).below hb2 (by go_size)
  have lB_v1 := (Bel.call hB hb1).size
  have hB' := Bel.call (Bel.al (Bel.call hB hb1) _) hb2
  clear hb1 hb2 Ea Eo Aa Ao hB
  have Aa := Ba
  have Ao := Bo
  have Ai := Bi
  have hB := hB'
  clear Ba Bo Bi hB'
  have ci := Ai.c
  have zi := Ai.z
  have Ba := Arr.st4o (b' := v1.heap.size) Aa (by have := Aa.lt; have := Ai.lt; omega) (I)
  have Bo := Arr.st4o (b' := v1.heap.size) Ao (by have := Ao.lt; have := Ai.lt; omega) (I)
  have Bi := Arr.st4 Ai (I)
  have hB' := Bel.st4 hB (b := v1.heap.size) (by have := hB.size; omega) (I)
  clear Aa Ao Ai hB
  have Aa := Ba
  have Ao := Bo
  have Ai := Bi
  have hB := hB'
  clear Ba Bo Bi hB'
  have ci := Ai.c
  go_wp2_with fail
  refine (C3 _).mono ?_
  rintro e w12 ⟨rfl, hb⟩
  replace Aa := Arr.to' Aa hb
  replace Ao := Arr.to' Ao hb
  replace Ai := Arr.to' Ai hb
  replace hB := Bel.call hB hb
  clear hb ci zi
  have la_2 := Aa.lt
  have lo_2 := Ao.lt
  have li_2 := Ai.lt
  have lB_2 := hB.size
  replace Aa := (Arr.al' Aa (.cells #[.int .u64 (lim (i2) 0), .int .u64 (lim (i2) 1), .int .u64 (lim (i2) 2), .int .u64 (lim (i2) 3)] 24))
  replace Ao := (Arr.al' Ao (.cells #[.int .u64 (lim (i2) 0), .int .u64 (lim (i2) 1), .int .u64 (lim (i2) 2), .int .u64 (lim (i2) 3)] 24))
  replace Ai := (Arr.al' Ai (.cells #[.int .u64 (lim (i2) 0), .int .u64 (lim (i2) 1), .int .u64 (lim (i2) 2), .int .u64 (lim (i2) 3)] 24))
  have Aq : Arr ((w12.alloc (.cells #[.int .u64 (lim (i2) 0), .int .u64 (lim (i2) 1), .int .u64 (lim (i2) 2), .int .u64 (lim (i2) 3)] 24))) (w12.heap.size) 4 (fun j => .int .u64 (lim (i2) j)) := by refine Arr.mk4 ?_ ?_ ?_ ?_ ?_ ?_ ?_ ?_ <;> simp [go_sem]
  replace hB := (Bel.al hB (.cells #[.int .u64 (lim (i2) 0), .int .u64 (lim (i2) 1), .int .u64 (lim (i2) 2), .int .u64 (lim (i2) 3)] 24))
  obtain ⟨ra0, ra1, ra2, ra3, ra4, ra5, ra6, ra7, ra8, ra9, ra10, ra11⟩ := Arr.g_trx Aa
  obtain ⟨rq0, rq1, rq2, rq3⟩ := Arr.g4 Aq
  obtain ⟨ri0, ri1, ri2, ri3⟩ := Arr.g4 Ai
  go_wp2_with fail
  refine wp_region_below_tail 11 (by kernel_rfl) (by kernel_rfl) ?_
  simp only [List.take_succ_cons, List.take_zero, List.drop_succ_cons, List.drop_zero]
  repeat (go_big_quiet_step (first | (go_at_call 71; with_reducible first | exact Calls.regrown_of (C1 _)) | (go_at_call 34; with_reducible first | exact Calls.regrown_of (C2 _)) | (go_at_call 73; with_reducible first | exact Calls.regrown_of (C3 _) | exact Calls.regrown_of (C4 _) | exact Calls.regrown_of (C5 _) | exact Calls.regrown_of (C6 _))))
  refine wpQuiet_nil ?_
  intro w3 hw'
  obtain ⟨⟨dq, osq⟩, hw''⟩ := hw'
  have hb := below_of hw''
  clear hw''
  replace Ao := Arr.to' Ao hb
  replace hB := Bel.call hB hb
  clear hb ra0 ra1 ra2 ra3 ra4 ra5 ra6 ra7 ra8 ra9 ra10 ra11 rq0 rq1 rq2 rq3 ri0 ri1 ri2 ri3 Aa Ai Aq
  have hS := hB.size
  obtain ⟨co_0, co_1, co_2, co_3, co_4, co_5, co_6, co_7, co_8⟩ := Arr.c_zp Ao
  have zo := Ao.z
  go_wp2_with fail
  refine bodyPost_ret (v := pv X Y false) (by simp [results, Tryz.results53, go_sem, co_0, co_1, co_2, co_3, co_4, co_5, co_6, co_7, co_8]) rfl ⟨rfl, ?_⟩
  go_grown
end Go.Proofs.YtoolbnbfbegjaaaGreat
