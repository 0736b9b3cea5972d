/- Points with a third coordinate: along, the plain one. -/
import Derived.Test.YtgekafmojedlkaaGreatJ24
import Derived.Test.YtgekafmojedlkaaGreatJ2
import Derived.Test.YtgekafmojedlkaaGreatJ1
set_option linter.all false
set_option maxRecDepth 100000
namespace Go.Proofs.YtgekafmojedlkaaGreat
open Go.RowKit Go.Sort
set_option maxHeartbeats 8000000 in
theorem along_core (X Y Z M N r2 r3 s c1 c2 c3 x d1 d2 d3 y z : Int) (w : World)
    (C1 : ∀ W, Calls Tryz.prog 42 #[nv M] W fun e w' => e = .returned (nv r2) ∧ Below W.heap.size W w')
    (C2 : ∀ W, Calls Tryz.prog 46 #[nv M, nv r2] W fun e w' => e = .returned (nv r3) ∧ Below W.heap.size W w')
    (C3 : ∀ W, Calls Tryz.prog 46 #[nv X, nv r2] W fun e w' => e = .returned (nv s) ∧ Below W.heap.size W w')
    (C4 : ∀ W, Calls Tryz.prog 42 #[nv N] W fun e w' => e = .returned (nv c1) ∧ Below W.heap.size W w')
    (C5 : ∀ W, Calls Tryz.prog 45 #[nv c1, nv r3] W fun e w' => e = .returned (nv c2) ∧ Below W.heap.size W w')
    (C6 : ∀ W, Calls Tryz.prog 59 #[nv s] W fun e w' => e = .returned (nv c3) ∧ Below W.heap.size W w')
    (C7 : ∀ W, Calls Tryz.prog 45 #[nv c2, nv c3] W fun e w' => e = .returned (nv x) ∧ Below W.heap.size W w')
    (C8 : ∀ W, Calls Tryz.prog 45 #[nv s, nv x] W fun e w' => e = .returned (nv d1) ∧ Below W.heap.size W w')
    (C9 : ∀ W, Calls Tryz.prog 46 #[nv N, nv d1] W fun e w' => e = .returned (nv d2) ∧ Below W.heap.size W w')
    (C10 : ∀ W, Calls Tryz.prog 46 #[nv Y, nv r3] W fun e w' => e = .returned (nv d3) ∧ Below W.heap.size W w')
    (C11 : ∀ W, Calls Tryz.prog 45 #[nv d2, nv d3] W fun e w' => e = .returned (nv y) ∧ Below W.heap.size W w')
    (C12 : ∀ W, Calls Tryz.prog 46 #[nv Z, nv M] W fun e w' => e = .returned (nv z) ∧ Below W.heap.size W w') :
    Calls Tryz.prog 47 #[jv X Y false Z, nv M, nv N] w fun e w' => e = .returned (jv x y false z) ∧ Below w.heap.size w w' := by
  go_enter Tryz.func47, Tryz.ntmps47
  have Bp : Arr (((((w.alloc (.cells #[.int .u64 (lim (X) 0), .int .u64 (lim (X) 1), .int .u64 (lim (X) 2), .int .u64 (lim (X) 3), .int .u64 (lim (Y) 0), .int .u64 (lim (Y) 1), .int .u64 (lim (Y) 2), .int .u64 (lim (Y) 3), .bool false, .int .u64 (lim (Z) 0), .int .u64 (lim (Z) 1), .int .u64 (lim (Z) 2), .int .u64 (lim (Z) 3)] 43)).alloc (.cells #[.int .u64 (lim (M) 0), .int .u64 (lim (M) 1), .int .u64 (lim (M) 2), .int .u64 (lim (M) 3)] 24)).alloc (.cells #[.int .u64 (lim (N) 0), .int .u64 (lim (N) 1), .int .u64 (lim (N) 2), .int .u64 (lim (N) 3)] 24)).alloc (.cells #[.int .u64 0, .int .u64 0, .int .u64 0, .int .u64 0, .int .u64 0, .int .u64 0, .int .u64 0, .int .u64 0, .bool false, .int .u64 0, .int .u64 0, .int .u64 0, .int .u64 0] 43))) (w.heap.size) 13 (sx (X) (Y) false (Z)) := by refine Arr.mk13 ?_ ?_ ?_ ?_ ?_ ?_ ?_ ?_ ?_ ?_ ?_ ?_ ?_ ?_ <;> simp [go_sem, px, sx, zx]
  have Bm : Arr (((((w.alloc (.cells #[.int .u64 (lim (X) 0), .int .u64 (lim (X) 1), .int .u64 (lim (X) 2), .int .u64 (lim (X) 3), .int .u64 (lim (Y) 0), .int .u64 (lim (Y) 1), .int .u64 (lim (Y) 2), .int .u64 (lim (Y) 3), .bool false, .int .u64 (lim (Z) 0), .int .u64 (lim (Z) 1), .int .u64 (lim (Z) 2), .int .u64 (lim (Z) 3)] 43)).alloc (.cells #[.int .u64 (lim (M) 0), .int .u64 (lim (M) 1), .int .u64 (lim (M) 2), .int .u64 (lim (M) 3)] 24)).alloc (.cells #[.int .u64 (lim (N) 0), .int .u64 (lim (N) 1), .int .u64 (lim (N) 2), .int .u64 (lim (N) 3)] 24)).alloc (.cells #[.int .u64 0, .int .u64 0, .int .u64 0, .int .u64 0, .int .u64 0, .int .u64 0, .int .u64 0, .int .u64 0, .bool false, .int .u64 0, .int .u64 0, .int .u64 0, .int .u64 0] 43))) (w.heap.size + 1) 4 (fun j => .int .u64 (lim (M) j)) := by refine Arr.mk4 ?_ ?_ ?_ ?_ ?_ ?_ ?_ ?_ <;> simp [go_sem]
  have Bn : Arr (((((w.alloc (.cells #[.int .u64 (lim (X) 0), .int .u64 (lim (X) 1), .int .u64 (lim (X) 2), .int .u64 (lim (X) 3), .int .u64 (lim (Y) 0), .int .u64 (lim (Y) 1), .int .u64 (lim (Y) 2), .int .u64 (lim (Y) 3), .bool false, .int .u64 (lim (Z) 0), .int .u64 (lim (Z) 1), .int .u64 (lim (Z) 2), .int .u64 (lim (Z) 3)] 43)).alloc (.cells #[.int .u64 (lim (M) 0), .int .u64 (lim (M) 1), .int .u64 (lim (M) 2), .int .u64 (lim (M) 3)] 24)).alloc (.cells #[.int .u64 (lim (N) 0), .int .u64 (lim (N) 1), .int .u64 (lim (N) 2), .int .u64 (lim (N) 3)] 24)).alloc (.cells #[.int .u64 0, .int .u64 0, .int .u64 0, .int .u64 0, .int .u64 0, .int .u64 0, .int .u64 0, .int .u64 0, .bool false, .int .u64 0, .int .u64 0, .int .u64 0, .int .u64 0] 43))) (w.heap.size + 1 + 1) 4 (fun j => .int .u64 (lim (N) j)) := by refine Arr.mk4 ?_ ?_ ?_ ?_ ?_ ?_ ?_ ?_ <;> simp [go_sem]
  have Bo : Arr (((((w.alloc (.cells #[.int .u64 (lim (X) 0), .int .u64 (lim (X) 1), .int .u64 (lim (X) 2), .int .u64 (lim (X) 3), .int .u64 (lim (Y) 0), .int .u64 (lim (Y) 1), .int .u64 (lim (Y) 2), .int .u64 (lim (Y) 3), .bool false, .int .u64 (lim (Z) 0), .int .u64 (lim (Z) 1), .int .u64 (lim (Z) 2), .int .u64 (lim (Z) 3)] 43)).alloc (.cells #[.int .u64 (lim (M) 0), .int .u64 (lim (M) 1), .int .u64 (lim (M) 2), .int .u64 (lim (M) 3)] 24)).alloc (.cells #[.int .u64 (lim (N) 0), .int .u64 (lim (N) 1), .int .u64 (lim (N) 2), .int .u64 (lim (N) 3)] 24)).alloc (.cells #[.int .u64 0, .int .u64 0, .int .u64 0, .int .u64 0, .int .u64 0, .int .u64 0, .int .u64 0, .int .u64 0, .bool false, .int .u64 0, .int .u64 0, .int .u64 0, .int .u64 0] 43))) (w.heap.size + 1 + 1 + 1) 13 (zx 8) := by refine Arr.mk13 ?_ ?_ ?_ ?_ ?_ ?_ ?_ ?_ ?_ ?_ ?_ ?_ ?_ ?_ <;> simp [go_sem, px, sx, zx]
  have hB' : Below w.heap.size w ((((w.alloc (.cells #[.int .u64 (lim (X) 0), .int .u64 (lim (X) 1), .int .u64 (lim (X) 2), .int .u64 (lim (X) 3), .int .u64 (lim (Y) 0), .int .u64 (lim (Y) 1), .int .u64 (lim (Y) 2), .int .u64 (lim (Y) 3), .bool false, .int .u64 (lim (Z) 0), .int .u64 (lim (Z) 1), .int .u64 (lim (Z) 2), .int .u64 (lim (Z) 3)] 43)).alloc (.cells #[.int .u64 (lim (M) 0), .int .u64 (lim (M) 1), .int .u64 (lim (M) 2), .int .u64 (lim (M) 3)] 24)).alloc (.cells #[.int .u64 (lim (N) 0), .int .u64 (lim (N) 1), .int .u64 (lim (N) 2), .int .u64 (lim (N) 3)] 24)).alloc (.cells #[.int .u64 0, .int .u64 0, .int .u64 0, .int .u64 0, .int .u64 0, .int .u64 0, .int .u64 0, .int .u64 0, .bool false, .int .u64 0, .int .u64 0, .int .u64 0, .int .u64 0] 43)) := by go_grown
  have Ap := Bp
  have Am := Bm
  have An := Bn
  have Ao := Bo
  have hB := hB'
  clear Bp Bm Bn Bo hB'
  have cm := Am.c
  go_wp2_with fail
  refine (C1 _).mono ?_
  rintro e w1 ⟨rfl, hb⟩
  have Bp := Arr.to' Ap hb
  have Bm := Arr.to' Am hb
  have Bn := Arr.to' An hb
  have Bo := Arr.to' Ao hb
  have hB' := Bel.call hB hb
  clear hb cm Ap Am An Ao hB
  have Ap := Bp
  have Am := Bm
  have An := Bn
  have Ao := Bo
  have hB := hB'
  clear Bp Bm Bn Bo hB'
  have lp_2 := Ap.lt
  have lm_2 := Am.lt
  have ln_2 := An.lt
  have lo_2 := Ao.lt
  have lB_2 := hB.size
  have Bp := (Arr.al' Ap (.cells #[.int .u64 (lim (r2) 0), .int .u64 (lim (r2) 1), .int .u64 (lim (r2) 2), .int .u64 (lim (r2) 3)] 24))
  have Bm := (Arr.al' Am (.cells #[.int .u64 (lim (r2) 0), .int .u64 (lim (r2) 1), .int .u64 (lim (r2) 2), .int .u64 (lim (r2) 3)] 24))
  have Bn := (Arr.al' An (.cells #[.int .u64 (lim (r2) 0), .int .u64 (lim (r2) 1), .int .u64 (lim (r2) 2), .int .u64 (lim (r2) 3)] 24))
  have Bo := (Arr.al' Ao (.cells #[.int .u64 (lim (r2) 0), .int .u64 (lim (r2) 1), .int .u64 (lim (r2) 2), .int .u64 (lim (r2) 3)] 24))
  have Bq : Arr ((w1.alloc (.cells #[.int .u64 (lim (r2) 0), .int .u64 (lim (r2) 1), .int .u64 (lim (r2) 2), .int .u64 (lim (r2) 3)] 24))) (w1.heap.size) 4 (fun j => .int .u64 (lim (r2) j)) := by refine Arr.mk4 ?_ ?_ ?_ ?_ ?_ ?_ ?_ ?_ <;> simp [go_sem]
  have hB' := (Bel.al hB (.cells #[.int .u64 (lim (r2) 0), .int .u64 (lim (r2) 1), .int .u64 (lim (r2) 2), .int .u64 (lim (r2) 3)] 24))
  clear Ap Am An Ao hB
  have Ap := Bp
  have Am := Bm
  have An := Bn
  have Ao := Bo
  have Aq := Bq
  have hB := hB'
  clear Bp Bm Bn Bo Bq hB'
  have cm := Am.c
  have cq := Aq.c
  go_wp2_with fail
  refine (C2 _).mono ?_
  rintro e w2 ⟨rfl, hb⟩
  have Bp := Arr.to' Ap hb
  have Bm := Arr.to' Am hb
  have Bn := Arr.to' An hb
  have Bo := Arr.to' Ao hb
  have Bq := Arr.to' Aq hb
  have hB' := Bel.call hB hb
  clear hb cm cq Ap Am An Ao Aq hB
  have Ap := Bp
  have Am := Bm
  have An := Bn
  have Ao := Bo
  have Aq := Bq
  have hB := hB'
  clear Bp Bm Bn Bo Bq hB'
  have lp_3 := Ap.lt
  have lm_3 := Am.lt
  have ln_3 := An.lt
  have lo_3 := Ao.lt
  have lq_3 := Aq.lt
  have lB_3 := hB.size
  have Bp := (Arr.al' Ap (.cells #[.int .u64 (lim (r3) 0), .int .u64 (lim (r3) 1), .int .u64 (lim (r3) 2), .int .u64 (lim (r3) 3)] 24))
  have Bm := (Arr.al' Am (.cells #[.int .u64 (lim (r3) 0), .int .u64 (lim (r3) 1), .int .u64 (lim (r3) 2), .int .u64 (lim (r3) 3)] 24))
  have Bn := (Arr.al' An (.cells #[.int .u64 (lim (r3) 0), .int .u64 (lim (r3) 1), .int .u64 (lim (r3) 2), .int .u64 (lim (r3) 3)] 24))
  have Bo := (Arr.al' Ao (.cells #[.int .u64 (lim (r3) 0), .int .u64 (lim (r3) 1), .int .u64 (lim (r3) 2), .int .u64 (lim (r3) 3)] 24))
  have Bq := (Arr.al' Aq (.cells #[.int .u64 (lim (r3) 0), .int .u64 (lim (r3) 1), .int .u64 (lim (r3) 2), .int .u64 (lim (r3) 3)] 24))
  have Bc : Arr ((w2.alloc (.cells #[.int .u64 (lim (r3) 0), .int .u64 (lim (r3) 1), .int .u64 (lim (r3) 2), .int .u64 (lim (r3) 3)] 24))) (w2.heap.size) 4 (fun j => .int .u64 (lim (r3) j)) := by refine Arr.mk4 ?_ ?_ ?_ ?_ ?_ ?_ ?_ ?_ <;> simp [go_sem]
  have hB' := (Bel.al hB (.cells #[.int .u64 (lim (r3) 0), .int .u64 (lim (r3) 1), .int .u64 (lim (r3) 2), .int .u64 (lim (r3) 3)] 24))
  clear Ap Am An Ao Aq hB
  have Ap := Bp
  have Am := Bm
  have An := Bn
  have Ao := Bo
  have Aq := Bq
  have Ac := Bc
  have hB := hB'
  clear Bp Bm Bn Bo Bq Bc hB'
  have cp_0 := Ap.cv 0 (by omega) (.int .u64 (lim (X) 0)) rfl
  have cp_1 := Ap.cv 1 (by omega) (.int .u64 (lim (X) 1)) rfl
  have cp_2 := Ap.cv 2 (by omega) (.int .u64 (lim (X) 2)) rfl
  have cp_3 := Ap.cv 3 (by omega) (.int .u64 (lim (X) 3)) rfl
  have cp_4 := Ap.cv 4 (by omega) (.int .u64 (lim (Y) 0)) rfl
  have cp_5 := Ap.cv 5 (by omega) (.int .u64 (lim (Y) 1)) rfl
  have cp_6 := Ap.cv 6 (by omega) (.int .u64 (lim (Y) 2)) rfl
  have cp_7 := Ap.cv 7 (by omega) (.int .u64 (lim (Y) 3)) rfl
  have cp_8 := Ap.cv 8 (by omega) (.bool false) rfl
  have cp_9 := Ap.cv 9 (by omega) (.int .u64 (lim (Z) 0)) rfl
  have cp_10 := Ap.cv 10 (by omega) (.int .u64 (lim (Z) 1)) rfl
  have cp_11 := Ap.cv 11 (by omega) (.int .u64 (lim (Z) 2)) rfl
  have cp_12 := Ap.cv 12 (by omega) (.int .u64 (lim (Z) 3)) rfl
  have cq := Aq.c
  go_wp2_with fail
  refine (C3 _).mono ?_
  rintro e w3 ⟨rfl, hb⟩
  have Bp := Arr.to' Ap hb
  have Bm := Arr.to' Am hb
  have Bn := Arr.to' An hb
  have Bo := Arr.to' Ao hb
  have Bq := Arr.to' Aq hb
  have Bc := Arr.to' Ac hb
  have hB' := Bel.call hB hb
  clear hb cp_0 cp_1 cp_2 cp_3 cp_4 cp_5 cp_6 cp_7 cp_8 cp_9 cp_10 cp_11 cp_12 cq Ap Am An Ao Aq Ac hB
  have Ap := Bp
  have Am := Bm
  have An := Bn
  have Ao := Bo
  have Aq := Bq
  have Ac := Bc
  have hB := hB'
  clear Bp Bm Bn Bo Bq Bc hB'
  have lp_4 := Ap.lt
  have lm_4 := Am.lt
  have ln_4 := An.lt
  have lo_4 := Ao.lt
  have lq_4 := Aq.lt
  have lc_4 := Ac.lt
  have lB_4 := hB.size
  have Bp := (Arr.al' Ap (.cells #[.int .u64 (lim (s) 0), .int .u64 (lim (s) 1), .int .u64 (lim (s) 2), .int .u64 (lim (s) 3)] 24))
  have Bm := (Arr.al' Am (.cells #[.int .u64 (lim (s) 0), .int .u64 (lim (s) 1), .int .u64 (lim (s) 2), .int .u64 (lim (s) 3)] 24))
  have Bn := (Arr.al' An (.cells #[.int .u64 (lim (s) 0), .int .u64 (lim (s) 1), .int .u64 (lim (s) 2), .int .u64 (lim (s) 3)] 24))
  have Bo := (Arr.al' Ao (.cells #[.int .u64 (lim (s) 0), .int .u64 (lim (s) 1), .int .u64 (lim (s) 2), .int .u64 (lim (s) 3)] 24))
  have Bq := (Arr.al' Aq (.cells #[.int .u64 (lim (s) 0), .int .u64 (lim (s) 1), .int .u64 (lim (s) 2), .int .u64 (lim (s) 3)] 24))
  have Bc := (Arr.al' Ac (.cells #[.int .u64 (lim (s) 0), .int .u64 (lim (s) 1), .int .u64 (lim (s) 2), .int .u64 (lim (s) 3)] 24))
  have Bs : Arr ((w3.alloc (.cells #[.int .u64 (lim (s) 0), .int .u64 (lim (s) 1), .int .u64 (lim (s) 2), .int .u64 (lim (s) 3)] 24))) (w3.heap.size) 4 (fun j => .int .u64 (lim (s) j)) := by refine Arr.mk4 ?_ ?_ ?_ ?_ ?_ ?_ ?_ ?_ <;> simp [go_sem]
  have hB' := (Bel.al hB (.cells #[.int .u64 (lim (s) 0), .int .u64 (lim (s) 1), .int .u64 (lim (s) 2), .int .u64 (lim (s) 3)] 24))
  clear Ap Am An Ao Aq Ac hB
  have Ap := Bp
  have Am := Bm
  have An := Bn
  have Ao := Bo
  have Aq := Bq
  have Ac := Bc
  have As := Bs
  have hB := hB'
  clear Bp Bm Bn Bo Bq Bc Bs hB'
  go_wp2_with fail
  apply wp_region_alloc_tail 7 (by kernel_rfl) (by kernel_rfl) (by kernel_rfl) (.cells #[.int .u64 0, .int .u64 0, .int .u64 0, .int .u64 0] 24) _ rfl (fun _ _ => by simp [go_sem])
  · intro W hW
    have rn0 := fun ds os => cell_regrown ((Arr.to' An hW).c 0 (by omega)) ds os
    have rn1 := fun ds os => cell_regrown ((Arr.to' An hW).c 1 (by omega)) ds os
    have rn2 := fun ds os => cell_regrown ((Arr.to' An hW).c 2 (by omega)) ds os
    have rn3 := fun ds os => cell_regrown ((Arr.to' An hW).c 3 (by omega)) ds os
    have rc0 := fun ds os => cell_regrown ((Arr.to' Ac hW).c 0 (by omega)) ds os
    have rc1 := fun ds os => cell_regrown ((Arr.to' Ac hW).c 1 (by omega)) ds os
    have rc2 := fun ds os => cell_regrown ((Arr.to' Ac hW).c 2 (by omega)) ds os
    have rc3 := fun ds os => cell_regrown ((Arr.to' Ac hW).c 3 (by omega)) ds os
    have rs0 := fun ds os => cell_regrown ((Arr.to' As hW).c 0 (by omega)) ds os
    have rs1 := fun ds os => cell_regrown ((Arr.to' As hW).c 1 (by omega)) ds os
    have rs2 := fun ds os => cell_regrown ((Arr.to' As hW).c 2 (by omega)) ds os
    have rs3 := fun ds os => cell_regrown ((Arr.to' As hW).c 3 (by omega)) ds os
    simp only [List.take_succ_cons, List.take_zero]
    repeat (go_big_quiet_step (first | (go_at_call 42; with_reducible first | exact Calls.regrown_of (C1 _) | exact Calls.regrown_of (C4 _)) | (go_at_call 46; with_reducible first | exact Calls.regrown_of (C2 _) | exact Calls.regrown_of (C3 _) | exact Calls.regrown_of (C9 _) | exact Calls.regrown_of (C10 _) | exact Calls.regrown_of (C12 _)) | (go_at_call 45; with_reducible first | exact Calls.regrown_of (C5 _) | exact Calls.regrown_of (C7 _) | exact Calls.regrown_of (C8 _) | exact Calls.regrown_of (C11 _)) | (go_at_call 59; with_reducible first | exact Calls.regrown_of (C6 _))))
    exact wpQuiet_nil rfl
  intro v4 w14 hb1 hb2
  simp only [List.drop_succ_cons, List.drop_zero, Act.put, List.setIfInBounds_toArray, List.set_cons_succ, List.set_cons_zero]
  have Ep := Arr.to' Ap hb1
  have lp_v4 := Ep.lt
  have Bp := Arr.to' (Arr.al' Ep (.cells #[.int .u64 0, .int .u64 0, .int .u64 0, .int .u64 0] 24)) hb2
  have Em := Arr.to' Am hb1
  have lm_v4 := Em.lt
  have Bm := Arr.to' (Arr.al' Em (.cells #[.int .u64 0, .int .u64 0, .int .u64 0, .int .u64 0] 24)) hb2
  have En := Arr.to' An hb1
  have ln_v4 := En.lt
  have Bn := Arr.to' (Arr.al' En (.cells #[.int .u64 0, .int .u64 0, .int .u64 0, .int .u64 0] 24)) hb2
  have Eo := Arr.to' Ao hb1
  have lo_v4 := Eo.lt
  have Bo := Arr.to' (Arr.al' Eo (.cells #[.int .u64 0, .int .u64 0, .int .u64 0, .int .u64 0] 24)) hb2
  have Eq := Arr.to' Aq hb1
  have lq_v4 := Eq.lt
  have Bq := Arr.to' (Arr.al' Eq (.cells #[.int .u64 0, .int .u64 0, .int .u64 0, .int .u64 0] 24)) hb2
  have Ec := Arr.to' Ac hb1
  have lc_v4 := Ec.lt
  have Bc := Arr.to' (Arr.al' Ec (.cells #[.int .u64 0, .int .u64 0, .int .u64 0, .int .u64 0] 24)) hb2
  have Es := Arr.to' As hb1
  have ls_v4 := Es.lt
  have Bs := Arr.to' (Arr.al' Es (.cells #[.int .u64 0, .int .u64 0, .int .u64 0, .int .u64 0] 24)) hb2
  have Bx := (Arr.mk4 (w := (v4.alloc (.cells #[.int .u64 0, .int .u64 0, .int .u64 0, .int .u64 0] 24))) (f := fun _ => .int .u64 0) (b := v4.heap.size) (by simp [go_sem]) (by simp [go_sem]) (by simp [go_sem]) (by simp [go_sem]) (by simp [go_sem]) (by simp [go_sem]) (by simp [go_sem]) (by simp [go_sem])).below hb2 (by go_size)
  have lB_v4 := (Bel.call hB hb1).size
  have hB' := Bel.call (Bel.al (Bel.call hB hb1) (.cells #[.int .u64 0, .int .u64 0, .int .u64 0, .int .u64 0] 24)) hb2
  clear hb1 hb2 Ep Em En Eo Eq Ec Es Ap Am An Ao Aq Ac As hB
  have Ap := Bp
  have Am := Bm
  have An := Bn
  have Ao := Bo
  have Aq := Bq
  have Ac := Bc
  have As := Bs
  have Ax := Bx
  have hB := hB'
  clear Bp Bm Bn Bo Bq Bc Bs Bx hB'
  have cx := Ax.c
  have zx := Ax.z
  have Bp := Arr.st4o (b' := v4.heap.size) Ap (by have := Ap.lt; have := Ax.lt; omega) (x)
  have Bm := Arr.st4o (b' := v4.heap.size) Am (by have := Am.lt; have := Ax.lt; omega) (x)
  have Bn := Arr.st4o (b' := v4.heap.size) An (by have := An.lt; have := Ax.lt; omega) (x)
  have Bo := Arr.st4o (b' := v4.heap.size) Ao (by have := Ao.lt; have := Ax.lt; omega) (x)
  have Bq := Arr.st4o (b' := v4.heap.size) Aq (by have := Aq.lt; have := Ax.lt; omega) (x)
  have Bc := Arr.st4o (b' := v4.heap.size) Ac (by have := Ac.lt; have := Ax.lt; omega) (x)
  have Bs := Arr.st4o (b' := v4.heap.size) As (by have := As.lt; have := Ax.lt; omega) (x)
  have Bx := Arr.st4 Ax (x)
  have hB' := Bel.st4 hB (b := v4.heap.size) (by have := hB.size; omega) (x)
  clear Ap Am An Ao Aq Ac As Ax hB
  have Ap := Bp
  have Am := Bm
  have An := Bn
  have Ao := Bo
  have Aq := Bq
  have Ac := Bc
  have As := Bs
  have Ax := Bx
  have hB := hB'
  clear Bp Bm Bn Bo Bq Bc Bs Bx hB'
  go_wp2_with fail
  apply wp_region_alloc_tail 11 (by kernel_rfl) (by kernel_rfl) (by kernel_rfl) (.cells #[.int .u64 0, .int .u64 0, .int .u64 0, .int .u64 0] 24) _ rfl (fun _ _ => by simp [go_sem])
  · intro W hW
    have rn0 := fun ds os => cell_regrown ((Arr.to' An hW).c 0 (by omega)) ds os
    have rn1 := fun ds os => cell_regrown ((Arr.to' An hW).c 1 (by omega)) ds os
    have rn2 := fun ds os => cell_regrown ((Arr.to' An hW).c 2 (by omega)) ds os
    have rn3 := fun ds os => cell_regrown ((Arr.to' An hW).c 3 (by omega)) ds os
    have rs0 := fun ds os => cell_regrown ((Arr.to' As hW).c 0 (by omega)) ds os
    have rs1 := fun ds os => cell_regrown ((Arr.to' As hW).c 1 (by omega)) ds os
    have rs2 := fun ds os => cell_regrown ((Arr.to' As hW).c 2 (by omega)) ds os
    have rs3 := fun ds os => cell_regrown ((Arr.to' As hW).c 3 (by omega)) ds os
    have rx0 := fun ds os => cell_regrown ((Arr.to' Ax hW).c 0 (by omega)) ds os
    have rx1 := fun ds os => cell_regrown ((Arr.to' Ax hW).c 1 (by omega)) ds os
    have rx2 := fun ds os => cell_regrown ((Arr.to' Ax hW).c 2 (by omega)) ds os
    have rx3 := fun ds os => cell_regrown ((Arr.to' Ax hW).c 3 (by omega)) ds os
    have rp0 := (Arr.to' Ap hW).cg 0 (by omega) (.int .u64 (lim (X) 0)) rfl
    have rp1 := (Arr.to' Ap hW).cg 1 (by omega) (.int .u64 (lim (X) 1)) rfl
    have rp2 := (Arr.to' Ap hW).cg 2 (by omega) (.int .u64 (lim (X) 2)) rfl
    have rp3 := (Arr.to' Ap hW).cg 3 (by omega) (.int .u64 (lim (X) 3)) rfl
    have rp4 := (Arr.to' Ap hW).cg 4 (by omega) (.int .u64 (lim (Y) 0)) rfl
    have rp5 := (Arr.to' Ap hW).cg 5 (by omega) (.int .u64 (lim (Y) 1)) rfl
    have rp6 := (Arr.to' Ap hW).cg 6 (by omega) (.int .u64 (lim (Y) 2)) rfl
    have rp7 := (Arr.to' Ap hW).cg 7 (by omega) (.int .u64 (lim (Y) 3)) rfl
    have rp8 := (Arr.to' Ap hW).cg 8 (by omega) (.bool false) rfl
    have rp9 := (Arr.to' Ap hW).cg 9 (by omega) (.int .u64 (lim (Z) 0)) rfl
    have rp10 := (Arr.to' Ap hW).cg 10 (by omega) (.int .u64 (lim (Z) 1)) rfl
    have rp11 := (Arr.to' Ap hW).cg 11 (by omega) (.int .u64 (lim (Z) 2)) rfl
    have rp12 := (Arr.to' Ap hW).cg 12 (by omega) (.int .u64 (lim (Z) 3)) rfl
    have rc0 := fun ds os => cell_regrown ((Arr.to' Ac hW).c 0 (by omega)) ds os
    have rc1 := fun ds os => cell_regrown ((Arr.to' Ac hW).c 1 (by omega)) ds os
    have rc2 := fun ds os => cell_regrown ((Arr.to' Ac hW).c 2 (by omega)) ds os
    have rc3 := fun ds os => cell_regrown ((Arr.to' Ac hW).c 3 (by omega)) ds os
    simp only [List.take_succ_cons, List.take_zero]
    repeat (go_big_quiet_step (first | (go_at_call 42; with_reducible first | exact Calls.regrown_of (C1 _) | exact Calls.regrown_of (C4 _)) | (go_at_call 46; with_reducible first | exact Calls.regrown_of (C2 _) | exact Calls.regrown_of (C3 _) | exact Calls.regrown_of (C9 _) | exact Calls.regrown_of (C10 _) | exact Calls.regrown_of (C12 _)) | (go_at_call 45; with_reducible first | exact Calls.regrown_of (C5 _) | exact Calls.regrown_of (C7 _) | exact Calls.regrown_of (C8 _) | exact Calls.regrown_of (C11 _)) | (go_at_call 59; with_reducible first | exact Calls.regrown_of (C6 _))))
    exact wpQuiet_nil rfl
  intro v5 w15 hb1 hb2
  simp only [List.drop_succ_cons, List.drop_zero, Act.put, List.setIfInBounds_toArray, List.set_cons_succ, List.set_cons_zero]
  have Ep := Arr.to' Ap hb1
  have lp_v5 := Ep.lt
  have Bp := Arr.to' (Arr.al' Ep (.cells #[.int .u64 0, .int .u64 0, .int .u64 0, .int .u64 0] 24)) hb2
  have Em := Arr.to' Am hb1
  have lm_v5 := Em.lt
  have Bm := Arr.to' (Arr.al' Em (.cells #[.int .u64 0, .int .u64 0, .int .u64 0, .int .u64 0] 24)) hb2
  have En := Arr.to' An hb1
  have ln_v5 := En.lt
  have Bn := Arr.to' (Arr.al' En (.cells #[.int .u64 0, .int .u64 0, .int .u64 0, .int .u64 0] 24)) hb2
  have Eo := Arr.to' Ao hb1
  have lo_v5 := Eo.lt
  have Bo := Arr.to' (Arr.al' Eo (.cells #[.int .u64 0, .int .u64 0, .int .u64 0, .int .u64 0] 24)) hb2
  have Eq := Arr.to' Aq hb1
  have lq_v5 := Eq.lt
  have Bq := Arr.to' (Arr.al' Eq (.cells #[.int .u64 0, .int .u64 0, .int .u64 0, .int .u64 0] 24)) hb2
  have Ec := Arr.to' Ac hb1
  have lc_v5 := Ec.lt
  have Bc := Arr.to' (Arr.al' Ec (.cells #[.int .u64 0, .int .u64 0, .int .u64 0, .int .u64 0] 24)) hb2
  have Es := Arr.to' As hb1
  have ls_v5 := Es.lt
  have Bs := Arr.to' (Arr.al' Es (.cells #[.int .u64 0, .int .u64 0, .int .u64 0, .int .u64 0] 24)) hb2
  have Ex := Arr.to' Ax hb1
  have lx_v5 := Ex.lt
  have Bx := Arr.to' (Arr.al' Ex (.cells #[.int .u64 0, .int .u64 0, .int .u64 0, .int .u64 0] 24)) hb2
  have By := (Arr.mk4 (w := (v5.alloc (.cells #[.int .u64 0, .int .u64 0, .int .u64 0, .int .u64 0] 24))) (f := fun _ => .int .u64 0) (b := v5.heap.size) (by simp [go_sem]) (by simp [go_sem]) (by simp [go_sem]) (by simp [go_sem]) (by simp [go_sem]) (by simp [go_sem]) (by simp [go_sem]) (by simp [go_sem])).below hb2 (by go_size)
  have lB_v5 := (Bel.call hB hb1).size
  have hB' := Bel.call (Bel.al (Bel.call hB hb1) (.cells #[.int .u64 0, .int .u64 0, .int .u64 0, .int .u64 0] 24)) hb2
  clear hb1 hb2 Ep Em En Eo Eq Ec Es Ex Ap Am An Ao Aq Ac As Ax hB
  have Ap := Bp
  have Am := Bm
  have An := Bn
  have Ao := Bo
  have Aq := Bq
  have Ac := Bc
  have As := Bs
  have Ax := Bx
  have Ay := By
  have hB := hB'
  clear Bp Bm Bn Bo Bq Bc Bs Bx By hB'
  have cy := Ay.c
  have zy := Ay.z
  have Bp := Arr.st4o (b' := v5.heap.size) Ap (by have := Ap.lt; have := Ay.lt; omega) (y)
  have Bm := Arr.st4o (b' := v5.heap.size) Am (by have := Am.lt; have := Ay.lt; omega) (y)
  have Bn := Arr.st4o (b' := v5.heap.size) An (by have := An.lt; have := Ay.lt; omega) (y)
  have Bo := Arr.st4o (b' := v5.heap.size) Ao (by have := Ao.lt; have := Ay.lt; omega) (y)
  have Bq := Arr.st4o (b' := v5.heap.size) Aq (by have := Aq.lt; have := Ay.lt; omega) (y)
  have Bc := Arr.st4o (b' := v5.heap.size) Ac (by have := Ac.lt; have := Ay.lt; omega) (y)
  have Bs := Arr.st4o (b' := v5.heap.size) As (by have := As.lt; have := Ay.lt; omega) (y)
  have Bx := Arr.st4o (b' := v5.heap.size) Ax (by have := Ax.lt; have := Ay.lt; omega) (y)
  have By := Arr.st4 Ay (y)
  have hB' := Bel.st4 hB (b := v5.heap.size) (by have := hB.size; omega) (y)
  clear Ap Am An Ao Aq Ac As Ax Ay hB
  have Ap := Bp
  have Am := Bm
  have An := Bn
  have Ao := Bo
  have Aq := Bq
  have Ac := Bc
  have As := Bs
  have Ax := Bx
  have Ay := By
  have hB := hB'
  clear Bp Bm Bn Bo Bq Bc Bs Bx By hB'
  have rx0 := fun ds os => cell_regrown (Ax.c 0 (by omega)) ds os
  have rx1 := fun ds os => cell_regrown (Ax.c 1 (by omega)) ds os
  have rx2 := fun ds os => cell_regrown (Ax.c 2 (by omega)) ds os
  have rx3 := fun ds os => cell_regrown (Ax.c 3 (by omega)) ds os
  have ry0 := fun ds os => cell_regrown (Ay.c 0 (by omega)) ds os
  have ry1 := fun ds os => cell_regrown (Ay.c 1 (by omega)) ds os
  have ry2 := fun ds os => cell_regrown (Ay.c 2 (by omega)) ds os
  have ry3 := fun ds os => cell_regrown (Ay.c 3 (by omega)) ds os
  have rp0 := Ap.cg 0 (by omega) (.int .u64 (lim (X) 0)) rfl
  have rp1 := Ap.cg 1 (by omega) (.int .u64 (lim (X) 1)) rfl
  have rp2 := Ap.cg 2 (by omega) (.int .u64 (lim (X) 2)) rfl
  have rp3 := Ap.cg 3 (by omega) (.int .u64 (lim (X) 3)) rfl
  have rp4 := Ap.cg 4 (by omega) (.int .u64 (lim (Y) 0)) rfl
  have rp5 := Ap.cg 5 (by omega) (.int .u64 (lim (Y) 1)) rfl
  have rp6 := Ap.cg 6 (by omega) (.int .u64 (lim (Y) 2)) rfl
  have rp7 := Ap.cg 7 (by omega) (.int .u64 (lim (Y) 3)) rfl
  have rp8 := Ap.cg 8 (by omega) (.bool false) rfl
  have rp9 := Ap.cg 9 (by omega) (.int .u64 (lim (Z) 0)) rfl
  have rp10 := Ap.cg 10 (by omega) (.int .u64 (lim (Z) 1)) rfl
  have rp11 := Ap.cg 11 (by omega) (.int .u64 (lim (Z) 2)) rfl
  have rp12 := Ap.cg 12 (by omega) (.int .u64 (lim (Z) 3)) rfl
  have rm0 := fun ds os => cell_regrown (Am.c 0 (by omega)) ds os
  have rm1 := fun ds os => cell_regrown (Am.c 1 (by omega)) ds os
  have rm2 := fun ds os => cell_regrown (Am.c 2 (by omega)) ds os
  have rm3 := fun ds os => cell_regrown (Am.c 3 (by omega)) ds os
  go_wp2_with fail
  refine wp_region_below_tail 8 (by kernel_rfl) (by kernel_rfl) ?_
  simp only [List.take_succ_cons, List.take_zero, List.drop_succ_cons, List.drop_zero]
  repeat (go_big_quiet_step (first | (go_at_call 42; with_reducible first | exact Calls.regrown_of (C1 _) | exact Calls.regrown_of (C4 _)) | (go_at_call 46; with_reducible first | exact Calls.regrown_of (C2 _) | exact Calls.regrown_of (C3 _) | exact Calls.regrown_of (C9 _) | exact Calls.regrown_of (C10 _) | exact Calls.regrown_of (C12 _)) | (go_at_call 45; with_reducible first | exact Calls.regrown_of (C5 _) | exact Calls.regrown_of (C7 _) | exact Calls.regrown_of (C8 _) | exact Calls.regrown_of (C11 _)) | (go_at_call 59; with_reducible first | exact Calls.regrown_of (C6 _))))
  refine wpQuiet_nil ?_
  intro w6 hw'
  obtain ⟨⟨dq, osq⟩, hw''⟩ := hw'
  have hb := below_of hw''
  clear hw''
  have Bo := Arr.to' Ao hb
  have hB' := Bel.call hB hb
  clear hb cy zy rx0 rx1 rx2 rx3 ry0 ry1 ry2 ry3 rp0 rp1 rp2 rp3 rp4 rp5 rp6 rp7 rp8 rp9 rp10 rp11 rp12 rm0 rm1 rm2 rm3 Ap Am An Ao Aq Ac As Ax Ay hB
  have Ao := Bo
  have hB := hB'
  clear Bo hB'
  have hS := hB.size
  have co_0 := Ao.cv 0 (by omega) (.int .u64 0) rfl
  have co_1 := Ao.cv 1 (by omega) (.int .u64 0) rfl
  have co_2 := Ao.cv 2 (by omega) (.int .u64 0) rfl
  have co_3 := Ao.cv 3 (by omega) (.int .u64 0) rfl
  have co_4 := Ao.cv 4 (by omega) (.int .u64 0) rfl
  have co_5 := Ao.cv 5 (by omega) (.int .u64 0) rfl
  have co_6 := Ao.cv 6 (by omega) (.int .u64 0) rfl
  have co_7 := Ao.cv 7 (by omega) (.int .u64 0) rfl
  have co_8 := Ao.cv 8 (by omega) (.bool false) rfl
  have co_9 := Ao.cv 9 (by omega) (.int .u64 0) rfl
  have co_10 := Ao.cv 10 (by omega) (.int .u64 0) rfl
  have co_11 := Ao.cv 11 (by omega) (.int .u64 0) rfl
  have co_12 := Ao.cv 12 (by omega) (.int .u64 0) rfl
  have zo := Ao.z
  go_wp2_with fail
  refine bodyPost_ret (v := jv x y false z) (by simp [results, Tryz.results47, go_sem, co_0, co_1, co_2, co_3, co_4, co_5, co_6, co_7, co_8, co_9, co_10, co_11, co_12]) rfl ⟨rfl, ?_⟩
  go_grown
set_option maxHeartbeats 8000000 in
theorem plain_none (X Y Z : Int) (w : World)
    (C1 : ∀ W, Calls Tryz.prog 30 #[] W fun e w' => e = .returned (pv 0 0 true) ∧ Below W.heap.size W w') :
    Calls Tryz.prog 25 #[jv X Y true Z] w fun e w' => e = .returned (pv 0 0 true) ∧ Below w.heap.size w w' := by
  go_enter Tryz.func25, Tryz.ntmps25
  have Bp : Arr (((w.alloc (.cells #[.int .u64 (lim (X) 0), .int .u64 (lim (X) 1), .int .u64 (lim (X) 2), .int .u64 (lim (X) 3), .int .u64 (lim (Y) 0), .int .u64 (lim (Y) 1), .int .u64 (lim (Y) 2), .int .u64 (lim (Y) 3), .bool true, .int .u64 (lim (Z) 0), .int .u64 (lim (Z) 1), .int .u64 (lim (Z) 2), .int .u64 (lim (Z) 3)] 43)).alloc (.cells #[.int .u64 0, .int .u64 0, .int .u64 0, .int .u64 0, .int .u64 0, .int .u64 0, .int .u64 0, .int .u64 0, .bool false] 26))) (w.heap.size) 13 (sx (X) (Y) true (Z)) := by refine Arr.mk13 ?_ ?_ ?_ ?_ ?_ ?_ ?_ ?_ ?_ ?_ ?_ ?_ ?_ ?_ <;> simp [go_sem, px, sx, zx]
  have Bo : Arr (((w.alloc (.cells #[.int .u64 (lim (X) 0), .int .u64 (lim (X) 1), .int .u64 (lim (X) 2), .int .u64 (lim (X) 3), .int .u64 (lim (Y) 0), .int .u64 (lim (Y) 1), .int .u64 (lim (Y) 2), .int .u64 (lim (Y) 3), .bool true, .int .u64 (lim (Z) 0), .int .u64 (lim (Z) 1), .int .u64 (lim (Z) 2), .int .u64 (lim (Z) 3)] 43)).alloc (.cells #[.int .u64 0, .int .u64 0, .int .u64 0, .int .u64 0, .int .u64 0, .int .u64 0, .int .u64 0, .int .u64 0, .bool false] 26))) (w.heap.size + 1) 9 (zx 8) := by refine Arr.mk9p ?_ ?_ ?_ ?_ ?_ ?_ ?_ ?_ ?_ ?_ <;> simp [go_sem, px, sx, zx]
  have hB' : Below w.heap.size w ((w.alloc (.cells #[.int .u64 (lim (X) 0), .int .u64 (lim (X) 1), .int .u64 (lim (X) 2), .int .u64 (lim (X) 3), .int .u64 (lim (Y) 0), .int .u64 (lim (Y) 1), .int .u64 (lim (Y) 2), .int .u64 (lim (Y) 3), .bool true, .int .u64 (lim (Z) 0), .int .u64 (lim (Z) 1), .int .u64 (lim (Z) 2), .int .u64 (lim (Z) 3)] 43)).alloc (.cells #[.int .u64 0, .int .u64 0, .int .u64 0, .int .u64 0, .int .u64 0, .int .u64 0, .int .u64 0, .int .u64 0, .bool false] 26)) := by go_grown
  have Ap := Bp
  have Ao := Bo
  have hB := hB'
  clear Bp Bo hB'
  have cp_0 := Ap.cv 0 (by omega) (.int .u64 (lim (X) 0)) rfl
  have cp_1 := Ap.cv 1 (by omega) (.int .u64 (lim (X) 1)) rfl
  have cp_2 := Ap.cv 2 (by omega) (.int .u64 (lim (X) 2)) rfl
  have cp_3 := Ap.cv 3 (by omega) (.int .u64 (lim (X) 3)) rfl
  have cp_4 := Ap.cv 4 (by omega) (.int .u64 (lim (Y) 0)) rfl
  have cp_5 := Ap.cv 5 (by omega) (.int .u64 (lim (Y) 1)) rfl
  have cp_6 := Ap.cv 6 (by omega) (.int .u64 (lim (Y) 2)) rfl
  have cp_7 := Ap.cv 7 (by omega) (.int .u64 (lim (Y) 3)) rfl
  have cp_8 := Ap.cv 8 (by omega) (.bool true) rfl
  have cp_9 := Ap.cv 9 (by omega) (.int .u64 (lim (Z) 0)) rfl
  have cp_10 := Ap.cv 10 (by omega) (.int .u64 (lim (Z) 1)) rfl
  have cp_11 := Ap.cv 11 (by omega) (.int .u64 (lim (Z) 2)) rfl
  have cp_12 := Ap.cv 12 (by omega) (.int .u64 (lim (Z) 3)) rfl
  go_wp2_with fail
  refine (C1 _).mono ?_
  rintro e w11 ⟨rfl, hb⟩
  have Bo := Arr.to' Ao hb
  have hB' := Bel.call hB hb
  clear hb cp_0 cp_1 cp_2 cp_3 cp_4 cp_5 cp_6 cp_7 cp_8 cp_9 cp_10 cp_11 cp_12 Ap Ao hB
  have Ao := Bo
  have hB := hB'
  clear Bo hB'
  have hS := hB.size
  have co_0 := Ao.cv 0 (by omega) (.int .u64 0) rfl
  have co_1 := Ao.cv 1 (by omega) (.int .u64 0) rfl
  have co_2 := Ao.cv 2 (by omega) (.int .u64 0) rfl
  have co_3 := Ao.cv 3 (by omega) (.int .u64 0) rfl
  have co_4 := Ao.cv 4 (by omega) (.int .u64 0) rfl
  have co_5 := Ao.cv 5 (by omega) (.int .u64 0) rfl
  have co_6 := Ao.cv 6 (by omega) (.int .u64 0) rfl
  have co_7 := Ao.cv 7 (by omega) (.int .u64 0) rfl
  have co_8 := Ao.cv 8 (by omega) (.bool false) rfl
  have zo := Ao.z
  go_wp2_with fail
  refine bodyPost_ret (v := pv 0 0 true) (by simp [results, Tryz.results25, go_sem, co_0, co_1, co_2, co_3, co_4, co_5, co_6, co_7, co_8]) rfl ⟨rfl, ?_⟩
  go_grown
set_option maxHeartbeats 8000000 in
theorem plain_core (X Y Z I i2 x i3 y : Int) (ok : Bool) (w : World)
    (C1 : ∀ W, Calls Tryz.prog 49 #[] W fun e w' => e = .returned (nv pp) ∧ Below W.heap.size W w')
    (C2 : ∀ W, Calls Tryz.prog 48 #[nv Z, nv pp] W fun e w' => e = .returned (.tuple #[nv I, .bool ok]) ∧ Below W.heap.size W w')
    (C3 : ∀ W, Calls Tryz.prog 42 #[nv I] W fun e w' => e = .returned (nv i2) ∧ Below W.heap.size W w')
    (C4 : ∀ W, Calls Tryz.prog 46 #[nv X, nv i2] W fun e w' => e = .returned (nv x) ∧ Below W.heap.size W w')
    (C5 : ∀ W, Calls Tryz.prog 46 #[nv I, nv i2] W fun e w' => e = .returned (nv i3) ∧ Below W.heap.size W w')
    (C6 : ∀ W, Calls Tryz.prog 46 #[nv Y, nv i3] W fun e w' => e = .returned (nv y) ∧ Below W.heap.size W w') :
    Calls Tryz.prog 25 #[jv X Y false Z] w fun e w' => e = .returned (pv x y false) ∧ Below w.heap.size w w' := by
  go_enter Tryz.func25, Tryz.ntmps25
  go_wp2_with fail
  have Bp : Arr (((w.alloc (.cells #[.int .u64 (lim (X) 0), .int .u64 (lim (X) 1), .int .u64 (lim (X) 2), .int .u64 (lim (X) 3), .int .u64 (lim (Y) 0), .int .u64 (lim (Y) 1), .int .u64 (lim (Y) 2), .int .u64 (lim (Y) 3), .bool false, .int .u64 (lim (Z) 0), .int .u64 (lim (Z) 1), .int .u64 (lim (Z) 2), .int .u64 (lim (Z) 3)] 43)).alloc (.cells #[.int .u64 0, .int .u64 0, .int .u64 0, .int .u64 0, .int .u64 0, .int .u64 0, .int .u64 0, .int .u64 0, .bool false] 26))) (w.heap.size) 13 (sx (X) (Y) false (Z)) := by refine Arr.mk13 ?_ ?_ ?_ ?_ ?_ ?_ ?_ ?_ ?_ ?_ ?_ ?_ ?_ ?_ <;> simp [go_sem, px, sx, zx]
  have Bo : Arr (((w.alloc (.cells #[.int .u64 (lim (X) 0), .int .u64 (lim (X) 1), .int .u64 (lim (X) 2), .int .u64 (lim (X) 3), .int .u64 (lim (Y) 0), .int .u64 (lim (Y) 1), .int .u64 (lim (Y) 2), .int .u64 (lim (Y) 3), .bool false, .int .u64 (lim (Z) 0), .int .u64 (lim (Z) 1), .int .u64 (lim (Z) 2), .int .u64 (lim (Z) 3)] 43)).alloc (.cells #[.int .u64 0, .int .u64 0, .int .u64 0, .int .u64 0, .int .u64 0, .int .u64 0, .int .u64 0, .int .u64 0, .bool false] 26))) (w.heap.size + 1) 9 (zx 8) := by refine Arr.mk9p ?_ ?_ ?_ ?_ ?_ ?_ ?_ ?_ ?_ ?_ <;> simp [go_sem, px, sx, zx]
  have hB' : Below w.heap.size w ((w.alloc (.cells #[.int .u64 (lim (X) 0), .int .u64 (lim (X) 1), .int .u64 (lim (X) 2), .int .u64 (lim (X) 3), .int .u64 (lim (Y) 0), .int .u64 (lim (Y) 1), .int .u64 (lim (Y) 2), .int .u64 (lim (Y) 3), .bool false, .int .u64 (lim (Z) 0), .int .u64 (lim (Z) 1), .int .u64 (lim (Z) 2), .int .u64 (lim (Z) 3)] 43)).alloc (.cells #[.int .u64 0, .int .u64 0, .int .u64 0, .int .u64 0, .int .u64 0, .int .u64 0, .int .u64 0, .int .u64 0, .bool false] 26)) := by go_grown
  have Ap := Bp
  have Ao := Bo
  have hB := hB'
  clear Bp Bo hB'
  apply wp_region_pure_tail 4 3 #[true, true, true, true, false, false, false, true, false, false] #[true, true, true, true, true, true, true, false, false, false] (by kernel_rfl) (by intro c d v a w h; cases d <;> exact h) (by kernel_rfl) (by kernel_rfl) (.cells #[.int .u64 0, .int .u64 0, .int .u64 0, .int .u64 0] 24) _ rfl (fun _ _ => by simp [go_sem])
  · intro W hW
    have rp0 := (Arr.to' Ap hW).cg 0 (by omega) (.int .u64 (lim (X) 0)) rfl
    have rp1 := (Arr.to' Ap hW).cg 1 (by omega) (.int .u64 (lim (X) 1)) rfl
    have rp2 := (Arr.to' Ap hW).cg 2 (by omega) (.int .u64 (lim (X) 2)) rfl
    have rp3 := (Arr.to' Ap hW).cg 3 (by omega) (.int .u64 (lim (X) 3)) rfl
    have rp4 := (Arr.to' Ap hW).cg 4 (by omega) (.int .u64 (lim (Y) 0)) rfl
    have rp5 := (Arr.to' Ap hW).cg 5 (by omega) (.int .u64 (lim (Y) 1)) rfl
    have rp6 := (Arr.to' Ap hW).cg 6 (by omega) (.int .u64 (lim (Y) 2)) rfl
    have rp7 := (Arr.to' Ap hW).cg 7 (by omega) (.int .u64 (lim (Y) 3)) rfl
    have rp8 := (Arr.to' Ap hW).cg 8 (by omega) (.bool false) rfl
    have rp9 := (Arr.to' Ap hW).cg 9 (by omega) (.int .u64 (lim (Z) 0)) rfl
    have rp10 := (Arr.to' Ap hW).cg 10 (by omega) (.int .u64 (lim (Z) 1)) rfl
    have rp11 := (Arr.to' Ap hW).cg 11 (by omega) (.int .u64 (lim (Z) 2)) rfl
    have rp12 := (Arr.to' Ap hW).cg 12 (by omega) (.int .u64 (lim (Z) 3)) rfl
    simp only [List.take_succ_cons, List.take_zero]
    repeat (go_big_quiet_step (first | (go_at_call 49; with_reducible first | exact Calls.regrown_of (C1 _)) | (go_at_call 48; with_reducible first | exact Calls.regrown_of (C2 _)) | (go_at_call 42; with_reducible first | exact Calls.regrown_of (C3 _)) | (go_at_call 46; with_reducible first | exact Calls.regrown_of (C4 _) | exact Calls.regrown_of (C5 _) | exact Calls.regrown_of (C6 _))))
    exact wpQuiet_nil rfl
  · exact ⟨_, Or.inl ⟨rfl, fun _ => rfl⟩, ⟨_, Or.inl ⟨rfl, fun _ => rfl⟩, ⟨_, Or.inl ⟨rfl, fun _ => rfl⟩, rfl⟩⟩⟩
  · intro v; exact ⟨_, Or.inl ⟨rfl, fun _ => rfl⟩, ⟨_, Or.inl ⟨rfl, fun _ => rfl⟩, ⟨_, Or.inl ⟨rfl, fun _ => rfl⟩, rfl⟩⟩⟩
  intro v1 w11 hb1 hb2
  simp only [List.drop_succ_cons, List.drop_zero, Act.put, List.setIfInBounds_toArray, List.set_cons_succ, List.set_cons_zero]
  have Ep := Arr.to' Ap hb1
  have lp_v1 := Ep.lt
  have Bp := Arr.to' (Arr.al' Ep (.cells #[.int .u64 0, .int .u64 0, .int .u64 0, .int .u64 0] 24)) hb2
  have Eo := Arr.to' Ao hb1
  have lo_v1 := Eo.lt
  have Bo := Arr.to' (Arr.al' Eo (.cells #[.int .u64 0, .int .u64 0, .int .u64 0, .int .u64 0] 24)) hb2
  have Bi := (Arr.mk4 (w := (v1.alloc (.cells #[.int .u64 0, .int .u64 0, .int .u64 0, .int .u64 0] 24))) (f := fun _ => .int .u64 0) (b := v1.heap.size) (by simp [go_sem]) (by simp [go_sem]) (by simp [go_sem]) (by simp [go_sem]) (by simp [go_sem]) (by simp [go_sem]) (by simp [go_sem]) (by simp [go_sem])).below hb2 (by go_size)
  have lB_v1 := (Bel.call hB hb1).size
  have hB' := Bel.call (Bel.al (Bel.call hB hb1) (.cells #[.int .u64 0, .int .u64 0, .int .u64 0, .int .u64 0] 24)) hb2
  clear hb1 hb2 Ep Eo Ap Ao hB
  have Ap := Bp
  have Ao := Bo
  have Ai := Bi
  have hB := hB'
  clear Bp Bo Bi hB'
  have ci := Ai.c
  have zi := Ai.z
  have Bp := Arr.st4o (b' := v1.heap.size) Ap (by have := Ap.lt; have := Ai.lt; omega) (I)
  have Bo := Arr.st4o (b' := v1.heap.size) Ao (by have := Ao.lt; have := Ai.lt; omega) (I)
  have Bi := Arr.st4 Ai (I)
  have hB' := Bel.st4 hB (b := v1.heap.size) (by have := hB.size; omega) (I)
  clear Ap Ao Ai hB
  have Ap := Bp
  have Ao := Bo
  have Ai := Bi
  have hB := hB'
  clear Bp Bo Bi hB'
  have ci := Ai.c
  go_wp2_with fail
  refine (C3 _).mono ?_
  rintro e w12 ⟨rfl, hb⟩
  have Bp := Arr.to' Ap hb
  have Bo := Arr.to' Ao hb
  have Bi := Arr.to' Ai hb
  have hB' := Bel.call hB hb
  clear hb ci zi Ap Ao Ai hB
  have Ap := Bp
  have Ao := Bo
  have Ai := Bi
  have hB := hB'
  clear Bp Bo Bi hB'
  have lp_2 := Ap.lt
  have lo_2 := Ao.lt
  have li_2 := Ai.lt
  have lB_2 := hB.size
  have Bp := (Arr.al' Ap (.cells #[.int .u64 (lim (i2) 0), .int .u64 (lim (i2) 1), .int .u64 (lim (i2) 2), .int .u64 (lim (i2) 3)] 24))
  have Bo := (Arr.al' Ao (.cells #[.int .u64 (lim (i2) 0), .int .u64 (lim (i2) 1), .int .u64 (lim (i2) 2), .int .u64 (lim (i2) 3)] 24))
  have Bi := (Arr.al' Ai (.cells #[.int .u64 (lim (i2) 0), .int .u64 (lim (i2) 1), .int .u64 (lim (i2) 2), .int .u64 (lim (i2) 3)] 24))
  have Bq : Arr ((w12.alloc (.cells #[.int .u64 (lim (i2) 0), .int .u64 (lim (i2) 1), .int .u64 (lim (i2) 2), .int .u64 (lim (i2) 3)] 24))) (w12.heap.size) 4 (fun j => .int .u64 (lim (i2) j)) := by refine Arr.mk4 ?_ ?_ ?_ ?_ ?_ ?_ ?_ ?_ <;> simp [go_sem]
  have hB' := (Bel.al hB (.cells #[.int .u64 (lim (i2) 0), .int .u64 (lim (i2) 1), .int .u64 (lim (i2) 2), .int .u64 (lim (i2) 3)] 24))
  clear Ap Ao Ai hB
  have Ap := Bp
  have Ao := Bo
  have Ai := Bi
  have Aq := Bq
  have hB := hB'
  clear Bp Bo Bi Bq hB'
  have rp0 := Ap.cg 0 (by omega) (.int .u64 (lim (X) 0)) rfl
  have rp1 := Ap.cg 1 (by omega) (.int .u64 (lim (X) 1)) rfl
  have rp2 := Ap.cg 2 (by omega) (.int .u64 (lim (X) 2)) rfl
  have rp3 := Ap.cg 3 (by omega) (.int .u64 (lim (X) 3)) rfl
  have rp4 := Ap.cg 4 (by omega) (.int .u64 (lim (Y) 0)) rfl
  have rp5 := Ap.cg 5 (by omega) (.int .u64 (lim (Y) 1)) rfl
  have rp6 := Ap.cg 6 (by omega) (.int .u64 (lim (Y) 2)) rfl
  have rp7 := Ap.cg 7 (by omega) (.int .u64 (lim (Y) 3)) rfl
  have rp8 := Ap.cg 8 (by omega) (.bool false) rfl
  have rp9 := Ap.cg 9 (by omega) (.int .u64 (lim (Z) 0)) rfl
  have rp10 := Ap.cg 10 (by omega) (.int .u64 (lim (Z) 1)) rfl
  have rp11 := Ap.cg 11 (by omega) (.int .u64 (lim (Z) 2)) rfl
  have rp12 := Ap.cg 12 (by omega) (.int .u64 (lim (Z) 3)) rfl
  have rq0 := fun ds os => cell_regrown (Aq.c 0 (by omega)) ds os
  have rq1 := fun ds os => cell_regrown (Aq.c 1 (by omega)) ds os
  have rq2 := fun ds os => cell_regrown (Aq.c 2 (by omega)) ds os
  have rq3 := fun ds os => cell_regrown (Aq.c 3 (by omega)) ds os
  have ri0 := fun ds os => cell_regrown (Ai.c 0 (by omega)) ds os
  have ri1 := fun ds os => cell_regrown (Ai.c 1 (by omega)) ds os
  have ri2 := fun ds os => cell_regrown (Ai.c 2 (by omega)) ds os
  have ri3 := fun ds os => cell_regrown (Ai.c 3 (by omega)) ds os
  go_wp2_with fail
  refine wp_region_below_tail 13 (by kernel_rfl) (by kernel_rfl) ?_
  simp only [List.take_succ_cons, List.take_zero, List.drop_succ_cons, List.drop_zero]
  repeat (go_big_quiet_step (first | (go_at_call 49; with_reducible first | exact Calls.regrown_of (C1 _)) | (go_at_call 48; with_reducible first | exact Calls.regrown_of (C2 _)) | (go_at_call 42; with_reducible first | exact Calls.regrown_of (C3 _)) | (go_at_call 46; with_reducible first | exact Calls.regrown_of (C4 _) | exact Calls.regrown_of (C5 _) | exact Calls.regrown_of (C6 _))))
  refine wpQuiet_nil ?_
  intro w3 hw'
  obtain ⟨⟨dq, osq⟩, hw''⟩ := hw'
  have hb := below_of hw''
  clear hw''
  have Bo := Arr.to' Ao hb
  have hB' := Bel.call hB hb
  clear hb rp0 rp1 rp2 rp3 rp4 rp5 rp6 rp7 rp8 rp9 rp10 rp11 rp12 rq0 rq1 rq2 rq3 ri0 ri1 ri2 ri3 Ap Ao Ai Aq hB
  have Ao := Bo
  have hB := hB'
  clear Bo hB'
  have hS := hB.size
  have co_0 := Ao.cv 0 (by omega) (.int .u64 0) rfl
  have co_1 := Ao.cv 1 (by omega) (.int .u64 0) rfl
  have co_2 := Ao.cv 2 (by omega) (.int .u64 0) rfl
  have co_3 := Ao.cv 3 (by omega) (.int .u64 0) rfl
  have co_4 := Ao.cv 4 (by omega) (.int .u64 0) rfl
  have co_5 := Ao.cv 5 (by omega) (.int .u64 0) rfl
  have co_6 := Ao.cv 6 (by omega) (.int .u64 0) rfl
  have co_7 := Ao.cv 7 (by omega) (.int .u64 0) rfl
  have co_8 := Ao.cv 8 (by omega) (.bool false) rfl
  have zo := Ao.z
  go_wp2_with fail
  refine bodyPost_ret (v := pv x y false) (by simp [results, Tryz.results25, go_sem, co_0, co_1, co_2, co_3, co_4, co_5, co_6, co_7, co_8]) rfl ⟨rfl, ?_⟩
  go_grown
end Go.Proofs.YtgekafmojedlkaaGreat
