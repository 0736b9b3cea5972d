/- The reference's Mul and Both. -/
import Derived.Test.YtgekafmojedlkaaGreatJ42
import Derived.Test.YtgekafmojedlkaaGreatJ26
set_option linter.all false
set_option maxRecDepth 100000
namespace Go.Proofs.YtgekafmojedlkaaGreat
open Go.RowKit Go.Sort
set_option maxHeartbeats 8000000 in
theorem rmul_pt_core (K X Y x y z a b c P Q : Int) (i n : Bool) (w : World)
    (C1 : ∀ W, Calls Tryz.prog 29 #[pv X Y i] W fun e w' => e = .returned (tv x y z) ∧ Below W.heap.size W w')
    (C2 : ∀ W, Calls Tryz.prog 28 #[nv K, tv x y z] W fun e w' => e = .returned (tv a b c) ∧ Below W.heap.size W w')
    (C3 : ∀ W, Calls Tryz.prog 27 #[tv a b c] W fun e w' => e = .returned (pv P Q n) ∧ Below W.heap.size W w') :
    Calls Tryz.prog 9 #[nv K, pv X Y i] w fun e w' => e = .returned (pv P Q n) ∧ Below w.heap.size w w' := by
  go_enter Tryz.func9, Tryz.ntmps9
  go_wp2_with fail
  have Bk : Arr ((((w.alloc (.cells #[.int .u64 (lim (K) 0), .int .u64 (lim (K) 1), .int .u64 (lim (K) 2), .int .u64 (lim (K) 3)] 24)).alloc (.cells #[.int .u64 (lim (X) 0), .int .u64 (lim (X) 1), .int .u64 (lim (X) 2), .int .u64 (lim (X) 3), .int .u64 (lim (Y) 0), .int .u64 (lim (Y) 1), .int .u64 (lim (Y) 2), .int .u64 (lim (Y) 3), .bool i] 26)).alloc (.cells #[.int .u64 0, .int .u64 0, .int .u64 0, .int .u64 0, .int .u64 0, .int .u64 0, .int .u64 0, .int .u64 0, .bool false] 26))) (w.heap.size) 4 (fun j => .int .u64 (lim (K) j)) := by refine Arr.mk4 ?_ ?_ ?_ ?_ ?_ ?_ ?_ ?_ <;> simp [go_sem]
  have Bp : Arr ((((w.alloc (.cells #[.int .u64 (lim (K) 0), .int .u64 (lim (K) 1), .int .u64 (lim (K) 2), .int .u64 (lim (K) 3)] 24)).alloc (.cells #[.int .u64 (lim (X) 0), .int .u64 (lim (X) 1), .int .u64 (lim (X) 2), .int .u64 (lim (X) 3), .int .u64 (lim (Y) 0), .int .u64 (lim (Y) 1), .int .u64 (lim (Y) 2), .int .u64 (lim (Y) 3), .bool i] 26)).alloc (.cells #[.int .u64 0, .int .u64 0, .int .u64 0, .int .u64 0, .int .u64 0, .int .u64 0, .int .u64 0, .int .u64 0, .bool false] 26))) (w.heap.size + 1) 9 (px (X) (Y) i) := by refine Arr.mk9p ?_ ?_ ?_ ?_ ?_ ?_ ?_ ?_ ?_ ?_ <;> simp [go_sem, px, sx, zx, trx, trz]
  have Bo : Arr ((((w.alloc (.cells #[.int .u64 (lim (K) 0), .int .u64 (lim (K) 1), .int .u64 (lim (K) 2), .int .u64 (lim (K) 3)] 24)).alloc (.cells #[.int .u64 (lim (X) 0), .int .u64 (lim (X) 1), .int .u64 (lim (X) 2), .int .u64 (lim (X) 3), .int .u64 (lim (Y) 0), .int .u64 (lim (Y) 1), .int .u64 (lim (Y) 2), .int .u64 (lim (Y) 3), .bool i] 26)).alloc (.cells #[.int .u64 0, .int .u64 0, .int .u64 0, .int .u64 0, .int .u64 0, .int .u64 0, .int .u64 0, .int .u64 0, .bool false] 26))) (w.heap.size + 1 + 1) 9 (zx 8) := by refine Arr.mk9p ?_ ?_ ?_ ?_ ?_ ?_ ?_ ?_ ?_ ?_ <;> simp [go_sem, px, sx, zx, trx, trz]
  have hB' : Below w.heap.size w (((w.alloc (.cells #[.int .u64 (lim (K) 0), .int .u64 (lim (K) 1), .int .u64 (lim (K) 2), .int .u64 (lim (K) 3)] 24)).alloc (.cells #[.int .u64 (lim (X) 0), .int .u64 (lim (X) 1), .int .u64 (lim (X) 2), .int .u64 (lim (X) 3), .int .u64 (lim (Y) 0), .int .u64 (lim (Y) 1), .int .u64 (lim (Y) 2), .int .u64 (lim (Y) 3), .bool i] 26)).alloc (.cells #[.int .u64 0, .int .u64 0, .int .u64 0, .int .u64 0, .int .u64 0, .int .u64 0, .int .u64 0, .int .u64 0, .bool false] 26)) := by go_grown
  have Ak := Bk
  have Ap := Bp
  have Ao := Bo
  have hB := hB'
  clear Bk Bp Bo hB'
  have rk0 := fun ds os => cell_regrown (Ak.c 0 (by omega)) ds os
  have rk1 := fun ds os => cell_regrown (Ak.c 1 (by omega)) ds os
  have rk2 := fun ds os => cell_regrown (Ak.c 2 (by omega)) ds os
  have rk3 := fun ds os => cell_regrown (Ak.c 3 (by omega)) ds os
  have rp0 := Ap.cg 0 (by omega) (.int .u64 (lim (X) 0)) rfl
  have rp1 := Ap.cg 1 (by omega) (.int .u64 (lim (X) 1)) rfl
  have rp2 := Ap.cg 2 (by omega) (.int .u64 (lim (X) 2)) rfl
  have rp3 := Ap.cg 3 (by omega) (.int .u64 (lim (X) 3)) rfl
  have rp4 := Ap.cg 4 (by omega) (.int .u64 (lim (Y) 0)) rfl
  have rp5 := Ap.cg 5 (by omega) (.int .u64 (lim (Y) 1)) rfl
  have rp6 := Ap.cg 6 (by omega) (.int .u64 (lim (Y) 2)) rfl
  have rp7 := Ap.cg 7 (by omega) (.int .u64 (lim (Y) 3)) rfl
  have rp8 := Ap.cg 8 (by omega) (.bool i) rfl
  refine wp_region_below_tail 5 (by kernel_rfl) (by kernel_rfl) ?_
  simp only [List.take_succ_cons, List.take_zero, List.drop_succ_cons, List.drop_zero]
  repeat (go_big_quiet_step (first | (go_at_call 29; with_reducible first | exact Calls.regrown_of (C1 _)) | (go_at_call 28; with_reducible first | exact Calls.regrown_of (C2 _)) | (go_at_call 27; with_reducible first | exact Calls.regrown_of (C3 _))))
  refine wpQuiet_nil ?_
  intro w1 hw'
  obtain ⟨⟨dq, osq⟩, hw''⟩ := hw'
  have hb := below_of hw''
  clear hw''
  have Bo := Arr.to' Ao hb
  have hB' := Bel.call hB hb
  clear hb rk0 rk1 rk2 rk3 rp0 rp1 rp2 rp3 rp4 rp5 rp6 rp7 rp8 Ak Ap Ao hB
  have Ao := Bo
  have hB := hB'
  clear Bo hB'
  have hS := hB.size
  have co_0 := Ao.cv 0 (by omega) (.int .u64 0) rfl
  have co_1 := Ao.cv 1 (by omega) (.int .u64 0) rfl
  have co_2 := Ao.cv 2 (by omega) (.int .u64 0) rfl
  have co_3 := Ao.cv 3 (by omega) (.int .u64 0) rfl
  have co_4 := Ao.cv 4 (by omega) (.int .u64 0) rfl
  have co_5 := Ao.cv 5 (by omega) (.int .u64 0) rfl
  have co_6 := Ao.cv 6 (by omega) (.int .u64 0) rfl
  have co_7 := Ao.cv 7 (by omega) (.int .u64 0) rfl
  have co_8 := Ao.cv 8 (by omega) (.bool false) rfl
  have zo := Ao.z
  go_wp2_with fail
  refine bodyPost_ret (v := pv P Q n) (by simp [results, Tryz.results9, go_sem, co_0, co_1, co_2, co_3, co_4, co_5, co_6, co_7, co_8]) rfl ⟨rfl, ?_⟩
  go_grown
set_option maxHeartbeats 8000000 in
theorem rboth_core (J K X Y x1 y1 z1 a1 b1 c1 x y z a b c a2 b2 c2 P Q : Int) (i n : Bool) (w : World)
    (C1 : ∀ W, Calls Tryz.prog 34 #[] W fun e w' => e = .returned (pv gx gy false) ∧ Below W.heap.size W w')
    (C2 : ∀ W, Calls Tryz.prog 29 #[pv gx gy false] W fun e w' => e = .returned (tv x1 y1 z1) ∧ Below W.heap.size W w')
    (C3 : ∀ W, Calls Tryz.prog 28 #[nv J, tv x1 y1 z1] W fun e w' => e = .returned (tv a1 b1 c1) ∧ Below W.heap.size W w')
    (C4 : ∀ W, Calls Tryz.prog 29 #[pv X Y i] W fun e w' => e = .returned (tv x y z) ∧ Below W.heap.size W w')
    (C5 : ∀ W, Calls Tryz.prog 28 #[nv K, tv x y z] W fun e w' => e = .returned (tv a b c) ∧ Below W.heap.size W w')
    (C6 : ∀ W, Calls Tryz.prog 33 #[tv a1 b1 c1, tv a b c] W fun e w' => e = .returned (tv a2 b2 c2) ∧ Below W.heap.size W w')
    (C7 : ∀ W, Calls Tryz.prog 27 #[tv a2 b2 c2] W fun e w' => e = .returned (pv P Q n) ∧ Below W.heap.size W w') :
    Calls Tryz.prog 11 #[nv J, nv K, pv X Y i] w fun e w' => e = .returned (pv P Q n) ∧ Below w.heap.size w w' := by
  go_enter Tryz.func11, Tryz.ntmps11
  go_wp2_with fail
  have Bj : Arr (((((w.alloc (.cells #[.int .u64 (lim (J) 0), .int .u64 (lim (J) 1), .int .u64 (lim (J) 2), .int .u64 (lim (J) 3)] 24)).alloc (.cells #[.int .u64 (lim (K) 0), .int .u64 (lim (K) 1), .int .u64 (lim (K) 2), .int .u64 (lim (K) 3)] 24)).alloc (.cells #[.int .u64 (lim (X) 0), .int .u64 (lim (X) 1), .int .u64 (lim (X) 2), .int .u64 (lim (X) 3), .int .u64 (lim (Y) 0), .int .u64 (lim (Y) 1), .int .u64 (lim (Y) 2), .int .u64 (lim (Y) 3), .bool i] 26)).alloc (.cells #[.int .u64 0, .int .u64 0, .int .u64 0, .int .u64 0, .int .u64 0, .int .u64 0, .int .u64 0, .int .u64 0, .bool false] 26))) (w.heap.size) 4 (fun j => .int .u64 (lim (J) j)) := by refine Arr.mk4 ?_ ?_ ?_ ?_ ?_ ?_ ?_ ?_ <;> simp [go_sem]
  have Bk : Arr (((((w.alloc (.cells #[.int .u64 (lim (J) 0), .int .u64 (lim (J) 1), .int .u64 (lim (J) 2), .int .u64 (lim (J) 3)] 24)).alloc (.cells #[.int .u64 (lim (K) 0), .int .u64 (lim (K) 1), .int .u64 (lim (K) 2), .int .u64 (lim (K) 3)] 24)).alloc (.cells #[.int .u64 (lim (X) 0), .int .u64 (lim (X) 1), .int .u64 (lim (X) 2), .int .u64 (lim (X) 3), .int .u64 (lim (Y) 0), .int .u64 (lim (Y) 1), .int .u64 (lim (Y) 2), .int .u64 (lim (Y) 3), .bool i] 26)).alloc (.cells #[.int .u64 0, .int .u64 0, .int .u64 0, .int .u64 0, .int .u64 0, .int .u64 0, .int .u64 0, .int .u64 0, .bool false] 26))) (w.heap.size + 1) 4 (fun j => .int .u64 (lim (K) j)) := by refine Arr.mk4 ?_ ?_ ?_ ?_ ?_ ?_ ?_ ?_ <;> simp [go_sem]
  have Bp : Arr (((((w.alloc (.cells #[.int .u64 (lim (J) 0), .int .u64 (lim (J) 1), .int .u64 (lim (J) 2), .int .u64 (lim (J) 3)] 24)).alloc (.cells #[.int .u64 (lim (K) 0), .int .u64 (lim (K) 1), .int .u64 (lim (K) 2), .int .u64 (lim (K) 3)] 24)).alloc (.cells #[.int .u64 (lim (X) 0), .int .u64 (lim (X) 1), .int .u64 (lim (X) 2), .int .u64 (lim (X) 3), .int .u64 (lim (Y) 0), .int .u64 (lim (Y) 1), .int .u64 (lim (Y) 2), .int .u64 (lim (Y) 3), .bool i] 26)).alloc (.cells #[.int .u64 0, .int .u64 0, .int .u64 0, .int .u64 0, .int .u64 0, .int .u64 0, .int .u64 0, .int .u64 0, .bool false] 26))) (w.heap.size + 1 + 1) 9 (px (X) (Y) i) := by refine Arr.mk9p ?_ ?_ ?_ ?_ ?_ ?_ ?_ ?_ ?_ ?_ <;> simp [go_sem, px, sx, zx, trx, trz]
  have Bo : Arr (((((w.alloc (.cells #[.int .u64 (lim (J) 0), .int .u64 (lim (J) 1), .int .u64 (lim (J) 2), .int .u64 (lim (J) 3)] 24)).alloc (.cells #[.int .u64 (lim (K) 0), .int .u64 (lim (K) 1), .int .u64 (lim (K) 2), .int .u64 (lim (K) 3)] 24)).alloc (.cells #[.int .u64 (lim (X) 0), .int .u64 (lim (X) 1), .int .u64 (lim (X) 2), .int .u64 (lim (X) 3), .int .u64 (lim (Y) 0), .int .u64 (lim (Y) 1), .int .u64 (lim (Y) 2), .int .u64 (lim (Y) 3), .bool i] 26)).alloc (.cells #[.int .u64 0, .int .u64 0, .int .u64 0, .int .u64 0, .int .u64 0, .int .u64 0, .int .u64 0, .int .u64 0, .bool false] 26))) (w.heap.size + 1 + 1 + 1) 9 (zx 8) := by refine Arr.mk9p ?_ ?_ ?_ ?_ ?_ ?_ ?_ ?_ ?_ ?_ <;> simp [go_sem, px, sx, zx, trx, trz]
  have hB' : Below w.heap.size w ((((w.alloc (.cells #[.int .u64 (lim (J) 0), .int .u64 (lim (J) 1), .int .u64 (lim (J) 2), .int .u64 (lim (J) 3)] 24)).alloc (.cells #[.int .u64 (lim (K) 0), .int .u64 (lim (K) 1), .int .u64 (lim (K) 2), .int .u64 (lim (K) 3)] 24)).alloc (.cells #[.int .u64 (lim (X) 0), .int .u64 (lim (X) 1), .int .u64 (lim (X) 2), .int .u64 (lim (X) 3), .int .u64 (lim (Y) 0), .int .u64 (lim (Y) 1), .int .u64 (lim (Y) 2), .int .u64 (lim (Y) 3), .bool i] 26)).alloc (.cells #[.int .u64 0, .int .u64 0, .int .u64 0, .int .u64 0, .int .u64 0, .int .u64 0, .int .u64 0, .int .u64 0, .bool false] 26)) := by go_grown
  have Aj := Bj
  have Ak := Bk
  have Ap := Bp
  have Ao := Bo
  have hB := hB'
  clear Bj Bk Bp Bo hB'
  have rj0 := fun ds os => cell_regrown (Aj.c 0 (by omega)) ds os
  have rj1 := fun ds os => cell_regrown (Aj.c 1 (by omega)) ds os
  have rj2 := fun ds os => cell_regrown (Aj.c 2 (by omega)) ds os
  have rj3 := fun ds os => cell_regrown (Aj.c 3 (by omega)) ds os
  have rk0 := fun ds os => cell_regrown (Ak.c 0 (by omega)) ds os
  have rk1 := fun ds os => cell_regrown (Ak.c 1 (by omega)) ds os
  have rk2 := fun ds os => cell_regrown (Ak.c 2 (by omega)) ds os
  have rk3 := fun ds os => cell_regrown (Ak.c 3 (by omega)) ds os
  have rp0 := Ap.cg 0 (by omega) (.int .u64 (lim (X) 0)) rfl
  have rp1 := Ap.cg 1 (by omega) (.int .u64 (lim (X) 1)) rfl
  have rp2 := Ap.cg 2 (by omega) (.int .u64 (lim (X) 2)) rfl
  have rp3 := Ap.cg 3 (by omega) (.int .u64 (lim (X) 3)) rfl
  have rp4 := Ap.cg 4 (by omega) (.int .u64 (lim (Y) 0)) rfl
  have rp5 := Ap.cg 5 (by omega) (.int .u64 (lim (Y) 1)) rfl
  have rp6 := Ap.cg 6 (by omega) (.int .u64 (lim (Y) 2)) rfl
  have rp7 := Ap.cg 7 (by omega) (.int .u64 (lim (Y) 3)) rfl
  have rp8 := Ap.cg 8 (by omega) (.bool i) rfl
  refine wp_region_below_tail 10 (by kernel_rfl) (by kernel_rfl) ?_
  simp only [List.take_succ_cons, List.take_zero, List.drop_succ_cons, List.drop_zero]
  repeat (go_big_quiet_step (first | (go_at_call 34; with_reducible first | exact Calls.regrown_of (C1 _)) | (go_at_call 29; with_reducible first | exact Calls.regrown_of (C2 _) | exact Calls.regrown_of (C4 _)) | (go_at_call 28; with_reducible first | exact Calls.regrown_of (C3 _) | exact Calls.regrown_of (C5 _)) | (go_at_call 33; with_reducible first | exact Calls.regrown_of (C6 _)) | (go_at_call 27; with_reducible first | exact Calls.regrown_of (C7 _))))
  refine wpQuiet_nil ?_
  intro w1 hw'
  obtain ⟨⟨dq, osq⟩, hw''⟩ := hw'
  have hb := below_of hw''
  clear hw''
  have Bo := Arr.to' Ao hb
  have hB' := Bel.call hB hb
  clear hb rj0 rj1 rj2 rj3 rk0 rk1 rk2 rk3 rp0 rp1 rp2 rp3 rp4 rp5 rp6 rp7 rp8 Aj Ak Ap Ao hB
  have Ao := Bo
  have hB := hB'
  clear Bo hB'
  have hS := hB.size
  have co_0 := Ao.cv 0 (by omega) (.int .u64 0) rfl
  have co_1 := Ao.cv 1 (by omega) (.int .u64 0) rfl
  have co_2 := Ao.cv 2 (by omega) (.int .u64 0) rfl
  have co_3 := Ao.cv 3 (by omega) (.int .u64 0) rfl
  have co_4 := Ao.cv 4 (by omega) (.int .u64 0) rfl
  have co_5 := Ao.cv 5 (by omega) (.int .u64 0) rfl
  have co_6 := Ao.cv 6 (by omega) (.int .u64 0) rfl
  have co_7 := Ao.cv 7 (by omega) (.int .u64 0) rfl
  have co_8 := Ao.cv 8 (by omega) (.bool false) rfl
  have zo := Ao.z
  go_wp2_with fail
  refine bodyPost_ret (v := pv P Q n) (by simp [results, Tryz.results11, go_sem, co_0, co_1, co_2, co_3, co_4, co_5, co_6, co_7, co_8]) rfl ⟨rfl, ?_⟩
  go_grown
end Go.Proofs.YtgekafmojedlkaaGreat
