/- What the reference's Neg, constant and On of point answer. -/
import Derived.Test.YtgekafmojedlkaaJ30
import Derived.Test.YtgekafmojedlkaaJ2
import Derived.Test.YtgekafmojedlkaaJ1
set_option linter.all false
set_option maxRecDepth 100000
namespace Go.Proofs.Ytgekafmojedlkaa
open Go.RowKit Go.Sort
attribute [local go_sem] eq24
set_option maxHeartbeats 4000000 in
theorem rconst_any (w : World) : Calls Try.prog 33 #[] w fun e w' => e = .returned (.agg #[.int .u64 4309448131093880907, .int .u64 7285987128567378166, .int .u64 12964664127075681980, .int .u64 6540974713487397863]) ∧ Below w.heap.size w w' := by
  go_enter Try.func33, Try.ntmps33
  have Bo := Arr.mk4 (w := (w.alloc (.cells #[.int .u64 0, .int .u64 0, .int .u64 0, .int .u64 0] 24))) (f := fun _ => .int .u64 0) (b := w.heap.size) (by simp [go_sem]) (by simp [go_sem]) (by simp [go_sem]) (by simp [go_sem]) (by simp [go_sem]) (by simp [go_sem]) (by simp [go_sem]) (by simp [go_sem])
  have hB' : Below w.heap.size w (w.alloc (.cells #[.int .u64 0, .int .u64 0, .int .u64 0, .int .u64 0] 24)) := by go_grown
  have Ao := Bo
  have hB := hB'
  clear Bo hB'
  have hS := hB.size
  have co := Ao.c
  have zo := Ao.z
  go_wp2_with fail
  refine bodyPost_ret (v := .agg #[.int .u64 4309448131093880907, .int .u64 7285987128567378166, .int .u64 12964664127075681980, .int .u64 6540974713487397863]) (by simp [results, Try.results33, go_sem, co]) rfl ⟨rfl, ?_⟩
  go_grown
set_option maxHeartbeats 8000000 in
theorem rneg_core (X Y n : Int) (i : Bool) (w : World)
    (C1 : ∀ W, Calls Try.prog 32 #[.agg #[.int .u64 0, .int .u64 0, .int .u64 0, .int .u64 0], nv Y] W fun e w' => e = .returned (nv n) ∧ Below W.heap.size W w') :
    Calls Try.prog 16 #[pv X Y i] w fun e w' => e = .returned (pv X n i) ∧ Below w.heap.size w w' := by
  go_enter Try.func16, Try.ntmps16
  have Bp := Arr.mk9p (w := ((w.alloc (.cells #[.int .u64 (lim (X) 0), .int .u64 (lim (X) 1), .int .u64 (lim (X) 2), .int .u64 (lim (X) 3), .int .u64 (lim (Y) 0), .int .u64 (lim (Y) 1), .int .u64 (lim (Y) 2), .int .u64 (lim (Y) 3), .bool i] 26)).alloc (.cells #[.int .u64 0, .int .u64 0, .int .u64 0, .int .u64 0, .int .u64 0, .int .u64 0, .int .u64 0, .int .u64 0, .bool false] 26))) (f := px (X) (Y) i) (b := w.heap.size) (by simp [go_sem, px, sx, zx]) (by simp [go_sem, px, sx, zx]) (by simp [go_sem, px, sx, zx]) (by simp [go_sem, px, sx, zx]) (by simp [go_sem, px, sx, zx]) (by simp [go_sem, px, sx, zx]) (by simp [go_sem, px, sx, zx]) (by simp [go_sem, px, sx, zx]) (by simp [go_sem, px, sx, zx]) (by simp [go_sem, px, sx, zx])
  have Bo := Arr.mk9p (w := ((w.alloc (.cells #[.int .u64 (lim (X) 0), .int .u64 (lim (X) 1), .int .u64 (lim (X) 2), .int .u64 (lim (X) 3), .int .u64 (lim (Y) 0), .int .u64 (lim (Y) 1), .int .u64 (lim (Y) 2), .int .u64 (lim (Y) 3), .bool i] 26)).alloc (.cells #[.int .u64 0, .int .u64 0, .int .u64 0, .int .u64 0, .int .u64 0, .int .u64 0, .int .u64 0, .int .u64 0, .bool false] 26))) (f := zx 8) (b := w.heap.size + 1) (by simp [go_sem, px, sx, zx]) (by simp [go_sem, px, sx, zx]) (by simp [go_sem, px, sx, zx]) (by simp [go_sem, px, sx, zx]) (by simp [go_sem, px, sx, zx]) (by simp [go_sem, px, sx, zx]) (by simp [go_sem, px, sx, zx]) (by simp [go_sem, px, sx, zx]) (by simp [go_sem, px, sx, zx]) (by simp [go_sem, px, sx, zx])
  have hB' : Below w.heap.size w ((w.alloc (.cells #[.int .u64 (lim (X) 0), .int .u64 (lim (X) 1), .int .u64 (lim (X) 2), .int .u64 (lim (X) 3), .int .u64 (lim (Y) 0), .int .u64 (lim (Y) 1), .int .u64 (lim (Y) 2), .int .u64 (lim (Y) 3), .bool i] 26)).alloc (.cells #[.int .u64 0, .int .u64 0, .int .u64 0, .int .u64 0, .int .u64 0, .int .u64 0, .int .u64 0, .int .u64 0, .bool false] 26)) := by go_grown
  have Ap := Bp
  have Ao := Bo
  have hB := hB'
  clear Bp Bo hB'
  have cp_0 := Ap.cv 0 (by omega) (.int .u64 (lim (X) 0)) rfl
  have cp_1 := Ap.cv 1 (by omega) (.int .u64 (lim (X) 1)) rfl
  have cp_2 := Ap.cv 2 (by omega) (.int .u64 (lim (X) 2)) rfl
  have cp_3 := Ap.cv 3 (by omega) (.int .u64 (lim (X) 3)) rfl
  have cp_4 := Ap.cv 4 (by omega) (.int .u64 (lim (Y) 0)) rfl
  have cp_5 := Ap.cv 5 (by omega) (.int .u64 (lim (Y) 1)) rfl
  have cp_6 := Ap.cv 6 (by omega) (.int .u64 (lim (Y) 2)) rfl
  have cp_7 := Ap.cv 7 (by omega) (.int .u64 (lim (Y) 3)) rfl
  have cp_8 := Ap.cv 8 (by omega) (.bool i) rfl
  go_wp2_with fail
  refine (C1 _).mono ?_
  rintro e w11 ⟨rfl, hb⟩
  have Bp := Arr.to' Ap hb
  have Bo := Arr.to' Ao hb
  have hB' := Bel.call hB hb
  clear hb cp_0 cp_1 cp_2 cp_3 cp_4 cp_5 cp_6 cp_7 cp_8 Ap Ao hB
  have Ap := Bp
  have Ao := Bo
  have hB := hB'
  clear Bp Bo hB'
  have cp_0 := Ap.cv 0 (by omega) (.int .u64 (lim (X) 0)) rfl
  have cp_1 := Ap.cv 1 (by omega) (.int .u64 (lim (X) 1)) rfl
  have cp_2 := Ap.cv 2 (by omega) (.int .u64 (lim (X) 2)) rfl
  have cp_3 := Ap.cv 3 (by omega) (.int .u64 (lim (X) 3)) rfl
  have cp_4 := Ap.cv 4 (by omega) (.int .u64 (lim (Y) 0)) rfl
  have cp_5 := Ap.cv 5 (by omega) (.int .u64 (lim (Y) 1)) rfl
  have cp_6 := Ap.cv 6 (by omega) (.int .u64 (lim (Y) 2)) rfl
  have cp_7 := Ap.cv 7 (by omega) (.int .u64 (lim (Y) 3)) rfl
  have cp_8 := Ap.cv 8 (by omega) (.bool i) rfl
  have zp := Ap.z
  have hS := hB.size
  have co_0 := Ao.cv 0 (by omega) (.int .u64 0) rfl
  have co_1 := Ao.cv 1 (by omega) (.int .u64 0) rfl
  have co_2 := Ao.cv 2 (by omega) (.int .u64 0) rfl
  have co_3 := Ao.cv 3 (by omega) (.int .u64 0) rfl
  have co_4 := Ao.cv 4 (by omega) (.int .u64 0) rfl
  have co_5 := Ao.cv 5 (by omega) (.int .u64 0) rfl
  have co_6 := Ao.cv 6 (by omega) (.int .u64 0) rfl
  have co_7 := Ao.cv 7 (by omega) (.int .u64 0) rfl
  have co_8 := Ao.cv 8 (by omega) (.bool false) rfl
  have zo := Ao.z
  go_wp2_with fail
  refine bodyPost_ret (v := pv X n i) (by simp [results, Try.results16, go_sem, co_0, co_1, co_2, co_3, co_4, co_5, co_6, co_7, co_8]) rfl ⟨rfl, ?_⟩
  go_grown
set_option maxHeartbeats 4000000 in
theorem ron_n0 (X Y : Int) (hX : (lim X 0 == 0 && (lim X 1 == 0 && (lim X 2 == 0 && lim X 3 == 0))) = false) (w : World) : Calls Try.prog 12 #[pv X Y true] w fun e w' => e = .returned (.bool (false)) ∧ Below w.heap.size w w' := by
  go_enter Try.func12, Try.ntmps12
  have Bp := Arr.mk9p (w := (w.alloc (.cells #[.int .u64 (lim (X) 0), .int .u64 (lim (X) 1), .int .u64 (lim (X) 2), .int .u64 (lim (X) 3), .int .u64 (lim (Y) 0), .int .u64 (lim (Y) 1), .int .u64 (lim (Y) 2), .int .u64 (lim (Y) 3), .bool true] 26))) (f := px (X) (Y) true) (b := w.heap.size) (by simp [go_sem, px, sx, zx]) (by simp [go_sem, px, sx, zx]) (by simp [go_sem, px, sx, zx]) (by simp [go_sem, px, sx, zx]) (by simp [go_sem, px, sx, zx]) (by simp [go_sem, px, sx, zx]) (by simp [go_sem, px, sx, zx]) (by simp [go_sem, px, sx, zx]) (by simp [go_sem, px, sx, zx]) (by simp [go_sem, px, sx, zx])
  have hB' : Below w.heap.size w (w.alloc (.cells #[.int .u64 (lim (X) 0), .int .u64 (lim (X) 1), .int .u64 (lim (X) 2), .int .u64 (lim (X) 3), .int .u64 (lim (Y) 0), .int .u64 (lim (Y) 1), .int .u64 (lim (Y) 2), .int .u64 (lim (Y) 3), .bool true] 26)) := by go_grown
  have Ap := Bp
  have hB := hB'
  clear Bp hB'
  have cp_0 := Ap.cv 0 (by omega) (.int .u64 (lim (X) 0)) rfl
  have cp_1 := Ap.cv 1 (by omega) (.int .u64 (lim (X) 1)) rfl
  have cp_2 := Ap.cv 2 (by omega) (.int .u64 (lim (X) 2)) rfl
  have cp_3 := Ap.cv 3 (by omega) (.int .u64 (lim (X) 3)) rfl
  have cp_4 := Ap.cv 4 (by omega) (.int .u64 (lim (Y) 0)) rfl
  have cp_5 := Ap.cv 5 (by omega) (.int .u64 (lim (Y) 1)) rfl
  have cp_6 := Ap.cv 6 (by omega) (.int .u64 (lim (Y) 2)) rfl
  have cp_7 := Ap.cv 7 (by omega) (.int .u64 (lim (Y) 3)) rfl
  have cp_8 := Ap.cv 8 (by omega) (.bool true) rfl
  go_wp2_with fail
  go_ret
  exact ⟨rfl, hB⟩
set_option maxHeartbeats 4000000 in
theorem ron_n1 (X Y : Int) (hX : (lim X 0 == 0 && (lim X 1 == 0 && (lim X 2 == 0 && lim X 3 == 0))) = true) (w : World) : Calls Try.prog 12 #[pv X Y true] w fun e w' => e = .returned (.bool (lim Y 0 == 0 && (lim Y 1 == 0 && (lim Y 2 == 0 && lim Y 3 == 0)))) ∧ Below w.heap.size w w' := by
  go_enter Try.func12, Try.ntmps12
  have Bp := Arr.mk9p (w := (w.alloc (.cells #[.int .u64 (lim (X) 0), .int .u64 (lim (X) 1), .int .u64 (lim (X) 2), .int .u64 (lim (X) 3), .int .u64 (lim (Y) 0), .int .u64 (lim (Y) 1), .int .u64 (lim (Y) 2), .int .u64 (lim (Y) 3), .bool true] 26))) (f := px (X) (Y) true) (b := w.heap.size) (by simp [go_sem, px, sx, zx]) (by simp [go_sem, px, sx, zx]) (by simp [go_sem, px, sx, zx]) (by simp [go_sem, px, sx, zx]) (by simp [go_sem, px, sx, zx]) (by simp [go_sem, px, sx, zx]) (by simp [go_sem, px, sx, zx]) (by simp [go_sem, px, sx, zx]) (by simp [go_sem, px, sx, zx]) (by simp [go_sem, px, sx, zx])
  have hB' : Below w.heap.size w (w.alloc (.cells #[.int .u64 (lim (X) 0), .int .u64 (lim (X) 1), .int .u64 (lim (X) 2), .int .u64 (lim (X) 3), .int .u64 (lim (Y) 0), .int .u64 (lim (Y) 1), .int .u64 (lim (Y) 2), .int .u64 (lim (Y) 3), .bool true] 26)) := by go_grown
  have Ap := Bp
  have hB := hB'
  clear Bp hB'
  have cp_0 := Ap.cv 0 (by omega) (.int .u64 (lim (X) 0)) rfl
  have cp_1 := Ap.cv 1 (by omega) (.int .u64 (lim (X) 1)) rfl
  have cp_2 := Ap.cv 2 (by omega) (.int .u64 (lim (X) 2)) rfl
  have cp_3 := Ap.cv 3 (by omega) (.int .u64 (lim (X) 3)) rfl
  have cp_4 := Ap.cv 4 (by omega) (.int .u64 (lim (Y) 0)) rfl
  have cp_5 := Ap.cv 5 (by omega) (.int .u64 (lim (Y) 1)) rfl
  have cp_6 := Ap.cv 6 (by omega) (.int .u64 (lim (Y) 2)) rfl
  have cp_7 := Ap.cv 7 (by omega) (.int .u64 (lim (Y) 3)) rfl
  have cp_8 := Ap.cv 8 (by omega) (.bool true) rfl
  go_wp2_with fail
  go_ret
  exact ⟨rfl, hB⟩
set_option maxHeartbeats 8000000 in
theorem ron_x0 (X Y : Int) (w : World)
    (C1 : ∀ W, Calls Try.prog 29 #[] W fun e w' => e = .returned (nv pp) ∧ Below W.heap.size W w')
    (C2 : ∀ W, Calls Try.prog 28 #[nv X, nv pp] W fun e w' => e = .returned (.int .i64 0) ∧ Below W.heap.size W w') :
    Calls Try.prog 12 #[pv X Y false] w fun e w' => e = .returned (.bool false) ∧ Below w.heap.size w w' := by
  go_enter Try.func12, Try.ntmps12
  go_wp2_with fail
  have Bp := Arr.mk9p (w := (w.alloc (.cells #[.int .u64 (lim (X) 0), .int .u64 (lim (X) 1), .int .u64 (lim (X) 2), .int .u64 (lim (X) 3), .int .u64 (lim (Y) 0), .int .u64 (lim (Y) 1), .int .u64 (lim (Y) 2), .int .u64 (lim (Y) 3), .bool false] 26))) (f := px (X) (Y) false) (b := w.heap.size) (by simp [go_sem, px, sx, zx]) (by simp [go_sem, px, sx, zx]) (by simp [go_sem, px, sx, zx]) (by simp [go_sem, px, sx, zx]) (by simp [go_sem, px, sx, zx]) (by simp [go_sem, px, sx, zx]) (by simp [go_sem, px, sx, zx]) (by simp [go_sem, px, sx, zx]) (by simp [go_sem, px, sx, zx]) (by simp [go_sem, px, sx, zx])
  have hB' : Below w.heap.size w (w.alloc (.cells #[.int .u64 (lim (X) 0), .int .u64 (lim (X) 1), .int .u64 (lim (X) 2), .int .u64 (lim (X) 3), .int .u64 (lim (Y) 0), .int .u64 (lim (Y) 1), .int .u64 (lim (Y) 2), .int .u64 (lim (Y) 3), .bool false] 26)) := by go_grown
  have Ap := Bp
  have hB := hB'
  clear Bp hB'
  have rp0 := fun ds os => cell_regrown (v := .int .u64 (lim (X) 0)) (Ap.c 0 (by omega)) ds os
  have rp1 := fun ds os => cell_regrown (v := .int .u64 (lim (X) 1)) (Ap.c 1 (by omega)) ds os
  have rp2 := fun ds os => cell_regrown (v := .int .u64 (lim (X) 2)) (Ap.c 2 (by omega)) ds os
  have rp3 := fun ds os => cell_regrown (v := .int .u64 (lim (X) 3)) (Ap.c 3 (by omega)) ds os
  have rp4 := fun ds os => cell_regrown (v := .int .u64 (lim (Y) 0)) (Ap.c 4 (by omega)) ds os
  have rp5 := fun ds os => cell_regrown (v := .int .u64 (lim (Y) 1)) (Ap.c 5 (by omega)) ds os
  have rp6 := fun ds os => cell_regrown (v := .int .u64 (lim (Y) 2)) (Ap.c 6 (by omega)) ds os
  have rp7 := fun ds os => cell_regrown (v := .int .u64 (lim (Y) 3)) (Ap.c 7 (by omega)) ds os
  have rp8 := fun ds os => cell_regrown (v := .bool false) (Ap.c 8 (by omega)) ds os
  refine wp_region_quiet_below (by kernel_rfl) (by kernel_rfl) ?_
  repeat (go_big_quiet_step (first | (go_at_call 29; with_reducible first | exact Calls.regrown_of (C1 _)) | (go_at_call 28; with_reducible first | exact Calls.regrown_of (C2 _))))
  refine wpQuiet_nil ?_
  intro w1 hw'
  obtain ⟨⟨dq, osq⟩, hw''⟩ := hw'
  have hb := below_of hw''
  clear hw''
  have hB' := Bel.call hB hb
  clear hb rp0 rp1 rp2 rp3 rp4 rp5 rp6 rp7 rp8 Ap hB
  have hB := hB'
  clear hB'
  go_wp2_with fail
  go_ret
  exact ⟨rfl, hB⟩
set_option maxHeartbeats 8000000 in
theorem ron_y0 (X Y : Int) (w : World)
    (C1 : ∀ W, Calls Try.prog 29 #[] W fun e w' => e = .returned (nv pp) ∧ Below W.heap.size W w')
    (C2 : ∀ W, Calls Try.prog 28 #[nv X, nv pp] W fun e w' => e = .returned (.int .i64 (-1)) ∧ Below W.heap.size W w')
    (C3 : ∀ W, Calls Try.prog 28 #[nv Y, nv pp] W fun e w' => e = .returned (.int .i64 0) ∧ Below W.heap.size W w') :
    Calls Try.prog 12 #[pv X Y false] w fun e w' => e = .returned (.bool false) ∧ Below w.heap.size w w' := by
  go_enter Try.func12, Try.ntmps12
  go_wp2_with fail
  have Bp := Arr.mk9p (w := (w.alloc (.cells #[.int .u64 (lim (X) 0), .int .u64 (lim (X) 1), .int .u64 (lim (X) 2), .int .u64 (lim (X) 3), .int .u64 (lim (Y) 0), .int .u64 (lim (Y) 1), .int .u64 (lim (Y) 2), .int .u64 (lim (Y) 3), .bool false] 26))) (f := px (X) (Y) false) (b := w.heap.size) (by simp [go_sem, px, sx, zx]) (by simp [go_sem, px, sx, zx]) (by simp [go_sem, px, sx, zx]) (by simp [go_sem, px, sx, zx]) (by simp [go_sem, px, sx, zx]) (by simp [go_sem, px, sx, zx]) (by simp [go_sem, px, sx, zx]) (by simp [go_sem, px, sx, zx]) (by simp [go_sem, px, sx, zx]) (by simp [go_sem, px, sx, zx])
  have hB' : Below w.heap.size w (w.alloc (.cells #[.int .u64 (lim (X) 0), .int .u64 (lim (X) 1), .int .u64 (lim (X) 2), .int .u64 (lim (X) 3), .int .u64 (lim (Y) 0), .int .u64 (lim (Y) 1), .int .u64 (lim (Y) 2), .int .u64 (lim (Y) 3), .bool false] 26)) := by go_grown
  have Ap := Bp
  have hB := hB'
  clear Bp hB'
  have rp0 := fun ds os => cell_regrown (v := .int .u64 (lim (X) 0)) (Ap.c 0 (by omega)) ds os
  have rp1 := fun ds os => cell_regrown (v := .int .u64 (lim (X) 1)) (Ap.c 1 (by omega)) ds os
  have rp2 := fun ds os => cell_regrown (v := .int .u64 (lim (X) 2)) (Ap.c 2 (by omega)) ds os
  have rp3 := fun ds os => cell_regrown (v := .int .u64 (lim (X) 3)) (Ap.c 3 (by omega)) ds os
  have rp4 := fun ds os => cell_regrown (v := .int .u64 (lim (Y) 0)) (Ap.c 4 (by omega)) ds os
  have rp5 := fun ds os => cell_regrown (v := .int .u64 (lim (Y) 1)) (Ap.c 5 (by omega)) ds os
  have rp6 := fun ds os => cell_regrown (v := .int .u64 (lim (Y) 2)) (Ap.c 6 (by omega)) ds os
  have rp7 := fun ds os => cell_regrown (v := .int .u64 (lim (Y) 3)) (Ap.c 7 (by omega)) ds os
  have rp8 := fun ds os => cell_regrown (v := .bool false) (Ap.c 8 (by omega)) ds os
  refine wp_region_quiet_below (by kernel_rfl) (by kernel_rfl) ?_
  repeat (go_big_quiet_step (first | (go_at_call 29; with_reducible first | exact Calls.regrown_of (C1 _)) | (go_at_call 28; with_reducible first | exact Calls.regrown_of (C2 _) | exact Calls.regrown_of (C3 _))))
  refine wpQuiet_nil ?_
  intro w1 hw'
  obtain ⟨⟨dq, osq⟩, hw''⟩ := hw'
  have hb := below_of hw''
  clear hw''
  have hB' := Bel.call hB hb
  clear hb rp0 rp1 rp2 rp3 rp4 rp5 rp6 rp7 rp8 Ap hB
  have hB := hB'
  clear hB'
  go_wp2_with fail
  go_ret
  exact ⟨rfl, hB⟩
set_option maxHeartbeats 8000000 in
theorem ron_x1 (X Y : Int) (w : World)
    (C1 : ∀ W, Calls Try.prog 29 #[] W fun e w' => e = .returned (nv pp) ∧ Below W.heap.size W w')
    (C2 : ∀ W, Calls Try.prog 28 #[nv X, nv pp] W fun e w' => e = .returned (.int .i64 1) ∧ Below W.heap.size W w') :
    Calls Try.prog 12 #[pv X Y false] w fun e w' => e = .returned (.bool false) ∧ Below w.heap.size w w' := by
  go_enter Try.func12, Try.ntmps12
  go_wp2_with fail
  have Bp := Arr.mk9p (w := (w.alloc (.cells #[.int .u64 (lim (X) 0), .int .u64 (lim (X) 1), .int .u64 (lim (X) 2), .int .u64 (lim (X) 3), .int .u64 (lim (Y) 0), .int .u64 (lim (Y) 1), .int .u64 (lim (Y) 2), .int .u64 (lim (Y) 3), .bool false] 26))) (f := px (X) (Y) false) (b := w.heap.size) (by simp [go_sem, px, sx, zx]) (by simp [go_sem, px, sx, zx]) (by simp [go_sem, px, sx, zx]) (by simp [go_sem, px, sx, zx]) (by simp [go_sem, px, sx, zx]) (by simp [go_sem, px, sx, zx]) (by simp [go_sem, px, sx, zx]) (by simp [go_sem, px, sx, zx]) (by simp [go_sem, px, sx, zx]) (by simp [go_sem, px, sx, zx])
  have hB' : Below w.heap.size w (w.alloc (.cells #[.int .u64 (lim (X) 0), .int .u64 (lim (X) 1), .int .u64 (lim (X) 2), .int .u64 (lim (X) 3), .int .u64 (lim (Y) 0), .int .u64 (lim (Y) 1), .int .u64 (lim (Y) 2), .int .u64 (lim (Y) 3), .bool false] 26)) := by go_grown
  have Ap := Bp
  have hB := hB'
  clear Bp hB'
  have rp0 := fun ds os => cell_regrown (v := .int .u64 (lim (X) 0)) (Ap.c 0 (by omega)) ds os
  have rp1 := fun ds os => cell_regrown (v := .int .u64 (lim (X) 1)) (Ap.c 1 (by omega)) ds os
  have rp2 := fun ds os => cell_regrown (v := .int .u64 (lim (X) 2)) (Ap.c 2 (by omega)) ds os
  have rp3 := fun ds os => cell_regrown (v := .int .u64 (lim (X) 3)) (Ap.c 3 (by omega)) ds os
  have rp4 := fun ds os => cell_regrown (v := .int .u64 (lim (Y) 0)) (Ap.c 4 (by omega)) ds os
  have rp5 := fun ds os => cell_regrown (v := .int .u64 (lim (Y) 1)) (Ap.c 5 (by omega)) ds os
  have rp6 := fun ds os => cell_regrown (v := .int .u64 (lim (Y) 2)) (Ap.c 6 (by omega)) ds os
  have rp7 := fun ds os => cell_regrown (v := .int .u64 (lim (Y) 3)) (Ap.c 7 (by omega)) ds os
  have rp8 := fun ds os => cell_regrown (v := .bool false) (Ap.c 8 (by omega)) ds os
  refine wp_region_quiet_below (by kernel_rfl) (by kernel_rfl) ?_
  repeat (go_big_quiet_step (first | (go_at_call 29; with_reducible first | exact Calls.regrown_of (C1 _)) | (go_at_call 28; with_reducible first | exact Calls.regrown_of (C2 _))))
  refine wpQuiet_nil ?_
  intro w1 hw'
  obtain ⟨⟨dq, osq⟩, hw''⟩ := hw'
  have hb := below_of hw''
  clear hw''
  have hB' := Bel.call hB hb
  clear hb rp0 rp1 rp2 rp3 rp4 rp5 rp6 rp7 rp8 Ap hB
  have hB := hB'
  clear hB'
  go_wp2_with fail
  go_ret
  exact ⟨rfl, hB⟩
set_option maxHeartbeats 8000000 in
theorem ron_y1 (X Y : Int) (w : World)
    (C1 : ∀ W, Calls Try.prog 29 #[] W fun e w' => e = .returned (nv pp) ∧ Below W.heap.size W w')
    (C2 : ∀ W, Calls Try.prog 28 #[nv X, nv pp] W fun e w' => e = .returned (.int .i64 (-1)) ∧ Below W.heap.size W w')
    (C3 : ∀ W, Calls Try.prog 28 #[nv Y, nv pp] W fun e w' => e = .returned (.int .i64 1) ∧ Below W.heap.size W w') :
    Calls Try.prog 12 #[pv X Y false] w fun e w' => e = .returned (.bool false) ∧ Below w.heap.size w w' := by
  go_enter Try.func12, Try.ntmps12
  go_wp2_with fail
  have Bp := Arr.mk9p (w := (w.alloc (.cells #[.int .u64 (lim (X) 0), .int .u64 (lim (X) 1), .int .u64 (lim (X) 2), .int .u64 (lim (X) 3), .int .u64 (lim (Y) 0), .int .u64 (lim (Y) 1), .int .u64 (lim (Y) 2), .int .u64 (lim (Y) 3), .bool false] 26))) (f := px (X) (Y) false) (b := w.heap.size) (by simp [go_sem, px, sx, zx]) (by simp [go_sem, px, sx, zx]) (by simp [go_sem, px, sx, zx]) (by simp [go_sem, px, sx, zx]) (by simp [go_sem, px, sx, zx]) (by simp [go_sem, px, sx, zx]) (by simp [go_sem, px, sx, zx]) (by simp [go_sem, px, sx, zx]) (by simp [go_sem, px, sx, zx]) (by simp [go_sem, px, sx, zx])
  have hB' : Below w.heap.size w (w.alloc (.cells #[.int .u64 (lim (X) 0), .int .u64 (lim (X) 1), .int .u64 (lim (X) 2), .int .u64 (lim (X) 3), .int .u64 (lim (Y) 0), .int .u64 (lim (Y) 1), .int .u64 (lim (Y) 2), .int .u64 (lim (Y) 3), .bool false] 26)) := by go_grown
  have Ap := Bp
  have hB := hB'
  clear Bp hB'
  have rp0 := fun ds os => cell_regrown (v := .int .u64 (lim (X) 0)) (Ap.c 0 (by omega)) ds os
  have rp1 := fun ds os => cell_regrown (v := .int .u64 (lim (X) 1)) (Ap.c 1 (by omega)) ds os
  have rp2 := fun ds os => cell_regrown (v := .int .u64 (lim (X) 2)) (Ap.c 2 (by omega)) ds os
  have rp3 := fun ds os => cell_regrown (v := .int .u64 (lim (X) 3)) (Ap.c 3 (by omega)) ds os
  have rp4 := fun ds os => cell_regrown (v := .int .u64 (lim (Y) 0)) (Ap.c 4 (by omega)) ds os
  have rp5 := fun ds os => cell_regrown (v := .int .u64 (lim (Y) 1)) (Ap.c 5 (by omega)) ds os
  have rp6 := fun ds os => cell_regrown (v := .int .u64 (lim (Y) 2)) (Ap.c 6 (by omega)) ds os
  have rp7 := fun ds os => cell_regrown (v := .int .u64 (lim (Y) 3)) (Ap.c 7 (by omega)) ds os
  have rp8 := fun ds os => cell_regrown (v := .bool false) (Ap.c 8 (by omega)) ds os
  refine wp_region_quiet_below (by kernel_rfl) (by kernel_rfl) ?_
  repeat (go_big_quiet_step (first | (go_at_call 29; with_reducible first | exact Calls.regrown_of (C1 _)) | (go_at_call 28; with_reducible first | exact Calls.regrown_of (C2 _) | exact Calls.regrown_of (C3 _))))
  refine wpQuiet_nil ?_
  intro w1 hw'
  obtain ⟨⟨dq, osq⟩, hw''⟩ := hw'
  have hb := below_of hw''
  clear hw''
  have hB' := Bel.call hB hb
  clear hb rp0 rp1 rp2 rp3 rp4 rp5 rp6 rp7 rp8 Ap hB
  have hB := hB'
  clear hB'
  go_wp2_with fail
  go_ret
  exact ⟨rfl, hB⟩
set_option maxHeartbeats 8000000 in
theorem ron_core (X Y a1 a2 a3 h s : Int) (w : World)
    (C1 : ∀ W, Calls Try.prog 29 #[] W fun e w' => e = .returned (nv pp) ∧ Below W.heap.size W w')
    (C2 : ∀ W, Calls Try.prog 28 #[nv X, nv pp] W fun e w' => e = .returned (.int .i64 (-1)) ∧ Below W.heap.size W w')
    (C3 : ∀ W, Calls Try.prog 28 #[nv Y, nv pp] W fun e w' => e = .returned (.int .i64 (-1)) ∧ Below W.heap.size W w')
    (C4 : ∀ W, Calls Try.prog 31 #[nv X, nv X] W fun e w' => e = .returned (nv a1) ∧ Below W.heap.size W w')
    (C5 : ∀ W, Calls Try.prog 32 #[nv a1, .agg #[.int .u64 3, .int .u64 0, .int .u64 0, .int .u64 0]] W fun e w' => e = .returned (nv a2) ∧ Below W.heap.size W w')
    (C6 : ∀ W, Calls Try.prog 31 #[nv X, nv a2] W fun e w' => e = .returned (nv a3) ∧ Below W.heap.size W w')
    (C7 : ∀ W, Calls Try.prog 33 #[] W fun e w' => e = .returned (.agg #[.int .u64 4309448131093880907, .int .u64 7285987128567378166, .int .u64 12964664127075681980, .int .u64 6540974713487397863]) ∧ Below W.heap.size W w')
    (C8 : ∀ W, Calls Try.prog 30 #[nv a3, .agg #[.int .u64 4309448131093880907, .int .u64 7285987128567378166, .int .u64 12964664127075681980, .int .u64 6540974713487397863]] W fun e w' => e = .returned (nv h) ∧ Below W.heap.size W w')
    (C9 : ∀ W, Calls Try.prog 31 #[nv Y, nv Y] W fun e w' => e = .returned (nv s) ∧ Below W.heap.size W w') :
    Calls Try.prog 12 #[pv X Y false] w fun e w' => e = .returned (.bool (lim s 0 == lim h 0 && (lim s 1 == lim h 1 && (lim s 2 == lim h 2 && lim s 3 == lim h 3)))) ∧ Below w.heap.size w w' := by
  go_enter Try.func12, Try.ntmps12
  go_wp2_with fail
  have Bp := Arr.mk9p (w := (w.alloc (.cells #[.int .u64 (lim (X) 0), .int .u64 (lim (X) 1), .int .u64 (lim (X) 2), .int .u64 (lim (X) 3), .int .u64 (lim (Y) 0), .int .u64 (lim (Y) 1), .int .u64 (lim (Y) 2), .int .u64 (lim (Y) 3), .bool false] 26))) (f := px (X) (Y) false) (b := w.heap.size) (by simp [go_sem, px, sx, zx]) (by simp [go_sem, px, sx, zx]) (by simp [go_sem, px, sx, zx]) (by simp [go_sem, px, sx, zx]) (by simp [go_sem, px, sx, zx]) (by simp [go_sem, px, sx, zx]) (by simp [go_sem, px, sx, zx]) (by simp [go_sem, px, sx, zx]) (by simp [go_sem, px, sx, zx]) (by simp [go_sem, px, sx, zx])
  have hB' : Below w.heap.size w (w.alloc (.cells #[.int .u64 (lim (X) 0), .int .u64 (lim (X) 1), .int .u64 (lim (X) 2), .int .u64 (lim (X) 3), .int .u64 (lim (Y) 0), .int .u64 (lim (Y) 1), .int .u64 (lim (Y) 2), .int .u64 (lim (Y) 3), .bool false] 26)) := by go_grown
  have Ap := Bp
  have hB := hB'
  clear Bp hB'
  have rp0 := fun ds os => cell_regrown (v := .int .u64 (lim (X) 0)) (Ap.c 0 (by omega)) ds os
  have rp1 := fun ds os => cell_regrown (v := .int .u64 (lim (X) 1)) (Ap.c 1 (by omega)) ds os
  have rp2 := fun ds os => cell_regrown (v := .int .u64 (lim (X) 2)) (Ap.c 2 (by omega)) ds os
  have rp3 := fun ds os => cell_regrown (v := .int .u64 (lim (X) 3)) (Ap.c 3 (by omega)) ds os
  have rp4 := fun ds os => cell_regrown (v := .int .u64 (lim (Y) 0)) (Ap.c 4 (by omega)) ds os
  have rp5 := fun ds os => cell_regrown (v := .int .u64 (lim (Y) 1)) (Ap.c 5 (by omega)) ds os
  have rp6 := fun ds os => cell_regrown (v := .int .u64 (lim (Y) 2)) (Ap.c 6 (by omega)) ds os
  have rp7 := fun ds os => cell_regrown (v := .int .u64 (lim (Y) 3)) (Ap.c 7 (by omega)) ds os
  have rp8 := fun ds os => cell_regrown (v := .bool false) (Ap.c 8 (by omega)) ds os
  refine wp_region_quiet_below (by kernel_rfl) (by kernel_rfl) ?_
  repeat (go_big_quiet_step (first | (go_at_call 29; with_reducible first | exact Calls.regrown_of (C1 _)) | (go_at_call 28; with_reducible first | exact Calls.regrown_of (C2 _) | exact Calls.regrown_of (C3 _)) | (go_at_call 31; with_reducible first | exact Calls.regrown_of (C4 _) | exact Calls.regrown_of (C6 _) | exact Calls.regrown_of (C9 _)) | (go_at_call 32; with_reducible first | exact Calls.regrown_of (C5 _)) | (go_at_call 33; with_reducible first | exact Calls.regrown_of (C7 _)) | (go_at_call 30; with_reducible first | exact Calls.regrown_of (C8 _))))
  refine wpQuiet_nil ?_
  intro w1 hw'
  obtain ⟨⟨dq, osq⟩, hw''⟩ := hw'
  have hb := below_of hw''
  clear hw''
  have Bp := Arr.to' Ap hb
  have hB' := Bel.call hB hb
  clear hb rp0 rp1 rp2 rp3 rp4 rp5 rp6 rp7 rp8 Ap hB
  have Ap := Bp
  have hB := hB'
  clear Bp hB'
  go_wp2_with fail
  apply wp_region_alloc_tail 12 (by kernel_rfl) (by kernel_rfl) (by kernel_rfl) (.cells #[.int .u64 0, .int .u64 0, .int .u64 0, .int .u64 0] 24) _ rfl (fun _ _ => by simp [go_sem])
  · intro W hW
    have rp0 := fun ds os => cell_regrown (v := .int .u64 (lim (X) 0)) ((Arr.to' Ap hW).c 0 (by omega)) ds os
    have rp1 := fun ds os => cell_regrown (v := .int .u64 (lim (X) 1)) ((Arr.to' Ap hW).c 1 (by omega)) ds os
    have rp2 := fun ds os => cell_regrown (v := .int .u64 (lim (X) 2)) ((Arr.to' Ap hW).c 2 (by omega)) ds os
    have rp3 := fun ds os => cell_regrown (v := .int .u64 (lim (X) 3)) ((Arr.to' Ap hW).c 3 (by omega)) ds os
    have rp4 := fun ds os => cell_regrown (v := .int .u64 (lim (Y) 0)) ((Arr.to' Ap hW).c 4 (by omega)) ds os
    have rp5 := fun ds os => cell_regrown (v := .int .u64 (lim (Y) 1)) ((Arr.to' Ap hW).c 5 (by omega)) ds os
    have rp6 := fun ds os => cell_regrown (v := .int .u64 (lim (Y) 2)) ((Arr.to' Ap hW).c 6 (by omega)) ds os
    have rp7 := fun ds os => cell_regrown (v := .int .u64 (lim (Y) 3)) ((Arr.to' Ap hW).c 7 (by omega)) ds os
    have rp8 := fun ds os => cell_regrown (v := .bool false) ((Arr.to' Ap hW).c 8 (by omega)) ds os
    simp only [List.take_succ_cons, List.take_zero]
    repeat (go_big_quiet_step (first | (go_at_call 29; with_reducible first | exact Calls.regrown_of (C1 _)) | (go_at_call 28; with_reducible first | exact Calls.regrown_of (C2 _) | exact Calls.regrown_of (C3 _)) | (go_at_call 31; with_reducible first | exact Calls.regrown_of (C4 _) | exact Calls.regrown_of (C6 _) | exact Calls.regrown_of (C9 _)) | (go_at_call 32; with_reducible first | exact Calls.regrown_of (C5 _)) | (go_at_call 33; with_reducible first | exact Calls.regrown_of (C7 _)) | (go_at_call 30; with_reducible first | exact Calls.regrown_of (C8 _))))
    exact wpQuiet_nil rfl
  intro v2 w12 hb1 hb2
  simp only [List.drop_succ_cons, List.drop_zero, Act.put, List.setIfInBounds_toArray, List.set_cons_succ, List.set_cons_zero]
  have Ep := Arr.to' Ap hb1
  have lp_v2 := Ep.lt
  have Bp := Arr.to' (Arr.al' Ep (.cells #[.int .u64 0, .int .u64 0, .int .u64 0, .int .u64 0] 24)) hb2
  have Bx := (Arr.mk4 (w := (v2.alloc (.cells #[.int .u64 0, .int .u64 0, .int .u64 0, .int .u64 0] 24))) (f := fun _ => .int .u64 0) (b := v2.heap.size) (by simp [go_sem]) (by simp [go_sem]) (by simp [go_sem]) (by simp [go_sem]) (by simp [go_sem]) (by simp [go_sem]) (by simp [go_sem]) (by simp [go_sem])).below hb2 (by go_size)
  have lB_v2 := (Bel.call hB hb1).size
  have hB' := Bel.call (Bel.al (Bel.call hB hb1) (.cells #[.int .u64 0, .int .u64 0, .int .u64 0, .int .u64 0] 24)) hb2
  clear hb1 hb2 Ep Ap hB
  have Ap := Bp
  have Ax := Bx
  have hB := hB'
  clear Bp Bx hB'
  have cx := Ax.c
  have zx := Ax.z
  have Bp := Arr.st4o (b' := v2.heap.size) Ap (by have := Ap.lt; have := Ax.lt; omega) (h)
  have Bx := Arr.st4 Ax (h)
  have hB' := Bel.st4 hB (b := v2.heap.size) (by have := hB.size; omega) (h)
  clear Ap Ax hB
  have Ap := Bp
  have Ax := Bx
  have hB := hB'
  clear Bp Bx hB'
  have rp0 := fun ds os => cell_regrown (v := .int .u64 (lim (X) 0)) (Ap.c 0 (by omega)) ds os
  have rp1 := fun ds os => cell_regrown (v := .int .u64 (lim (X) 1)) (Ap.c 1 (by omega)) ds os
  have rp2 := fun ds os => cell_regrown (v := .int .u64 (lim (X) 2)) (Ap.c 2 (by omega)) ds os
  have rp3 := fun ds os => cell_regrown (v := .int .u64 (lim (X) 3)) (Ap.c 3 (by omega)) ds os
  have rp4 := fun ds os => cell_regrown (v := .int .u64 (lim (Y) 0)) (Ap.c 4 (by omega)) ds os
  have rp5 := fun ds os => cell_regrown (v := .int .u64 (lim (Y) 1)) (Ap.c 5 (by omega)) ds os
  have rp6 := fun ds os => cell_regrown (v := .int .u64 (lim (Y) 2)) (Ap.c 6 (by omega)) ds os
  have rp7 := fun ds os => cell_regrown (v := .int .u64 (lim (Y) 3)) (Ap.c 7 (by omega)) ds os
  have rp8 := fun ds os => cell_regrown (v := .bool false) (Ap.c 8 (by omega)) ds os
  have rx0 := fun ds os => cell_regrown (Ax.c 0 (by omega)) ds os
  have rx1 := fun ds os => cell_regrown (Ax.c 1 (by omega)) ds os
  have rx2 := fun ds os => cell_regrown (Ax.c 2 (by omega)) ds os
  have rx3 := fun ds os => cell_regrown (Ax.c 3 (by omega)) ds os
  go_wp2_with fail
  refine wp_region_quiet_below (by kernel_rfl) (by kernel_rfl) ?_
  repeat (go_big_quiet_step (first | (go_at_call 29; with_reducible first | exact Calls.regrown_of (C1 _)) | (go_at_call 28; with_reducible first | exact Calls.regrown_of (C2 _) | exact Calls.regrown_of (C3 _)) | (go_at_call 31; with_reducible first | exact Calls.regrown_of (C4 _) | exact Calls.regrown_of (C6 _) | exact Calls.regrown_of (C9 _)) | (go_at_call 32; with_reducible first | exact Calls.regrown_of (C5 _)) | (go_at_call 33; with_reducible first | exact Calls.regrown_of (C7 _)) | (go_at_call 30; with_reducible first | exact Calls.regrown_of (C8 _))))
  refine wpQuiet_nil ?_
  intro w3 hw'
  obtain ⟨⟨dq, osq⟩, hw''⟩ := hw'
  have hb := below_of hw''
  clear hw''
  have hB' := Bel.call hB hb
  clear hb cx zx rp0 rp1 rp2 rp3 rp4 rp5 rp6 rp7 rp8 rx0 rx1 rx2 rx3 Ap Ax hB
  have hB := hB'
  clear hB'
  go_wp2_with fail
  go_ret
  exact ⟨rfl, hB⟩
end Go.Proofs.Ytgekafmojedlkaa
