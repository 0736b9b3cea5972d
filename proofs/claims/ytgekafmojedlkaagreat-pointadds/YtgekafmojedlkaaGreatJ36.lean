/- What the reference's Neg, constant and On of point answer. -/
import Derived.Test.YtgekafmojedlkaaGreatJ24
import Derived.Test.YtgekafmojedlkaaGreatJ2
import Derived.Test.YtgekafmojedlkaaGreatJ1
set_option linter.all false
set_option maxRecDepth 100000
namespace Go.Proofs.YtgekafmojedlkaaGreat
open Go.RowKit Go.Sort
attribute [local go_sem] eq24
set_option maxHeartbeats 4000000 in
theorem rconst_any (w : World) : Calls Tryz.prog 17 #[] w fun e w' => e = .returned (.agg #[.int .u64 4309448131093880907, .int .u64 7285987128567378166, .int .u64 12964664127075681980, .int .u64 6540974713487397863]) ∧ Below w.heap.size w w' := by
  go_enter Tryz.func17, Tryz.ntmps17
  have Bo : Arr ((w.alloc (.cells #[.int .u64 0, .int .u64 0, .int .u64 0, .int .u64 0] 24))) (w.heap.size) 4 (fun _ => .int .u64 0) := by refine Arr.mk4 ?_ ?_ ?_ ?_ ?_ ?_ ?_ ?_ <;> simp [go_sem]
  have hB' : Below w.heap.size w (w.alloc (.cells #[.int .u64 0, .int .u64 0, .int .u64 0, .int .u64 0] 24)) := by go_grown
  have Ao := Bo
  have hB := hB'
  clear Bo hB'
  have hS := hB.size
  have co := Ao.c
  have zo := Ao.z
  go_wp2_with fail
  refine bodyPost_ret (v := .agg #[.int .u64 4309448131093880907, .int .u64 7285987128567378166, .int .u64 12964664127075681980, .int .u64 6540974713487397863]) (by simp [results, Tryz.results17, go_sem, co]) rfl ⟨rfl, ?_⟩
  go_grown
set_option maxHeartbeats 4000000 in
theorem ron_n0 (X Y : Int) (hX : (lim X 0 == 0 && (lim X 1 == 0 && (lim X 2 == 0 && lim X 3 == 0))) = false) (w : World) : Calls Tryz.prog 4 #[pv X Y true] w fun e w' => e = .returned (.bool (false)) ∧ Below w.heap.size w w' := by
  go_enter Tryz.func4, Tryz.ntmps4
  have Bp : Arr ((w.alloc (.cells #[.int .u64 (lim (X) 0), .int .u64 (lim (X) 1), .int .u64 (lim (X) 2), .int .u64 (lim (X) 3), .int .u64 (lim (Y) 0), .int .u64 (lim (Y) 1), .int .u64 (lim (Y) 2), .int .u64 (lim (Y) 3), .bool true] 26))) (w.heap.size) 9 (px (X) (Y) true) := by refine Arr.mk9p ?_ ?_ ?_ ?_ ?_ ?_ ?_ ?_ ?_ ?_ <;> simp [go_sem, px, sx, zx]
  have hB' : Below w.heap.size w (w.alloc (.cells #[.int .u64 (lim (X) 0), .int .u64 (lim (X) 1), .int .u64 (lim (X) 2), .int .u64 (lim (X) 3), .int .u64 (lim (Y) 0), .int .u64 (lim (Y) 1), .int .u64 (lim (Y) 2), .int .u64 (lim (Y) 3), .bool true] 26)) := by go_grown
  have Ap := Bp
  have hB := hB'
  clear Bp hB'
  have cp_0 := Ap.cv 0 (by omega) (.int .u64 (lim (X) 0)) rfl
  have cp_1 := Ap.cv 1 (by omega) (.int .u64 (lim (X) 1)) rfl
  have cp_2 := Ap.cv 2 (by omega) (.int .u64 (lim (X) 2)) rfl
  have cp_3 := Ap.cv 3 (by omega) (.int .u64 (lim (X) 3)) rfl
  have cp_4 := Ap.cv 4 (by omega) (.int .u64 (lim (Y) 0)) rfl
  have cp_5 := Ap.cv 5 (by omega) (.int .u64 (lim (Y) 1)) rfl
  have cp_6 := Ap.cv 6 (by omega) (.int .u64 (lim (Y) 2)) rfl
  have cp_7 := Ap.cv 7 (by omega) (.int .u64 (lim (Y) 3)) rfl
  have cp_8 := Ap.cv 8 (by omega) (.bool true) rfl
  go_wp2_with fail
  go_ret
  exact ⟨rfl, hB⟩
set_option maxHeartbeats 4000000 in
theorem ron_n1 (X Y : Int) (hX : (lim X 0 == 0 && (lim X 1 == 0 && (lim X 2 == 0 && lim X 3 == 0))) = true) (w : World) : Calls Tryz.prog 4 #[pv X Y true] w fun e w' => e = .returned (.bool (lim Y 0 == 0 && (lim Y 1 == 0 && (lim Y 2 == 0 && lim Y 3 == 0)))) ∧ Below w.heap.size w w' := by
  go_enter Tryz.func4, Tryz.ntmps4
  have Bp : Arr ((w.alloc (.cells #[.int .u64 (lim (X) 0), .int .u64 (lim (X) 1), .int .u64 (lim (X) 2), .int .u64 (lim (X) 3), .int .u64 (lim (Y) 0), .int .u64 (lim (Y) 1), .int .u64 (lim (Y) 2), .int .u64 (lim (Y) 3), .bool true] 26))) (w.heap.size) 9 (px (X) (Y) true) := by refine Arr.mk9p ?_ ?_ ?_ ?_ ?_ ?_ ?_ ?_ ?_ ?_ <;> simp [go_sem, px, sx, zx]
  have hB' : Below w.heap.size w (w.alloc (.cells #[.int .u64 (lim (X) 0), .int .u64 (lim (X) 1), .int .u64 (lim (X) 2), .int .u64 (lim (X) 3), .int .u64 (lim (Y) 0), .int .u64 (lim (Y) 1), .int .u64 (lim (Y) 2), .int .u64 (lim (Y) 3), .bool true] 26)) := by go_grown
  have Ap := Bp
  have hB := hB'
  clear Bp hB'
  have cp_0 := Ap.cv 0 (by omega) (.int .u64 (lim (X) 0)) rfl
  have cp_1 := Ap.cv 1 (by omega) (.int .u64 (lim (X) 1)) rfl
  have cp_2 := Ap.cv 2 (by omega) (.int .u64 (lim (X) 2)) rfl
  have cp_3 := Ap.cv 3 (by omega) (.int .u64 (lim (X) 3)) rfl
  have cp_4 := Ap.cv 4 (by omega) (.int .u64 (lim (Y) 0)) rfl
  have cp_5 := Ap.cv 5 (by omega) (.int .u64 (lim (Y) 1)) rfl
  have cp_6 := Ap.cv 6 (by omega) (.int .u64 (lim (Y) 2)) rfl
  have cp_7 := Ap.cv 7 (by omega) (.int .u64 (lim (Y) 3)) rfl
  have cp_8 := Ap.cv 8 (by omega) (.bool true) rfl
  go_wp2_with fail
  go_ret
  exact ⟨rfl, hB⟩
set_option maxHeartbeats 8000000 in
theorem ron_x0 (X Y : Int) (w : World)
    (C1 : ∀ W, Calls Tryz.prog 13 #[] W fun e w' => e = .returned (nv pp) ∧ Below W.heap.size W w')
    (C2 : ∀ W, Calls Tryz.prog 12 #[nv X, nv pp] W fun e w' => e = .returned (.int .i64 0) ∧ Below W.heap.size W w') :
    Calls Tryz.prog 4 #[pv X Y false] w fun e w' => e = .returned (.bool false) ∧ Below w.heap.size w w' := by
  go_enter Tryz.func4, Tryz.ntmps4
  go_wp2_with fail
  have Bp : Arr ((w.alloc (.cells #[.int .u64 (lim (X) 0), .int .u64 (lim (X) 1), .int .u64 (lim (X) 2), .int .u64 (lim (X) 3), .int .u64 (lim (Y) 0), .int .u64 (lim (Y) 1), .int .u64 (lim (Y) 2), .int .u64 (lim (Y) 3), .bool false] 26))) (w.heap.size) 9 (px (X) (Y) false) := by refine Arr.mk9p ?_ ?_ ?_ ?_ ?_ ?_ ?_ ?_ ?_ ?_ <;> simp [go_sem, px, sx, zx]
  have hB' : Below w.heap.size w (w.alloc (.cells #[.int .u64 (lim (X) 0), .int .u64 (lim (X) 1), .int .u64 (lim (X) 2), .int .u64 (lim (X) 3), .int .u64 (lim (Y) 0), .int .u64 (lim (Y) 1), .int .u64 (lim (Y) 2), .int .u64 (lim (Y) 3), .bool false] 26)) := by go_grown
  have Ap := Bp
  have hB := hB'
  clear Bp hB'
  have rp0 := Ap.cg 0 (by omega) (.int .u64 (lim (X) 0)) rfl
  have rp1 := Ap.cg 1 (by omega) (.int .u64 (lim (X) 1)) rfl
  have rp2 := Ap.cg 2 (by omega) (.int .u64 (lim (X) 2)) rfl
  have rp3 := Ap.cg 3 (by omega) (.int .u64 (lim (X) 3)) rfl
  have rp4 := Ap.cg 4 (by omega) (.int .u64 (lim (Y) 0)) rfl
  have rp5 := Ap.cg 5 (by omega) (.int .u64 (lim (Y) 1)) rfl
  have rp6 := Ap.cg 6 (by omega) (.int .u64 (lim (Y) 2)) rfl
  have rp7 := Ap.cg 7 (by omega) (.int .u64 (lim (Y) 3)) rfl
  have rp8 := Ap.cg 8 (by omega) (.bool false) rfl
  refine wp_region_quiet_below (by kernel_rfl) (by kernel_rfl) ?_
  repeat (go_big_quiet_step (first | (go_at_call 13; with_reducible first | exact Calls.regrown_of (C1 _)) | (go_at_call 12; with_reducible first | exact Calls.regrown_of (C2 _))))
  refine wpQuiet_nil ?_
  intro w1 hw'
  obtain ⟨⟨dq, osq⟩, hw''⟩ := hw'
  have hb := below_of hw''
  clear hw''
  have hB' := Bel.call hB hb
  clear hb rp0 rp1 rp2 rp3 rp4 rp5 rp6 rp7 rp8 Ap hB
  have hB := hB'
  clear hB'
  go_wp2_with fail
  go_ret
  exact ⟨rfl, hB⟩
set_option maxHeartbeats 8000000 in
theorem ron_y0 (X Y : Int) (w : World)
    (C1 : ∀ W, Calls Tryz.prog 13 #[] W fun e w' => e = .returned (nv pp) ∧ Below W.heap.size W w')
    (C2 : ∀ W, Calls Tryz.prog 12 #[nv X, nv pp] W fun e w' => e = .returned (.int .i64 (-1)) ∧ Below W.heap.size W w')
    (C3 : ∀ W, Calls Tryz.prog 12 #[nv Y, nv pp] W fun e w' => e = .returned (.int .i64 0) ∧ Below W.heap.size W w') :
    Calls Tryz.prog 4 #[pv X Y false] w fun e w' => e = .returned (.bool false) ∧ Below w.heap.size w w' := by
  go_enter Tryz.func4, Tryz.ntmps4
  go_wp2_with fail
  have Bp : Arr ((w.alloc (.cells #[.int .u64 (lim (X) 0), .int .u64 (lim (X) 1), .int .u64 (lim (X) 2), .int .u64 (lim (X) 3), .int .u64 (lim (Y) 0), .int .u64 (lim (Y) 1), .int .u64 (lim (Y) 2), .int .u64 (lim (Y) 3), .bool false] 26))) (w.heap.size) 9 (px (X) (Y) false) := by refine Arr.mk9p ?_ ?_ ?_ ?_ ?_ ?_ ?_ ?_ ?_ ?_ <;> simp [go_sem, px, sx, zx]
  have hB' : Below w.heap.size w (w.alloc (.cells #[.int .u64 (lim (X) 0), .int .u64 (lim (X) 1), .int .u64 (lim (X) 2), .int .u64 (lim (X) 3), .int .u64 (lim (Y) 0), .int .u64 (lim (Y) 1), .int .u64 (lim (Y) 2), .int .u64 (lim (Y) 3), .bool false] 26)) := by go_grown
  have Ap := Bp
  have hB := hB'
  clear Bp hB'
  have rp0 := Ap.cg 0 (by omega) (.int .u64 (lim (X) 0)) rfl
  have rp1 := Ap.cg 1 (by omega) (.int .u64 (lim (X) 1)) rfl
  have rp2 := Ap.cg 2 (by omega) (.int .u64 (lim (X) 2)) rfl
  have rp3 := Ap.cg 3 (by omega) (.int .u64 (lim (X) 3)) rfl
  have rp4 := Ap.cg 4 (by omega) (.int .u64 (lim (Y) 0)) rfl
  have rp5 := Ap.cg 5 (by omega) (.int .u64 (lim (Y) 1)) rfl
  have rp6 := Ap.cg 6 (by omega) (.int .u64 (lim (Y) 2)) rfl
  have rp7 := Ap.cg 7 (by omega) (.int .u64 (lim (Y) 3)) rfl
  have rp8 := Ap.cg 8 (by omega) (.bool false) rfl
  refine wp_region_quiet_below (by kernel_rfl) (by kernel_rfl) ?_
  repeat (go_big_quiet_step (first | (go_at_call 13; with_reducible first | exact Calls.regrown_of (C1 _)) | (go_at_call 12; with_reducible first | exact Calls.regrown_of (C2 _) | exact Calls.regrown_of (C3 _))))
  refine wpQuiet_nil ?_
  intro w1 hw'
  obtain ⟨⟨dq, osq⟩, hw''⟩ := hw'
  have hb := below_of hw''
  clear hw''
  have hB' := Bel.call hB hb
  clear hb rp0 rp1 rp2 rp3 rp4 rp5 rp6 rp7 rp8 Ap hB
  have hB := hB'
  clear hB'
  go_wp2_with fail
  go_ret
  exact ⟨rfl, hB⟩
set_option maxHeartbeats 8000000 in
theorem ron_x1 (X Y : Int) (w : World)
    (C1 : ∀ W, Calls Tryz.prog 13 #[] W fun e w' => e = .returned (nv pp) ∧ Below W.heap.size W w')
    (C2 : ∀ W, Calls Tryz.prog 12 #[nv X, nv pp] W fun e w' => e = .returned (.int .i64 1) ∧ Below W.heap.size W w') :
    Calls Tryz.prog 4 #[pv X Y false] w fun e w' => e = .returned (.bool false) ∧ Below w.heap.size w w' := by
  go_enter Tryz.func4, Tryz.ntmps4
  go_wp2_with fail
  have Bp : Arr ((w.alloc (.cells #[.int .u64 (lim (X) 0), .int .u64 (lim (X) 1), .int .u64 (lim (X) 2), .int .u64 (lim (X) 3), .int .u64 (lim (Y) 0), .int .u64 (lim (Y) 1), .int .u64 (lim (Y) 2), .int .u64 (lim (Y) 3), .bool false] 26))) (w.heap.size) 9 (px (X) (Y) false) := by refine Arr.mk9p ?_ ?_ ?_ ?_ ?_ ?_ ?_ ?_ ?_ ?_ <;> simp [go_sem, px, sx, zx]
  have hB' : Below w.heap.size w (w.alloc (.cells #[.int .u64 (lim (X) 0), .int .u64 (lim (X) 1), .int .u64 (lim (X) 2), .int .u64 (lim (X) 3), .int .u64 (lim (Y) 0), .int .u64 (lim (Y) 1), .int .u64 (lim (Y) 2), .int .u64 (lim (Y) 3), .bool false] 26)) := by go_grown
  have Ap := Bp
  have hB := hB'
  clear Bp hB'
  have rp0 := Ap.cg 0 (by omega) (.int .u64 (lim (X) 0)) rfl
  have rp1 := Ap.cg 1 (by omega) (.int .u64 (lim (X) 1)) rfl
  have rp2 := Ap.cg 2 (by omega) (.int .u64 (lim (X) 2)) rfl
  have rp3 := Ap.cg 3 (by omega) (.int .u64 (lim (X) 3)) rfl
  have rp4 := Ap.cg 4 (by omega) (.int .u64 (lim (Y) 0)) rfl
  have rp5 := Ap.cg 5 (by omega) (.int .u64 (lim (Y) 1)) rfl
  have rp6 := Ap.cg 6 (by omega) (.int .u64 (lim (Y) 2)) rfl
  have rp7 := Ap.cg 7 (by omega) (.int .u64 (lim (Y) 3)) rfl
  have rp8 := Ap.cg 8 (by omega) (.bool false) rfl
  refine wp_region_quiet_below (by kernel_rfl) (by kernel_rfl) ?_
  repeat (go_big_quiet_step (first | (go_at_call 13; with_reducible first | exact Calls.regrown_of (C1 _)) | (go_at_call 12; with_reducible first | exact Calls.regrown_of (C2 _))))
  refine wpQuiet_nil ?_
  intro w1 hw'
  obtain ⟨⟨dq, osq⟩, hw''⟩ := hw'
  have hb := below_of hw''
  clear hw''
  have hB' := Bel.call hB hb
  clear hb rp0 rp1 rp2 rp3 rp4 rp5 rp6 rp7 rp8 Ap hB
  have hB := hB'
  clear hB'
  go_wp2_with fail
  go_ret
  exact ⟨rfl, hB⟩
set_option maxHeartbeats 8000000 in
theorem ron_y1 (X Y : Int) (w : World)
    (C1 : ∀ W, Calls Tryz.prog 13 #[] W fun e w' => e = .returned (nv pp) ∧ Below W.heap.size W w')
    (C2 : ∀ W, Calls Tryz.prog 12 #[nv X, nv pp] W fun e w' => e = .returned (.int .i64 (-1)) ∧ Below W.heap.size W w')
    (C3 : ∀ W, Calls Tryz.prog 12 #[nv Y, nv pp] W fun e w' => e = .returned (.int .i64 1) ∧ Below W.heap.size W w') :
    Calls Tryz.prog 4 #[pv X Y false] w fun e w' => e = .returned (.bool false) ∧ Below w.heap.size w w' := by
  go_enter Tryz.func4, Tryz.ntmps4
  go_wp2_with fail
  have Bp : Arr ((w.alloc (.cells #[.int .u64 (lim (X) 0), .int .u64 (lim (X) 1), .int .u64 (lim (X) 2), .int .u64 (lim (X) 3), .int .u64 (lim (Y) 0), .int .u64 (lim (Y) 1), .int .u64 (lim (Y) 2), .int .u64 (lim (Y) 3), .bool false] 26))) (w.heap.size) 9 (px (X) (Y) false) := by refine Arr.mk9p ?_ ?_ ?_ ?_ ?_ ?_ ?_ ?_ ?_ ?_ <;> simp [go_sem, px, sx, zx]
  have hB' : Below w.heap.size w (w.alloc (.cells #[.int .u64 (lim (X) 0), .int .u64 (lim (X) 1), .int .u64 (lim (X) 2), .int .u64 (lim (X) 3), .int .u64 (lim (Y) 0), .int .u64 (lim (Y) 1), .int .u64 (lim (Y) 2), .int .u64 (lim (Y) 3), .bool false] 26)) := by go_grown
  have Ap := Bp
  have hB := hB'
  clear Bp hB'
  have rp0 := Ap.cg 0 (by omega) (.int .u64 (lim (X) 0)) rfl
  have rp1 := Ap.cg 1 (by omega) (.int .u64 (lim (X) 1)) rfl
  have rp2 := Ap.cg 2 (by omega) (.int .u64 (lim (X) 2)) rfl
  have rp3 := Ap.cg 3 (by omega) (.int .u64 (lim (X) 3)) rfl
  have rp4 := Ap.cg 4 (by omega) (.int .u64 (lim (Y) 0)) rfl
  have rp5 := Ap.cg 5 (by omega) (.int .u64 (lim (Y) 1)) rfl
  have rp6 := Ap.cg 6 (by omega) (.int .u64 (lim (Y) 2)) rfl
  have rp7 := Ap.cg 7 (by omega) (.int .u64 (lim (Y) 3)) rfl
  have rp8 := Ap.cg 8 (by omega) (.bool false) rfl
  refine wp_region_quiet_below (by kernel_rfl) (by kernel_rfl) ?_
  repeat (go_big_quiet_step (first | (go_at_call 13; with_reducible first | exact Calls.regrown_of (C1 _)) | (go_at_call 12; with_reducible first | exact Calls.regrown_of (C2 _) | exact Calls.regrown_of (C3 _))))
  refine wpQuiet_nil ?_
  intro w1 hw'
  obtain ⟨⟨dq, osq⟩, hw''⟩ := hw'
  have hb := below_of hw''
  clear hw''
  have hB' := Bel.call hB hb
  clear hb rp0 rp1 rp2 rp3 rp4 rp5 rp6 rp7 rp8 Ap hB
  have hB := hB'
  clear hB'
  go_wp2_with fail
  go_ret
  exact ⟨rfl, hB⟩
set_option maxHeartbeats 8000000 in
theorem ron_core (X Y a1 a2 a3 h s : Int) (w : World)
    (C1 : ∀ W, Calls Tryz.prog 13 #[] W fun e w' => e = .returned (nv pp) ∧ Below W.heap.size W w')
    (C2 : ∀ W, Calls Tryz.prog 12 #[nv X, nv pp] W fun e w' => e = .returned (.int .i64 (-1)) ∧ Below W.heap.size W w')
    (C3 : ∀ W, Calls Tryz.prog 12 #[nv Y, nv pp] W fun e w' => e = .returned (.int .i64 (-1)) ∧ Below W.heap.size W w')
    (C4 : ∀ W, Calls Tryz.prog 15 #[nv X, nv X] W fun e w' => e = .returned (nv a1) ∧ Below W.heap.size W w')
    (C5 : ∀ W, Calls Tryz.prog 16 #[nv a1, .agg #[.int .u64 3, .int .u64 0, .int .u64 0, .int .u64 0]] W fun e w' => e = .returned (nv a2) ∧ Below W.heap.size W w')
    (C6 : ∀ W, Calls Tryz.prog 15 #[nv X, nv a2] W fun e w' => e = .returned (nv a3) ∧ Below W.heap.size W w')
    (C7 : ∀ W, Calls Tryz.prog 17 #[] W fun e w' => e = .returned (.agg #[.int .u64 4309448131093880907, .int .u64 7285987128567378166, .int .u64 12964664127075681980, .int .u64 6540974713487397863]) ∧ Below W.heap.size W w')
    (C8 : ∀ W, Calls Tryz.prog 14 #[nv a3, .agg #[.int .u64 4309448131093880907, .int .u64 7285987128567378166, .int .u64 12964664127075681980, .int .u64 6540974713487397863]] W fun e w' => e = .returned (nv h) ∧ Below W.heap.size W w')
    (C9 : ∀ W, Calls Tryz.prog 15 #[nv Y, nv Y] W fun e w' => e = .returned (nv s) ∧ Below W.heap.size W w') :
    Calls Tryz.prog 4 #[pv X Y false] w fun e w' => e = .returned (.bool (lim s 0 == lim h 0 && (lim s 1 == lim h 1 && (lim s 2 == lim h 2 && lim s 3 == lim h 3)))) ∧ Below w.heap.size w w' := by
  go_enter Tryz.func4, Tryz.ntmps4
  go_wp2_with fail
  have Bp : Arr ((w.alloc (.cells #[.int .u64 (lim (X) 0), .int .u64 (lim (X) 1), .int .u64 (lim (X) 2), .int .u64 (lim (X) 3), .int .u64 (lim (Y) 0), .int .u64 (lim (Y) 1), .int .u64 (lim (Y) 2), .int .u64 (lim (Y) 3), .bool false] 26))) (w.heap.size) 9 (px (X) (Y) false) := by refine Arr.mk9p ?_ ?_ ?_ ?_ ?_ ?_ ?_ ?_ ?_ ?_ <;> simp [go_sem, px, sx, zx]
  have hB' : Below w.heap.size w (w.alloc (.cells #[.int .u64 (lim (X) 0), .int .u64 (lim (X) 1), .int .u64 (lim (X) 2), .int .u64 (lim (X) 3), .int .u64 (lim (Y) 0), .int .u64 (lim (Y) 1), .int .u64 (lim (Y) 2), .int .u64 (lim (Y) 3), .bool false] 26)) := by go_grown
  have Ap := Bp
  have hB := hB'
  clear Bp hB'
  have rp0 := Ap.cg 0 (by omega) (.int .u64 (lim (X) 0)) rfl
  have rp1 := Ap.cg 1 (by omega) (.int .u64 (lim (X) 1)) rfl
  have rp2 := Ap.cg 2 (by omega) (.int .u64 (lim (X) 2)) rfl
  have rp3 := Ap.cg 3 (by omega) (.int .u64 (lim (X) 3)) rfl
  have rp4 := Ap.cg 4 (by omega) (.int .u64 (lim (Y) 0)) rfl
  have rp5 := Ap.cg 5 (by omega) (.int .u64 (lim (Y) 1)) rfl
  have rp6 := Ap.cg 6 (by omega) (.int .u64 (lim (Y) 2)) rfl
  have rp7 := Ap.cg 7 (by omega) (.int .u64 (lim (Y) 3)) rfl
  have rp8 := Ap.cg 8 (by omega) (.bool false) rfl
  refine wp_region_quiet_below (by kernel_rfl) (by kernel_rfl) ?_
  repeat (go_big_quiet_step (first | (go_at_call 13; with_reducible first | exact Calls.regrown_of (C1 _)) | (go_at_call 12; with_reducible first | exact Calls.regrown_of (C2 _) | exact Calls.regrown_of (C3 _)) | (go_at_call 15; with_reducible first | exact Calls.regrown_of (C4 _) | exact Calls.regrown_of (C6 _) | exact Calls.regrown_of (C9 _)) | (go_at_call 16; with_reducible first | exact Calls.regrown_of (C5 _)) | (go_at_call 17; with_reducible first | exact Calls.regrown_of (C7 _)) | (go_at_call 14; with_reducible first | exact Calls.regrown_of (C8 _))))
  refine wpQuiet_nil ?_
  intro w1 hw'
  obtain ⟨⟨dq, osq⟩, hw''⟩ := hw'
  have hb := below_of hw''
  clear hw''
  have Bp := Arr.to' Ap hb
  have hB' := Bel.call hB hb
  clear hb rp0 rp1 rp2 rp3 rp4 rp5 rp6 rp7 rp8 Ap hB
  have Ap := Bp
  have hB := hB'
  clear Bp hB'
  go_wp2_with fail
  apply wp_region_alloc_tail 12 (by kernel_rfl) (by kernel_rfl) (by kernel_rfl) (.cells #[.int .u64 0, .int .u64 0, .int .u64 0, .int .u64 0] 24) _ rfl (fun _ _ => by simp [go_sem])
  · intro W hW
    have rp0 := (Arr.to' Ap hW).cg 0 (by omega) (.int .u64 (lim (X) 0)) rfl
    have rp1 := (Arr.to' Ap hW).cg 1 (by omega) (.int .u64 (lim (X) 1)) rfl
    have rp2 := (Arr.to' Ap hW).cg 2 (by omega) (.int .u64 (lim (X) 2)) rfl
    have rp3 := (Arr.to' Ap hW).cg 3 (by omega) (.int .u64 (lim (X) 3)) rfl
    have rp4 := (Arr.to' Ap hW).cg 4 (by omega) (.int .u64 (lim (Y) 0)) rfl
    have rp5 := (Arr.to' Ap hW).cg 5 (by omega) (.int .u64 (lim (Y) 1)) rfl
    have rp6 := (Arr.to' Ap hW).cg 6 (by omega) (.int .u64 (lim (Y) 2)) rfl
    have rp7 := (Arr.to' Ap hW).cg 7 (by omega) (.int .u64 (lim (Y) 3)) rfl
    have rp8 := (Arr.to' Ap hW).cg 8 (by omega) (.bool false) rfl
    simp only [List.take_succ_cons, List.take_zero]
    repeat (go_big_quiet_step (first | (go_at_call 13; with_reducible first | exact Calls.regrown_of (C1 _)) | (go_at_call 12; with_reducible first | exact Calls.regrown_of (C2 _) | exact Calls.regrown_of (C3 _)) | (go_at_call 15; with_reducible first | exact Calls.regrown_of (C4 _) | exact Calls.regrown_of (C6 _) | exact Calls.regrown_of (C9 _)) | (go_at_call 16; with_reducible first | exact Calls.regrown_of (C5 _)) | (go_at_call 17; with_reducible first | exact Calls.regrown_of (C7 _)) | (go_at_call 14; with_reducible first | exact Calls.regrown_of (C8 _))))
    exact wpQuiet_nil rfl
  intro v2 w12 hb1 hb2
  simp only [List.drop_succ_cons, List.drop_zero, Act.put, List.setIfInBounds_toArray, List.set_cons_succ, List.set_cons_zero]
  have Ep := Arr.to' Ap hb1
  have lp_v2 := Ep.lt
  have Bp := Arr.to' (Arr.al' Ep (.cells #[.int .u64 0, .int .u64 0, .int .u64 0, .int .u64 0] 24)) hb2
  have Bx := (Arr.mk4 (w := (v2.alloc (.cells #[.int .u64 0, .int .u64 0, .int .u64 0, .int .u64 0] 24))) (f := fun _ => .int .u64 0) (b := v2.heap.size) (by simp [go_sem]) (by simp [go_sem]) (by simp [go_sem]) (by simp [go_sem]) (by simp [go_sem]) (by simp [go_sem]) (by simp [go_sem]) (by simp [go_sem])).below hb2 (by go_size)
  have lB_v2 := (Bel.call hB hb1).size
  have hB' := Bel.call (Bel.al (Bel.call hB hb1) (.cells #[.int .u64 0, .int .u64 0, .int .u64 0, .int .u64 0] 24)) hb2
  clear hb1 hb2 Ep Ap hB
  have Ap := Bp
  have Ax := Bx
  have hB := hB'
  clear Bp Bx hB'
  have cx := Ax.c
  have zx := Ax.z
  have Bp := Arr.st4o (b' := v2.heap.size) Ap (by have := Ap.lt; have := Ax.lt; omega) (h)
  have Bx := Arr.st4 Ax (h)
  have hB' := Bel.st4 hB (b := v2.heap.size) (by have := hB.size; omega) (h)
  clear Ap Ax hB
  have Ap := Bp
  have Ax := Bx
  have hB := hB'
  clear Bp Bx hB'
  have rp0 := Ap.cg 0 (by omega) (.int .u64 (lim (X) 0)) rfl
  have rp1 := Ap.cg 1 (by omega) (.int .u64 (lim (X) 1)) rfl
  have rp2 := Ap.cg 2 (by omega) (.int .u64 (lim (X) 2)) rfl
  have rp3 := Ap.cg 3 (by omega) (.int .u64 (lim (X) 3)) rfl
  have rp4 := Ap.cg 4 (by omega) (.int .u64 (lim (Y) 0)) rfl
  have rp5 := Ap.cg 5 (by omega) (.int .u64 (lim (Y) 1)) rfl
  have rp6 := Ap.cg 6 (by omega) (.int .u64 (lim (Y) 2)) rfl
  have rp7 := Ap.cg 7 (by omega) (.int .u64 (lim (Y) 3)) rfl
  have rp8 := Ap.cg 8 (by omega) (.bool false) rfl
  have rx0 := fun ds os => cell_regrown (Ax.c 0 (by omega)) ds os
  have rx1 := fun ds os => cell_regrown (Ax.c 1 (by omega)) ds os
  have rx2 := fun ds os => cell_regrown (Ax.c 2 (by omega)) ds os
  have rx3 := fun ds os => cell_regrown (Ax.c 3 (by omega)) ds os
  go_wp2_with fail
  refine wp_region_quiet_below (by kernel_rfl) (by kernel_rfl) ?_
  repeat (go_big_quiet_step (first | (go_at_call 13; with_reducible first | exact Calls.regrown_of (C1 _)) | (go_at_call 12; with_reducible first | exact Calls.regrown_of (C2 _) | exact Calls.regrown_of (C3 _)) | (go_at_call 15; with_reducible first | exact Calls.regrown_of (C4 _) | exact Calls.regrown_of (C6 _) | exact Calls.regrown_of (C9 _)) | (go_at_call 16; with_reducible first | exact Calls.regrown_of (C5 _)) | (go_at_call 17; with_reducible first | exact Calls.regrown_of (C7 _)) | (go_at_call 14; with_reducible first | exact Calls.regrown_of (C8 _))))
  refine wpQuiet_nil ?_
  intro w3 hw'
  obtain ⟨⟨dq, osq⟩, hw''⟩ := hw'
  have hb := below_of hw''
  clear hw''
  have hB' := Bel.call hB hb
  clear hb cx zx rp0 rp1 rp2 rp3 rp4 rp5 rp6 rp7 rp8 rx0 rx1 rx2 rx3 Ap Ax hB
  have hB := hB'
  clear hB'
  go_wp2_with fail
  go_ret
  exact ⟨rfl, hB⟩
end Go.Proofs.YtgekafmojedlkaaGreat
