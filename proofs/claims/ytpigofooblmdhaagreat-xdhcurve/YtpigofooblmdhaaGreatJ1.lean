/- Texts joined: X3, X4, N17, N18, T1, M8, T2, T3. -/
import Derived.Deep.MidRow
import Derived.Deep.Cut
import Derived.Deep.RegionLaw
import Derived.Laws.BytesString
import Derived.Laws.MakeOwn
import Derived.Laws.MathBits
import Derived.Test.YtpigofooblmdhaaGreatX2
import Derived.Test.YtpigofooblmdhaaGreatZ2
import Derived.Test.YtpigofooblmdhaaGreatK9
import Derived.Test.YtpigofooblmdhaaGreatB1
import Derived.Test.YtpigofooblmdhaaGreatM3
import Derived.Test.YtpigofooblmdhaaGreatN4
import Derived.Test.YtpigofooblmdhaaGreatN6
import Derived.Test.YtpigofooblmdhaaGreatM1
/- The exchange, the step and the end of the ladder in xdh. -/
set_option linter.all false
set_option maxRecDepth 100000
namespace Go.Proofs.YtpigofooblmdhaaGreat
open Go.RowKit Go.Sort
set_option maxHeartbeats 4000000 in
theorem exch0 (A C B D : Int) (w : World) : Calls Tryz.prog 48 #[nv4 A C B D, .int .u64 0] w fun e w' => e = .returned (nv4 A C B D) ∧ Below w.heap.size w w' := by
  go_enter Tryz.func48, Tryz.ntmps48
  go_wp2_with fail
  have Bf := Arr.mk16 (w := ((w.alloc (.cells #[.int .u64 (lim (A) 0), .int .u64 (lim (A) 1), .int .u64 (lim (A) 2), .int .u64 (lim (A) 3), .int .u64 (lim (C) 0), .int .u64 (lim (C) 1), .int .u64 (lim (C) 2), .int .u64 (lim (C) 3), .int .u64 (lim (B) 0), .int .u64 (lim (B) 1), .int .u64 (lim (B) 2), .int .u64 (lim (B) 3), .int .u64 (lim (D) 0), .int .u64 (lim (D) 1), .int .u64 (lim (D) 2), .int .u64 (lim (D) 3)] 60)).alloc (.cells #[.int .u64 0, .int .u64 0, .int .u64 0, .int .u64 0, .int .u64 0, .int .u64 0, .int .u64 0, .int .u64 0, .int .u64 0, .int .u64 0, .int .u64 0, .int .u64 0, .int .u64 0, .int .u64 0, .int .u64 0, .int .u64 0] 60))) (f := fun j => .int .u64 (lx [A, C, B, D] j)) (b := w.heap.size) (by simp [go_sem, lx]) (by simp [go_sem, lx]) (by simp [go_sem, lx]) (by simp [go_sem, lx]) (by simp [go_sem, lx]) (by simp [go_sem, lx]) (by simp [go_sem, lx]) (by simp [go_sem, lx]) (by simp [go_sem, lx]) (by simp [go_sem, lx]) (by simp [go_sem, lx]) (by simp [go_sem, lx]) (by simp [go_sem, lx]) (by simp [go_sem, lx]) (by simp [go_sem, lx]) (by simp [go_sem, lx]) (by simp [go_sem, lx])
  have Bz := Arr.mk16 (w := ((w.alloc (.cells #[.int .u64 (lim (A) 0), .int .u64 (lim (A) 1), .int .u64 (lim (A) 2), .int .u64 (lim (A) 3), .int .u64 (lim (C) 0), .int .u64 (lim (C) 1), .int .u64 (lim (C) 2), .int .u64 (lim (C) 3), .int .u64 (lim (B) 0), .int .u64 (lim (B) 1), .int .u64 (lim (B) 2), .int .u64 (lim (B) 3), .int .u64 (lim (D) 0), .int .u64 (lim (D) 1), .int .u64 (lim (D) 2), .int .u64 (lim (D) 3)] 60)).alloc (.cells #[.int .u64 0, .int .u64 0, .int .u64 0, .int .u64 0, .int .u64 0, .int .u64 0, .int .u64 0, .int .u64 0, .int .u64 0, .int .u64 0, .int .u64 0, .int .u64 0, .int .u64 0, .int .u64 0, .int .u64 0, .int .u64 0] 60))) (f := fun _ => .int .u64 0) (b := w.heap.size + 1) (by simp [go_sem]) (by simp [go_sem]) (by simp [go_sem]) (by simp [go_sem]) (by simp [go_sem]) (by simp [go_sem]) (by simp [go_sem]) (by simp [go_sem]) (by simp [go_sem]) (by simp [go_sem]) (by simp [go_sem]) (by simp [go_sem]) (by simp [go_sem]) (by simp [go_sem]) (by simp [go_sem]) (by simp [go_sem]) (by simp [go_sem])
  have hB' : Below w.heap.size w ((w.alloc (.cells #[.int .u64 (lim (A) 0), .int .u64 (lim (A) 1), .int .u64 (lim (A) 2), .int .u64 (lim (A) 3), .int .u64 (lim (C) 0), .int .u64 (lim (C) 1), .int .u64 (lim (C) 2), .int .u64 (lim (C) 3), .int .u64 (lim (B) 0), .int .u64 (lim (B) 1), .int .u64 (lim (B) 2), .int .u64 (lim (B) 3), .int .u64 (lim (D) 0), .int .u64 (lim (D) 1), .int .u64 (lim (D) 2), .int .u64 (lim (D) 3)] 60)).alloc (.cells #[.int .u64 0, .int .u64 0, .int .u64 0, .int .u64 0, .int .u64 0, .int .u64 0, .int .u64 0, .int .u64 0, .int .u64 0, .int .u64 0, .int .u64 0, .int .u64 0, .int .u64 0, .int .u64 0, .int .u64 0, .int .u64 0] 60)) := by go_grown
  have Af := Bf
  have Az := Bz
  have hB := hB'
  clear Bf Bz hB'
  have rf0 := fun ds os => cell_regrown (v := .int .u64 (lim (A) 0)) (Af.c 0 (by omega)) ds os
  have rf1 := fun ds os => cell_regrown (v := .int .u64 (lim (A) 1)) (Af.c 1 (by omega)) ds os
  have rf2 := fun ds os => cell_regrown (v := .int .u64 (lim (A) 2)) (Af.c 2 (by omega)) ds os
  have rf3 := fun ds os => cell_regrown (v := .int .u64 (lim (A) 3)) (Af.c 3 (by omega)) ds os
  have rf4 := fun ds os => cell_regrown (v := .int .u64 (lim (C) 0)) (Af.c 4 (by omega)) ds os
  have rf5 := fun ds os => cell_regrown (v := .int .u64 (lim (C) 1)) (Af.c 5 (by omega)) ds os
  have rf6 := fun ds os => cell_regrown (v := .int .u64 (lim (C) 2)) (Af.c 6 (by omega)) ds os
  have rf7 := fun ds os => cell_regrown (v := .int .u64 (lim (C) 3)) (Af.c 7 (by omega)) ds os
  have rf8 := fun ds os => cell_regrown (v := .int .u64 (lim (B) 0)) (Af.c 8 (by omega)) ds os
  have rf9 := fun ds os => cell_regrown (v := .int .u64 (lim (B) 1)) (Af.c 9 (by omega)) ds os
  have rf10 := fun ds os => cell_regrown (v := .int .u64 (lim (B) 2)) (Af.c 10 (by omega)) ds os
  have rf11 := fun ds os => cell_regrown (v := .int .u64 (lim (B) 3)) (Af.c 11 (by omega)) ds os
  have rf12 := fun ds os => cell_regrown (v := .int .u64 (lim (D) 0)) (Af.c 12 (by omega)) ds os
  have rf13 := fun ds os => cell_regrown (v := .int .u64 (lim (D) 1)) (Af.c 13 (by omega)) ds os
  have rf14 := fun ds os => cell_regrown (v := .int .u64 (lim (D) 2)) (Af.c 14 (by omega)) ds os
  have rf15 := fun ds os => cell_regrown (v := .int .u64 (lim (D) 3)) (Af.c 15 (by omega)) ds os
  refine wp_region_below_tail 8 (by kernel_rfl) (by kernel_rfl) ?_
  simp only [List.take_succ_cons, List.take_zero, List.drop_succ_cons, List.drop_zero]
  repeat (go_big_quiet_step (fail))
  refine wpQuiet_nil ?_
  intro w1 hw'
  obtain ⟨⟨dq, osq⟩, hw''⟩ := hw'
  have hb := below_of hw''
  clear hw''
  have Bz := Arr.to' Az hb
  have hB' := Bel.call hB hb
  clear hb rf0 rf1 rf2 rf3 rf4 rf5 rf6 rf7 rf8 rf9 rf10 rf11 rf12 rf13 rf14 rf15 Af Az hB
  have Az := Bz
  have hB := hB'
  clear Bz hB'
  have hS := hB.size
  have cz := Az.c
  have zz := Az.z
  go_wp2_with fail
  refine bodyPost_ret (v := nv4 A C B D) (by simp [results, Tryz.results48, go_sem, cz]) rfl ⟨rfl, ?_⟩
  go_grown
set_option maxHeartbeats 4000000 in
theorem exch1 (A C B D : Int) (w : World) : Calls Tryz.prog 48 #[nv4 A C B D, .int .u64 1] w fun e w' => e = .returned (nv4 B D A C) ∧ Below w.heap.size w w' := by
  go_enter Tryz.func48, Tryz.ntmps48
  go_wp2_with fail
  have Bf := Arr.mk16 (w := ((w.alloc (.cells #[.int .u64 (lim (A) 0), .int .u64 (lim (A) 1), .int .u64 (lim (A) 2), .int .u64 (lim (A) 3), .int .u64 (lim (C) 0), .int .u64 (lim (C) 1), .int .u64 (lim (C) 2), .int .u64 (lim (C) 3), .int .u64 (lim (B) 0), .int .u64 (lim (B) 1), .int .u64 (lim (B) 2), .int .u64 (lim (B) 3), .int .u64 (lim (D) 0), .int .u64 (lim (D) 1), .int .u64 (lim (D) 2), .int .u64 (lim (D) 3)] 60)).alloc (.cells #[.int .u64 0, .int .u64 0, .int .u64 0, .int .u64 0, .int .u64 0, .int .u64 0, .int .u64 0, .int .u64 0, .int .u64 0, .int .u64 0, .int .u64 0, .int .u64 0, .int .u64 0, .int .u64 0, .int .u64 0, .int .u64 0] 60))) (f := fun j => .int .u64 (lx [A, C, B, D] j)) (b := w.heap.size) (by simp [go_sem, lx]) (by simp [go_sem, lx]) (by simp [go_sem, lx]) (by simp [go_sem, lx]) (by simp [go_sem, lx]) (by simp [go_sem, lx]) (by simp [go_sem, lx]) (by simp [go_sem, lx]) (by simp [go_sem, lx]) (by simp [go_sem, lx]) (by simp [go_sem, lx]) (by simp [go_sem, lx]) (by simp [go_sem, lx]) (by simp [go_sem, lx]) (by simp [go_sem, lx]) (by simp [go_sem, lx]) (by simp [go_sem, lx])
  have Bz := Arr.mk16 (w := ((w.alloc (.cells #[.int .u64 (lim (A) 0), .int .u64 (lim (A) 1), .int .u64 (lim (A) 2), .int .u64 (lim (A) 3), .int .u64 (lim (C) 0), .int .u64 (lim (C) 1), .int .u64 (lim (C) 2), .int .u64 (lim (C) 3), .int .u64 (lim (B) 0), .int .u64 (lim (B) 1), .int .u64 (lim (B) 2), .int .u64 (lim (B) 3), .int .u64 (lim (D) 0), .int .u64 (lim (D) 1), .int .u64 (lim (D) 2), .int .u64 (lim (D) 3)] 60)).alloc (.cells #[.int .u64 0, .int .u64 0, .int .u64 0, .int .u64 0, .int .u64 0, .int .u64 0, .int .u64 0, .int .u64 0, .int .u64 0, .int .u64 0, .int .u64 0, .int .u64 0, .int .u64 0, .int .u64 0, .int .u64 0, .int .u64 0] 60))) (f := fun _ => .int .u64 0) (b := w.heap.size + 1) (by simp [go_sem]) (by simp [go_sem]) (by simp [go_sem]) (by simp [go_sem]) (by simp [go_sem]) (by simp [go_sem]) (by simp [go_sem]) (by simp [go_sem]) (by simp [go_sem]) (by simp [go_sem]) (by simp [go_sem]) (by simp [go_sem]) (by simp [go_sem]) (by simp [go_sem]) (by simp [go_sem]) (by simp [go_sem]) (by simp [go_sem])
  have hB' : Below w.heap.size w ((w.alloc (.cells #[.int .u64 (lim (A) 0), .int .u64 (lim (A) 1), .int .u64 (lim (A) 2), .int .u64 (lim (A) 3), .int .u64 (lim (C) 0), .int .u64 (lim (C) 1), .int .u64 (lim (C) 2), .int .u64 (lim (C) 3), .int .u64 (lim (B) 0), .int .u64 (lim (B) 1), .int .u64 (lim (B) 2), .int .u64 (lim (B) 3), .int .u64 (lim (D) 0), .int .u64 (lim (D) 1), .int .u64 (lim (D) 2), .int .u64 (lim (D) 3)] 60)).alloc (.cells #[.int .u64 0, .int .u64 0, .int .u64 0, .int .u64 0, .int .u64 0, .int .u64 0, .int .u64 0, .int .u64 0, .int .u64 0, .int .u64 0, .int .u64 0, .int .u64 0, .int .u64 0, .int .u64 0, .int .u64 0, .int .u64 0] 60)) := by go_grown
  have Af := Bf
  have Az := Bz
  have hB := hB'
  clear Bf Bz hB'
  have rf0 := fun ds os => cell_regrown (v := .int .u64 (lim (A) 0)) (Af.c 0 (by omega)) ds os
  have rf1 := fun ds os => cell_regrown (v := .int .u64 (lim (A) 1)) (Af.c 1 (by omega)) ds os
  have rf2 := fun ds os => cell_regrown (v := .int .u64 (lim (A) 2)) (Af.c 2 (by omega)) ds os
  have rf3 := fun ds os => cell_regrown (v := .int .u64 (lim (A) 3)) (Af.c 3 (by omega)) ds os
  have rf4 := fun ds os => cell_regrown (v := .int .u64 (lim (C) 0)) (Af.c 4 (by omega)) ds os
  have rf5 := fun ds os => cell_regrown (v := .int .u64 (lim (C) 1)) (Af.c 5 (by omega)) ds os
  have rf6 := fun ds os => cell_regrown (v := .int .u64 (lim (C) 2)) (Af.c 6 (by omega)) ds os
  have rf7 := fun ds os => cell_regrown (v := .int .u64 (lim (C) 3)) (Af.c 7 (by omega)) ds os
  have rf8 := fun ds os => cell_regrown (v := .int .u64 (lim (B) 0)) (Af.c 8 (by omega)) ds os
  have rf9 := fun ds os => cell_regrown (v := .int .u64 (lim (B) 1)) (Af.c 9 (by omega)) ds os
  have rf10 := fun ds os => cell_regrown (v := .int .u64 (lim (B) 2)) (Af.c 10 (by omega)) ds os
  have rf11 := fun ds os => cell_regrown (v := .int .u64 (lim (B) 3)) (Af.c 11 (by omega)) ds os
  have rf12 := fun ds os => cell_regrown (v := .int .u64 (lim (D) 0)) (Af.c 12 (by omega)) ds os
  have rf13 := fun ds os => cell_regrown (v := .int .u64 (lim (D) 1)) (Af.c 13 (by omega)) ds os
  have rf14 := fun ds os => cell_regrown (v := .int .u64 (lim (D) 2)) (Af.c 14 (by omega)) ds os
  have rf15 := fun ds os => cell_regrown (v := .int .u64 (lim (D) 3)) (Af.c 15 (by omega)) ds os
  refine wp_region_below_tail 8 (by kernel_rfl) (by kernel_rfl) ?_
  simp only [List.take_succ_cons, List.take_zero, List.drop_succ_cons, List.drop_zero]
  repeat (go_big_quiet_step (fail))
  refine wpQuiet_nil ?_
  intro w1 hw'
  obtain ⟨⟨dq, osq⟩, hw''⟩ := hw'
  have hb := below_of hw''
  clear hw''
  have Bz := Arr.to' Az hb
  have hB' := Bel.call hB hb
  clear hb rf0 rf1 rf2 rf3 rf4 rf5 rf6 rf7 rf8 rf9 rf10 rf11 rf12 rf13 rf14 rf15 Af Az hB
  have Az := Bz
  have hB := hB'
  clear Bz hB'
  have hS := hB.size
  have cz := Az.c
  have zz := Az.z
  go_wp2_with fail
  refine bodyPost_ret (v := nv4 B D A C) (by simp [results, Tryz.results48, go_sem, cz]) rfl ⟨rfl, ?_⟩
  go_grown
/-- What a step makes of both fractions. -/
def sa (A C : Int) : Int := fm (fm (fa A C) (fa A C)) (fm (fs A C) (fs A C))
def sc' (A C : Int) : Int := fm (fs (fm (fa A C) (fa A C)) (fm (fs A C) (fs A C))) (fa (fm (fa A C) (fa A C)) (fm 121665 (fs (fm (fa A C) (fa A C)) (fm (fs A C) (fs A C)))))
def sda (A C B D : Int) : Int := fm (fs B D) (fa A C)
def scb (A C B D : Int) : Int := fm (fa B D) (fs A C)
def sb (A C B D : Int) : Int := fm (fa (sda A C B D) (scb A C B D)) (fa (sda A C B D) (scb A C B D))
def sd (A C B D U : Int) : Int := fm U (fm (fs (sda A C B D) (scb A C B D)) (fs (sda A C B D) (scb A C B D)))
set_option maxHeartbeats 8000000 in
theorem step_any (A C B D U : Int) (iA : Inn A) (iC : Inn C) (iB : Inn B) (iD : Inn D) (iU : Inn U) (w : World) : Calls Tryz.prog 49 #[nv4 A C B D, nv U] w fun e w' => e = .returned (nv4 (sa A C) (sc' A C) (sb A C B D) (sd A C B D U)) ∧ Below w.heap.size w w' := by
  go_enter Tryz.func49, Tryz.ntmps49
  have Bf := Arr.mk16 (w := (((w.alloc (.cells #[.int .u64 (lim (A) 0), .int .u64 (lim (A) 1), .int .u64 (lim (A) 2), .int .u64 (lim (A) 3), .int .u64 (lim (C) 0), .int .u64 (lim (C) 1), .int .u64 (lim (C) 2), .int .u64 (lim (C) 3), .int .u64 (lim (B) 0), .int .u64 (lim (B) 1), .int .u64 (lim (B) 2), .int .u64 (lim (B) 3), .int .u64 (lim (D) 0), .int .u64 (lim (D) 1), .int .u64 (lim (D) 2), .int .u64 (lim (D) 3)] 60)).alloc (.cells #[.int .u64 (lim (U) 0), .int .u64 (lim (U) 1), .int .u64 (lim (U) 2), .int .u64 (lim (U) 3)] 34)).alloc (.cells #[.int .u64 0, .int .u64 0, .int .u64 0, .int .u64 0, .int .u64 0, .int .u64 0, .int .u64 0, .int .u64 0, .int .u64 0, .int .u64 0, .int .u64 0, .int .u64 0, .int .u64 0, .int .u64 0, .int .u64 0, .int .u64 0] 60))) (f := fun j => .int .u64 (lx [A, C, B, D] j)) (b := w.heap.size) (by simp [go_sem, lx]) (by simp [go_sem, lx]) (by simp [go_sem, lx]) (by simp [go_sem, lx]) (by simp [go_sem, lx]) (by simp [go_sem, lx]) (by simp [go_sem, lx]) (by simp [go_sem, lx]) (by simp [go_sem, lx]) (by simp [go_sem, lx]) (by simp [go_sem, lx]) (by simp [go_sem, lx]) (by simp [go_sem, lx]) (by simp [go_sem, lx]) (by simp [go_sem, lx]) (by simp [go_sem, lx]) (by simp [go_sem, lx])
  have Bu := Arr.mk4 (w := (((w.alloc (.cells #[.int .u64 (lim (A) 0), .int .u64 (lim (A) 1), .int .u64 (lim (A) 2), .int .u64 (lim (A) 3), .int .u64 (lim (C) 0), .int .u64 (lim (C) 1), .int .u64 (lim (C) 2), .int .u64 (lim (C) 3), .int .u64 (lim (B) 0), .int .u64 (lim (B) 1), .int .u64 (lim (B) 2), .int .u64 (lim (B) 3), .int .u64 (lim (D) 0), .int .u64 (lim (D) 1), .int .u64 (lim (D) 2), .int .u64 (lim (D) 3)] 60)).alloc (.cells #[.int .u64 (lim (U) 0), .int .u64 (lim (U) 1), .int .u64 (lim (U) 2), .int .u64 (lim (U) 3)] 34)).alloc (.cells #[.int .u64 0, .int .u64 0, .int .u64 0, .int .u64 0, .int .u64 0, .int .u64 0, .int .u64 0, .int .u64 0, .int .u64 0, .int .u64 0, .int .u64 0, .int .u64 0, .int .u64 0, .int .u64 0, .int .u64 0, .int .u64 0] 60))) (f := fun j => .int .u64 (lim (U) j)) (b := w.heap.size + 1) (by simp [go_sem]) (by simp [go_sem]) (by simp [go_sem]) (by simp [go_sem]) (by simp [go_sem]) (by simp [go_sem]) (by simp [go_sem]) (by simp [go_sem])
  have Bz := Arr.mk16 (w := (((w.alloc (.cells #[.int .u64 (lim (A) 0), .int .u64 (lim (A) 1), .int .u64 (lim (A) 2), .int .u64 (lim (A) 3), .int .u64 (lim (C) 0), .int .u64 (lim (C) 1), .int .u64 (lim (C) 2), .int .u64 (lim (C) 3), .int .u64 (lim (B) 0), .int .u64 (lim (B) 1), .int .u64 (lim (B) 2), .int .u64 (lim (B) 3), .int .u64 (lim (D) 0), .int .u64 (lim (D) 1), .int .u64 (lim (D) 2), .int .u64 (lim (D) 3)] 60)).alloc (.cells #[.int .u64 (lim (U) 0), .int .u64 (lim (U) 1), .int .u64 (lim (U) 2), .int .u64 (lim (U) 3)] 34)).alloc (.cells #[.int .u64 0, .int .u64 0, .int .u64 0, .int .u64 0, .int .u64 0, .int .u64 0, .int .u64 0, .int .u64 0, .int .u64 0, .int .u64 0, .int .u64 0, .int .u64 0, .int .u64 0, .int .u64 0, .int .u64 0, .int .u64 0] 60))) (f := fun _ => .int .u64 0) (b := w.heap.size + 1 + 1) (by simp [go_sem]) (by simp [go_sem]) (by simp [go_sem]) (by simp [go_sem]) (by simp [go_sem]) (by simp [go_sem]) (by simp [go_sem]) (by simp [go_sem]) (by simp [go_sem]) (by simp [go_sem]) (by simp [go_sem]) (by simp [go_sem]) (by simp [go_sem]) (by simp [go_sem]) (by simp [go_sem]) (by simp [go_sem]) (by simp [go_sem])
  have hB' : Below w.heap.size w (((w.alloc (.cells #[.int .u64 (lim (A) 0), .int .u64 (lim (A) 1), .int .u64 (lim (A) 2), .int .u64 (lim (A) 3), .int .u64 (lim (C) 0), .int .u64 (lim (C) 1), .int .u64 (lim (C) 2), .int .u64 (lim (C) 3), .int .u64 (lim (B) 0), .int .u64 (lim (B) 1), .int .u64 (lim (B) 2), .int .u64 (lim (B) 3), .int .u64 (lim (D) 0), .int .u64 (lim (D) 1), .int .u64 (lim (D) 2), .int .u64 (lim (D) 3)] 60)).alloc (.cells #[.int .u64 (lim (U) 0), .int .u64 (lim (U) 1), .int .u64 (lim (U) 2), .int .u64 (lim (U) 3)] 34)).alloc (.cells #[.int .u64 0, .int .u64 0, .int .u64 0, .int .u64 0, .int .u64 0, .int .u64 0, .int .u64 0, .int .u64 0, .int .u64 0, .int .u64 0, .int .u64 0, .int .u64 0, .int .u64 0, .int .u64 0, .int .u64 0, .int .u64 0] 60)) := by go_grown
  have Af := Bf
  have Au := Bu
  have Az := Bz
  have hB := hB'
  clear Bf Bu Bz hB'
  go_wp2_with fail
  refine (sumLess A C iA iC _).mono ?_
  rintro e w1 ⟨rfl, hb⟩
  have Bf := Arr.to' Af hb
  have Bu := Arr.to' Au hb
  have Bz := Arr.to' Az hb
  have hB' := Bel.call hB hb
  clear hb Af Au Az hB
  have Af := Bf
  have Au := Bu
  have Az := Bz
  have hB := hB'
  clear Bf Bu Bz hB'
  have lf_2 := Af.lt
  have lu_2 := Au.lt
  have lz_2 := Az.lt
  have lB_2 := hB.size
  have Bf := (Arr.al' (Arr.al' Af (.cells #[.int .u64 (lim (fa A C) 0), .int .u64 (lim (fa A C) 1), .int .u64 (lim (fa A C) 2), .int .u64 (lim (fa A C) 3)] 34)) (.cells #[.int .u64 (lim (fs A C) 0), .int .u64 (lim (fs A C) 1), .int .u64 (lim (fs A C) 2), .int .u64 (lim (fs A C) 3)] 34))
  have Bu := (Arr.al' (Arr.al' Au (.cells #[.int .u64 (lim (fa A C) 0), .int .u64 (lim (fa A C) 1), .int .u64 (lim (fa A C) 2), .int .u64 (lim (fa A C) 3)] 34)) (.cells #[.int .u64 (lim (fs A C) 0), .int .u64 (lim (fs A C) 1), .int .u64 (lim (fs A C) 2), .int .u64 (lim (fs A C) 3)] 34))
  have Bz := (Arr.al' (Arr.al' Az (.cells #[.int .u64 (lim (fa A C) 0), .int .u64 (lim (fa A C) 1), .int .u64 (lim (fa A C) 2), .int .u64 (lim (fa A C) 3)] 34)) (.cells #[.int .u64 (lim (fs A C) 0), .int .u64 (lim (fs A C) 1), .int .u64 (lim (fs A C) 2), .int .u64 (lim (fs A C) 3)] 34))
  have Bs := Arr.mk4 (w := ((w1.alloc (.cells #[.int .u64 (lim (fa A C) 0), .int .u64 (lim (fa A C) 1), .int .u64 (lim (fa A C) 2), .int .u64 (lim (fa A C) 3)] 34)).alloc (.cells #[.int .u64 (lim (fs A C) 0), .int .u64 (lim (fs A C) 1), .int .u64 (lim (fs A C) 2), .int .u64 (lim (fs A C) 3)] 34))) (f := fun j => .int .u64 (lim (fa A C) j)) (b := w1.heap.size) (by simp [go_sem]) (by simp [go_sem]) (by simp [go_sem]) (by simp [go_sem]) (by simp [go_sem]) (by simp [go_sem]) (by simp [go_sem]) (by simp [go_sem])
  have Bl := Arr.mk4 (w := ((w1.alloc (.cells #[.int .u64 (lim (fa A C) 0), .int .u64 (lim (fa A C) 1), .int .u64 (lim (fa A C) 2), .int .u64 (lim (fa A C) 3)] 34)).alloc (.cells #[.int .u64 (lim (fs A C) 0), .int .u64 (lim (fs A C) 1), .int .u64 (lim (fs A C) 2), .int .u64 (lim (fs A C) 3)] 34))) (f := fun j => .int .u64 (lim (fs A C) j)) (b := w1.heap.size + 1) (by simp [go_sem]) (by simp [go_sem]) (by simp [go_sem]) (by simp [go_sem]) (by simp [go_sem]) (by simp [go_sem]) (by simp [go_sem]) (by simp [go_sem])
  have hB' := (Bel.al (Bel.al hB (.cells #[.int .u64 (lim (fa A C) 0), .int .u64 (lim (fa A C) 1), .int .u64 (lim (fa A C) 2), .int .u64 (lim (fa A C) 3)] 34)) (.cells #[.int .u64 (lim (fs A C) 0), .int .u64 (lim (fs A C) 1), .int .u64 (lim (fs A C) 2), .int .u64 (lim (fs A C) 3)] 34))
  clear Af Au Az hB
  have Af := Bf
  have Au := Bu
  have Az := Bz
  have As := Bs
  have Al := Bl
  have hB := hB'
  clear Bf Bu Bz Bs Bl hB'
  have cf_0 := Af.cv 0 (by omega) (.int .u64 (lim (A) 0)) rfl
  have cf_1 := Af.cv 1 (by omega) (.int .u64 (lim (A) 1)) rfl
  have cf_2 := Af.cv 2 (by omega) (.int .u64 (lim (A) 2)) rfl
  have cf_3 := Af.cv 3 (by omega) (.int .u64 (lim (A) 3)) rfl
  have cf_4 := Af.cv 4 (by omega) (.int .u64 (lim (C) 0)) rfl
  have cf_5 := Af.cv 5 (by omega) (.int .u64 (lim (C) 1)) rfl
  have cf_6 := Af.cv 6 (by omega) (.int .u64 (lim (C) 2)) rfl
  have cf_7 := Af.cv 7 (by omega) (.int .u64 (lim (C) 3)) rfl
  have cf_8 := Af.cv 8 (by omega) (.int .u64 (lim (B) 0)) rfl
  have cf_9 := Af.cv 9 (by omega) (.int .u64 (lim (B) 1)) rfl
  have cf_10 := Af.cv 10 (by omega) (.int .u64 (lim (B) 2)) rfl
  have cf_11 := Af.cv 11 (by omega) (.int .u64 (lim (B) 3)) rfl
  have cf_12 := Af.cv 12 (by omega) (.int .u64 (lim (D) 0)) rfl
  have cf_13 := Af.cv 13 (by omega) (.int .u64 (lim (D) 1)) rfl
  have cf_14 := Af.cv 14 (by omega) (.int .u64 (lim (D) 2)) rfl
  have cf_15 := Af.cv 15 (by omega) (.int .u64 (lim (D) 3)) rfl
  go_wp2_with fail
  refine (sumLess B D iB iD _).mono ?_
  rintro e w2 ⟨rfl, hb⟩
  have Bu := Arr.to' Au hb
  have Bz := Arr.to' Az hb
  have Bs := Arr.to' As hb
  have Bl := Arr.to' Al hb
  have hB' := Bel.call hB hb
  clear hb cf_0 cf_1 cf_2 cf_3 cf_4 cf_5 cf_6 cf_7 cf_8 cf_9 cf_10 cf_11 cf_12 cf_13 cf_14 cf_15 Af Au Az As Al hB
  have Au := Bu
  have Az := Bz
  have As := Bs
  have Al := Bl
  have hB := hB'
  clear Bu Bz Bs Bl hB'
  have lu_3 := Au.lt
  have lz_3 := Az.lt
  have ls_3 := As.lt
  have ll_3 := Al.lt
  have lB_3 := hB.size
  have Bu := (Arr.al' (Arr.al' Au (.cells #[.int .u64 (lim (fa B D) 0), .int .u64 (lim (fa B D) 1), .int .u64 (lim (fa B D) 2), .int .u64 (lim (fa B D) 3)] 34)) (.cells #[.int .u64 (lim (fs B D) 0), .int .u64 (lim (fs B D) 1), .int .u64 (lim (fs B D) 2), .int .u64 (lim (fs B D) 3)] 34))
  have Bz := (Arr.al' (Arr.al' Az (.cells #[.int .u64 (lim (fa B D) 0), .int .u64 (lim (fa B D) 1), .int .u64 (lim (fa B D) 2), .int .u64 (lim (fa B D) 3)] 34)) (.cells #[.int .u64 (lim (fs B D) 0), .int .u64 (lim (fs B D) 1), .int .u64 (lim (fs B D) 2), .int .u64 (lim (fs B D) 3)] 34))
  have Bs := (Arr.al' (Arr.al' As (.cells #[.int .u64 (lim (fa B D) 0), .int .u64 (lim (fa B D) 1), .int .u64 (lim (fa B D) 2), .int .u64 (lim (fa B D) 3)] 34)) (.cells #[.int .u64 (lim (fs B D) 0), .int .u64 (lim (fs B D) 1), .int .u64 (lim (fs B D) 2), .int .u64 (lim (fs B D) 3)] 34))
  have Bl := (Arr.al' (Arr.al' Al (.cells #[.int .u64 (lim (fa B D) 0), .int .u64 (lim (fa B D) 1), .int .u64 (lim (fa B D) 2), .int .u64 (lim (fa B D) 3)] 34)) (.cells #[.int .u64 (lim (fs B D) 0), .int .u64 (lim (fs B D) 1), .int .u64 (lim (fs B D) 2), .int .u64 (lim (fs B D) 3)] 34))
  have Bp := Arr.mk4 (w := ((w2.alloc (.cells #[.int .u64 (lim (fa B D) 0), .int .u64 (lim (fa B D) 1), .int .u64 (lim (fa B D) 2), .int .u64 (lim (fa B D) 3)] 34)).alloc (.cells #[.int .u64 (lim (fs B D) 0), .int .u64 (lim (fs B D) 1), .int .u64 (lim (fs B D) 2), .int .u64 (lim (fs B D) 3)] 34))) (f := fun j => .int .u64 (lim (fa B D) j)) (b := w2.heap.size) (by simp [go_sem]) (by simp [go_sem]) (by simp [go_sem]) (by simp [go_sem]) (by simp [go_sem]) (by simp [go_sem]) (by simp [go_sem]) (by simp [go_sem])
  have Bq := Arr.mk4 (w := ((w2.alloc (.cells #[.int .u64 (lim (fa B D) 0), .int .u64 (lim (fa B D) 1), .int .u64 (lim (fa B D) 2), .int .u64 (lim (fa B D) 3)] 34)).alloc (.cells #[.int .u64 (lim (fs B D) 0), .int .u64 (lim (fs B D) 1), .int .u64 (lim (fs B D) 2), .int .u64 (lim (fs B D) 3)] 34))) (f := fun j => .int .u64 (lim (fs B D) j)) (b := w2.heap.size + 1) (by simp [go_sem]) (by simp [go_sem]) (by simp [go_sem]) (by simp [go_sem]) (by simp [go_sem]) (by simp [go_sem]) (by simp [go_sem]) (by simp [go_sem])
  have hB' := (Bel.al (Bel.al hB (.cells #[.int .u64 (lim (fa B D) 0), .int .u64 (lim (fa B D) 1), .int .u64 (lim (fa B D) 2), .int .u64 (lim (fa B D) 3)] 34)) (.cells #[.int .u64 (lim (fs B D) 0), .int .u64 (lim (fs B D) 1), .int .u64 (lim (fs B D) 2), .int .u64 (lim (fs B D) 3)] 34))
  clear Au Az As Al hB
  have Au := Bu
  have Az := Bz
  have As := Bs
  have Al := Bl
  have Ap := Bp
  have Aq := Bq
  have hB := hB'
  clear Bu Bz Bs Bl Bp Bq hB'
  have rs0 := fun ds os => cell_regrown (As.c 0 (by omega)) ds os
  have rs1 := fun ds os => cell_regrown (As.c 1 (by omega)) ds os
  have rs2 := fun ds os => cell_regrown (As.c 2 (by omega)) ds os
  have rs3 := fun ds os => cell_regrown (As.c 3 (by omega)) ds os
  have rl0 := fun ds os => cell_regrown (Al.c 0 (by omega)) ds os
  have rl1 := fun ds os => cell_regrown (Al.c 1 (by omega)) ds os
  have rl2 := fun ds os => cell_regrown (Al.c 2 (by omega)) ds os
  have rl3 := fun ds os => cell_regrown (Al.c 3 (by omega)) ds os
  have rp0 := fun ds os => cell_regrown (Ap.c 0 (by omega)) ds os
  have rp1 := fun ds os => cell_regrown (Ap.c 1 (by omega)) ds os
  have rp2 := fun ds os => cell_regrown (Ap.c 2 (by omega)) ds os
  have rp3 := fun ds os => cell_regrown (Ap.c 3 (by omega)) ds os
  have rq0 := fun ds os => cell_regrown (Aq.c 0 (by omega)) ds os
  have rq1 := fun ds os => cell_regrown (Aq.c 1 (by omega)) ds os
  have rq2 := fun ds os => cell_regrown (Aq.c 2 (by omega)) ds os
  have rq3 := fun ds os => cell_regrown (Aq.c 3 (by omega)) ds os
  have ru0 := fun ds os => cell_regrown (Au.c 0 (by omega)) ds os
  have ru1 := fun ds os => cell_regrown (Au.c 1 (by omega)) ds os
  have ru2 := fun ds os => cell_regrown (Au.c 2 (by omega)) ds os
  have ru3 := fun ds os => cell_regrown (Au.c 3 (by omega)) ds os
  go_wp2_with fail
  refine wp_region_below_tail 12 (by kernel_rfl) (by kernel_rfl) ?_
  simp only [List.take_succ_cons, List.take_zero, List.drop_succ_cons, List.drop_zero]
  repeat (go_big_quiet_step (first | (go_at_call 75; with_reducible exact Calls.regrown_of (doubled_any _ _ (by first | exact inn_fm _ _ | exact inn_fa _ _ | exact inn_fs _ _ | assumption) (by first | exact inn_fm _ _ | exact inn_fa _ _ | exact inn_fs _ _ | assumption) _)) | (go_at_call 38; with_reducible exact Calls.regrown_of (xmul _ _ (by first | exact inn_fm _ _ | exact inn_fa _ _ | exact inn_fs _ _ | assumption) (by first | exact inn_fm _ _ | exact inn_fa _ _ | exact inn_fs _ _ | assumption) _)) | (go_at_call 76; with_reducible exact Calls.regrown_of (added_any _ _ _ (by first | exact inn_fm _ _ | exact inn_fa _ _ | exact inn_fs _ _ | assumption) (by first | exact inn_fm _ _ | exact inn_fa _ _ | exact inn_fs _ _ | assumption) (by first | exact inn_fm _ _ | exact inn_fa _ _ | exact inn_fs _ _ | assumption) _))))
  refine wpQuiet_nil ?_
  intro w3 hw'
  obtain ⟨⟨dq, osq⟩, hw''⟩ := hw'
  have hb := below_of hw''
  clear hw''
  have Bz := Arr.to' Az hb
  have hB' := Bel.call hB hb
  clear hb rs0 rs1 rs2 rs3 rl0 rl1 rl2 rl3 rp0 rp1 rp2 rp3 rq0 rq1 rq2 rq3 ru0 ru1 ru2 ru3 Au Az As Al Ap Aq hB
  have Az := Bz
  have hB := hB'
  clear Bz hB'
  have hS := hB.size
  have cz := Az.c
  have zz := Az.z
  go_wp2_with fail
  refine bodyPost_ret (v := nv4 (sa A C) (sc' A C) (sb A C B D) (sd A C B D U)) (by simp [results, Tryz.results49, go_sem, cz, sa, sc', sb, sd, sda, scb]) rfl ⟨rfl, ?_⟩
  go_grown
set_option maxHeartbeats 4000000 in
theorem value_core (A C Y R b : Int) (w : World)
    (C64 : ∀ W, Calls Tryz.prog 77 #[nv pp, .agg #[.int .u64 2, .int .u64 0, .int .u64 0, .int .u64 0]] W fun e w' => e = .returned (.tuple #[nv (pp - 2), .int .u64 b]) ∧ Below W.heap.size W w')
    (CP : ∀ W, Calls Tryz.prog 36 #[nv C, nv (pp - 2), nv pp] W fun e w' => e = .returned (nv Y) ∧ Below W.heap.size W w')
    (CM : ∀ W, Calls Tryz.prog 38 #[nv A, nv Y] W fun e w' => e = .returned (nv R) ∧ Below W.heap.size W w') :
    Calls Tryz.prog 50 #[nv2 A C] w fun e w' => e = .returned (nv R) ∧ Below w.heap.size w w' := by
  go_enter Tryz.func50, Tryz.ntmps50
  have Bf := Arr.mk8' (w := ((w.alloc (.cells #[.int .u64 (lim (A) 0), .int .u64 (lim (A) 1), .int .u64 (lim (A) 2), .int .u64 (lim (A) 3), .int .u64 (lim (C) 0), .int .u64 (lim (C) 1), .int .u64 (lim (C) 2), .int .u64 (lim (C) 3)] 59)).alloc (.cells #[.int .u64 0, .int .u64 0, .int .u64 0, .int .u64 0] 34))) (f := fun j => .int .u64 (lx [A, C] j)) (b := w.heap.size) (by simp [go_sem, lx]) (by simp [go_sem, lx]) (by simp [go_sem, lx]) (by simp [go_sem, lx]) (by simp [go_sem, lx]) (by simp [go_sem, lx]) (by simp [go_sem, lx]) (by simp [go_sem, lx]) (by simp [go_sem, lx])
  have Bz := Arr.mk4 (w := ((w.alloc (.cells #[.int .u64 (lim (A) 0), .int .u64 (lim (A) 1), .int .u64 (lim (A) 2), .int .u64 (lim (A) 3), .int .u64 (lim (C) 0), .int .u64 (lim (C) 1), .int .u64 (lim (C) 2), .int .u64 (lim (C) 3)] 59)).alloc (.cells #[.int .u64 0, .int .u64 0, .int .u64 0, .int .u64 0] 34))) (f := fun _ => .int .u64 0) (b := w.heap.size + 1) (by simp [go_sem]) (by simp [go_sem]) (by simp [go_sem]) (by simp [go_sem]) (by simp [go_sem]) (by simp [go_sem]) (by simp [go_sem]) (by simp [go_sem])
  have hB' : Below w.heap.size w ((w.alloc (.cells #[.int .u64 (lim (A) 0), .int .u64 (lim (A) 1), .int .u64 (lim (A) 2), .int .u64 (lim (A) 3), .int .u64 (lim (C) 0), .int .u64 (lim (C) 1), .int .u64 (lim (C) 2), .int .u64 (lim (C) 3)] 59)).alloc (.cells #[.int .u64 0, .int .u64 0, .int .u64 0, .int .u64 0] 34)) := by go_grown
  have Af := Bf
  have Az := Bz
  have hB := hB'
  clear Bf Bz hB'
  go_wp2_with fail
  refine (p21 _).mono ?_
  rintro e w1 ⟨rfl, hb⟩
  have Bf := Arr.to' Af hb
  have Bz := Arr.to' Az hb
  have hB' := Bel.call hB hb
  clear hb Af Az hB
  have Af := Bf
  have Az := Bz
  have hB := hB'
  clear Bf Bz hB'
  go_wp2_with fail
  refine (C64 _).mono ?_
  rintro e w2 ⟨rfl, hb⟩
  have Bf := Arr.to' Af hb
  have Bz := Arr.to' Az hb
  have hB' := Bel.call hB hb
  clear hb Af Az hB C64
  have Af := Bf
  have Az := Bz
  have hB := hB'
  clear Bf Bz hB'
  have lf_2 := Af.lt
  have lz_2 := Az.lt
  have lB_2 := hB.size
  have Bf := (Arr.al' Af (.cells #[.int .u64 (lim (pp - 2) 0), .int .u64 (lim (pp - 2) 1), .int .u64 (lim (pp - 2) 2), .int .u64 (lim (pp - 2) 3)] 34))
  have Bz := (Arr.al' Az (.cells #[.int .u64 (lim (pp - 2) 0), .int .u64 (lim (pp - 2) 1), .int .u64 (lim (pp - 2) 2), .int .u64 (lim (pp - 2) 3)] 34))
  have Bt := Arr.mk4 (w := (w2.alloc (.cells #[.int .u64 (lim (pp - 2) 0), .int .u64 (lim (pp - 2) 1), .int .u64 (lim (pp - 2) 2), .int .u64 (lim (pp - 2) 3)] 34))) (f := fun j => .int .u64 (lim (pp - 2) j)) (b := w2.heap.size) (by simp [go_sem]) (by simp [go_sem]) (by simp [go_sem]) (by simp [go_sem]) (by simp [go_sem]) (by simp [go_sem]) (by simp [go_sem]) (by simp [go_sem])
  have hB' := (Bel.al hB (.cells #[.int .u64 (lim (pp - 2) 0), .int .u64 (lim (pp - 2) 1), .int .u64 (lim (pp - 2) 2), .int .u64 (lim (pp - 2) 3)] 34))
  clear Af Az hB
  have Af := Bf
  have Az := Bz
  have At := Bt
  have hB := hB'
  clear Bf Bz Bt hB'
  have rf0 := fun ds os => cell_regrown (v := .int .u64 (lim (A) 0)) (Af.c 0 (by omega)) ds os
  have rf1 := fun ds os => cell_regrown (v := .int .u64 (lim (A) 1)) (Af.c 1 (by omega)) ds os
  have rf2 := fun ds os => cell_regrown (v := .int .u64 (lim (A) 2)) (Af.c 2 (by omega)) ds os
  have rf3 := fun ds os => cell_regrown (v := .int .u64 (lim (A) 3)) (Af.c 3 (by omega)) ds os
  have rf4 := fun ds os => cell_regrown (v := .int .u64 (lim (C) 0)) (Af.c 4 (by omega)) ds os
  have rf5 := fun ds os => cell_regrown (v := .int .u64 (lim (C) 1)) (Af.c 5 (by omega)) ds os
  have rf6 := fun ds os => cell_regrown (v := .int .u64 (lim (C) 2)) (Af.c 6 (by omega)) ds os
  have rf7 := fun ds os => cell_regrown (v := .int .u64 (lim (C) 3)) (Af.c 7 (by omega)) ds os
  have rt0 := fun ds os => cell_regrown (At.c 0 (by omega)) ds os
  have rt1 := fun ds os => cell_regrown (At.c 1 (by omega)) ds os
  have rt2 := fun ds os => cell_regrown (At.c 2 (by omega)) ds os
  have rt3 := fun ds os => cell_regrown (At.c 3 (by omega)) ds os
  go_wp2_with fail
  refine wp_region_below_tail 8 (by kernel_rfl) (by kernel_rfl) ?_
  simp only [List.take_succ_cons, List.take_zero, List.drop_succ_cons, List.drop_zero]
  repeat (go_big_quiet_step (first | (go_at_call 34; exact Calls.regrown_of (p21 _)) | (go_at_call 36; exact Calls.regrown_of (CP _)) | (go_at_call 38; exact Calls.regrown_of (CM _))))
  refine wpQuiet_nil ?_
  intro w3 hw'
  obtain ⟨⟨dq, osq⟩, hw''⟩ := hw'
  have hb := below_of hw''
  clear hw''
  have Bz := Arr.to' Az hb
  have hB' := Bel.call hB hb
  clear hb rf0 rf1 rf2 rf3 rf4 rf5 rf6 rf7 rt0 rt1 rt2 rt3 Af Az At hB CP CM
  have Az := Bz
  have hB := hB'
  clear Bz hB'
  have hS := hB.size
  have cz := Az.c
  have zz := Az.z
  go_wp2_with fail
  refine bodyPost_ret (v := nv R) (by simp [results, Tryz.results50, go_sem, cz]) rfl ⟨rfl, ?_⟩
  go_grown
/-- A fraction as a number. -/
def vl (A C : Int) : Int := fm A (C ^ (pp - 2).toNat % pp)
theorem inn_p2 : Inn (pp - 2) := ⟨by decide, by decide⟩
theorem value_any (A C : Int) (iA : Inn A) (iC : Inn C) (w : World) : Calls Tryz.prog 50 #[nv2 A C] w fun e w' => e = .returned (nv (vl A C)) ∧ Below w.heap.size w w' := by
  refine value_core A C _ _ (bor pp 2) w (fun W => ?_) (fun W => ?_) (fun W => xmul A (C ^ (pp - 2).toNat % pp) iA (inn_mod _) W)
  · have := sub_any pp 2 inn_pp.1 inn_pp.2 (by decide) (by decide) W
    rw [nv_low 2 (by decide) (by decide)] at this
    exact this
  · have := pow_any C (pp - 2) pp iC.1 iC.2 inn_p2.1 inn_p2.2 inn_pp.1 inn_pp.2 W
    rw [md_pos _ pp_pos] at this
    exact this
end Go.Proofs.YtpigofooblmdhaaGreat
/- xdh.bits hands out a scalar's bits, the highest first; what xdh.ladder answers. -/
set_option linter.all false
set_option maxRecDepth 100000
namespace Go.Proofs.YtpigofooblmdhaaGreat
open Go.RowKit Go.Shelf Go.Sort
attribute [local go_sem] Oper.semAt_some
set_option maxHeartbeats 2000000 in
theorem xbits1_in (E : Int) (n l Bn : Nat) (hn : 1 ≤ n) (J Jx : List Bool → World → Prop) {B : Nat} (hJ : AbidesFrom B J)
    (CB : ∀ (k : Nat) W, k < 256 → Calls Tryz.prog 73 #[nv E, .int .i64 k] W fun e w' => e = .returned (bv (bitB E k)) ∧ Below W.heap.size W w')
    (hY : ∀ pre x W, J pre W → pre.length < 257 → YieldAt Fence.wide (n - 1) Tryz.prog l #[bv x] W fun e W' =>
      (e = .returned (.bool true) ∧ J (pre ++ [x]) W' ∧ KB Bn W W') ∨ (e = .returned (.bool false) ∧ Jx (pre ++ [x]) W'))
    (W : World) (hA : Arr W Bn 4 (fun j => .int .u64 (lim E j))) (h0 : J [] W) :
    CallsIn Fence.wide n Tryz.prog 72 #[.func (.yield l) #[] #[], .pointer (some ⟨Bn, 0, none⟩)] W fun e W' => (∃ v, e = .returned v) ∧
      ((∃ ys, ys = upto E 255 255 ∧ J ys W') ∨ (∃ pre, pre <+: upto E 255 255 ∧ Jx pre W')) := by
  refine callsIn_of_wp Tryz.func72 rfl trivial ?_ rfl
  simp only [Tryz.ntmps72, List.size_toArray, List.length_cons, List.length_nil, Nat.reduceAdd, Nat.reduceSub, Array.replicate_succ, Array.replicate_zero, List.push_toArray, List.append_toArray, List.nil_append, List.cons_append]
  gi_wp2
  gi_loopw [4] (fun i wr => ∃ k : Nat, k ≤ 255 ∧ i = .int .i64 (k : Int) ∧ J (upto E 255 k) wr ∧ Arr wr Bn 4 (fun j => .int .u64 (lim E j))) (fun i _ => 255 - (intOf i).toNat)
  case atStart => exact ⟨0, by omega, rfl, h0, hA⟩
  case round =>
    clear h0 hA
    obtain ⟨k, hk, rfl, hJs, hA⟩ := hrel
    have ca := hA.c
    by_cases hlt : k < 255
    · obtain ⟨m, hm⟩ : ∃ m : Nat, (254 : Int) - (k : Int) = (m : Int) := ⟨254 - k, by omega⟩
      have em : m = 255 - 1 - k := by omega
      have k0 : (0 : Int) ≤ (k : Int) := by omega
      have k1 : (k : Int) < 255 := by omega
      have cb := fun W => CB m W (by omega)
      rw [← hm] at cb
      have hk3 : (upto E 255 k).length < 257 := by rw [upto_len]; omega
      have hpre := upto_pre E 255 (k + 1) hlt
      rw [upto_succ, ← em] at hpre
      have hus := upto_succ E 255 k
      rw [← em] at hus
      have HU : Hid (upto E 255 (k + 1) = upto E 255 k ++ [bitB E m]) := hus
      clear em hm hus
      gi_wp2_with (refine ⟨trivial, ?_⟩; gi_at_call 73; refine (callsIn_wide.2 (cb _)).mono ?_; rintro e w2 ⟨rfl, hb2⟩; obtain ⟨fn, tmps, assign, body, hy, hR⟩ := hY (upto E 255 k) (bitB E m) w2 (hJ _ _ _ none hJs (gby hb2) (fun r e => by cases e)) hk3)
      refine hR.mono ?_
      rintro e W3 (⟨rfl, hJ3, hb3⟩ | ⟨rfl, hJx3⟩)
      · have hA3 := hb3 _ (hA.below hb2 hA.lt)
        gi_wp2
        go_roundw
        case rel => exact ⟨k + 1, by omega, by go_num, by rw [HU.out]; exact hJ3, hA3⟩
        case measure => first | (simp [intOf]; done) | (simp [intOf]; omega)
      · gi_wp2
        refine bodyPost_ret (results_none rfl _ _ _) rfl ?_
        exact ⟨⟨_, rfl⟩, .inr ⟨_, hpre, hJx3⟩⟩
    · have e : k = 255 := by omega
      subst e
      gi_wp2
      go_end0
      exact ⟨⟨_, rfl⟩, .inl ⟨_, rfl, hJs⟩⟩
theorem xbits_seq (E : Int) (n Bn : Nat) (hn : 1 ≤ n) (w0 : World)
    (CB : ∀ (k : Nat) W, k < 256 → Calls Tryz.prog 73 #[nv E, .int .i64 k] W fun e w' => e = .returned (bv (bitB E k)) ∧ Below W.heap.size W w')
    (hA : Arr w0 Bn 4 (fun j => .int .u64 (lim E j))) :
    SeqStopsK Fence.wide n Tryz.prog 72 #[.pointer (some ⟨Bn, 0, none⟩)] (fun b : Bool => #[bv b]) (KB Bn) (fun ys => ys = upto E 255 255) (fun pre => pre <+: upto E 255 255) 257 w0 :=
  fun l J Jx W hW hJ _ hY h0 =>
    xbits1_in E n l Bn hn J Jx hJ CB hY W (hA.below hW hA.lt) h0
set_option maxHeartbeats 1000000 in
theorem xbits_any (E : Int) (w : World) : Calls Tryz.prog 47 #[nv E] w fun e w' => e = .returned (.func (.func 72) #[] #[.pointer (some ⟨w.heap.size, 0, none⟩)]) ∧ w' = w.alloc (.cells #[.int .u64 (lim E 0), .int .u64 (lim E 1), .int .u64 (lim E 2), .int .u64 (lim E 3)] 34) := by
  go_enter Tryz.func47, Tryz.ntmps47
  go_wp2
  go_ret
  exact ⟨rfl, rfl⟩
/-- Sixteen stores: four whole numbers are put into block b. -/
abbrev st16 (w : World) (b : Nat) (A C B D : Int) : World := ((((((((((((((((((((((((((((((((w).setCell ⟨b, 0, none⟩ (.int .u64 (lim A 0)))).setCell ⟨b, 1, none⟩ (.int .u64 (lim A 1)))).setCell ⟨b, 2, none⟩ (.int .u64 (lim A 2)))).setCell ⟨b, 3, none⟩ (.int .u64 (lim A 3)))).setCell ⟨b, 4, none⟩ (.int .u64 (lim C 0)))).setCell ⟨b, 5, none⟩ (.int .u64 (lim C 1)))).setCell ⟨b, 6, none⟩ (.int .u64 (lim C 2)))).setCell ⟨b, 7, none⟩ (.int .u64 (lim C 3)))).setCell ⟨b, 8, none⟩ (.int .u64 (lim B 0)))).setCell ⟨b, 9, none⟩ (.int .u64 (lim B 1)))).setCell ⟨b, 10, none⟩ (.int .u64 (lim B 2)))).setCell ⟨b, 11, none⟩ (.int .u64 (lim B 3)))).setCell ⟨b, 12, none⟩ (.int .u64 (lim D 0)))).setCell ⟨b, 13, none⟩ (.int .u64 (lim D 1)))).setCell ⟨b, 14, none⟩ (.int .u64 (lim D 2)))).setCell ⟨b, 15, none⟩ (.int .u64 (lim D 3)))
theorem Arr.st16 {w : World} {b : Nat} {f : Nat → Value} (h : Arr w b 16 f) (A C B D : Int) : Arr (st16 w b A C B D) b 16 (fun j => .int .u64 (lx [A, C, B, D] j)) := by
  have h := h.set 0 (by omega) (.int .u64 (lim A 0))
  have h := h.set 1 (by omega) (.int .u64 (lim A 1))
  have h := h.set 2 (by omega) (.int .u64 (lim A 2))
  have h := h.set 3 (by omega) (.int .u64 (lim A 3))
  have h := h.set 4 (by omega) (.int .u64 (lim C 0))
  have h := h.set 5 (by omega) (.int .u64 (lim C 1))
  have h := h.set 6 (by omega) (.int .u64 (lim C 2))
  have h := h.set 7 (by omega) (.int .u64 (lim C 3))
  have h := h.set 8 (by omega) (.int .u64 (lim B 0))
  have h := h.set 9 (by omega) (.int .u64 (lim B 1))
  have h := h.set 10 (by omega) (.int .u64 (lim B 2))
  have h := h.set 11 (by omega) (.int .u64 (lim B 3))
  have h := h.set 12 (by omega) (.int .u64 (lim D 0))
  have h := h.set 13 (by omega) (.int .u64 (lim D 1))
  have h := h.set 14 (by omega) (.int .u64 (lim D 2))
  have h := h.set 15 (by omega) (.int .u64 (lim D 3))
  refine h.congr ?_
  intro j hj
  have h : j = 0 ∨ j = 1 ∨ j = 2 ∨ j = 3 ∨ j = 4 ∨ j = 5 ∨ j = 6 ∨ j = 7 ∨ j = 8 ∨ j = 9 ∨ j = 10 ∨ j = 11 ∨ j = 12 ∨ j = 13 ∨ j = 14 ∨ j = 15 := by omega
  rcases h with h | h | h | h | h | h | h | h | h | h | h | h | h | h | h | h <;> subst h <;> simp [lx]
theorem Arr.st16o {w : World} {b b' n : Nat} {f : Nat → Value} (h : Arr w b n f) (hne : b' ≠ b) (A C B D : Int) : Arr (Go.Proofs.YtpigofooblmdhaaGreat.st16 w b' A C B D) b n f := ((((((((((((((((h.other hne _).other hne _).other hne _).other hne _).other hne _).other hne _).other hne _).other hne _).other hne _).other hne _).other hne _).other hne _).other hne _).other hne _).other hne _).other hne _)
theorem Bel.st16 {w W : World} (h : Below w.heap.size w W) {b : Nat} (hle : w.heap.size ≤ b) (A C B D : Int) : Below w.heap.size w (Go.Proofs.YtpigofooblmdhaaGreat.st16 W b A C B D) := (Bel.st (Bel.st (Bel.st (Bel.st (Bel.st (Bel.st (Bel.st (Bel.st (Bel.st (Bel.st (Bel.st (Bel.st (Bel.st (Bel.st (Bel.st (Bel.st h hle _) hle _) hle _) hle _) hle _) hle _) hle _) hle _) hle _) hle _) hle _) hle _) hle _) hle _) hle _) hle _)
theorem ko_st16 (W : World) (b : Nat) (A C B D : Int) : KeepsOthers W (st16 W b A C B D) := ((((((((((((((((KeepsOthers.setCell _ _ _).trans (KeepsOthers.setCell _ _ _)).trans (KeepsOthers.setCell _ _ _)).trans (KeepsOthers.setCell _ _ _)).trans (KeepsOthers.setCell _ _ _)).trans (KeepsOthers.setCell _ _ _)).trans (KeepsOthers.setCell _ _ _)).trans (KeepsOthers.setCell _ _ _)).trans (KeepsOthers.setCell _ _ _)).trans (KeepsOthers.setCell _ _ _)).trans (KeepsOthers.setCell _ _ _)).trans (KeepsOthers.setCell _ _ _)).trans (KeepsOthers.setCell _ _ _)).trans (KeepsOthers.setCell _ _ _)).trans (KeepsOthers.setCell _ _ _)).trans (KeepsOthers.setCell _ _ _))
theorem kb_st16 {b b' : Nat} (hne : b' ≠ b) (W : World) (A C B D : Int) : KB b W (st16 W b' A C B D) := fun f h => h.st16o hne A C B D
/-- A step of the ladder: both fractions exchanged ahead and behind, if the bit is 1. -/
def lstep (U : Int) (s : Int × Int × Int × Int) (b : Bool) : Int × Int × Int × Int :=
  if b then (sb s.2.2.1 s.2.2.2 s.1 s.2.1, sd s.2.2.1 s.2.2.2 s.1 s.2.1 U, sa s.2.2.1 s.2.2.2, sc' s.2.2.1 s.2.2.2)
  else (sa s.1 s.2.1, sc' s.1 s.2.1, sb s.1 s.2.1 s.2.2.1 s.2.2.2, sd s.1 s.2.1 s.2.2.1 s.2.2.2 U)
/-- The ladder behind some bits. -/
def lsts (U : Int) (pre : List Bool) : Int × Int × Int × Int := pre.foldl (lstep U) (1, 0, U, 1)
theorem lsts_snoc (U : Int) (pre : List Bool) (b : Bool) : lsts U (pre ++ [b]) = lstep U (lsts U pre) b := by simp [lsts]
def Inn4 (s : Int × Int × Int × Int) : Prop := Inn s.1 ∧ Inn s.2.1 ∧ Inn s.2.2.1 ∧ Inn s.2.2.2
theorem inn4_step (U : Int) (s : Int × Int × Int × Int) (b : Bool) : Inn4 (lstep U s b) := by
  unfold lstep; split
  · exact ⟨inn_fm _ _, inn_fm _ _, inn_fm _ _, inn_fm _ _⟩
  · exact ⟨inn_fm _ _, inn_fm _ _, inn_fm _ _, inn_fm _ _⟩
theorem inn4_sts (U : Int) (iU : Inn U) (pre : List Bool) : Inn4 (lsts U pre) := by
  have i1 : Inn 1 := ⟨by decide, by decide⟩
  have i0 : Inn 0 := ⟨by decide, by decide⟩
  unfold lsts
  suffices h : ∀ (l : List Bool) s, Inn4 s → Inn4 (l.foldl (lstep U) s) from h pre _ ⟨i1, i0, iU, i1⟩
  intro l
  induction l with
  | nil => intro s h; exact h
  | cons b l ih => intro s _; exact ih _ (inn4_step U s b)
attribute [local go_sem] bv_t bv_f
set_option maxHeartbeats 8000000 in
theorem ladder_core (K U R : Int) (w : World) (iU : Inn U)
    (CB : ∀ (k : Nat) W, k < 256 → Calls Tryz.prog 73 #[nv K, .int .i64 k] W fun e w' => e = .returned (bv (bitB K k)) ∧ Below W.heap.size W w')
    (CV : ∀ W, Calls Tryz.prog 50 #[nv2 (lsts U (upto K 255 255)).1 (lsts U (upto K 255 255)).2.1] W fun e w' => e = .returned (nv R) ∧ Below W.heap.size W w') :
    Calls Tryz.prog 26 #[nv K, nv U] w fun e w' => e = .returned (nv R) ∧ Below w.heap.size w w' := by
  refine (callsIn_wide (n := 8)).1 ?_
  refine callsIn_of_wp_marks Tryz.func26 rfl trivial ?_ rfl
  simp only [Tryz.ntmps26, List.size_toArray, List.length_cons, List.length_nil, Nat.reduceAdd, Nat.reduceSub, Array.replicate_succ, Array.replicate_zero, List.push_toArray, List.append_toArray, List.nil_append, List.cons_append]
  gi_wp2_with (refine ⟨trivial, ?_⟩; gi_at_call 47; refine (callsIn_wide.2 (xbits_any K _)).mono ?_; rintro e w2 ⟨rfl, rfl⟩)
  have l10 : lim 1 0 = 1 := by decide
  have l11 : lim 1 1 = 0 := by decide
  have l12 : lim 1 2 = 0 := by decide
  have l13 : lim 1 3 = 0 := by decide
  have l00 : lim 0 0 = 0 := by decide
  have l01 : lim 0 1 = 0 := by decide
  have l02 : lim 0 2 = 0 := by decide
  have l03 : lim 0 3 = 0 := by decide
  have QU : Arr (((((w.alloc (.cells #[.int .u64 (lim K 0), .int .u64 (lim K 1), .int .u64 (lim K 2), .int .u64 (lim K 3)] 34)).alloc (.cells #[.int .u64 (lim U 0), .int .u64 (lim U 1), .int .u64 (lim U 2), .int .u64 (lim U 3)] 34)).alloc (.cells #[.int .u64 0, .int .u64 0, .int .u64 0, .int .u64 0] 34)).alloc (.cells #[.int .u64 1, .int .u64 0, .int .u64 0, .int .u64 0, .int .u64 0, .int .u64 0, .int .u64 0, .int .u64 0, .int .u64 (lim U 0), .int .u64 (lim U 1), .int .u64 (lim U 2), .int .u64 (lim U 3), .int .u64 1, .int .u64 0, .int .u64 0, .int .u64 0] 60)).alloc (.cells #[.int .u64 (lim K 0), .int .u64 (lim K 1), .int .u64 (lim K 2), .int .u64 (lim K 3)] 34)) (w.heap.size + 1) 4 (fun j => .int .u64 (lim U j)) := Arr.mk4 (by simp [go_sem]) (by simp [go_sem]) (by simp [go_sem]) (by simp [go_sem]) (by simp [go_sem]) (by simp [go_sem]) (by simp [go_sem]) (by simp [go_sem])
  have QZ : Arr (((((w.alloc (.cells #[.int .u64 (lim K 0), .int .u64 (lim K 1), .int .u64 (lim K 2), .int .u64 (lim K 3)] 34)).alloc (.cells #[.int .u64 (lim U 0), .int .u64 (lim U 1), .int .u64 (lim U 2), .int .u64 (lim U 3)] 34)).alloc (.cells #[.int .u64 0, .int .u64 0, .int .u64 0, .int .u64 0] 34)).alloc (.cells #[.int .u64 1, .int .u64 0, .int .u64 0, .int .u64 0, .int .u64 0, .int .u64 0, .int .u64 0, .int .u64 0, .int .u64 (lim U 0), .int .u64 (lim U 1), .int .u64 (lim U 2), .int .u64 (lim U 3), .int .u64 1, .int .u64 0, .int .u64 0, .int .u64 0] 60)).alloc (.cells #[.int .u64 (lim K 0), .int .u64 (lim K 1), .int .u64 (lim K 2), .int .u64 (lim K 3)] 34)) (w.heap.size + 1 + 1) 4 (fun _ => .int .u64 0) := Arr.mk4 (by simp [go_sem]) (by simp [go_sem]) (by simp [go_sem]) (by simp [go_sem]) (by simp [go_sem]) (by simp [go_sem]) (by simp [go_sem]) (by simp [go_sem])
  have QB : Arr (((((w.alloc (.cells #[.int .u64 (lim K 0), .int .u64 (lim K 1), .int .u64 (lim K 2), .int .u64 (lim K 3)] 34)).alloc (.cells #[.int .u64 (lim U 0), .int .u64 (lim U 1), .int .u64 (lim U 2), .int .u64 (lim U 3)] 34)).alloc (.cells #[.int .u64 0, .int .u64 0, .int .u64 0, .int .u64 0] 34)).alloc (.cells #[.int .u64 1, .int .u64 0, .int .u64 0, .int .u64 0, .int .u64 0, .int .u64 0, .int .u64 0, .int .u64 0, .int .u64 (lim U 0), .int .u64 (lim U 1), .int .u64 (lim U 2), .int .u64 (lim U 3), .int .u64 1, .int .u64 0, .int .u64 0, .int .u64 0] 60)).alloc (.cells #[.int .u64 (lim K 0), .int .u64 (lim K 1), .int .u64 (lim K 2), .int .u64 (lim K 3)] 34)) (w.heap.size + 1 + 1 + 1) 16 (fun j => .int .u64 (lx [(lsts U []).1, (lsts U []).2.1, (lsts U []).2.2.1, (lsts U []).2.2.2] j)) := Arr.mk16 (by simp [go_sem, lx, lsts, l10, l11, l12, l13, l00, l01, l02, l03]) (by simp [go_sem, lx, lsts, l10, l11, l12, l13, l00, l01, l02, l03]) (by simp [go_sem, lx, lsts, l10, l11, l12, l13, l00, l01, l02, l03]) (by simp [go_sem, lx, lsts, l10, l11, l12, l13, l00, l01, l02, l03]) (by simp [go_sem, lx, lsts, l10, l11, l12, l13, l00, l01, l02, l03]) (by simp [go_sem, lx, lsts, l10, l11, l12, l13, l00, l01, l02, l03]) (by simp [go_sem, lx, lsts, l10, l11, l12, l13, l00, l01, l02, l03]) (by simp [go_sem, lx, lsts, l10, l11, l12, l13, l00, l01, l02, l03]) (by simp [go_sem, lx, lsts, l10, l11, l12, l13, l00, l01, l02, l03]) (by simp [go_sem, lx, lsts, l10, l11, l12, l13, l00, l01, l02, l03]) (by simp [go_sem, lx, lsts, l10, l11, l12, l13, l00, l01, l02, l03]) (by simp [go_sem, lx, lsts, l10, l11, l12, l13, l00, l01, l02, l03]) (by simp [go_sem, lx, lsts, l10, l11, l12, l13, l00, l01, l02, l03]) (by simp [go_sem, lx, lsts, l10, l11, l12, l13, l00, l01, l02, l03]) (by simp [go_sem, lx, lsts, l10, l11, l12, l13, l00, l01, l02, l03]) (by simp [go_sem, lx, lsts, l10, l11, l12, l13, l00, l01, l02, l03]) (by simp [go_sem])
  have QK : Arr (((((w.alloc (.cells #[.int .u64 (lim K 0), .int .u64 (lim K 1), .int .u64 (lim K 2), .int .u64 (lim K 3)] 34)).alloc (.cells #[.int .u64 (lim U 0), .int .u64 (lim U 1), .int .u64 (lim U 2), .int .u64 (lim U 3)] 34)).alloc (.cells #[.int .u64 0, .int .u64 0, .int .u64 0, .int .u64 0] 34)).alloc (.cells #[.int .u64 1, .int .u64 0, .int .u64 0, .int .u64 0, .int .u64 0, .int .u64 0, .int .u64 0, .int .u64 0, .int .u64 (lim U 0), .int .u64 (lim U 1), .int .u64 (lim U 2), .int .u64 (lim U 3), .int .u64 1, .int .u64 0, .int .u64 0, .int .u64 0] 60)).alloc (.cells #[.int .u64 (lim K 0), .int .u64 (lim K 1), .int .u64 (lim K 2), .int .u64 (lim K 3)] 34)) (w.heap.size + 1 + 1 + 1 + 1) 4 (fun j => .int .u64 (lim K j)) := Arr.mk4 (by simp [go_sem]) (by simp [go_sem]) (by simp [go_sem]) (by simp [go_sem]) (by simp [go_sem]) (by simp [go_sem]) (by simp [go_sem]) (by simp [go_sem])
  have hB2 : Below w.heap.size w (((((w.alloc (.cells #[.int .u64 (lim K 0), .int .u64 (lim K 1), .int .u64 (lim K 2), .int .u64 (lim K 3)] 34)).alloc (.cells #[.int .u64 (lim U 0), .int .u64 (lim U 1), .int .u64 (lim U 2), .int .u64 (lim U 3)] 34)).alloc (.cells #[.int .u64 0, .int .u64 0, .int .u64 0, .int .u64 0] 34)).alloc (.cells #[.int .u64 1, .int .u64 0, .int .u64 0, .int .u64 0, .int .u64 0, .int .u64 0, .int .u64 0, .int .u64 0, .int .u64 (lim U 0), .int .u64 (lim U 1), .int .u64 (lim U 2), .int .u64 (lim U 3), .int .u64 1, .int .u64 0, .int .u64 0, .int .u64 0] 60)).alloc (.cells #[.int .u64 (lim K 0), .int .u64 (lim K 1), .int .u64 (lim K 2), .int .u64 (lim K 3)] 34)) := by go_grown
  clear l10 l11 l12 l13 l00 l01 l02 l03
  refine wpIn_rangeFunc_ownF rfl (by omega) (gf := 72) (lb := #[.pointer (some ⟨w.heap.size + 1 + 1 + 1 + 1, 0, none⟩)]) rfl trivial (enters_of Tryz.func72 (by kernel_rfl) rfl)
    (xbits_seq K _ (w.heap.size + 1 + 1 + 1 + 1) (by omega) _ CB QK) KB.t (fun W l o o' _ h1 h2 _ => KB.b W l o o' h1 h2) (Below.refl _ _) (fun _ => rfl)
    (fun pre W => (Arr W (w.heap.size + 1) 4 (fun j => .int .u64 (lim U j)) ∧ Arr W (w.heap.size + 1 + 1 + 1) 16 (fun j => .int .u64 (lx [(lsts U pre).1, (lsts U pre).2.1, (lsts U pre).2.2.1, (lsts U pre).2.2.2] j)) ∧ Arr W (w.heap.size + 1 + 1) 4 (fun _ => .int .u64 0)) ∧ Below w.heap.size w W)
    (fun _ _ _ => False)
    (OwnFrom.and (Own.from (fun s A B row hs hg hr => ⟨arr_kept hs.1 hg hr, arr_kept hs.2.1 hg hr, arr_kept hs.2.2 hg hr⟩) _) (ownFrom_below (Nat.le_refl _) (by simp; omega)))
    (fun _ _ _ _ _ hs _ _ => hs)
    ⟨⟨QU, QB, QZ⟩, hB2⟩
    (fun x => { tmps := #[nv K, nv U, .pointer (some ⟨w.heap.size, 0, none⟩), .pointer (some ⟨w.heap.size + 1, 0, none⟩), .pointer (some ⟨w.heap.size + 1 + 1, 0, none⟩), .pointer (some ⟨w.heap.size + 1 + 1 + 1, 0, none⟩), bv x, .agg #[.int .u64 1, .int .u64 0, .int .u64 0, .int .u64 0], .agg #[.int .u64 0, .int .u64 0, .int .u64 0, .int .u64 0], .agg #[.int .u64 1, .int .u64 0, .int .u64 0, .int .u64 0, .int .u64 0, .int .u64 0, .int .u64 0, .int .u64 0], nv U, .agg #[.int .u64 1, .int .u64 0, .int .u64 0, .int .u64 0], .agg #[.int .u64 (lim U 0), .int .u64 (lim U 1), .int .u64 (lim U 2), .int .u64 (lim U 3), .int .u64 1, .int .u64 0, .int .u64 0, .int .u64 0], .agg #[.int .u64 1, .int .u64 0, .int .u64 0, .int .u64 0, .int .u64 0, .int .u64 0, .int .u64 0, .int .u64 0, .int .u64 (lim U 0), .int .u64 (lim U 1), .int .u64 (lim U 2), .int .u64 (lim U 3), .int .u64 1, .int .u64 0, .int .u64 0, .int .u64 0], nv K, .func (.func 72) #[] #[.pointer (some ⟨w.heap.size + 1 + 1 + 1 + 1, 0, none⟩)], bv x, undef, undef, undef, undef, undef, undef, undef, undef, undef, undef], defers := [] }) ?assign ?body ?done ?stop
  case assign =>
    intro l x W K hK
    gi_wp2
    exact hK
  case body =>
    clear QU QZ QB QK hB2 CB CV
    rintro l pre x W ⟨⟨IU, IB, IZ⟩, hB⟩ _
    have i4 := inn4_sts U iU pre
    obtain ⟨A, C, B, D, hs⟩ : ∃ A C B D, lsts U pre = (A, C, B, D) := ⟨_, _, _, _, rfl⟩
    rw [hs] at IB i4
    obtain ⟨iA, iC, iB, iD⟩ := i4
    replace iA : Inn A := iA
    replace iC : Inn C := iC
    replace iB : Inn B := iB
    replace iD : Inn D := iD
    have hd : 1 ≤ 8 - 1 - 1 := by omega
    have ru0 := fun ds os => cell_regrown (IU.c 0 (by omega)) ds os
    have ru1 := fun ds os => cell_regrown (IU.c 1 (by omega)) ds os
    have ru2 := fun ds os => cell_regrown (IU.c 2 (by omega)) ds os
    have ru3 := fun ds os => cell_regrown (IU.c 3 (by omega)) ds os
    have rb0 := fun ds os => cell_regrown (IB.cv 0 (by omega) (.int .u64 (lim A 0)) rfl) ds os
    have rb1 := fun ds os => cell_regrown (IB.cv 1 (by omega) (.int .u64 (lim A 1)) rfl) ds os
    have rb2 := fun ds os => cell_regrown (IB.cv 2 (by omega) (.int .u64 (lim A 2)) rfl) ds os
    have rb3 := fun ds os => cell_regrown (IB.cv 3 (by omega) (.int .u64 (lim A 3)) rfl) ds os
    have rb4 := fun ds os => cell_regrown (IB.cv 4 (by omega) (.int .u64 (lim C 0)) rfl) ds os
    have rb5 := fun ds os => cell_regrown (IB.cv 5 (by omega) (.int .u64 (lim C 1)) rfl) ds os
    have rb6 := fun ds os => cell_regrown (IB.cv 6 (by omega) (.int .u64 (lim C 2)) rfl) ds os
    have rb7 := fun ds os => cell_regrown (IB.cv 7 (by omega) (.int .u64 (lim C 3)) rfl) ds os
    have rb8 := fun ds os => cell_regrown (IB.cv 8 (by omega) (.int .u64 (lim B 0)) rfl) ds os
    have rb9 := fun ds os => cell_regrown (IB.cv 9 (by omega) (.int .u64 (lim B 1)) rfl) ds os
    have rb10 := fun ds os => cell_regrown (IB.cv 10 (by omega) (.int .u64 (lim B 2)) rfl) ds os
    have rb11 := fun ds os => cell_regrown (IB.cv 11 (by omega) (.int .u64 (lim B 3)) rfl) ds os
    have rb12 := fun ds os => cell_regrown (IB.cv 12 (by omega) (.int .u64 (lim D 0)) rfl) ds os
    have rb13 := fun ds os => cell_regrown (IB.cv 13 (by omega) (.int .u64 (lim D 1)) rfl) ds os
    have rb14 := fun ds os => cell_regrown (IB.cv 14 (by omega) (.int .u64 (lim D 2)) rfl) ds os
    have rb15 := fun ds os => cell_regrown (IB.cv 15 (by omega) (.int .u64 (lim D 3)) rfl) ds os
    cases x
    · have HN : Hid (lsts U (pre ++ [false]) = ((sa A C), (sc' A C), (sb A C B D), (sd A C B D U))) := by
        show lsts U (pre ++ [false]) = _
        rw [lsts_snoc, hs]; rfl
      gi_wp2
      refine wpIn_region_below_tail 7 (by kernel_rfl) (by kernel_rfl) ?_
      simp only [List.take_succ_cons, List.take_zero, List.drop_succ_cons, List.drop_zero]
      repeat (go_big_quiet_step (first | (go_at_call 48; with_reducible exact Calls.regrown_of (exch0 _ _ _ _ _)) | (go_at_call 49; exact Calls.regrown_of (step_any A C B D U iA iC iB iD iU _))))
      refine wpQuiet_nil ?_
      intro w3 hw'
      obtain ⟨⟨dq, osq⟩, hw''⟩ := hw'
      have hb := below_of hw''
      clear hw'' ru0 ru1 ru2 ru3 rb0 rb1 rb2 rb3 rb4 rb5 rb6 rb7 rb8 rb9 rb10 rb11 rb12 rb13 rb14 rb15
      have JU := IU.below hb IU.lt
      have JB := IB.below hb IB.lt
      have JZ := IZ.below hb IZ.lt
      have cb := JB.c
      have zb := JB.z
      gi_wp2
      refine ⟨(ko_below hb).trans (ko_st16 _ _ _ _ _ _), KB.t (kb_below hb) (kb_st16 (by omega) _ _ _ _ _), ⟨JU.st16o (by omega) _ _ _ _, ?_, JZ.st16o (by omega) _ _ _ _⟩, Bel.st16 (Bel.call hB hb) (by omega) _ _ _ _⟩
      rw [HN.out]
      exact JB.st16 _ _ _ _
    · have HN : Hid (lsts U (pre ++ [true]) = ((sb B D A C), (sd B D A C U), (sa B D), (sc' B D))) := by
        show lsts U (pre ++ [true]) = _
        rw [lsts_snoc, hs]; rfl
      gi_wp2
      refine wpIn_region_below_tail 7 (by kernel_rfl) (by kernel_rfl) ?_
      simp only [List.take_succ_cons, List.take_zero, List.drop_succ_cons, List.drop_zero]
      repeat (go_big_quiet_step (first | (go_at_call 48; with_reducible exact Calls.regrown_of (exch1 _ _ _ _ _)) | (go_at_call 49; exact Calls.regrown_of (step_any B D A C U iB iD iA iC iU _))))
      refine wpQuiet_nil ?_
      intro w3 hw'
      obtain ⟨⟨dq, osq⟩, hw''⟩ := hw'
      have hb := below_of hw''
      clear hw'' ru0 ru1 ru2 ru3 rb0 rb1 rb2 rb3 rb4 rb5 rb6 rb7 rb8 rb9 rb10 rb11 rb12 rb13 rb14 rb15
      have JU := IU.below hb IU.lt
      have JB := IB.below hb IB.lt
      have JZ := IZ.below hb IZ.lt
      have cb := JB.c
      have zb := JB.z
      gi_wp2
      refine ⟨(ko_below hb).trans (ko_st16 _ _ _ _ _ _), KB.t (kb_below hb) (kb_st16 (by omega) _ _ _ _ _), ⟨JU.st16o (by omega) _ _ _ _, ?_, JZ.st16o (by omega) _ _ _ _⟩, Bel.st16 (Bel.call hB hb) (by omega) _ _ _ _⟩
      rw [HN.out]
      exact JB.st16 _ _ _ _
  case done =>
    clear QU QZ QB QK hB2 CB
    rintro D ys W hD rfl ⟨⟨IU, IB, IZ⟩, hB⟩ hK
    generalize lsts U (upto K 255 255) = s at *
    obtain ⟨a, c, b, d⟩ := s
    have rb0 := IB.cv 0 (by omega) (.int .u64 (lim a 0)) rfl
    have rb1 := IB.cv 1 (by omega) (.int .u64 (lim a 1)) rfl
    have rb2 := IB.cv 2 (by omega) (.int .u64 (lim a 2)) rfl
    have rb3 := IB.cv 3 (by omega) (.int .u64 (lim a 3)) rfl
    have rb4 := IB.cv 4 (by omega) (.int .u64 (lim c 0)) rfl
    have rb5 := IB.cv 5 (by omega) (.int .u64 (lim c 1)) rfl
    have rb6 := IB.cv 6 (by omega) (.int .u64 (lim c 2)) rfl
    have rb7 := IB.cv 7 (by omega) (.int .u64 (lim c 3)) rfl
    gi_wp2_with (refine ⟨trivial, ?_⟩; gi_at_call 50; refine (callsIn_wide.2 (CV _)).mono ?_; rintro e w3 ⟨rfl, hb⟩; have JZ := IZ.below hb IZ.lt; have cz := JZ.c; have zz := JZ.z)
    have hK1 := (ko_below hb).same D _ hK rfl
    have hK' := (ko_set4 w3 (w.heap.size + 1 + 1) (.int .u64 (lim R 0)) (.int .u64 (lim R 1)) (.int .u64 (lim R 2)) (.int .u64 (lim R 3))).same D _ hK1 rfl
    have G6 := set4 JZ (.int .u64 (lim R 0)) (.int .u64 (lim R 1)) (.int .u64 (lim R 2)) (.int .u64 (lim R 3)) (fun j => .int .u64 (lim R j)) rfl rfl rfl rfl
    have H6 := arr_kept G6 (grownBy_putObj' _ D (.deferred none)) (fun r e => by cases e; exact ⟨_, hK', rfl⟩)
    refine ⟨by simp, .inl ⟨_, _, rfl, run_takeDeferred hK', ?_⟩⟩
    have c6 := H6.c
    refine ⟨nv R, by simp [results, Tryz.results26, go_sem, c6], rfl, ?_⟩
    exact (bel4 (Bel.call hB hb) (b := w.heap.size + 1 + 1) (by omega) _ _ _ _).trans (belowK_b (w := w) (Nat.le_refl _) _ D _ _ (by simp at hD; omega) hK' rfl rfl)
  case stop =>
    rintro D c pre W _ _ h _
    exact h.elim
theorem ladder_any (K U : Int) (iK : Inn K) (iU : Inn U) (w : World) :
    Calls Tryz.prog 26 #[nv K, nv U] w fun e w' => e = .returned (nv (vl (lsts U (upto K 255 255)).1 (lsts U (upto K 255 255)).2.1)) ∧ Below w.heap.size w w' :=
  ladder_core K U _ w iU (fun k W hk => bit_bv K k iK.1 iK.2 (by omega) W) (fun W => value_any _ _ (inn4_sts U iU _).1 (inn4_sts U iU _).2.1 W)
end Go.Proofs.YtpigofooblmdhaaGreat
/- What num.bigBytes answers: a number's 32 bytes, the highest first. -/
set_option linter.all false
namespace Go.Proofs.YtpigofooblmdhaaGreat
open Go.RowKit
/-- The i-th byte, from the highest on. -/
def byt (N : Int) (i : Nat) : Int := N / 2 ^ (8 * (31 - i)) % 256
theorem byt_bd (N : Int) (i : Nat) : 0 ≤ byt N i ∧ byt N i < 256 := by unfold byt; omega
theorem byt_win (N : Int) (i : Nat) (hi : i < 32) : IntKind.u8.wrap (win N (8 * (31 - (i : Int)))) = byt N i := by
  rw [IntKind.wrap_u8]
  unfold win byt
  rw [if_pos (by omega)]
  have e : (8 * (31 - (i : Int))).toNat = 8 * (31 - i) := by omega
  rw [e]; omega
def bytsL (N : Int) : List Value := (List.range 32).map fun j => .int .u8 (byt N j)
theorem bytsL_len (N : Int) : (bytsL N).length = 32 := by simp [bytsL]
theorem bytsL_at (N : Int) (j : Nat) (hj : j < 32) : (bytsL N)[j]? = some (.int .u8 (byt N j)) := by simp [bytsL, hj]
theorem Arr.range {w : World} {b n : Nat} {f : Nat → Value} (h : Arr w b n f) (cs : List Value) (hl : cs.length = n) (hc : ∀ j, j < n → cs[j]? = some (f j)) : w.rangeAt b 0 cs := fun j v hv => by
  have hj : j < n := by rw [← hl]; exact (List.getElem?_eq_some_iff.1 hv).1
  rw [Nat.zero_add, (h j hj).1, ← hc j hj]; exact hv
theorem Arr.there {w : World} {b n : Nat} {f : Nat → Value} (h : Arr w b n f) : w.there b 0 n := fun j hj => by
  rw [Nat.zero_add]
  exact ⟨by rw [(h j hj).1]; rfl, (h j hj).2⟩
theorem Arr.of_range {w : World} {b n : Nat} {f : Nat → Value} {cs : List Value} (h : w.rangeAt b 0 cs) (hc : ∀ j, j < n → cs[j]? = some (f j)) (z : ∀ j, j < n → w.frozen? ⟨b, j, none⟩ = false) : Arr w b n f := fun j hj => by
  have := h j _ (hc j hj)
  rw [Nat.zero_add] at this
  exact ⟨this, z j hj⟩
theorem Tryz.info50 : (Tryz.prog.info? 50).map (·.size) = some 32 := by kernel_rfl
theorem bytsL_one (N : Int) : ∀ v ∈ bytsL N, v.oneCell' = true := by
  intro v hv
  simp only [bytsL, List.mem_map] at hv
  obtain ⟨j, _, rfl⟩ := hv
  rfl
theorem zeros32 (j : Nat) (hj : j < 32) : (List.replicate 32 (Value.int .u8 0)).toArray[j]? = some (.int .u8 0) := by
  rw [List.getElem?_toArray, List.getElem?_replicate, if_pos hj]
theorem below_setCells {B : Nat} {a w : World} (h : Below B a w) {b : Nat} (hb : B ≤ b) : ∀ (vs : List Value) (o : Nat), Below B a (w.setCells b o vs) := by
  intro vs
  induction vs generalizing w with
  | nil => intro o; exact h
  | cons v r ih => intro o; rw [World.setCells]; exact ih (h.setCell hb _) (o + 1)
theorem results_cell1 {P : Program} {fn : Func} {p : Tmp} {ty : TypeId} {a : Addr} {v : Value} {w : World} (h : fn.results = #[.cell p ty]) (tmps : Array Value) (hp : tmps.getD p undef = .pointer (some a)) (hl : (loadVar ty a).run P w = .ok v w) :
    (results fn tmps).run P w = .ok v w := by
  have hp' : tmps[p]?.getD undef = .pointer (some a) := by simpa using hp
  simp only [results, h]
  simp [Sem.run_bind, hp', asAddr, hl]
set_option maxHeartbeats 2000000 in
theorem bigBytes_core (N : Int) (hN : 0 ≤ N) (hN' : N < top256) (L : List Value) (hlen : L.length = 32) (hat : ∀ j, j < 32 → L[j]? = some (.int .u8 (byt N j))) (hone : ∀ v ∈ L, v.oneCell' = true) (w : World) :
    Calls Tryz.prog 27 #[nv N] w fun e w' => e = .returned (.agg L.toArray) ∧ Below w.heap.size w w' := by
  go_enter Tryz.func27, Tryz.ntmps27
  go_wp2_with fail
  go_loopw [5] (fun i wr => ∃ k : Nat, k ≤ 32 ∧ i = .int .i64 k ∧ Below w.heap.size w wr ∧ w.heap.size + 1 + 1 < wr.heap.size ∧
      Arr wr w.heap.size 4 (fun j => .int .u64 (lim N j)) ∧ Arr wr (w.heap.size + 1) 32 (fun _ => .int .u8 0) ∧
      Arr wr (w.heap.size + 1 + 1) 32 (fun j => .int .u8 (if j < k then byt N j else 0)))
    (fun i _ => 32 - (intOf i).toNat)
  case atStart =>
    refine ⟨0, by omega, rfl, by go_grown, by go_size, ?_, ?_, ?_⟩
    · refine ((Arr.new _ _ _ _ rfl _ 4 ?_).alloc (by go_size) _).alloc (by go_size) _
      intro j hj
      have : j = 0 ∨ j = 1 ∨ j = 2 ∨ j = 3 := by omega
      rcases this with rfl | rfl | rfl | rfl <;> rfl
    · exact (Arr.new _ _ _ _ (by simp) _ 32 zeros32).alloc (by go_size) _
    · refine Arr.new _ _ _ _ (by simp) _ 32 ?_
      intro j hj
      rw [if_neg (by omega)]
      exact zeros32 j hj
  case round =>
    obtain ⟨k, hk, rfl, hB, hz, A0, A1, A2⟩ := hrel
    have c0 := A0.c
    by_cases hlt : k < 32
    · have k0 : (0 : Int) ≤ (k : Int) := by omega
      have k8 : (k : Int) < 32 := by omega
      have W := fun u => window_any N (8 * (31 - (k : Int))) hN hN' (by omega) (by omega) u
      have bw := byt_win N k hlt
      clear hat hone hlen
      go_wp2_with (go_at_call 51; refine (W _).mono ?_; rintro e w1 ⟨rfl, hb⟩; have A0' := A0.below hb (by omega); have A1' := A1.below hb (by omega); have A2' := A2.below hb hz; have z2 := A2'.z k hlt; have c2 := A2'.c k hlt)
      refine ⟨⟨k + 1, by omega, by go_num, (hB.trans (hb.mono hB.size)).setCell (by show _ ≤ w.heap.size + 1 + 1; omega) _, by rw [size_set]; have := hb.size; omega, A0'.other (by omega) _, A1'.other (by omega) _, ?_⟩, by simp [intOf]; omega⟩
      refine (A2'.set k hlt _).congr ?_
      intro j hj
      by_cases e : j = k
      · subst e; simp
      · simp only [if_neg e]
        by_cases e2 : j < k
        · rw [if_pos e2, if_pos (by omega)]
        · rw [if_neg e2, if_neg (by omega)]
    · have k8 : k = 32 := by omega
      subst k8
      have R2 : wr.rangeAt (w.heap.size + 1 + 1) 0 L := A2.range _ hlen (by intro j hj; rw [if_pos hj]; exact hat j hj)
      have T1 := A1.there
      have sz : L.toArray.size = 32 := by rw [List.size_toArray]; exact hlen
      have h58 : (Tryz.prog.info? 50).map (·.size) = some L.length := by rw [hlen]; exact Tryz.info50
      have h58' : (Tryz.prog.info? 50).map (·.size) = some L.toArray.size := by rw [sz]; exact Tryz.info50
      have T1' : wr.there (w.heap.size + 1) 0 L.toArray.size := by rw [sz]; exact T1
      have one := all_oneCell_toArray hone
      have R1 : (wr.setCells (w.heap.size + 1) 0 L).rangeAt (w.heap.size + 1) 0 L := World.rangeAt_setCells_same wr _ 0 _ (by rw [hlen]; exact T1)
      have lv := run_loadVar_mid (P := Tryz.prog) (wr.setCells (w.heap.size + 1) 0 L) (w.heap.size + 1) 0 50 L _ R1 Tryz.underlying50 rfl h58
      have LV : Hid _ := lv
      have HR2 : Hid _ := R2
      have H58 : Hid _ := h58
      have H58' : Hid _ := h58'
      have HT1 : Hid _ := T1'
      have HO : Hid _ := one
      clear A0 A1 A2 c0 hk T1 R1 lv sz R2 h58 h58' T1' one hat hone hlen
      go_upto_region 7 with (fail)
      refine wp_region_list ?_
      refine wpList_load_mid (by rfl) 50 (.tmp 3) (by rfl) _ _ (by rfl) L _ HR2.out Tryz.underlying50 rfl H58.out ?_
      refine wpList_store_mid (by rfl) 50 (.tmp 2) (.tmp 17) (by rfl) _ _ _ (by rfl) (by rfl) HT1.out H58'.out HO.out ?_
      refine wpList_nil ?_
      have lv := LV.out
      clear HR2 H58 H58' HT1 HO LV
      go_wp2_with fail
      refine bodyPost_ret (v := .agg L.toArray) (results_cell1 Tryz.results27 _ (by rfl) lv) rfl ⟨rfl, ?_⟩
      exact below_setCells hB (by omega) _ _
theorem bigBytes_any (N : Int) (hN : 0 ≤ N) (hN' : N < top256) (w : World) :
    Calls Tryz.prog 27 #[nv N] w fun e w' => e = .returned (.agg (bytsL N).toArray) ∧ Below w.heap.size w w' :=
  bigBytes_core N hN hN' (bytsL N) (bytsL_len N) (bytsL_at N) (bytsL_one N) w
end Go.Proofs.YtpigofooblmdhaaGreat
/- What num.Text answers: a number's 64 digits. -/
set_option linter.all false
set_option maxRecDepth 100000
namespace Go.Proofs.YtpigofooblmdhaaGreat
open Go.RowKit
/-- The sign that stands for a digit below 16. -/
def hexc (d : Int) : Int := if d < 10 then 48 + d else 87 + d
/-- The j-th sign of a number's text. -/
def tx (N : Int) (j : Nat) : Int := if j % 2 = 0 then hexc (byt N (j / 2) / 16) else hexc (byt N (j / 2) % 16)
def txL (N : Int) : List Int := (List.range 64).map (tx N)
/-- A number's text. -/
def txS (N : Int) : ByteArray := (txL N).foldl (fun r n => r.push (UInt8.ofNat n.toNat)) ByteArray.empty
theorem hex_idx (d : Int) (h0 : 0 ≤ d) (h1 : d < 16) (W : World) : (Instr.index 9 (.string ⟨#[48, 49, 50, 51, 52, 53, 54, 55, 56, 57, 97, 98, 99, 100, 101, 102]⟩) (.int .u8 d)).run Tryz.prog W = .ok (.int .u8 (hexc d)) W := by
  have h : d = 0 ∨ d = 1 ∨ d = 2 ∨ d = 3 ∨ d = 4 ∨ d = 5 ∨ d = 6 ∨ d = 7 ∨ d = 8 ∨ d = 9 ∨ d = 10 ∨ d = 11 ∨ d = 12 ∨ d = 13 ∨ d = 14 ∨ d = 15 := by omega
  rcases h with h | h | h | h | h | h | h | h | h | h | h | h | h | h | h | h <;> (rw [h]; rfl)
theorem idx58 (L : List Value) (k : Nat) (v : Int) (hk : k < 32) (hv : L[k]? = some (.int .u8 v)) (W : World) : (Instr.index 50 (.agg L.toArray) (.int .i64 (k : Int))).run Tryz.prog W = .ok (.int .u8 v) W := by
  have h0 : (0 : Int) ≤ (k : Int) ∧ (k : Int) < ((32 : Nat) : Int) := by omega
  have hs : (Go.sizeOf 5).run Tryz.prog W = .ok 1 W := by kernel_rfl
  have hv' : L.toArray[k]? = some (.int .u8 v) := by simpa using hv
  simp only [Instr.index, asIntOf, Sem.run_bind, Sem.run_pure, Result.andThen_ok, run_underlying Tryz.underlying50]
  rw [Sem.run_ite, if_pos h0]
  simp only [Sem.run_bind, hs, Result.andThen_ok, Int.toNat_natCast, Nat.mul_one]
  have ha : (isAgg 5).run Tryz.prog W = .ok false W := by kernel_rfl
  simp [part, Sem.run_bind, ha, hv']
theorem Tryz.info5 : (Tryz.prog.info? 5).map (fun i => (i.zero, i.size, i.bytes)) = some (some (.int .u8 0), 1, 1) := by kernel_rfl
theorem tx_even (N : Int) (k : Nat) : tx N (2 * k) = hexc (byt N k / 16) := by
  unfold tx; rw [if_pos (by omega)]; congr 3; omega
theorem tx_odd (N : Int) (k : Nat) : tx N (2 * k + 1) = hexc (byt N k % 16) := by
  unfold tx; rw [if_neg (by omega)]; congr 3; omega
theorem hexc_bd (d : Int) (h0 : 0 ≤ d) (h1 : d < 16) : 0 ≤ hexc d ∧ hexc d < 256 := by unfold hexc; split <;> omega
theorem made64 : ∃ C : Array Value, C.size = 64 ∧ (∀ j, j < 64 → C[j]? = some (.int .u8 0)) ∧ ∀ W : World, (Instr.makeSlice 53 (.int .i64 0) (.int .i64 64)).run Tryz.prog W = .ok (.slice (some ⟨W.heap.size, 0, none⟩) 0 64) (W.alloc (.cells C 5)) := by
  obtain ⟨i0, hi, hz0, hz1, hz2⟩ := info_parts Tryz.info5
  refine ⟨madeCells (Value.int .u8 0).cells (64 * 1), by rw [size_madeCells], ?_, fun W => ?_⟩
  · intro j hj
    simp only [madeCells, Value.cells]
    rw [Array.getElem?_map, Array.getElem?_range, if_pos (by omega)]
    simp [Nat.mod_one]
  · have := run_make (P := Tryz.prog) W 53 5 i0 (.int .u8 0) Tryz.underlying53 hi hz0 .i64 .i64 0 64 (by omega) (by omega) (by rw [hz2]; omega) (by omega)
    rw [hz1] at this
    exact this
theorem news2 (wr : World) (x y : Value) : ∀ (j : Nat) (u : Value), ([x, y] : List Value)[j]? = some u → ((wr.alloc (.cells #[x, y] 5)).drew).cell? ((⟨wr.heap.size, 0, none⟩ : Addr).add j) = some u := by
  intro j u h
  rw [Addr.add_mid]
  have hj : j < 2 := (List.getElem?_eq_some_iff.1 h).1
  have hc : j = 0 ∨ j = 1 := by omega
  rcases hc with hc | hc <;> subst hc <;> simp at h <;> subst h <;> simp [go_sem]
theorem set2 {w : World} {b n : Nat} {f : Nat → Value} (h : Arr w b n f) (o : Nat) (ho : o + 1 < n) (x y : Value) : Arr (w.setCells b o [x, y]) b n (fun j => if j = o + 1 then y else if j = o then x else f j) :=
  ((h.set o (by omega) x).set (o + 1) ho y)
theorem conv_text (W : World) (g : Nat) (ns : List Int) (h64 : ns.length = 64) (hc : ∀ j, j < 64 → W.cell? ⟨g, j, none⟩ = some (.int .u8 (ns.getD j 0))) :
    (convert 53 9 (.slice (some ⟨g, 0, none⟩) 64 64)).run Tryz.prog W = .ok (.string (ns.foldl (fun r n => r.push (UInt8.ofNat n.toNat)) ByteArray.empty)) W := by
  rw [run_convert_bytes_string W 53 9 5 _ 64 64 Tryz.underlying53 Tryz.underlying5 Tryz.underlying9]
  refine run_bytesToString W ⟨g, 0, none⟩ 64 64 ns ?_
  have := run_loadCells_list (P := Tryz.prog) W ⟨g, 0, none⟩ (ns.map (Value.int .u8)) (by
    intro j v hv
    rw [Addr.add_mid, Nat.zero_add]
    rw [List.getElem?_map] at hv
    obtain ⟨n, hn, rfl⟩ := Option.map_eq_some_iff.1 hv
    have hj : j < 64 := by rw [← h64]; exact (List.getElem?_eq_some_iff.1 hn).1
    rw [hc j hj, List.getD, hn]; rfl)
  rw [List.length_map, h64] at this
  exact this
theorem size_sets (b : Nat) : ∀ (vs : List Value) (o : Nat) (w : World), (w.setCells b o vs).heap.size = w.heap.size
  | [], _, _ => rfl
  | v :: r, o, w => by rw [World.setCells, size_sets b r (o + 1), size_set]
theorem text_rel {N : Int} {w wr : World} {k : Nat} (ca cb : Int) (ob : Obj) (hB : Below w.heap.size w wr) (hz : w.heap.size + 1 < wr.heap.size) (A : Arr wr (w.heap.size + 1) 64 (fun j => .int .u8 (if j < 2 * k then tx N j else 0)))
    (hlt : k < 32) (HA : tx N (2 * k) = ca) (HB : tx N (2 * k + 1) = cb) :
    Below w.heap.size w ((wr.alloc ob).drew.setCells (w.heap.size + 1) (2 * k) [.int .u8 ca, .int .u8 cb]) ∧ w.heap.size + 1 < ((wr.alloc ob).drew.setCells (w.heap.size + 1) (2 * k) [.int .u8 ca, .int .u8 cb]).heap.size ∧
      Arr ((wr.alloc ob).drew.setCells (w.heap.size + 1) (2 * k) [.int .u8 ca, .int .u8 cb]) (w.heap.size + 1) 64 (fun j => .int .u8 (if j < 2 * (k + 1) then tx N j else 0)) := by
  refine ⟨below_setCells ((hB.alloc hB.size _).drew) (by omega) _ _, by rw [size_sets]; go_size, ?_⟩
  refine (set2 ((A.alloc (by omega) _).drew) (2 * k) (by omega) _ _).congr ?_
  intro j hj
  by_cases e1 : j = 2 * k + 1
  · subst e1; rw [if_pos rfl, if_pos (by omega), HB]
  · rw [if_neg e1]
    by_cases e2 : j = 2 * k
    · subst e2; rw [if_pos rfl, if_pos (by omega), HA]
    · rw [if_neg e2]
      by_cases e3 : j < 2 * k
      · rw [if_pos e3, if_pos (by omega)]
      · rw [if_neg e3, if_neg (by omega)]
end Go.Proofs.YtpigofooblmdhaaGreat
/- What num's helpers for texts answer: lengthError, digitValue, push. -/
set_option linter.all false
namespace Go.Proofs.YtpigofooblmdhaaGreat
open Go.RowKit
/-- Which error a text's length is. -/
def lenE (s n : Int) : Int := if s < n then 11 else if n < s then 12 else 0
set_option maxHeartbeats 1000000 in
theorem lengthError_any (s : ByteArray) (n : Int) (hs : s.size ≤ maxLen) (w : World) :
    Calls Tryz.prog 53 #[.string s, .int .i64 n] w fun e w' => e = .returned (.int .i64 (lenE s.size n)) ∧ w' = w := by
  unfold maxLen at hs
  unfold lenE
  by_cases h : (s.size : Int) < n
  · rw [if_pos h]
    go_enter Tryz.func53, Tryz.ntmps53
    go_wp2
    go_ret
    exact ⟨rfl, rfl⟩
  · rw [if_neg h]
    by_cases h2 : n < (s.size : Int)
    · rw [if_pos h2]
      go_enter Tryz.func53, Tryz.ntmps53
      go_wp2
      go_ret
      exact ⟨rfl, rfl⟩
    · rw [if_neg h2]
      go_enter Tryz.func53, Tryz.ntmps53
      go_wp2
      go_ret
      exact ⟨rfl, rfl⟩
/-- What a digit stands for. -/
def dgv (c : Int) : Int := if 48 ≤ c ∧ c ≤ 57 then c - 48 else if 97 ≤ c ∧ c ≤ 102 then c - 87 else 0
/-- Whether a sign is a digit. -/
def dgo (c : Int) : Bool := decide (48 ≤ c ∧ c ≤ 57) || decide (97 ≤ c ∧ c ≤ 102)
set_option maxHeartbeats 2000000 in
theorem push_any (b : Nat) (f : Nat → Value) (t : Nat) (ht : t < 4) (wd d x : Int) (hw0 : 0 ≤ wd) (hw1 : wd ≤ 8) (hd0 : 0 ≤ d) (hd1 : d < 256) (W : World) (hA : Arr W b 4 f) (hx : f (3 - t) = .int .u64 x) (x0 : 0 ≤ x) (x1 : x < 18446744073709551616) :
    Calls Tryz.prog 79 #[.pointer (some ⟨b, 0, none⟩), .int .i64 t, .int .u64 wd, .int .u8 d] W fun e w' => (∃ v, e = .returned v) ∧ w' = (W.setCell ⟨b, 3 - t, none⟩ (.int .u64 (bits .or .u64 (IntKind.u64.wrap (x * 2 ^ wd.toNat)) d))).drew := by
  have r := hA.c (3 - t) (by omega)
  rw [hx] at r
  have z := hA.z (3 - t) (by omega)
  obtain ⟨q, hq⟩ : ∃ q : Nat, (3 : Int) - (t : Int) = (q : Int) := ⟨3 - t, by omega⟩
  have e : 3 - t = q := by omega
  rw [e] at r z ⊢
  have q0 : (0 : Int) ≤ (q : Int) := by omega
  have q4 : (q : Int) < 4 := by omega
  have t0 : (0 : Int) ≤ (t : Int) := by omega
  have t4 : (t : Int) < 4 := by omega
  clear e hA hx
  go_enter Tryz.func79, Tryz.ntmps79
  go_wp2
  go_region
  go_wp2
  go_end0
  exact ⟨⟨_, rfl⟩, rfl⟩
end Go.Proofs.YtpigofooblmdhaaGreat
/- Numbers filled from the highest digit on, part by part, as plain numbers. -/
set_option linter.all false
set_option maxRecDepth 100000
namespace Go.Proofs.YtpigofooblmdhaaGreat
open Go.RowKit
/-- Part j when k digits of wd bits have come, p digits a part. -/
def pb (wd p : Nat) (f : Nat → Int) : Nat → Nat → Int
  | 0, _ => 0
  | k + 1, j => if j + k / p = 3 then pb wd p f k j * 2 ^ wd + f k else pb wd p f k j
/-- The whole number when k digits have come. -/
def pn (wd : Nat) (f : Nat → Int) : Nat → Int
  | 0 => 0
  | k + 1 => pn wd f k * 2 ^ wd + f k
theorem pn_nn (wd : Nat) (f : Nat → Int) (hf : ∀ i, 0 ≤ f i) : ∀ k, 0 ≤ pn wd f k := by
  intro k
  induction k with
  | zero => exact Int.le_refl _
  | succ k ih => exact Int.add_nonneg (Int.mul_nonneg ih (Int.le_of_lt (Int.pow_pos (by omega)))) (hf k)
theorem pn_lt (wd : Nat) (f : Nat → Int) (hf : ∀ i, 0 ≤ f i ∧ f i < 2 ^ wd) : ∀ k, pn wd f k < 2 ^ (wd * k) := by
  intro k
  induction k with
  | zero => simp [pn]
  | succ k ih =>
    have h := hf k
    show pn wd f k * 2 ^ wd + f k < 2 ^ (wd * (k + 1))
    have e : (2 : Int) ^ (wd * (k + 1)) = 2 ^ (wd * k) * 2 ^ wd := by rw [Nat.mul_add, Nat.mul_one, Int.pow_add]
    have m : (pn wd f k + 1) * 2 ^ wd ≤ 2 ^ (wd * k) * 2 ^ wd := Int.mul_le_mul_of_nonneg_right (by omega) (Int.le_of_lt (Int.pow_pos (by omega)))
    rw [e]
    rw [Int.add_mul, Int.one_mul] at m
    omega
/-- The digits from a given one on. -/
def sh (f : Nat → Int) (a : Nat) : Nat → Int := fun i => f (a + i)
theorem pn_add (wd : Nat) (f : Nat → Int) (a : Nat) : ∀ b, pn wd f (a + b) = pn wd f a * 2 ^ (wd * b) + pn wd (sh f a) b := by
  intro b
  induction b with
  | zero => simp [pn]
  | succ b ih =>
    show pn wd f (a + b) * 2 ^ wd + f (a + b) = pn wd f a * 2 ^ (wd * (b + 1)) + (pn wd (sh f a) b * 2 ^ wd + sh f a b)
    rw [ih, Nat.mul_add, Nat.mul_one, Int.pow_add]
    show _ + f (a + b) = _ + (_ + f (a + b))
    grind
/-- A part while it is being filled holds just its own digits. -/
theorem pb_is (wd p : Nat) (f : Nat → Int) (hp : 0 < p) : ∀ k j, j < 4 → k ≤ 4 * p →
    pb wd p f k j = if k ≤ (3 - j) * p then 0 else if k ≤ (4 - j) * p then pn wd (sh f ((3 - j) * p)) (k - (3 - j) * p) else pn wd (sh f ((3 - j) * p)) p := by
  intro k
  induction k with
  | zero => intro j hj hk; simp [pb]
  | succ k ih =>
    intro j hj hk
    have hi := ih j hj (by omega)
    show (if j + k / p = 3 then pb wd p f k j * 2 ^ wd + f k else pb wd p f k j) = _
    have e4 : (4 - j) * p = (3 - j) * p + p := by
      rw [show 4 - j = 3 - j + 1 by omega, Nat.add_mul, Nat.one_mul]
    by_cases c : j + k / p = 3
    · have d : k / p = 3 - j := by omega
      have lo : (3 - j) * p ≤ k := by rw [← d]; exact Nat.div_mul_le_self k p
      have hi2 : k < (3 - j) * p + p := by
        have := Nat.lt_div_mul_add (a := k) hp
        rw [d] at this
        exact this
      rw [if_pos c, hi, if_neg (show ¬ k + 1 ≤ (3 - j) * p by omega), if_pos (show k + 1 ≤ (4 - j) * p by omega)]
      by_cases c2 : k ≤ (3 - j) * p
      · have ek : k = (3 - j) * p := by omega
        rw [if_pos c2]
        have : k + 1 - (3 - j) * p = 0 + 1 := by omega
        rw [this]
        show 0 * 2 ^ wd + f k = pn wd (sh f ((3 - j) * p)) 0 * 2 ^ wd + sh f ((3 - j) * p) 0
        simp [pn, sh, ← ek]
      · rw [if_neg c2, if_pos (show k ≤ (4 - j) * p by omega)]
        have : k + 1 - (3 - j) * p = (k - (3 - j) * p) + 1 := by omega
        rw [this]
        show _ = pn wd (sh f ((3 - j) * p)) (k - (3 - j) * p) * 2 ^ wd + sh f ((3 - j) * p) (k - (3 - j) * p)
        have : sh f ((3 - j) * p) (k - (3 - j) * p) = f k := by unfold sh; congr 1; omega
        rw [this]
    · rw [if_neg c, hi]
      by_cases c2 : k + 1 ≤ (3 - j) * p
      · rw [if_pos c2, if_pos (by omega)]
      · rw [if_neg c2]
        have nlt : ¬ k < (3 - j) * p + p := by
          intro hlt
          have a1 : k / p = 3 - j := by
            refine Nat.div_eq_of_lt_le (by omega) ?_
            rw [Nat.add_mul, Nat.one_mul]; exact hlt
          omega
        rw [if_neg (show ¬ k ≤ (3 - j) * p by omega), if_neg (show ¬ k + 1 ≤ (4 - j) * p by omega)]
        by_cases c3 : k ≤ (4 - j) * p
        · have : k - (3 - j) * p = p := by omega
          rw [if_pos c3, this]
        · rw [if_neg c3]
end Go.Proofs.YtpigofooblmdhaaGreat
/- What num.FromBig and num.Parse answer. -/
set_option linter.all false
set_option maxRecDepth 100000
namespace Go.Proofs.YtpigofooblmdhaaGreat
open Go.RowKit
/-- The i-th byte of a text, 0 beyond its end. -/
def bt (s : ByteArray) (i : Nat) : Int := (s.data[i]?.getD 0).toNat
theorem bt_bd (s : ByteArray) (i : Nat) : 0 ≤ bt s i ∧ bt s i < 256 := by unfold bt; have := (s.data[i]?.getD 0).toNat_lt; omega
theorem or_low (x d : Int) (wd : Nat) (h : wd = 4 ∨ wd = 8) (x0 : 0 ≤ x) (x1 : x * 2 ^ wd < 18446744073709551616) (d0 : 0 ≤ d) (d1 : d < 2 ^ wd) :
    bits .or .u64 (IntKind.u64.wrap (x * 2 ^ wd)) d = x * 2 ^ wd + d := by
  have e : bits .or .u64 d (IntKind.u64.wrap (x * 2 ^ (64 - (64 - wd)))) = d + x * 2 ^ wd := by
    have j := or_join (d * 2 ^ (64 - wd)) x (64 - wd) (by omega) (Int.mul_nonneg d0 (Int.le_of_lt (Int.pow_pos (by omega)))) (by
      rcases h with rfl | rfl
      · have : d < 16 := by simpa using d1
        simp; omega
      · have : d < 256 := by simpa using d1
        simp; omega) x0
    rw [Int.mul_ediv_cancel _ (Int.ne_of_gt (Int.pow_pos (by omega)))] at j
    rw [j]
    have hx : x % 2 ^ (64 - wd) = x := by
      refine Int.emod_eq_of_lt x0 ?_
      rcases h with rfl | rfl
      · simp at x1 ⊢; omega
      · simp at x1 ⊢; omega
    rw [hx, show 64 - (64 - wd) = wd by omega]
  rw [show 64 - (64 - wd) = wd by omega] at e
  have c : ∀ a b : Int, bits .or .u64 a b = bits .or .u64 b a := fun a b => by
    simp only [bits]; rw [BitVec.or_comm]
  rw [c, e, Int.add_comm]
theorem pb_bd (wd p : Nat) (f : Nat → Int) (hp : 0 < p) (hw : wd * p = 64) (hf : ∀ i, 0 ≤ f i ∧ f i < 2 ^ wd) (k j : Nat) (hj : j < 4) (hk : k ≤ 4 * p) : 0 ≤ pb wd p f k j ∧ pb wd p f k j < 18446744073709551616 := by
  have nn : ∀ g : Nat → Int, (∀ i, 0 ≤ g i ∧ g i < 2 ^ wd) → ∀ m, m ≤ p → 0 ≤ pn wd g m ∧ pn wd g m < 18446744073709551616 := fun g hg m hm => by
    refine ⟨pn_nn wd g (fun i => (hg i).1) m, ?_⟩
    have a := pn_lt wd g hg m
    have b : (2 : Nat) ^ (wd * m) ≤ 2 ^ 64 := by rw [← hw]; exact Nat.pow_le_pow_right (by omega) (Nat.mul_le_mul_left wd hm)
    have c : ((2 ^ (wd * m) : Nat) : Int) ≤ ((2 ^ 64 : Nat) : Int) := Int.ofNat_le.2 b
    have d : ((2 ^ (wd * m) : Nat) : Int) = 2 ^ (wd * m) := by push_cast; rfl
    have e : ((2 ^ 64 : Nat) : Int) = 18446744073709551616 := rfl
    omega
  have sf : ∀ a i, 0 ≤ sh f a i ∧ sh f a i < 2 ^ wd := fun a i => hf (a + i)
  rw [pb_is wd p f hp k j hj hk]
  have e4 : (4 - j) * p = (3 - j) * p + p := by rw [show 4 - j = 3 - j + 1 by omega, Nat.add_mul, Nat.one_mul]
  split
  · omega
  · split
    · exact nn _ (sf _) _ (by omega)
    · exact nn _ (sf _) _ (Nat.le_refl _)
theorem pb_room (wd p : Nat) (f : Nat → Int) (hp : 0 < p) (hw : wd * p = 64) (hf : ∀ i, 0 ≤ f i ∧ f i < 2 ^ wd) (k j : Nat) (hj : j < 4) (hk : k < 4 * p) (hjk : j + k / p = 3) : pb wd p f k j * 2 ^ wd < 18446744073709551616 := by
  have h := (pb_bd wd p f hp hw hf (k + 1) j hj (by omega)).2
  have u : pb wd p f (k + 1) j = pb wd p f k j * 2 ^ wd + f k := by show (if _ then _ else _) = _; rw [if_pos hjk]
  have := (hf k).1
  rw [u] at h
  omega
theorem idxS (s : ByteArray) (k : Nat) (hk : k < s.size) (W : World) : (Instr.index 9 (.string s) (.int .i64 (k : Int))).run Tryz.prog W = .ok (.int .u8 (bt s k)) W := by
  have h0 : (0 : Int) ≤ (k : Int) ∧ (k : Int) < (s.size : Int) := by omega
  have e : s.data[k]? = some (s.data[k]'hk) := Array.getElem?_eq_getElem hk
  unfold bt
  rw [e]
  simp [Instr.index, asIntOf, Sem.run_bind, Sem.run_pure, Result.andThen_ok, run_underlying Tryz.underlying9, h0, go_sem]
  rw [getElem?_pos s k hk]
  rfl
set_option maxRecDepth 100000 in
set_option maxHeartbeats 4000000 in
theorem fromBig_ok (s : ByteArray) (hs : s.size = 32) (w : World) :
    Calls Tryz.prog 54 #[.string s] w fun e w' => e = .returned (.tuple #[.agg #[.int .u64 (pb 8 8 (bt s) 32 0), .int .u64 (pb 8 8 (bt s) 32 1), .int .u64 (pb 8 8 (bt s) 32 2), .int .u64 (pb 8 8 (bt s) 32 3)], .int .i64 0]) ∧ Below w.heap.size w w' := by
  have LE := fun W => lengthError_any s 32 (by rw [hs]; decide) W
  have le0 : lenE (s.size : Int) 32 = 0 := by rw [hs]; decide
  rw [le0] at LE
  go_enter Tryz.func54, Tryz.ntmps54
  go_wp2_with (go_at_call 53; refine (LE _).mono ?_; rintro e w1 ⟨rfl, rfl⟩)
  go_loopw [13] (fun i wr => ∃ k : Nat, k ≤ 32 ∧ i = .int .i64 k ∧ Below w.heap.size w wr ∧ Arr wr w.heap.size 4 (fun _ => .int .u64 0) ∧ Arr wr (w.heap.size + 1) 4 (fun j => .int .u64 (pb 8 8 (bt s) k j)))
    (fun i _ => 32 - (intOf i).toNat)
  case atStart => exact ⟨0, by omega, rfl, by go_grown, Arr.mk4 (by simp [go_sem]) (by simp [go_sem]) (by simp [go_sem]) (by simp [go_sem]) (by simp [go_sem]) (by simp [go_sem]) (by simp [go_sem]) (by simp [go_sem]), Arr.mk4 (by simp [go_sem, pb]) (by simp [go_sem, pb]) (by simp [go_sem, pb]) (by simp [go_sem, pb]) (by simp [go_sem]) (by simp [go_sem]) (by simp [go_sem]) (by simp [go_sem])⟩
  case round =>
    clear LE le0
    obtain ⟨k, hk, rfl, hB, hZ, hA⟩ := hrel
    by_cases hlt : k < 32
    · have k0 : (0 : Int) ≤ (k : Int) := by omega
      have k32 : (k : Int) < 32 := by omega
      obtain ⟨q, hq⟩ : ∃ q : Nat, (k : Int) / 8 = (q : Int) := ⟨k / 8, by omega⟩
      have hf : ∀ i, 0 ≤ bt s i ∧ bt s i < 2 ^ 8 := fun i => by have := bt_bd s i; simpa using this
      have q4 : q < 4 := by omega
      have jq : 3 - q + k / 8 = 3 := by omega
      have bb := bt_bd s k
      have I := fun W => idxS s k (by omega) W
      have rm := pb_room 8 8 (bt s) (by omega) (by omega) hf k (3 - q) (by omega) (by omega) jq
      have xb := pb_bd 8 8 (bt s) (by omega) (by omega) hf k (3 - q) (by omega) (by omega)
      have PU := push_any (w.heap.size + 1) _ q q4 8 (bt s k) (pb 8 8 (bt s) k (3 - q)) (by omega) (by omega) bb.1 bb.2 wr hA rfl xb.1 xb.2
      have ol := or_low (pb 8 8 (bt s) k (3 - q)) (bt s k) 8 (.inr rfl) xb.1 rm bb.1 (hf k).2
      rw [show (8 : Int).toNat = 8 from rfl, ol, show (2 : Int) ^ 8 = 256 by decide] at PU
      have st : Arr ((wr.setCell ⟨w.heap.size + 1, 3 - q, none⟩ (.int .u64 (pb 8 8 (bt s) k (3 - q) * 256 + bt s k))).drew) (w.heap.size + 1) 4 (fun j => .int .u64 (pb 8 8 (bt s) (k + 1) j)) := by
        refine ((hA.set (3 - q) (by omega) _).congr ?_).drew
        intro j hj
        show _ = Value.int .u64 (if j + k / 8 = 3 then pb 8 8 (bt s) k j * 2 ^ 8 + bt s k else pb 8 8 (bt s) k j)
        by_cases h : j = 3 - q
        · subst h; rw [if_pos rfl, if_pos jq, show (2 : Int) ^ 8 = 256 by decide]
        · rw [if_neg h, if_neg (by omega)]
      have sz : Arr ((wr.setCell ⟨w.heap.size + 1, 3 - q, none⟩ (.int .u64 (pb 8 8 (bt s) k (3 - q) * 256 + bt s k))).drew) w.heap.size 4 (fun _ => .int .u64 0) := (hZ.other (by omega) _).drew
      have sB : Below w.heap.size w ((wr.setCell ⟨w.heap.size + 1, 3 - q, none⟩ (.int .u64 (pb 8 8 (bt s) k (3 - q) * 256 + bt s k))).drew) := (hB.setCell (by show _ ≤ w.heap.size + 1; omega) _).drew
      clear ol rm xb hf jq hA hZ hB
      go_wp2_with (go_at_call 79; refine PU.mono ?_; rintro e w1 ⟨⟨v, rfl⟩, rfl⟩)
      exact ⟨⟨k + 1, by omega, by go_num, sB, sz, st⟩, by simp [intOf]; omega⟩
    · have e32 : k = 32 := by omega
      subst e32
      have r1 := hA.c
      have r0 := hZ.c
      have z0 := hZ.z
      clear hA hZ
      go_wp2_with fail
      refine bodyPost_ret (v := .tuple #[.agg #[.int .u64 (pb 8 8 (bt s) 32 0), .int .u64 (pb 8 8 (bt s) 32 1), .int .u64 (pb 8 8 (bt s) 32 2), .int .u64 (pb 8 8 (bt s) 32 3)], .int .i64 0]) (by simp [results, Tryz.results54, go_sem, r0]) rfl ⟨rfl, ?_⟩
      go_grown
end Go.Proofs.YtpigofooblmdhaaGreat
/- num.FromBig and num.Parse, as whole numbers. -/
set_option linter.all false
set_option maxRecDepth 100000
namespace Go.Proofs.YtpigofooblmdhaaGreat
open Go.RowKit
theorem pb_lim (wd p : Nat) (f : Nat → Int) (hp : 0 < p) (hw : wd * p = 64) (hf : ∀ i, 0 ≤ f i ∧ f i < 2 ^ wd) (j : Nat) (hj : j < 4) : pb wd p f (4 * p) j = lim (pn wd f (4 * p)) j := by
  have e4 : (4 - j) * p = (3 - j) * p + p := by rw [show 4 - j = 3 - j + 1 by omega, Nat.add_mul, Nat.one_mul]
  have ej : 4 * p = (4 - j) * p + j * p := by rw [← Nat.add_mul]; congr 1; omega
  have a1 : pb wd p f (4 * p) j = pn wd (sh f ((3 - j) * p)) p := by
    rw [pb_is wd p f hp (4 * p) j hj (Nat.le_refl _), if_neg (by omega)]
    split
    · congr 1; omega
    · rfl
  have p64 : (2 : Int) ^ (wd * p) = 18446744073709551616 := by rw [hw]; rfl
  have pj : (2 : Int) ^ (wd * (j * p)) = 18446744073709551616 ^ j := by
    rw [show wd * (j * p) = wd * p * j by rw [Nat.mul_comm j p, Nat.mul_assoc], Int.pow_mul, p64]
  have b0 := pn_nn wd (sh f ((4 - j) * p)) (fun i => (hf _).1) (j * p)
  have b1 := pn_lt wd (sh f ((4 - j) * p)) (fun i => hf _) (j * p)
  have c0 := pn_nn wd (sh f ((3 - j) * p)) (fun i => (hf _).1) p
  have c1 := pn_lt wd (sh f ((3 - j) * p)) (fun i => hf _) p
  rw [p64] at c1
  rw [pj] at b1
  have d1 := pn_add wd f ((4 - j) * p) (j * p)
  have d2 := pn_add wd f ((3 - j) * p) p
  rw [← ej, pj, e4] at d1
  rw [p64] at d2
  have pp : (0 : Int) < 18446744073709551616 ^ j := Int.pow_pos (by omega)
  rw [a1]
  unfold lim
  rw [d1, d2, Int.add_comm, Int.add_mul_ediv_right _ _ (Int.ne_of_gt pp), Int.ediv_eq_zero_of_lt (by rw [e4] at b0; exact b0) (by rw [e4] at b1; exact b1), Int.zero_add]
  omega
theorem nv_pb (wd p : Nat) (f : Nat → Int) (hp : 0 < p) (hw : wd * p = 64) (hf : ∀ i, 0 ≤ f i ∧ f i < 2 ^ wd) :
    (.agg #[.int .u64 (pb wd p f (4 * p) 0), .int .u64 (pb wd p f (4 * p) 1), .int .u64 (pb wd p f (4 * p) 2), .int .u64 (pb wd p f (4 * p) 3)] : Value) = nv (pn wd f (4 * p)) := by
  simp only [nv, pb_lim wd p f hp hw hf 0 (by omega), pb_lim wd p f hp hw hf 1 (by omega), pb_lim wd p f hp hw hf 2 (by omega), pb_lim wd p f hp hw hf 3 (by omega)]
theorem bt_8 (s : ByteArray) : ∀ i, 0 ≤ bt s i ∧ bt s i < 2 ^ 8 := fun i => by have := bt_bd s i; simpa using this
theorem fromBig_yes (s : ByteArray) (hs : s.size = 32) (w : World) :
    Calls Tryz.prog 54 #[.string s] w fun e w' => e = .returned (.tuple #[nv (pn 8 (bt s) 32), .int .i64 0]) ∧ Below w.heap.size w w' := by
  have := fromBig_ok s hs w
  rw [show (32 : Nat) = 4 * 8 from rfl, nv_pb 8 8 (bt s) (by omega) (by omega) (bt_8 s)] at this
  exact this
set_option maxHeartbeats 1000000 in
theorem fromBig_no (s : ByteArray) (hs : s.size ≤ maxLen) (hn : s.size ≠ 32) (w : World) :
    Calls Tryz.prog 54 #[.string s] w fun e w' => e = .returned (.tuple #[.agg #[.int .u64 0, .int .u64 0, .int .u64 0, .int .u64 0], .int .i64 (lenE s.size 32)]) ∧ Below w.heap.size w w' := by
  have LE := fun W => lengthError_any s 32 hs W
  have ne : ¬ lenE (s.size : Int) 32 = 0 := by unfold lenE; split <;> (try split) <;> omega
  generalize lenE (s.size : Int) 32 = E at *
  go_enter Tryz.func54, Tryz.ntmps54
  go_wp2_with (go_at_call 53; refine (LE _).mono ?_; rintro e w1 ⟨rfl, rfl⟩)
  refine bodyPost_ret (v := .tuple #[.agg #[.int .u64 0, .int .u64 0, .int .u64 0, .int .u64 0], .int .i64 E]) (by simp [results, Tryz.results54, go_sem]) rfl ⟨rfl, ?_⟩
  go_grown
/-- Each sign of a text's first k is a digit. -/
def alld (s : ByteArray) (k : Nat) : Prop := ∀ i, i < k → dgo (bt s i) = true
/-- The digits of a text. -/
def dg (s : ByteArray) (i : Nat) : Int := dgv (bt s i)
theorem dg_4 (s : ByteArray) : ∀ i, 0 ≤ dg s i ∧ dg s i < 2 ^ 4 := fun i => by
  unfold dg dgv
  split
  · simp; omega
  · split
    · simp; omega
    · simp
end Go.Proofs.YtpigofooblmdhaaGreat
