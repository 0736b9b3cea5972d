/- The sum of a point with a third coordinate and a plain one; Add. -/
import Derived.Test.YtgekafmojedlkaaGreatJ24
import Derived.Test.YtgekafmojedlkaaGreatJ2
set_option linter.all false
set_option maxRecDepth 100000
namespace Go.Proofs.YtgekafmojedlkaaGreat
open Go.RowKit Go.Sort
attribute [local go_sem] eq24
set_option maxHeartbeats 8000000 in
theorem plus_b (X Y Z U V : Int) (i : Bool) (w : World) : Calls Tryz.prog 24 #[jv X Y i Z, pv U V true] w fun e w' => e = .returned (jv X Y i Z) ∧ Below w.heap.size w w' := by
  go_enter Tryz.func24, Tryz.ntmps24
  have Ba : Arr ((((w.alloc (.cells #[.int .u64 (lim (X) 0), .int .u64 (lim (X) 1), .int .u64 (lim (X) 2), .int .u64 (lim (X) 3), .int .u64 (lim (Y) 0), .int .u64 (lim (Y) 1), .int .u64 (lim (Y) 2), .int .u64 (lim (Y) 3), .bool i, .int .u64 (lim (Z) 0), .int .u64 (lim (Z) 1), .int .u64 (lim (Z) 2), .int .u64 (lim (Z) 3)] 43)).alloc (.cells #[.int .u64 (lim (U) 0), .int .u64 (lim (U) 1), .int .u64 (lim (U) 2), .int .u64 (lim (U) 3), .int .u64 (lim (V) 0), .int .u64 (lim (V) 1), .int .u64 (lim (V) 2), .int .u64 (lim (V) 3), .bool true] 26)).alloc (.cells #[.int .u64 0, .int .u64 0, .int .u64 0, .int .u64 0, .int .u64 0, .int .u64 0, .int .u64 0, .int .u64 0, .bool false, .int .u64 0, .int .u64 0, .int .u64 0, .int .u64 0] 43))) (w.heap.size) 13 (sx (X) (Y) i (Z)) := by refine Arr.mk13 ?_ ?_ ?_ ?_ ?_ ?_ ?_ ?_ ?_ ?_ ?_ ?_ ?_ ?_ <;> simp [go_sem, px, sx, zx]
  have Bb : Arr ((((w.alloc (.cells #[.int .u64 (lim (X) 0), .int .u64 (lim (X) 1), .int .u64 (lim (X) 2), .int .u64 (lim (X) 3), .int .u64 (lim (Y) 0), .int .u64 (lim (Y) 1), .int .u64 (lim (Y) 2), .int .u64 (lim (Y) 3), .bool i, .int .u64 (lim (Z) 0), .int .u64 (lim (Z) 1), .int .u64 (lim (Z) 2), .int .u64 (lim (Z) 3)] 43)).alloc (.cells #[.int .u64 (lim (U) 0), .int .u64 (lim (U) 1), .int .u64 (lim (U) 2), .int .u64 (lim (U) 3), .int .u64 (lim (V) 0), .int .u64 (lim (V) 1), .int .u64 (lim (V) 2), .int .u64 (lim (V) 3), .bool true] 26)).alloc (.cells #[.int .u64 0, .int .u64 0, .int .u64 0, .int .u64 0, .int .u64 0, .int .u64 0, .int .u64 0, .int .u64 0, .bool false, .int .u64 0, .int .u64 0, .int .u64 0, .int .u64 0] 43))) (w.heap.size + 1) 9 (px (U) (V) true) := by refine Arr.mk9p ?_ ?_ ?_ ?_ ?_ ?_ ?_ ?_ ?_ ?_ <;> simp [go_sem, px, sx, zx]
  have Bo : Arr ((((w.alloc (.cells #[.int .u64 (lim (X) 0), .int .u64 (lim (X) 1), .int .u64 (lim (X) 2), .int .u64 (lim (X) 3), .int .u64 (lim (Y) 0), .int .u64 (lim (Y) 1), .int .u64 (lim (Y) 2), .int .u64 (lim (Y) 3), .bool i, .int .u64 (lim (Z) 0), .int .u64 (lim (Z) 1), .int .u64 (lim (Z) 2), .int .u64 (lim (Z) 3)] 43)).alloc (.cells #[.int .u64 (lim (U) 0), .int .u64 (lim (U) 1), .int .u64 (lim (U) 2), .int .u64 (lim (U) 3), .int .u64 (lim (V) 0), .int .u64 (lim (V) 1), .int .u64 (lim (V) 2), .int .u64 (lim (V) 3), .bool true] 26)).alloc (.cells #[.int .u64 0, .int .u64 0, .int .u64 0, .int .u64 0, .int .u64 0, .int .u64 0, .int .u64 0, .int .u64 0, .bool false, .int .u64 0, .int .u64 0, .int .u64 0, .int .u64 0] 43))) (w.heap.size + 1 + 1) 13 (zx 8) := by refine Arr.mk13 ?_ ?_ ?_ ?_ ?_ ?_ ?_ ?_ ?_ ?_ ?_ ?_ ?_ ?_ <;> simp [go_sem, px, sx, zx]
  have hB' : Below w.heap.size w (((w.alloc (.cells #[.int .u64 (lim (X) 0), .int .u64 (lim (X) 1), .int .u64 (lim (X) 2), .int .u64 (lim (X) 3), .int .u64 (lim (Y) 0), .int .u64 (lim (Y) 1), .int .u64 (lim (Y) 2), .int .u64 (lim (Y) 3), .bool i, .int .u64 (lim (Z) 0), .int .u64 (lim (Z) 1), .int .u64 (lim (Z) 2), .int .u64 (lim (Z) 3)] 43)).alloc (.cells #[.int .u64 (lim (U) 0), .int .u64 (lim (U) 1), .int .u64 (lim (U) 2), .int .u64 (lim (U) 3), .int .u64 (lim (V) 0), .int .u64 (lim (V) 1), .int .u64 (lim (V) 2), .int .u64 (lim (V) 3), .bool true] 26)).alloc (.cells #[.int .u64 0, .int .u64 0, .int .u64 0, .int .u64 0, .int .u64 0, .int .u64 0, .int .u64 0, .int .u64 0, .bool false, .int .u64 0, .int .u64 0, .int .u64 0, .int .u64 0] 43)) := by go_grown
  have Aa := Ba
  have Ab := Bb
  have Ao := Bo
  have hB := hB'
  clear Ba Bb Bo hB'
  have ca_0 := Aa.cv 0 (by omega) (.int .u64 (lim (X) 0)) rfl
  have ca_1 := Aa.cv 1 (by omega) (.int .u64 (lim (X) 1)) rfl
  have ca_2 := Aa.cv 2 (by omega) (.int .u64 (lim (X) 2)) rfl
  have ca_3 := Aa.cv 3 (by omega) (.int .u64 (lim (X) 3)) rfl
  have ca_4 := Aa.cv 4 (by omega) (.int .u64 (lim (Y) 0)) rfl
  have ca_5 := Aa.cv 5 (by omega) (.int .u64 (lim (Y) 1)) rfl
  have ca_6 := Aa.cv 6 (by omega) (.int .u64 (lim (Y) 2)) rfl
  have ca_7 := Aa.cv 7 (by omega) (.int .u64 (lim (Y) 3)) rfl
  have ca_8 := Aa.cv 8 (by omega) (.bool i) rfl
  have ca_9 := Aa.cv 9 (by omega) (.int .u64 (lim (Z) 0)) rfl
  have ca_10 := Aa.cv 10 (by omega) (.int .u64 (lim (Z) 1)) rfl
  have ca_11 := Aa.cv 11 (by omega) (.int .u64 (lim (Z) 2)) rfl
  have ca_12 := Aa.cv 12 (by omega) (.int .u64 (lim (Z) 3)) rfl
  have cb_0 := Ab.cv 0 (by omega) (.int .u64 (lim (U) 0)) rfl
  have cb_1 := Ab.cv 1 (by omega) (.int .u64 (lim (U) 1)) rfl
  have cb_2 := Ab.cv 2 (by omega) (.int .u64 (lim (U) 2)) rfl
  have cb_3 := Ab.cv 3 (by omega) (.int .u64 (lim (U) 3)) rfl
  have cb_4 := Ab.cv 4 (by omega) (.int .u64 (lim (V) 0)) rfl
  have cb_5 := Ab.cv 5 (by omega) (.int .u64 (lim (V) 1)) rfl
  have cb_6 := Ab.cv 6 (by omega) (.int .u64 (lim (V) 2)) rfl
  have cb_7 := Ab.cv 7 (by omega) (.int .u64 (lim (V) 3)) rfl
  have cb_8 := Ab.cv 8 (by omega) (.bool true) rfl
  have hS := hB.size
  have co_0 := Ao.cv 0 (by omega) (.int .u64 0) rfl
  have co_1 := Ao.cv 1 (by omega) (.int .u64 0) rfl
  have co_2 := Ao.cv 2 (by omega) (.int .u64 0) rfl
  have co_3 := Ao.cv 3 (by omega) (.int .u64 0) rfl
  have co_4 := Ao.cv 4 (by omega) (.int .u64 0) rfl
  have co_5 := Ao.cv 5 (by omega) (.int .u64 0) rfl
  have co_6 := Ao.cv 6 (by omega) (.int .u64 0) rfl
  have co_7 := Ao.cv 7 (by omega) (.int .u64 0) rfl
  have co_8 := Ao.cv 8 (by omega) (.bool false) rfl
  have co_9 := Ao.cv 9 (by omega) (.int .u64 0) rfl
  have co_10 := Ao.cv 10 (by omega) (.int .u64 0) rfl
  have co_11 := Ao.cv 11 (by omega) (.int .u64 0) rfl
  have co_12 := Ao.cv 12 (by omega) (.int .u64 0) rfl
  have zo := Ao.z
  go_wp2_with fail
  refine bodyPost_ret (v := jv X Y i Z) (by simp [results, Tryz.results24, go_sem, co_0, co_1, co_2, co_3, co_4, co_5, co_6, co_7, co_8, co_9, co_10, co_11, co_12]) rfl ⟨rfl, ?_⟩
  go_grown
set_option maxHeartbeats 8000000 in
theorem plus_a (X Y Z U V : Int) (w : World)
    (C1 : ∀ W, Calls Tryz.prog 23 #[pv U V false] W fun e w' => e = .returned (jv U V false 1) ∧ Below W.heap.size W w') :
    Calls Tryz.prog 24 #[jv X Y true Z, pv U V false] w fun e w' => e = .returned (jv U V false 1) ∧ Below w.heap.size w w' := by
  go_enter Tryz.func24, Tryz.ntmps24
  have Ba : Arr ((((w.alloc (.cells #[.int .u64 (lim (X) 0), .int .u64 (lim (X) 1), .int .u64 (lim (X) 2), .int .u64 (lim (X) 3), .int .u64 (lim (Y) 0), .int .u64 (lim (Y) 1), .int .u64 (lim (Y) 2), .int .u64 (lim (Y) 3), .bool true, .int .u64 (lim (Z) 0), .int .u64 (lim (Z) 1), .int .u64 (lim (Z) 2), .int .u64 (lim (Z) 3)] 43)).alloc (.cells #[.int .u64 (lim (U) 0), .int .u64 (lim (U) 1), .int .u64 (lim (U) 2), .int .u64 (lim (U) 3), .int .u64 (lim (V) 0), .int .u64 (lim (V) 1), .int .u64 (lim (V) 2), .int .u64 (lim (V) 3), .bool false] 26)).alloc (.cells #[.int .u64 0, .int .u64 0, .int .u64 0, .int .u64 0, .int .u64 0, .int .u64 0, .int .u64 0, .int .u64 0, .bool false, .int .u64 0, .int .u64 0, .int .u64 0, .int .u64 0] 43))) (w.heap.size) 13 (sx (X) (Y) true (Z)) := by refine Arr.mk13 ?_ ?_ ?_ ?_ ?_ ?_ ?_ ?_ ?_ ?_ ?_ ?_ ?_ ?_ <;> simp [go_sem, px, sx, zx]
  have Bb : Arr ((((w.alloc (.cells #[.int .u64 (lim (X) 0), .int .u64 (lim (X) 1), .int .u64 (lim (X) 2), .int .u64 (lim (X) 3), .int .u64 (lim (Y) 0), .int .u64 (lim (Y) 1), .int .u64 (lim (Y) 2), .int .u64 (lim (Y) 3), .bool true, .int .u64 (lim (Z) 0), .int .u64 (lim (Z) 1), .int .u64 (lim (Z) 2), .int .u64 (lim (Z) 3)] 43)).alloc (.cells #[.int .u64 (lim (U) 0), .int .u64 (lim (U) 1), .int .u64 (lim (U) 2), .int .u64 (lim (U) 3), .int .u64 (lim (V) 0), .int .u64 (lim (V) 1), .int .u64 (lim (V) 2), .int .u64 (lim (V) 3), .bool false] 26)).alloc (.cells #[.int .u64 0, .int .u64 0, .int .u64 0, .int .u64 0, .int .u64 0, .int .u64 0, .int .u64 0, .int .u64 0, .bool false, .int .u64 0, .int .u64 0, .int .u64 0, .int .u64 0] 43))) (w.heap.size + 1) 9 (px (U) (V) false) := by refine Arr.mk9p ?_ ?_ ?_ ?_ ?_ ?_ ?_ ?_ ?_ ?_ <;> simp [go_sem, px, sx, zx]
  have Bo : Arr ((((w.alloc (.cells #[.int .u64 (lim (X) 0), .int .u64 (lim (X) 1), .int .u64 (lim (X) 2), .int .u64 (lim (X) 3), .int .u64 (lim (Y) 0), .int .u64 (lim (Y) 1), .int .u64 (lim (Y) 2), .int .u64 (lim (Y) 3), .bool true, .int .u64 (lim (Z) 0), .int .u64 (lim (Z) 1), .int .u64 (lim (Z) 2), .int .u64 (lim (Z) 3)] 43)).alloc (.cells #[.int .u64 (lim (U) 0), .int .u64 (lim (U) 1), .int .u64 (lim (U) 2), .int .u64 (lim (U) 3), .int .u64 (lim (V) 0), .int .u64 (lim (V) 1), .int .u64 (lim (V) 2), .int .u64 (lim (V) 3), .bool false] 26)).alloc (.cells #[.int .u64 0, .int .u64 0, .int .u64 0, .int .u64 0, .int .u64 0, .int .u64 0, .int .u64 0, .int .u64 0, .bool false, .int .u64 0, .int .u64 0, .int .u64 0, .int .u64 0] 43))) (w.heap.size + 1 + 1) 13 (zx 8) := by refine Arr.mk13 ?_ ?_ ?_ ?_ ?_ ?_ ?_ ?_ ?_ ?_ ?_ ?_ ?_ ?_ <;> simp [go_sem, px, sx, zx]
  have hB' : Below w.heap.size w (((w.alloc (.cells #[.int .u64 (lim (X) 0), .int .u64 (lim (X) 1), .int .u64 (lim (X) 2), .int .u64 (lim (X) 3), .int .u64 (lim (Y) 0), .int .u64 (lim (Y) 1), .int .u64 (lim (Y) 2), .int .u64 (lim (Y) 3), .bool true, .int .u64 (lim (Z) 0), .int .u64 (lim (Z) 1), .int .u64 (lim (Z) 2), .int .u64 (lim (Z) 3)] 43)).alloc (.cells #[.int .u64 (lim (U) 0), .int .u64 (lim (U) 1), .int .u64 (lim (U) 2), .int .u64 (lim (U) 3), .int .u64 (lim (V) 0), .int .u64 (lim (V) 1), .int .u64 (lim (V) 2), .int .u64 (lim (V) 3), .bool false] 26)).alloc (.cells #[.int .u64 0, .int .u64 0, .int .u64 0, .int .u64 0, .int .u64 0, .int .u64 0, .int .u64 0, .int .u64 0, .bool false, .int .u64 0, .int .u64 0, .int .u64 0, .int .u64 0] 43)) := by go_grown
  have Aa := Ba
  have Ab := Bb
  have Ao := Bo
  have hB := hB'
  clear Ba Bb Bo hB'
  have ca_0 := Aa.cv 0 (by omega) (.int .u64 (lim (X) 0)) rfl
  have ca_1 := Aa.cv 1 (by omega) (.int .u64 (lim (X) 1)) rfl
  have ca_2 := Aa.cv 2 (by omega) (.int .u64 (lim (X) 2)) rfl
  have ca_3 := Aa.cv 3 (by omega) (.int .u64 (lim (X) 3)) rfl
  have ca_4 := Aa.cv 4 (by omega) (.int .u64 (lim (Y) 0)) rfl
  have ca_5 := Aa.cv 5 (by omega) (.int .u64 (lim (Y) 1)) rfl
  have ca_6 := Aa.cv 6 (by omega) (.int .u64 (lim (Y) 2)) rfl
  have ca_7 := Aa.cv 7 (by omega) (.int .u64 (lim (Y) 3)) rfl
  have ca_8 := Aa.cv 8 (by omega) (.bool true) rfl
  have ca_9 := Aa.cv 9 (by omega) (.int .u64 (lim (Z) 0)) rfl
  have ca_10 := Aa.cv 10 (by omega) (.int .u64 (lim (Z) 1)) rfl
  have ca_11 := Aa.cv 11 (by omega) (.int .u64 (lim (Z) 2)) rfl
  have ca_12 := Aa.cv 12 (by omega) (.int .u64 (lim (Z) 3)) rfl
  have cb_0 := Ab.cv 0 (by omega) (.int .u64 (lim (U) 0)) rfl
  have cb_1 := Ab.cv 1 (by omega) (.int .u64 (lim (U) 1)) rfl
  have cb_2 := Ab.cv 2 (by omega) (.int .u64 (lim (U) 2)) rfl
  have cb_3 := Ab.cv 3 (by omega) (.int .u64 (lim (U) 3)) rfl
  have cb_4 := Ab.cv 4 (by omega) (.int .u64 (lim (V) 0)) rfl
  have cb_5 := Ab.cv 5 (by omega) (.int .u64 (lim (V) 1)) rfl
  have cb_6 := Ab.cv 6 (by omega) (.int .u64 (lim (V) 2)) rfl
  have cb_7 := Ab.cv 7 (by omega) (.int .u64 (lim (V) 3)) rfl
  have cb_8 := Ab.cv 8 (by omega) (.bool false) rfl
  go_wp2_with fail
  refine (C1 _).mono ?_
  rintro e w11 ⟨rfl, hb⟩
  have Bo := Arr.to' Ao hb
  have hB' := Bel.call hB hb
  clear hb ca_0 ca_1 ca_2 ca_3 ca_4 ca_5 ca_6 ca_7 ca_8 ca_9 ca_10 ca_11 ca_12 cb_0 cb_1 cb_2 cb_3 cb_4 cb_5 cb_6 cb_7 cb_8 Aa Ab Ao hB
  have Ao := Bo
  have hB := hB'
  clear Bo hB'
  have hS := hB.size
  have co_0 := Ao.cv 0 (by omega) (.int .u64 0) rfl
  have co_1 := Ao.cv 1 (by omega) (.int .u64 0) rfl
  have co_2 := Ao.cv 2 (by omega) (.int .u64 0) rfl
  have co_3 := Ao.cv 3 (by omega) (.int .u64 0) rfl
  have co_4 := Ao.cv 4 (by omega) (.int .u64 0) rfl
  have co_5 := Ao.cv 5 (by omega) (.int .u64 0) rfl
  have co_6 := Ao.cv 6 (by omega) (.int .u64 0) rfl
  have co_7 := Ao.cv 7 (by omega) (.int .u64 0) rfl
  have co_8 := Ao.cv 8 (by omega) (.bool false) rfl
  have co_9 := Ao.cv 9 (by omega) (.int .u64 0) rfl
  have co_10 := Ao.cv 10 (by omega) (.int .u64 0) rfl
  have co_11 := Ao.cv 11 (by omega) (.int .u64 0) rfl
  have co_12 := Ao.cv 12 (by omega) (.int .u64 0) rfl
  have zo := Ao.z
  go_wp2_with fail
  refine bodyPost_ret (v := jv U V false 1) (by simp [results, Tryz.results24, go_sem, co_0, co_1, co_2, co_3, co_4, co_5, co_6, co_7, co_8, co_9, co_10, co_11, co_12]) rfl ⟨rfl, ?_⟩
  go_grown
set_option maxHeartbeats 8000000 in
theorem plus_1 (X Y Z U V z2 k1 M z3 k2 N x y z : Int) (hM : (lim M 0 == 0 && (lim M 1 == 0 && (lim M 2 == 0 && lim M 3 == 0))) = false) (w : World)
    (C1 : ∀ W, Calls Tryz.prog 42 #[nv Z] W fun e w' => e = .returned (nv z2) ∧ Below W.heap.size W w')
    (C2 : ∀ W, Calls Tryz.prog 46 #[nv U, nv z2] W fun e w' => e = .returned (nv k1) ∧ Below W.heap.size W w')
    (C3 : ∀ W, Calls Tryz.prog 45 #[nv k1, nv X] W fun e w' => e = .returned (nv M) ∧ Below W.heap.size W w')
    (C4 : ∀ W, Calls Tryz.prog 46 #[nv Z, nv z2] W fun e w' => e = .returned (nv z3) ∧ Below W.heap.size W w')
    (C5 : ∀ W, Calls Tryz.prog 46 #[nv V, nv z3] W fun e w' => e = .returned (nv k2) ∧ Below W.heap.size W w')
    (C6 : ∀ W, Calls Tryz.prog 45 #[nv k2, nv Y] W fun e w' => e = .returned (nv N) ∧ Below W.heap.size W w')
    (C7 : ∀ W, Calls Tryz.prog 47 #[jv X Y false Z, nv M, nv N] W fun e w' => e = .returned (jv x y false z) ∧ Below W.heap.size W w') :
    Calls Tryz.prog 24 #[jv X Y false Z, pv U V false] w fun e w' => e = .returned (jv x y false z) ∧ Below w.heap.size w w' := by
  go_enter Tryz.func24, Tryz.ntmps24
  have Ba : Arr ((((w.alloc (.cells #[.int .u64 (lim (X) 0), .int .u64 (lim (X) 1), .int .u64 (lim (X) 2), .int .u64 (lim (X) 3), .int .u64 (lim (Y) 0), .int .u64 (lim (Y) 1), .int .u64 (lim (Y) 2), .int .u64 (lim (Y) 3), .bool false, .int .u64 (lim (Z) 0), .int .u64 (lim (Z) 1), .int .u64 (lim (Z) 2), .int .u64 (lim (Z) 3)] 43)).alloc (.cells #[.int .u64 (lim (U) 0), .int .u64 (lim (U) 1), .int .u64 (lim (U) 2), .int .u64 (lim (U) 3), .int .u64 (lim (V) 0), .int .u64 (lim (V) 1), .int .u64 (lim (V) 2), .int .u64 (lim (V) 3), .bool false] 26)).alloc (.cells #[.int .u64 0, .int .u64 0, .int .u64 0, .int .u64 0, .int .u64 0, .int .u64 0, .int .u64 0, .int .u64 0, .bool false, .int .u64 0, .int .u64 0, .int .u64 0, .int .u64 0] 43))) (w.heap.size) 13 (sx (X) (Y) false (Z)) := by refine Arr.mk13 ?_ ?_ ?_ ?_ ?_ ?_ ?_ ?_ ?_ ?_ ?_ ?_ ?_ ?_ <;> simp [go_sem, px, sx, zx]
  have Bb : Arr ((((w.alloc (.cells #[.int .u64 (lim (X) 0), .int .u64 (lim (X) 1), .int .u64 (lim (X) 2), .int .u64 (lim (X) 3), .int .u64 (lim (Y) 0), .int .u64 (lim (Y) 1), .int .u64 (lim (Y) 2), .int .u64 (lim (Y) 3), .bool false, .int .u64 (lim (Z) 0), .int .u64 (lim (Z) 1), .int .u64 (lim (Z) 2), .int .u64 (lim (Z) 3)] 43)).alloc (.cells #[.int .u64 (lim (U) 0), .int .u64 (lim (U) 1), .int .u64 (lim (U) 2), .int .u64 (lim (U) 3), .int .u64 (lim (V) 0), .int .u64 (lim (V) 1), .int .u64 (lim (V) 2), .int .u64 (lim (V) 3), .bool false] 26)).alloc (.cells #[.int .u64 0, .int .u64 0, .int .u64 0, .int .u64 0, .int .u64 0, .int .u64 0, .int .u64 0, .int .u64 0, .bool false, .int .u64 0, .int .u64 0, .int .u64 0, .int .u64 0] 43))) (w.heap.size + 1) 9 (px (U) (V) false) := by refine Arr.mk9p ?_ ?_ ?_ ?_ ?_ ?_ ?_ ?_ ?_ ?_ <;> simp [go_sem, px, sx, zx]
  have Bo : Arr ((((w.alloc (.cells #[.int .u64 (lim (X) 0), .int .u64 (lim (X) 1), .int .u64 (lim (X) 2), .int .u64 (lim (X) 3), .int .u64 (lim (Y) 0), .int .u64 (lim (Y) 1), .int .u64 (lim (Y) 2), .int .u64 (lim (Y) 3), .bool false, .int .u64 (lim (Z) 0), .int .u64 (lim (Z) 1), .int .u64 (lim (Z) 2), .int .u64 (lim (Z) 3)] 43)).alloc (.cells #[.int .u64 (lim (U) 0), .int .u64 (lim (U) 1), .int .u64 (lim (U) 2), .int .u64 (lim (U) 3), .int .u64 (lim (V) 0), .int .u64 (lim (V) 1), .int .u64 (lim (V) 2), .int .u64 (lim (V) 3), .bool false] 26)).alloc (.cells #[.int .u64 0, .int .u64 0, .int .u64 0, .int .u64 0, .int .u64 0, .int .u64 0, .int .u64 0, .int .u64 0, .bool false, .int .u64 0, .int .u64 0, .int .u64 0, .int .u64 0] 43))) (w.heap.size + 1 + 1) 13 (zx 8) := by refine Arr.mk13 ?_ ?_ ?_ ?_ ?_ ?_ ?_ ?_ ?_ ?_ ?_ ?_ ?_ ?_ <;> simp [go_sem, px, sx, zx]
  have hB' : Below w.heap.size w (((w.alloc (.cells #[.int .u64 (lim (X) 0), .int .u64 (lim (X) 1), .int .u64 (lim (X) 2), .int .u64 (lim (X) 3), .int .u64 (lim (Y) 0), .int .u64 (lim (Y) 1), .int .u64 (lim (Y) 2), .int .u64 (lim (Y) 3), .bool false, .int .u64 (lim (Z) 0), .int .u64 (lim (Z) 1), .int .u64 (lim (Z) 2), .int .u64 (lim (Z) 3)] 43)).alloc (.cells #[.int .u64 (lim (U) 0), .int .u64 (lim (U) 1), .int .u64 (lim (U) 2), .int .u64 (lim (U) 3), .int .u64 (lim (V) 0), .int .u64 (lim (V) 1), .int .u64 (lim (V) 2), .int .u64 (lim (V) 3), .bool false] 26)).alloc (.cells #[.int .u64 0, .int .u64 0, .int .u64 0, .int .u64 0, .int .u64 0, .int .u64 0, .int .u64 0, .int .u64 0, .bool false, .int .u64 0, .int .u64 0, .int .u64 0, .int .u64 0] 43)) := by go_grown
  have Aa := Ba
  have Ab := Bb
  have Ao := Bo
  have hB := hB'
  clear Ba Bb Bo hB'
  have ca_0 := Aa.cv 0 (by omega) (.int .u64 (lim (X) 0)) rfl
  have ca_1 := Aa.cv 1 (by omega) (.int .u64 (lim (X) 1)) rfl
  have ca_2 := Aa.cv 2 (by omega) (.int .u64 (lim (X) 2)) rfl
  have ca_3 := Aa.cv 3 (by omega) (.int .u64 (lim (X) 3)) rfl
  have ca_4 := Aa.cv 4 (by omega) (.int .u64 (lim (Y) 0)) rfl
  have ca_5 := Aa.cv 5 (by omega) (.int .u64 (lim (Y) 1)) rfl
  have ca_6 := Aa.cv 6 (by omega) (.int .u64 (lim (Y) 2)) rfl
  have ca_7 := Aa.cv 7 (by omega) (.int .u64 (lim (Y) 3)) rfl
  have ca_8 := Aa.cv 8 (by omega) (.bool false) rfl
  have ca_9 := Aa.cv 9 (by omega) (.int .u64 (lim (Z) 0)) rfl
  have ca_10 := Aa.cv 10 (by omega) (.int .u64 (lim (Z) 1)) rfl
  have ca_11 := Aa.cv 11 (by omega) (.int .u64 (lim (Z) 2)) rfl
  have ca_12 := Aa.cv 12 (by omega) (.int .u64 (lim (Z) 3)) rfl
  have cb_0 := Ab.cv 0 (by omega) (.int .u64 (lim (U) 0)) rfl
  have cb_1 := Ab.cv 1 (by omega) (.int .u64 (lim (U) 1)) rfl
  have cb_2 := Ab.cv 2 (by omega) (.int .u64 (lim (U) 2)) rfl
  have cb_3 := Ab.cv 3 (by omega) (.int .u64 (lim (U) 3)) rfl
  have cb_4 := Ab.cv 4 (by omega) (.int .u64 (lim (V) 0)) rfl
  have cb_5 := Ab.cv 5 (by omega) (.int .u64 (lim (V) 1)) rfl
  have cb_6 := Ab.cv 6 (by omega) (.int .u64 (lim (V) 2)) rfl
  have cb_7 := Ab.cv 7 (by omega) (.int .u64 (lim (V) 3)) rfl
  have cb_8 := Ab.cv 8 (by omega) (.bool false) rfl
  go_wp2_with fail
  refine (C1 _).mono ?_
  rintro e w11 ⟨rfl, hb⟩
  have Ba := Arr.to' Aa hb
  have Bb := Arr.to' Ab hb
  have Bo := Arr.to' Ao hb
  have hB' := Bel.call hB hb
  clear hb ca_0 ca_1 ca_2 ca_3 ca_4 ca_5 ca_6 ca_7 ca_8 ca_9 ca_10 ca_11 ca_12 cb_0 cb_1 cb_2 cb_3 cb_4 cb_5 cb_6 cb_7 cb_8 Aa Ab Ao hB
  have Aa := Ba
  have Ab := Bb
  have Ao := Bo
  have hB := hB'
  clear Ba Bb Bo hB'
  have la_2 := Aa.lt
  have lb_2 := Ab.lt
  have lo_2 := Ao.lt
  have lB_2 := hB.size
  have Ba := (Arr.al' Aa (.cells #[.int .u64 (lim (z2) 0), .int .u64 (lim (z2) 1), .int .u64 (lim (z2) 2), .int .u64 (lim (z2) 3)] 24))
  have Bb := (Arr.al' Ab (.cells #[.int .u64 (lim (z2) 0), .int .u64 (lim (z2) 1), .int .u64 (lim (z2) 2), .int .u64 (lim (z2) 3)] 24))
  have Bo := (Arr.al' Ao (.cells #[.int .u64 (lim (z2) 0), .int .u64 (lim (z2) 1), .int .u64 (lim (z2) 2), .int .u64 (lim (z2) 3)] 24))
  have Bq : Arr ((w11.alloc (.cells #[.int .u64 (lim (z2) 0), .int .u64 (lim (z2) 1), .int .u64 (lim (z2) 2), .int .u64 (lim (z2) 3)] 24))) (w11.heap.size) 4 (fun j => .int .u64 (lim (z2) j)) := by refine Arr.mk4 ?_ ?_ ?_ ?_ ?_ ?_ ?_ ?_ <;> simp [go_sem]
  have hB' := (Bel.al hB (.cells #[.int .u64 (lim (z2) 0), .int .u64 (lim (z2) 1), .int .u64 (lim (z2) 2), .int .u64 (lim (z2) 3)] 24))
  clear Aa Ab Ao hB
  have Aa := Ba
  have Ab := Bb
  have Ao := Bo
  have Aq := Bq
  have hB := hB'
  clear Ba Bb Bo Bq hB'
  go_wp2_with fail
  apply wp_region_alloc_tail 8 (by kernel_rfl) (by kernel_rfl) (by kernel_rfl) (.cells #[.int .u64 0, .int .u64 0, .int .u64 0, .int .u64 0] 24) _ rfl (fun _ _ => by simp [go_sem])
  · intro W hW
    have ra0 := (Arr.to' Aa hW).cg 0 (by omega) (.int .u64 (lim (X) 0)) rfl
    have ra1 := (Arr.to' Aa hW).cg 1 (by omega) (.int .u64 (lim (X) 1)) rfl
    have ra2 := (Arr.to' Aa hW).cg 2 (by omega) (.int .u64 (lim (X) 2)) rfl
    have ra3 := (Arr.to' Aa hW).cg 3 (by omega) (.int .u64 (lim (X) 3)) rfl
    have ra4 := (Arr.to' Aa hW).cg 4 (by omega) (.int .u64 (lim (Y) 0)) rfl
    have ra5 := (Arr.to' Aa hW).cg 5 (by omega) (.int .u64 (lim (Y) 1)) rfl
    have ra6 := (Arr.to' Aa hW).cg 6 (by omega) (.int .u64 (lim (Y) 2)) rfl
    have ra7 := (Arr.to' Aa hW).cg 7 (by omega) (.int .u64 (lim (Y) 3)) rfl
    have ra8 := (Arr.to' Aa hW).cg 8 (by omega) (.bool false) rfl
    have ra9 := (Arr.to' Aa hW).cg 9 (by omega) (.int .u64 (lim (Z) 0)) rfl
    have ra10 := (Arr.to' Aa hW).cg 10 (by omega) (.int .u64 (lim (Z) 1)) rfl
    have ra11 := (Arr.to' Aa hW).cg 11 (by omega) (.int .u64 (lim (Z) 2)) rfl
    have ra12 := (Arr.to' Aa hW).cg 12 (by omega) (.int .u64 (lim (Z) 3)) rfl
    have rb0 := (Arr.to' Ab hW).cg 0 (by omega) (.int .u64 (lim (U) 0)) rfl
    have rb1 := (Arr.to' Ab hW).cg 1 (by omega) (.int .u64 (lim (U) 1)) rfl
    have rb2 := (Arr.to' Ab hW).cg 2 (by omega) (.int .u64 (lim (U) 2)) rfl
    have rb3 := (Arr.to' Ab hW).cg 3 (by omega) (.int .u64 (lim (U) 3)) rfl
    have rb4 := (Arr.to' Ab hW).cg 4 (by omega) (.int .u64 (lim (V) 0)) rfl
    have rb5 := (Arr.to' Ab hW).cg 5 (by omega) (.int .u64 (lim (V) 1)) rfl
    have rb6 := (Arr.to' Ab hW).cg 6 (by omega) (.int .u64 (lim (V) 2)) rfl
    have rb7 := (Arr.to' Ab hW).cg 7 (by omega) (.int .u64 (lim (V) 3)) rfl
    have rb8 := (Arr.to' Ab hW).cg 8 (by omega) (.bool false) rfl
    have rq0 := fun ds os => cell_regrown ((Arr.to' Aq hW).c 0 (by omega)) ds os
    have rq1 := fun ds os => cell_regrown ((Arr.to' Aq hW).c 1 (by omega)) ds os
    have rq2 := fun ds os => cell_regrown ((Arr.to' Aq hW).c 2 (by omega)) ds os
    have rq3 := fun ds os => cell_regrown ((Arr.to' Aq hW).c 3 (by omega)) ds os
    simp only [List.take_succ_cons, List.take_zero]
    repeat (go_big_quiet_step (first | (go_at_call 42; with_reducible first | exact Calls.regrown_of (C1 _)) | (go_at_call 46; with_reducible first | exact Calls.regrown_of (C2 _) | exact Calls.regrown_of (C4 _) | exact Calls.regrown_of (C5 _)) | (go_at_call 45; with_reducible first | exact Calls.regrown_of (C3 _) | exact Calls.regrown_of (C6 _)) | (go_at_call 47; with_reducible first | exact Calls.regrown_of (C7 _))))
    exact wpQuiet_nil rfl
  intro v2 w12 hb1 hb2
  simp only [List.drop_succ_cons, List.drop_zero, Act.put, List.setIfInBounds_toArray, List.set_cons_succ, List.set_cons_zero]
  have Ea := Arr.to' Aa hb1
  have la_v2 := Ea.lt
  have Ba := Arr.to' (Arr.al' Ea (.cells #[.int .u64 0, .int .u64 0, .int .u64 0, .int .u64 0] 24)) hb2
  have Eb := Arr.to' Ab hb1
  have lb_v2 := Eb.lt
  have Bb := Arr.to' (Arr.al' Eb (.cells #[.int .u64 0, .int .u64 0, .int .u64 0, .int .u64 0] 24)) hb2
  have Eo := Arr.to' Ao hb1
  have lo_v2 := Eo.lt
  have Bo := Arr.to' (Arr.al' Eo (.cells #[.int .u64 0, .int .u64 0, .int .u64 0, .int .u64 0] 24)) hb2
  have Eq := Arr.to' Aq hb1
  have lq_v2 := Eq.lt
  have Bq := Arr.to' (Arr.al' Eq (.cells #[.int .u64 0, .int .u64 0, .int .u64 0, .int .u64 0] 24)) hb2
  have Bm := (Arr.mk4 (w := (v2.alloc (.cells #[.int .u64 0, .int .u64 0, .int .u64 0, .int .u64 0] 24))) (f := fun _ => .int .u64 0) (b := v2.heap.size) (by simp [go_sem]) (by simp [go_sem]) (by simp [go_sem]) (by simp [go_sem]) (by simp [go_sem]) (by simp [go_sem]) (by simp [go_sem]) (by simp [go_sem])).below hb2 (by go_size)
  have lB_v2 := (Bel.call hB hb1).size
  have hB' := Bel.call (Bel.al (Bel.call hB hb1) (.cells #[.int .u64 0, .int .u64 0, .int .u64 0, .int .u64 0] 24)) hb2
  clear hb1 hb2 Ea Eb Eo Eq Aa Ab Ao Aq hB
  have Aa := Ba
  have Ab := Bb
  have Ao := Bo
  have Aq := Bq
  have Am := Bm
  have hB := hB'
  clear Ba Bb Bo Bq Bm hB'
  have cm := Am.c
  have zm := Am.z
  have Ba := Arr.st4o (b' := v2.heap.size) Aa (by have := Aa.lt; have := Am.lt; omega) (M)
  have Bb := Arr.st4o (b' := v2.heap.size) Ab (by have := Ab.lt; have := Am.lt; omega) (M)
  have Bo := Arr.st4o (b' := v2.heap.size) Ao (by have := Ao.lt; have := Am.lt; omega) (M)
  have Bq := Arr.st4o (b' := v2.heap.size) Aq (by have := Aq.lt; have := Am.lt; omega) (M)
  have Bm := Arr.st4 Am (M)
  have hB' := Bel.st4 hB (b := v2.heap.size) (by have := hB.size; omega) (M)
  clear Aa Ab Ao Aq Am hB
  have Aa := Ba
  have Ab := Bb
  have Ao := Bo
  have Aq := Bq
  have Am := Bm
  have hB := hB'
  clear Ba Bb Bo Bq Bm hB'
  go_wp2_with fail
  apply wp_region_alloc_tail 11 (by kernel_rfl) (by kernel_rfl) (by kernel_rfl) (.cells #[.int .u64 0, .int .u64 0, .int .u64 0, .int .u64 0] 24) _ rfl (fun _ _ => by simp [go_sem])
  · intro W hW
    have ra0 := (Arr.to' Aa hW).cg 0 (by omega) (.int .u64 (lim (X) 0)) rfl
    have ra1 := (Arr.to' Aa hW).cg 1 (by omega) (.int .u64 (lim (X) 1)) rfl
    have ra2 := (Arr.to' Aa hW).cg 2 (by omega) (.int .u64 (lim (X) 2)) rfl
    have ra3 := (Arr.to' Aa hW).cg 3 (by omega) (.int .u64 (lim (X) 3)) rfl
    have ra4 := (Arr.to' Aa hW).cg 4 (by omega) (.int .u64 (lim (Y) 0)) rfl
    have ra5 := (Arr.to' Aa hW).cg 5 (by omega) (.int .u64 (lim (Y) 1)) rfl
    have ra6 := (Arr.to' Aa hW).cg 6 (by omega) (.int .u64 (lim (Y) 2)) rfl
    have ra7 := (Arr.to' Aa hW).cg 7 (by omega) (.int .u64 (lim (Y) 3)) rfl
    have ra8 := (Arr.to' Aa hW).cg 8 (by omega) (.bool false) rfl
    have ra9 := (Arr.to' Aa hW).cg 9 (by omega) (.int .u64 (lim (Z) 0)) rfl
    have ra10 := (Arr.to' Aa hW).cg 10 (by omega) (.int .u64 (lim (Z) 1)) rfl
    have ra11 := (Arr.to' Aa hW).cg 11 (by omega) (.int .u64 (lim (Z) 2)) rfl
    have ra12 := (Arr.to' Aa hW).cg 12 (by omega) (.int .u64 (lim (Z) 3)) rfl
    have rb0 := (Arr.to' Ab hW).cg 0 (by omega) (.int .u64 (lim (U) 0)) rfl
    have rb1 := (Arr.to' Ab hW).cg 1 (by omega) (.int .u64 (lim (U) 1)) rfl
    have rb2 := (Arr.to' Ab hW).cg 2 (by omega) (.int .u64 (lim (U) 2)) rfl
    have rb3 := (Arr.to' Ab hW).cg 3 (by omega) (.int .u64 (lim (U) 3)) rfl
    have rb4 := (Arr.to' Ab hW).cg 4 (by omega) (.int .u64 (lim (V) 0)) rfl
    have rb5 := (Arr.to' Ab hW).cg 5 (by omega) (.int .u64 (lim (V) 1)) rfl
    have rb6 := (Arr.to' Ab hW).cg 6 (by omega) (.int .u64 (lim (V) 2)) rfl
    have rb7 := (Arr.to' Ab hW).cg 7 (by omega) (.int .u64 (lim (V) 3)) rfl
    have rb8 := (Arr.to' Ab hW).cg 8 (by omega) (.bool false) rfl
    have rq0 := fun ds os => cell_regrown ((Arr.to' Aq hW).c 0 (by omega)) ds os
    have rq1 := fun ds os => cell_regrown ((Arr.to' Aq hW).c 1 (by omega)) ds os
    have rq2 := fun ds os => cell_regrown ((Arr.to' Aq hW).c 2 (by omega)) ds os
    have rq3 := fun ds os => cell_regrown ((Arr.to' Aq hW).c 3 (by omega)) ds os
    simp only [List.take_succ_cons, List.take_zero]
    repeat (go_big_quiet_step (first | (go_at_call 42; with_reducible first | exact Calls.regrown_of (C1 _)) | (go_at_call 46; with_reducible first | exact Calls.regrown_of (C2 _) | exact Calls.regrown_of (C4 _) | exact Calls.regrown_of (C5 _)) | (go_at_call 45; with_reducible first | exact Calls.regrown_of (C3 _) | exact Calls.regrown_of (C6 _)) | (go_at_call 47; with_reducible first | exact Calls.regrown_of (C7 _))))
    exact wpQuiet_nil rfl
  intro v3 w13 hb1 hb2
  simp only [List.drop_succ_cons, List.drop_zero, Act.put, List.setIfInBounds_toArray, List.set_cons_succ, List.set_cons_zero]
  have Ea := Arr.to' Aa hb1
  have la_v3 := Ea.lt
  have Ba := Arr.to' (Arr.al' Ea (.cells #[.int .u64 0, .int .u64 0, .int .u64 0, .int .u64 0] 24)) hb2
  have Eb := Arr.to' Ab hb1
  have lb_v3 := Eb.lt
  have Bb := Arr.to' (Arr.al' Eb (.cells #[.int .u64 0, .int .u64 0, .int .u64 0, .int .u64 0] 24)) hb2
  have Eo := Arr.to' Ao hb1
  have lo_v3 := Eo.lt
  have Bo := Arr.to' (Arr.al' Eo (.cells #[.int .u64 0, .int .u64 0, .int .u64 0, .int .u64 0] 24)) hb2
  have Eq := Arr.to' Aq hb1
  have lq_v3 := Eq.lt
  have Bq := Arr.to' (Arr.al' Eq (.cells #[.int .u64 0, .int .u64 0, .int .u64 0, .int .u64 0] 24)) hb2
  have Em := Arr.to' Am hb1
  have lm_v3 := Em.lt
  have Bm := Arr.to' (Arr.al' Em (.cells #[.int .u64 0, .int .u64 0, .int .u64 0, .int .u64 0] 24)) hb2
  have Bn := (Arr.mk4 (w := (v3.alloc (.cells #[.int .u64 0, .int .u64 0, .int .u64 0, .int .u64 0] 24))) (f := fun _ => .int .u64 0) (b := v3.heap.size) (by simp [go_sem]) (by simp [go_sem]) (by simp [go_sem]) (by simp [go_sem]) (by simp [go_sem]) (by simp [go_sem]) (by simp [go_sem]) (by simp [go_sem])).below hb2 (by go_size)
  have lB_v3 := (Bel.call hB hb1).size
  have hB' := Bel.call (Bel.al (Bel.call hB hb1) (.cells #[.int .u64 0, .int .u64 0, .int .u64 0, .int .u64 0] 24)) hb2
  clear hb1 hb2 Ea Eb Eo Eq Em Aa Ab Ao Aq Am hB
  have Aa := Ba
  have Ab := Bb
  have Ao := Bo
  have Aq := Bq
  have Am := Bm
  have An := Bn
  have hB := hB'
  clear Ba Bb Bo Bq Bm Bn hB'
  have cn := An.c
  have zn := An.z
  have Ba := Arr.st4o (b' := v3.heap.size) Aa (by have := Aa.lt; have := An.lt; omega) (N)
  have Bb := Arr.st4o (b' := v3.heap.size) Ab (by have := Ab.lt; have := An.lt; omega) (N)
  have Bo := Arr.st4o (b' := v3.heap.size) Ao (by have := Ao.lt; have := An.lt; omega) (N)
  have Bq := Arr.st4o (b' := v3.heap.size) Aq (by have := Aq.lt; have := An.lt; omega) (N)
  have Bm := Arr.st4o (b' := v3.heap.size) Am (by have := Am.lt; have := An.lt; omega) (N)
  have Bn := Arr.st4 An (N)
  have hB' := Bel.st4 hB (b := v3.heap.size) (by have := hB.size; omega) (N)
  clear Aa Ab Ao Aq Am An hB
  have Aa := Ba
  have Ab := Bb
  have Ao := Bo
  have Aq := Bq
  have Am := Bm
  have An := Bn
  have hB := hB'
  clear Ba Bb Bo Bq Bm Bn hB'
  have ca_0 := Aa.cv 0 (by omega) (.int .u64 (lim (X) 0)) rfl
  have ca_1 := Aa.cv 1 (by omega) (.int .u64 (lim (X) 1)) rfl
  have ca_2 := Aa.cv 2 (by omega) (.int .u64 (lim (X) 2)) rfl
  have ca_3 := Aa.cv 3 (by omega) (.int .u64 (lim (X) 3)) rfl
  have ca_4 := Aa.cv 4 (by omega) (.int .u64 (lim (Y) 0)) rfl
  have ca_5 := Aa.cv 5 (by omega) (.int .u64 (lim (Y) 1)) rfl
  have ca_6 := Aa.cv 6 (by omega) (.int .u64 (lim (Y) 2)) rfl
  have ca_7 := Aa.cv 7 (by omega) (.int .u64 (lim (Y) 3)) rfl
  have ca_8 := Aa.cv 8 (by omega) (.bool false) rfl
  have ca_9 := Aa.cv 9 (by omega) (.int .u64 (lim (Z) 0)) rfl
  have ca_10 := Aa.cv 10 (by omega) (.int .u64 (lim (Z) 1)) rfl
  have ca_11 := Aa.cv 11 (by omega) (.int .u64 (lim (Z) 2)) rfl
  have ca_12 := Aa.cv 12 (by omega) (.int .u64 (lim (Z) 3)) rfl
  have cm := Am.c
  have cn := An.c
  go_wp2_with fail
  refine (C7 _).mono ?_
  rintro e w14 ⟨rfl, hb⟩
  have Bo := Arr.to' Ao hb
  have hB' := Bel.call hB hb
  clear hb cn zn ca_0 ca_1 ca_2 ca_3 ca_4 ca_5 ca_6 ca_7 ca_8 ca_9 ca_10 ca_11 ca_12 cm Aa Ab Ao Aq Am An hB
  have Ao := Bo
  have hB := hB'
  clear Bo hB'
  have hS := hB.size
  have co_0 := Ao.cv 0 (by omega) (.int .u64 0) rfl
  have co_1 := Ao.cv 1 (by omega) (.int .u64 0) rfl
  have co_2 := Ao.cv 2 (by omega) (.int .u64 0) rfl
  have co_3 := Ao.cv 3 (by omega) (.int .u64 0) rfl
  have co_4 := Ao.cv 4 (by omega) (.int .u64 0) rfl
  have co_5 := Ao.cv 5 (by omega) (.int .u64 0) rfl
  have co_6 := Ao.cv 6 (by omega) (.int .u64 0) rfl
  have co_7 := Ao.cv 7 (by omega) (.int .u64 0) rfl
  have co_8 := Ao.cv 8 (by omega) (.bool false) rfl
  have co_9 := Ao.cv 9 (by omega) (.int .u64 0) rfl
  have co_10 := Ao.cv 10 (by omega) (.int .u64 0) rfl
  have co_11 := Ao.cv 11 (by omega) (.int .u64 0) rfl
  have co_12 := Ao.cv 12 (by omega) (.int .u64 0) rfl
  have zo := Ao.z
  go_wp2_with fail
  refine bodyPost_ret (v := jv x y false z) (by simp [results, Tryz.results24, go_sem, co_0, co_1, co_2, co_3, co_4, co_5, co_6, co_7, co_8, co_9, co_10, co_11, co_12]) rfl ⟨rfl, ?_⟩
  go_grown
set_option maxHeartbeats 8000000 in
theorem plus_2 (X Y Z U V z2 k1 M z3 k2 N : Int) (hM : (lim M 0 == 0 && (lim M 1 == 0 && (lim M 2 == 0 && lim M 3 == 0))) = true) (hN : (lim N 0 == 0 && (lim N 1 == 0 && (lim N 2 == 0 && lim N 3 == 0))) = false) (w : World)
    (C1 : ∀ W, Calls Tryz.prog 42 #[nv Z] W fun e w' => e = .returned (nv z2) ∧ Below W.heap.size W w')
    (C2 : ∀ W, Calls Tryz.prog 46 #[nv U, nv z2] W fun e w' => e = .returned (nv k1) ∧ Below W.heap.size W w')
    (C3 : ∀ W, Calls Tryz.prog 45 #[nv k1, nv X] W fun e w' => e = .returned (nv M) ∧ Below W.heap.size W w')
    (C4 : ∀ W, Calls Tryz.prog 46 #[nv Z, nv z2] W fun e w' => e = .returned (nv z3) ∧ Below W.heap.size W w')
    (C5 : ∀ W, Calls Tryz.prog 46 #[nv V, nv z3] W fun e w' => e = .returned (nv k2) ∧ Below W.heap.size W w')
    (C6 : ∀ W, Calls Tryz.prog 45 #[nv k2, nv Y] W fun e w' => e = .returned (nv N) ∧ Below W.heap.size W w')
    (C7 : ∀ W, Calls Tryz.prog 30 #[] W fun e w' => e = .returned (pv 0 0 true) ∧ Below W.heap.size W w')
    (C8 : ∀ W, Calls Tryz.prog 23 #[pv 0 0 true] W fun e w' => e = .returned (jv 0 0 true 1) ∧ Below W.heap.size W w') :
    Calls Tryz.prog 24 #[jv X Y false Z, pv U V false] w fun e w' => e = .returned (jv 0 0 true 1) ∧ Below w.heap.size w w' := by
  go_enter Tryz.func24, Tryz.ntmps24
  have Ba : Arr ((((w.alloc (.cells #[.int .u64 (lim (X) 0), .int .u64 (lim (X) 1), .int .u64 (lim (X) 2), .int .u64 (lim (X) 3), .int .u64 (lim (Y) 0), .int .u64 (lim (Y) 1), .int .u64 (lim (Y) 2), .int .u64 (lim (Y) 3), .bool false, .int .u64 (lim (Z) 0), .int .u64 (lim (Z) 1), .int .u64 (lim (Z) 2), .int .u64 (lim (Z) 3)] 43)).alloc (.cells #[.int .u64 (lim (U) 0), .int .u64 (lim (U) 1), .int .u64 (lim (U) 2), .int .u64 (lim (U) 3), .int .u64 (lim (V) 0), .int .u64 (lim (V) 1), .int .u64 (lim (V) 2), .int .u64 (lim (V) 3), .bool false] 26)).alloc (.cells #[.int .u64 0, .int .u64 0, .int .u64 0, .int .u64 0, .int .u64 0, .int .u64 0, .int .u64 0, .int .u64 0, .bool false, .int .u64 0, .int .u64 0, .int .u64 0, .int .u64 0] 43))) (w.heap.size) 13 (sx (X) (Y) false (Z)) := by refine Arr.mk13 ?_ ?_ ?_ ?_ ?_ ?_ ?_ ?_ ?_ ?_ ?_ ?_ ?_ ?_ <;> simp [go_sem, px, sx, zx]
  have Bb : Arr ((((w.alloc (.cells #[.int .u64 (lim (X) 0), .int .u64 (lim (X) 1), .int .u64 (lim (X) 2), .int .u64 (lim (X) 3), .int .u64 (lim (Y) 0), .int .u64 (lim (Y) 1), .int .u64 (lim (Y) 2), .int .u64 (lim (Y) 3), .bool false, .int .u64 (lim (Z) 0), .int .u64 (lim (Z) 1), .int .u64 (lim (Z) 2), .int .u64 (lim (Z) 3)] 43)).alloc (.cells #[.int .u64 (lim (U) 0), .int .u64 (lim (U) 1), .int .u64 (lim (U) 2), .int .u64 (lim (U) 3), .int .u64 (lim (V) 0), .int .u64 (lim (V) 1), .int .u64 (lim (V) 2), .int .u64 (lim (V) 3), .bool false] 26)).alloc (.cells #[.int .u64 0, .int .u64 0, .int .u64 0, .int .u64 0, .int .u64 0, .int .u64 0, .int .u64 0, .int .u64 0, .bool false, .int .u64 0, .int .u64 0, .int .u64 0, .int .u64 0] 43))) (w.heap.size + 1) 9 (px (U) (V) false) := by refine Arr.mk9p ?_ ?_ ?_ ?_ ?_ ?_ ?_ ?_ ?_ ?_ <;> simp [go_sem, px, sx, zx]
  have Bo : Arr ((((w.alloc (.cells #[.int .u64 (lim (X) 0), .int .u64 (lim (X) 1), .int .u64 (lim (X) 2), .int .u64 (lim (X) 3), .int .u64 (lim (Y) 0), .int .u64 (lim (Y) 1), .int .u64 (lim (Y) 2), .int .u64 (lim (Y) 3), .bool false, .int .u64 (lim (Z) 0), .int .u64 (lim (Z) 1), .int .u64 (lim (Z) 2), .int .u64 (lim (Z) 3)] 43)).alloc (.cells #[.int .u64 (lim (U) 0), .int .u64 (lim (U) 1), .int .u64 (lim (U) 2), .int .u64 (lim (U) 3), .int .u64 (lim (V) 0), .int .u64 (lim (V) 1), .int .u64 (lim (V) 2), .int .u64 (lim (V) 3), .bool false] 26)).alloc (.cells #[.int .u64 0, .int .u64 0, .int .u64 0, .int .u64 0, .int .u64 0, .int .u64 0, .int .u64 0, .int .u64 0, .bool false, .int .u64 0, .int .u64 0, .int .u64 0, .int .u64 0] 43))) (w.heap.size + 1 + 1) 13 (zx 8) := by refine Arr.mk13 ?_ ?_ ?_ ?_ ?_ ?_ ?_ ?_ ?_ ?_ ?_ ?_ ?_ ?_ <;> simp [go_sem, px, sx, zx]
  have hB' : Below w.heap.size w (((w.alloc (.cells #[.int .u64 (lim (X) 0), .int .u64 (lim (X) 1), .int .u64 (lim (X) 2), .int .u64 (lim (X) 3), .int .u64 (lim (Y) 0), .int .u64 (lim (Y) 1), .int .u64 (lim (Y) 2), .int .u64 (lim (Y) 3), .bool false, .int .u64 (lim (Z) 0), .int .u64 (lim (Z) 1), .int .u64 (lim (Z) 2), .int .u64 (lim (Z) 3)] 43)).alloc (.cells #[.int .u64 (lim (U) 0), .int .u64 (lim (U) 1), .int .u64 (lim (U) 2), .int .u64 (lim (U) 3), .int .u64 (lim (V) 0), .int .u64 (lim (V) 1), .int .u64 (lim (V) 2), .int .u64 (lim (V) 3), .bool false] 26)).alloc (.cells #[.int .u64 0, .int .u64 0, .int .u64 0, .int .u64 0, .int .u64 0, .int .u64 0, .int .u64 0, .int .u64 0, .bool false, .int .u64 0, .int .u64 0, .int .u64 0, .int .u64 0] 43)) := by go_grown
  have Aa := Ba
  have Ab := Bb
  have Ao := Bo
  have hB := hB'
  clear Ba Bb Bo hB'
  have ca_0 := Aa.cv 0 (by omega) (.int .u64 (lim (X) 0)) rfl
  have ca_1 := Aa.cv 1 (by omega) (.int .u64 (lim (X) 1)) rfl
  have ca_2 := Aa.cv 2 (by omega) (.int .u64 (lim (X) 2)) rfl
  have ca_3 := Aa.cv 3 (by omega) (.int .u64 (lim (X) 3)) rfl
  have ca_4 := Aa.cv 4 (by omega) (.int .u64 (lim (Y) 0)) rfl
  have ca_5 := Aa.cv 5 (by omega) (.int .u64 (lim (Y) 1)) rfl
  have ca_6 := Aa.cv 6 (by omega) (.int .u64 (lim (Y) 2)) rfl
  have ca_7 := Aa.cv 7 (by omega) (.int .u64 (lim (Y) 3)) rfl
  have ca_8 := Aa.cv 8 (by omega) (.bool false) rfl
  have ca_9 := Aa.cv 9 (by omega) (.int .u64 (lim (Z) 0)) rfl
  have ca_10 := Aa.cv 10 (by omega) (.int .u64 (lim (Z) 1)) rfl
  have ca_11 := Aa.cv 11 (by omega) (.int .u64 (lim (Z) 2)) rfl
  have ca_12 := Aa.cv 12 (by omega) (.int .u64 (lim (Z) 3)) rfl
  have cb_0 := Ab.cv 0 (by omega) (.int .u64 (lim (U) 0)) rfl
  have cb_1 := Ab.cv 1 (by omega) (.int .u64 (lim (U) 1)) rfl
  have cb_2 := Ab.cv 2 (by omega) (.int .u64 (lim (U) 2)) rfl
  have cb_3 := Ab.cv 3 (by omega) (.int .u64 (lim (U) 3)) rfl
  have cb_4 := Ab.cv 4 (by omega) (.int .u64 (lim (V) 0)) rfl
  have cb_5 := Ab.cv 5 (by omega) (.int .u64 (lim (V) 1)) rfl
  have cb_6 := Ab.cv 6 (by omega) (.int .u64 (lim (V) 2)) rfl
  have cb_7 := Ab.cv 7 (by omega) (.int .u64 (lim (V) 3)) rfl
  have cb_8 := Ab.cv 8 (by omega) (.bool false) rfl
  go_wp2_with fail
  refine (C1 _).mono ?_
  rintro e w11 ⟨rfl, hb⟩
  have Ba := Arr.to' Aa hb
  have Bb := Arr.to' Ab hb
  have Bo := Arr.to' Ao hb
  have hB' := Bel.call hB hb
  clear hb ca_0 ca_1 ca_2 ca_3 ca_4 ca_5 ca_6 ca_7 ca_8 ca_9 ca_10 ca_11 ca_12 cb_0 cb_1 cb_2 cb_3 cb_4 cb_5 cb_6 cb_7 cb_8 Aa Ab Ao hB
  have Aa := Ba
  have Ab := Bb
  have Ao := Bo
  have hB := hB'
  clear Ba Bb Bo hB'
  have la_2 := Aa.lt
  have lb_2 := Ab.lt
  have lo_2 := Ao.lt
  have lB_2 := hB.size
  have Ba := (Arr.al' Aa (.cells #[.int .u64 (lim (z2) 0), .int .u64 (lim (z2) 1), .int .u64 (lim (z2) 2), .int .u64 (lim (z2) 3)] 24))
  have Bb := (Arr.al' Ab (.cells #[.int .u64 (lim (z2) 0), .int .u64 (lim (z2) 1), .int .u64 (lim (z2) 2), .int .u64 (lim (z2) 3)] 24))
  have Bo := (Arr.al' Ao (.cells #[.int .u64 (lim (z2) 0), .int .u64 (lim (z2) 1), .int .u64 (lim (z2) 2), .int .u64 (lim (z2) 3)] 24))
  have Bq : Arr ((w11.alloc (.cells #[.int .u64 (lim (z2) 0), .int .u64 (lim (z2) 1), .int .u64 (lim (z2) 2), .int .u64 (lim (z2) 3)] 24))) (w11.heap.size) 4 (fun j => .int .u64 (lim (z2) j)) := by refine Arr.mk4 ?_ ?_ ?_ ?_ ?_ ?_ ?_ ?_ <;> simp [go_sem]
  have hB' := (Bel.al hB (.cells #[.int .u64 (lim (z2) 0), .int .u64 (lim (z2) 1), .int .u64 (lim (z2) 2), .int .u64 (lim (z2) 3)] 24))
  clear Aa Ab Ao hB
  have Aa := Ba
  have Ab := Bb
  have Ao := Bo
  have Aq := Bq
  have hB := hB'
  clear Ba Bb Bo Bq hB'
  go_wp2_with fail
  apply wp_region_alloc_tail 8 (by kernel_rfl) (by kernel_rfl) (by kernel_rfl) (.cells #[.int .u64 0, .int .u64 0, .int .u64 0, .int .u64 0] 24) _ rfl (fun _ _ => by simp [go_sem])
  · intro W hW
    have ra0 := (Arr.to' Aa hW).cg 0 (by omega) (.int .u64 (lim (X) 0)) rfl
    have ra1 := (Arr.to' Aa hW).cg 1 (by omega) (.int .u64 (lim (X) 1)) rfl
    have ra2 := (Arr.to' Aa hW).cg 2 (by omega) (.int .u64 (lim (X) 2)) rfl
    have ra3 := (Arr.to' Aa hW).cg 3 (by omega) (.int .u64 (lim (X) 3)) rfl
    have ra4 := (Arr.to' Aa hW).cg 4 (by omega) (.int .u64 (lim (Y) 0)) rfl
    have ra5 := (Arr.to' Aa hW).cg 5 (by omega) (.int .u64 (lim (Y) 1)) rfl
    have ra6 := (Arr.to' Aa hW).cg 6 (by omega) (.int .u64 (lim (Y) 2)) rfl
    have ra7 := (Arr.to' Aa hW).cg 7 (by omega) (.int .u64 (lim (Y) 3)) rfl
    have ra8 := (Arr.to' Aa hW).cg 8 (by omega) (.bool false) rfl
    have ra9 := (Arr.to' Aa hW).cg 9 (by omega) (.int .u64 (lim (Z) 0)) rfl
    have ra10 := (Arr.to' Aa hW).cg 10 (by omega) (.int .u64 (lim (Z) 1)) rfl
    have ra11 := (Arr.to' Aa hW).cg 11 (by omega) (.int .u64 (lim (Z) 2)) rfl
    have ra12 := (Arr.to' Aa hW).cg 12 (by omega) (.int .u64 (lim (Z) 3)) rfl
    have rb0 := (Arr.to' Ab hW).cg 0 (by omega) (.int .u64 (lim (U) 0)) rfl
    have rb1 := (Arr.to' Ab hW).cg 1 (by omega) (.int .u64 (lim (U) 1)) rfl
    have rb2 := (Arr.to' Ab hW).cg 2 (by omega) (.int .u64 (lim (U) 2)) rfl
    have rb3 := (Arr.to' Ab hW).cg 3 (by omega) (.int .u64 (lim (U) 3)) rfl
    have rb4 := (Arr.to' Ab hW).cg 4 (by omega) (.int .u64 (lim (V) 0)) rfl
    have rb5 := (Arr.to' Ab hW).cg 5 (by omega) (.int .u64 (lim (V) 1)) rfl
    have rb6 := (Arr.to' Ab hW).cg 6 (by omega) (.int .u64 (lim (V) 2)) rfl
    have rb7 := (Arr.to' Ab hW).cg 7 (by omega) (.int .u64 (lim (V) 3)) rfl
    have rb8 := (Arr.to' Ab hW).cg 8 (by omega) (.bool false) rfl
    have rq0 := fun ds os => cell_regrown ((Arr.to' Aq hW).c 0 (by omega)) ds os
    have rq1 := fun ds os => cell_regrown ((Arr.to' Aq hW).c 1 (by omega)) ds os
    have rq2 := fun ds os => cell_regrown ((Arr.to' Aq hW).c 2 (by omega)) ds os
    have rq3 := fun ds os => cell_regrown ((Arr.to' Aq hW).c 3 (by omega)) ds os
    simp only [List.take_succ_cons, List.take_zero]
    repeat (go_big_quiet_step (first | (go_at_call 42; with_reducible first | exact Calls.regrown_of (C1 _)) | (go_at_call 46; with_reducible first | exact Calls.regrown_of (C2 _) | exact Calls.regrown_of (C4 _) | exact Calls.regrown_of (C5 _)) | (go_at_call 45; with_reducible first | exact Calls.regrown_of (C3 _) | exact Calls.regrown_of (C6 _)) | (go_at_call 30; with_reducible first | exact Calls.regrown_of (C7 _)) | (go_at_call 23; with_reducible first | exact Calls.regrown_of (C8 _))))
    exact wpQuiet_nil rfl
  intro v2 w12 hb1 hb2
  simp only [List.drop_succ_cons, List.drop_zero, Act.put, List.setIfInBounds_toArray, List.set_cons_succ, List.set_cons_zero]
  have Ea := Arr.to' Aa hb1
  have la_v2 := Ea.lt
  have Ba := Arr.to' (Arr.al' Ea (.cells #[.int .u64 0, .int .u64 0, .int .u64 0, .int .u64 0] 24)) hb2
  have Eb := Arr.to' Ab hb1
  have lb_v2 := Eb.lt
  have Bb := Arr.to' (Arr.al' Eb (.cells #[.int .u64 0, .int .u64 0, .int .u64 0, .int .u64 0] 24)) hb2
  have Eo := Arr.to' Ao hb1
  have lo_v2 := Eo.lt
  have Bo := Arr.to' (Arr.al' Eo (.cells #[.int .u64 0, .int .u64 0, .int .u64 0, .int .u64 0] 24)) hb2
  have Eq := Arr.to' Aq hb1
  have lq_v2 := Eq.lt
  have Bq := Arr.to' (Arr.al' Eq (.cells #[.int .u64 0, .int .u64 0, .int .u64 0, .int .u64 0] 24)) hb2
  have Bm := (Arr.mk4 (w := (v2.alloc (.cells #[.int .u64 0, .int .u64 0, .int .u64 0, .int .u64 0] 24))) (f := fun _ => .int .u64 0) (b := v2.heap.size) (by simp [go_sem]) (by simp [go_sem]) (by simp [go_sem]) (by simp [go_sem]) (by simp [go_sem]) (by simp [go_sem]) (by simp [go_sem]) (by simp [go_sem])).below hb2 (by go_size)
  have lB_v2 := (Bel.call hB hb1).size
  have hB' := Bel.call (Bel.al (Bel.call hB hb1) (.cells #[.int .u64 0, .int .u64 0, .int .u64 0, .int .u64 0] 24)) hb2
  clear hb1 hb2 Ea Eb Eo Eq Aa Ab Ao Aq hB
  have Aa := Ba
  have Ab := Bb
  have Ao := Bo
  have Aq := Bq
  have Am := Bm
  have hB := hB'
  clear Ba Bb Bo Bq Bm hB'
  have cm := Am.c
  have zm := Am.z
  have Ba := Arr.st4o (b' := v2.heap.size) Aa (by have := Aa.lt; have := Am.lt; omega) (M)
  have Bb := Arr.st4o (b' := v2.heap.size) Ab (by have := Ab.lt; have := Am.lt; omega) (M)
  have Bo := Arr.st4o (b' := v2.heap.size) Ao (by have := Ao.lt; have := Am.lt; omega) (M)
  have Bq := Arr.st4o (b' := v2.heap.size) Aq (by have := Aq.lt; have := Am.lt; omega) (M)
  have Bm := Arr.st4 Am (M)
  have hB' := Bel.st4 hB (b := v2.heap.size) (by have := hB.size; omega) (M)
  clear Aa Ab Ao Aq Am hB
  have Aa := Ba
  have Ab := Bb
  have Ao := Bo
  have Aq := Bq
  have Am := Bm
  have hB := hB'
  clear Ba Bb Bo Bq Bm hB'
  go_wp2_with fail
  apply wp_region_alloc_tail 11 (by kernel_rfl) (by kernel_rfl) (by kernel_rfl) (.cells #[.int .u64 0, .int .u64 0, .int .u64 0, .int .u64 0] 24) _ rfl (fun _ _ => by simp [go_sem])
  · intro W hW
    have ra0 := (Arr.to' Aa hW).cg 0 (by omega) (.int .u64 (lim (X) 0)) rfl
    have ra1 := (Arr.to' Aa hW).cg 1 (by omega) (.int .u64 (lim (X) 1)) rfl
    have ra2 := (Arr.to' Aa hW).cg 2 (by omega) (.int .u64 (lim (X) 2)) rfl
    have ra3 := (Arr.to' Aa hW).cg 3 (by omega) (.int .u64 (lim (X) 3)) rfl
    have ra4 := (Arr.to' Aa hW).cg 4 (by omega) (.int .u64 (lim (Y) 0)) rfl
    have ra5 := (Arr.to' Aa hW).cg 5 (by omega) (.int .u64 (lim (Y) 1)) rfl
    have ra6 := (Arr.to' Aa hW).cg 6 (by omega) (.int .u64 (lim (Y) 2)) rfl
    have ra7 := (Arr.to' Aa hW).cg 7 (by omega) (.int .u64 (lim (Y) 3)) rfl
    have ra8 := (Arr.to' Aa hW).cg 8 (by omega) (.bool false) rfl
    have ra9 := (Arr.to' Aa hW).cg 9 (by omega) (.int .u64 (lim (Z) 0)) rfl
    have ra10 := (Arr.to' Aa hW).cg 10 (by omega) (.int .u64 (lim (Z) 1)) rfl
    have ra11 := (Arr.to' Aa hW).cg 11 (by omega) (.int .u64 (lim (Z) 2)) rfl
    have ra12 := (Arr.to' Aa hW).cg 12 (by omega) (.int .u64 (lim (Z) 3)) rfl
    have rb0 := (Arr.to' Ab hW).cg 0 (by omega) (.int .u64 (lim (U) 0)) rfl
    have rb1 := (Arr.to' Ab hW).cg 1 (by omega) (.int .u64 (lim (U) 1)) rfl
    have rb2 := (Arr.to' Ab hW).cg 2 (by omega) (.int .u64 (lim (U) 2)) rfl
    have rb3 := (Arr.to' Ab hW).cg 3 (by omega) (.int .u64 (lim (U) 3)) rfl
    have rb4 := (Arr.to' Ab hW).cg 4 (by omega) (.int .u64 (lim (V) 0)) rfl
    have rb5 := (Arr.to' Ab hW).cg 5 (by omega) (.int .u64 (lim (V) 1)) rfl
    have rb6 := (Arr.to' Ab hW).cg 6 (by omega) (.int .u64 (lim (V) 2)) rfl
    have rb7 := (Arr.to' Ab hW).cg 7 (by omega) (.int .u64 (lim (V) 3)) rfl
    have rb8 := (Arr.to' Ab hW).cg 8 (by omega) (.bool false) rfl
    have rq0 := fun ds os => cell_regrown ((Arr.to' Aq hW).c 0 (by omega)) ds os
    have rq1 := fun ds os => cell_regrown ((Arr.to' Aq hW).c 1 (by omega)) ds os
    have rq2 := fun ds os => cell_regrown ((Arr.to' Aq hW).c 2 (by omega)) ds os
    have rq3 := fun ds os => cell_regrown ((Arr.to' Aq hW).c 3 (by omega)) ds os
    simp only [List.take_succ_cons, List.take_zero]
    repeat (go_big_quiet_step (first | (go_at_call 42; with_reducible first | exact Calls.regrown_of (C1 _)) | (go_at_call 46; with_reducible first | exact Calls.regrown_of (C2 _) | exact Calls.regrown_of (C4 _) | exact Calls.regrown_of (C5 _)) | (go_at_call 45; with_reducible first | exact Calls.regrown_of (C3 _) | exact Calls.regrown_of (C6 _)) | (go_at_call 30; with_reducible first | exact Calls.regrown_of (C7 _)) | (go_at_call 23; with_reducible first | exact Calls.regrown_of (C8 _))))
    exact wpQuiet_nil rfl
  intro v3 w13 hb1 hb2
  simp only [List.drop_succ_cons, List.drop_zero, Act.put, List.setIfInBounds_toArray, List.set_cons_succ, List.set_cons_zero]
  have Ea := Arr.to' Aa hb1
  have la_v3 := Ea.lt
  have Ba := Arr.to' (Arr.al' Ea (.cells #[.int .u64 0, .int .u64 0, .int .u64 0, .int .u64 0] 24)) hb2
  have Eb := Arr.to' Ab hb1
  have lb_v3 := Eb.lt
  have Bb := Arr.to' (Arr.al' Eb (.cells #[.int .u64 0, .int .u64 0, .int .u64 0, .int .u64 0] 24)) hb2
  have Eo := Arr.to' Ao hb1
  have lo_v3 := Eo.lt
  have Bo := Arr.to' (Arr.al' Eo (.cells #[.int .u64 0, .int .u64 0, .int .u64 0, .int .u64 0] 24)) hb2
  have Eq := Arr.to' Aq hb1
  have lq_v3 := Eq.lt
  have Bq := Arr.to' (Arr.al' Eq (.cells #[.int .u64 0, .int .u64 0, .int .u64 0, .int .u64 0] 24)) hb2
  have Em := Arr.to' Am hb1
  have lm_v3 := Em.lt
  have Bm := Arr.to' (Arr.al' Em (.cells #[.int .u64 0, .int .u64 0, .int .u64 0, .int .u64 0] 24)) hb2
  have Bn := (Arr.mk4 (w := (v3.alloc (.cells #[.int .u64 0, .int .u64 0, .int .u64 0, .int .u64 0] 24))) (f := fun _ => .int .u64 0) (b := v3.heap.size) (by simp [go_sem]) (by simp [go_sem]) (by simp [go_sem]) (by simp [go_sem]) (by simp [go_sem]) (by simp [go_sem]) (by simp [go_sem]) (by simp [go_sem])).below hb2 (by go_size)
  have lB_v3 := (Bel.call hB hb1).size
  have hB' := Bel.call (Bel.al (Bel.call hB hb1) (.cells #[.int .u64 0, .int .u64 0, .int .u64 0, .int .u64 0] 24)) hb2
  clear hb1 hb2 Ea Eb Eo Eq Em Aa Ab Ao Aq Am hB
  have Aa := Ba
  have Ab := Bb
  have Ao := Bo
  have Aq := Bq
  have Am := Bm
  have An := Bn
  have hB := hB'
  clear Ba Bb Bo Bq Bm Bn hB'
  have cn := An.c
  have zn := An.z
  have Ba := Arr.st4o (b' := v3.heap.size) Aa (by have := Aa.lt; have := An.lt; omega) (N)
  have Bb := Arr.st4o (b' := v3.heap.size) Ab (by have := Ab.lt; have := An.lt; omega) (N)
  have Bo := Arr.st4o (b' := v3.heap.size) Ao (by have := Ao.lt; have := An.lt; omega) (N)
  have Bq := Arr.st4o (b' := v3.heap.size) Aq (by have := Aq.lt; have := An.lt; omega) (N)
  have Bm := Arr.st4o (b' := v3.heap.size) Am (by have := Am.lt; have := An.lt; omega) (N)
  have Bn := Arr.st4 An (N)
  have hB' := Bel.st4 hB (b := v3.heap.size) (by have := hB.size; omega) (N)
  clear Aa Ab Ao Aq Am An hB
  have Aa := Ba
  have Ab := Bb
  have Ao := Bo
  have Aq := Bq
  have Am := Bm
  have An := Bn
  have hB := hB'
  clear Ba Bb Bo Bq Bm Bn hB'
  have cm := Am.c
  have cn := An.c
  go_wp2_with fail
  refine (C7 _).mono ?_
  rintro e w14 ⟨rfl, hb⟩
  have Ba := Arr.to' Aa hb
  have Bb := Arr.to' Ab hb
  have Bo := Arr.to' Ao hb
  have Bq := Arr.to' Aq hb
  have Bm := Arr.to' Am hb
  have Bn := Arr.to' An hb
  have hB' := Bel.call hB hb
  clear hb cn zn cm Aa Ab Ao Aq Am An hB
  have Aa := Ba
  have Ab := Bb
  have Ao := Bo
  have Aq := Bq
  have Am := Bm
  have An := Bn
  have hB := hB'
  clear Ba Bb Bo Bq Bm Bn hB'
  go_wp2_with fail
  refine (C8 _).mono ?_
  rintro e w15 ⟨rfl, hb⟩
  have Bo := Arr.to' Ao hb
  have hB' := Bel.call hB hb
  clear hb Aa Ab Ao Aq Am An hB
  have Ao := Bo
  have hB := hB'
  clear Bo hB'
  have hS := hB.size
  have co_0 := Ao.cv 0 (by omega) (.int .u64 0) rfl
  have co_1 := Ao.cv 1 (by omega) (.int .u64 0) rfl
  have co_2 := Ao.cv 2 (by omega) (.int .u64 0) rfl
  have co_3 := Ao.cv 3 (by omega) (.int .u64 0) rfl
  have co_4 := Ao.cv 4 (by omega) (.int .u64 0) rfl
  have co_5 := Ao.cv 5 (by omega) (.int .u64 0) rfl
  have co_6 := Ao.cv 6 (by omega) (.int .u64 0) rfl
  have co_7 := Ao.cv 7 (by omega) (.int .u64 0) rfl
  have co_8 := Ao.cv 8 (by omega) (.bool false) rfl
  have co_9 := Ao.cv 9 (by omega) (.int .u64 0) rfl
  have co_10 := Ao.cv 10 (by omega) (.int .u64 0) rfl
  have co_11 := Ao.cv 11 (by omega) (.int .u64 0) rfl
  have co_12 := Ao.cv 12 (by omega) (.int .u64 0) rfl
  have zo := Ao.z
  go_wp2_with fail
  refine bodyPost_ret (v := jv 0 0 true 1) (by simp [results, Tryz.results24, go_sem, co_0, co_1, co_2, co_3, co_4, co_5, co_6, co_7, co_8, co_9, co_10, co_11, co_12]) rfl ⟨rfl, ?_⟩
  go_grown
set_option maxHeartbeats 8000000 in
theorem plus_3 (X Y Z U V z2 k1 M z3 k2 N x y z : Int) (hM : (lim M 0 == 0 && (lim M 1 == 0 && (lim M 2 == 0 && lim M 3 == 0))) = true) (hN : (lim N 0 == 0 && (lim N 1 == 0 && (lim N 2 == 0 && lim N 3 == 0))) = true) (w : World)
    (C1 : ∀ W, Calls Tryz.prog 42 #[nv Z] W fun e w' => e = .returned (nv z2) ∧ Below W.heap.size W w')
    (C2 : ∀ W, Calls Tryz.prog 46 #[nv U, nv z2] W fun e w' => e = .returned (nv k1) ∧ Below W.heap.size W w')
    (C3 : ∀ W, Calls Tryz.prog 45 #[nv k1, nv X] W fun e w' => e = .returned (nv M) ∧ Below W.heap.size W w')
    (C4 : ∀ W, Calls Tryz.prog 46 #[nv Z, nv z2] W fun e w' => e = .returned (nv z3) ∧ Below W.heap.size W w')
    (C5 : ∀ W, Calls Tryz.prog 46 #[nv V, nv z3] W fun e w' => e = .returned (nv k2) ∧ Below W.heap.size W w')
    (C6 : ∀ W, Calls Tryz.prog 45 #[nv k2, nv Y] W fun e w' => e = .returned (nv N) ∧ Below W.heap.size W w')
    (C7 : ∀ W, Calls Tryz.prog 32 #[jv X Y false Z] W fun e w' => e = .returned (jv x y false z) ∧ Below W.heap.size W w') :
    Calls Tryz.prog 24 #[jv X Y false Z, pv U V false] w fun e w' => e = .returned (jv x y false z) ∧ Below w.heap.size w w' := by
  go_enter Tryz.func24, Tryz.ntmps24
  have Ba : Arr ((((w.alloc (.cells #[.int .u64 (lim (X) 0), .int .u64 (lim (X) 1), .int .u64 (lim (X) 2), .int .u64 (lim (X) 3), .int .u64 (lim (Y) 0), .int .u64 (lim (Y) 1), .int .u64 (lim (Y) 2), .int .u64 (lim (Y) 3), .bool false, .int .u64 (lim (Z) 0), .int .u64 (lim (Z) 1), .int .u64 (lim (Z) 2), .int .u64 (lim (Z) 3)] 43)).alloc (.cells #[.int .u64 (lim (U) 0), .int .u64 (lim (U) 1), .int .u64 (lim (U) 2), .int .u64 (lim (U) 3), .int .u64 (lim (V) 0), .int .u64 (lim (V) 1), .int .u64 (lim (V) 2), .int .u64 (lim (V) 3), .bool false] 26)).alloc (.cells #[.int .u64 0, .int .u64 0, .int .u64 0, .int .u64 0, .int .u64 0, .int .u64 0, .int .u64 0, .int .u64 0, .bool false, .int .u64 0, .int .u64 0, .int .u64 0, .int .u64 0] 43))) (w.heap.size) 13 (sx (X) (Y) false (Z)) := by refine Arr.mk13 ?_ ?_ ?_ ?_ ?_ ?_ ?_ ?_ ?_ ?_ ?_ ?_ ?_ ?_ <;> simp [go_sem, px, sx, zx]
  have Bb : Arr ((((w.alloc (.cells #[.int .u64 (lim (X) 0), .int .u64 (lim (X) 1), .int .u64 (lim (X) 2), .int .u64 (lim (X) 3), .int .u64 (lim (Y) 0), .int .u64 (lim (Y) 1), .int .u64 (lim (Y) 2), .int .u64 (lim (Y) 3), .bool false, .int .u64 (lim (Z) 0), .int .u64 (lim (Z) 1), .int .u64 (lim (Z) 2), .int .u64 (lim (Z) 3)] 43)).alloc (.cells #[.int .u64 (lim (U) 0), .int .u64 (lim (U) 1), .int .u64 (lim (U) 2), .int .u64 (lim (U) 3), .int .u64 (lim (V) 0), .int .u64 (lim (V) 1), .int .u64 (lim (V) 2), .int .u64 (lim (V) 3), .bool false] 26)).alloc (.cells #[.int .u64 0, .int .u64 0, .int .u64 0, .int .u64 0, .int .u64 0, .int .u64 0, .int .u64 0, .int .u64 0, .bool false, .int .u64 0, .int .u64 0, .int .u64 0, .int .u64 0] 43))) (w.heap.size + 1) 9 (px (U) (V) false) := by refine Arr.mk9p ?_ ?_ ?_ ?_ ?_ ?_ ?_ ?_ ?_ ?_ <;> simp [go_sem, px, sx, zx]
  have Bo : Arr ((((w.alloc (.cells #[.int .u64 (lim (X) 0), .int .u64 (lim (X) 1), .int .u64 (lim (X) 2), .int .u64 (lim (X) 3), .int .u64 (lim (Y) 0), .int .u64 (lim (Y) 1), .int .u64 (lim (Y) 2), .int .u64 (lim (Y) 3), .bool false, .int .u64 (lim (Z) 0), .int .u64 (lim (Z) 1), .int .u64 (lim (Z) 2), .int .u64 (lim (Z) 3)] 43)).alloc (.cells #[.int .u64 (lim (U) 0), .int .u64 (lim (U) 1), .int .u64 (lim (U) 2), .int .u64 (lim (U) 3), .int .u64 (lim (V) 0), .int .u64 (lim (V) 1), .int .u64 (lim (V) 2), .int .u64 (lim (V) 3), .bool false] 26)).alloc (.cells #[.int .u64 0, .int .u64 0, .int .u64 0, .int .u64 0, .int .u64 0, .int .u64 0, .int .u64 0, .int .u64 0, .bool false, .int .u64 0, .int .u64 0, .int .u64 0, .int .u64 0] 43))) (w.heap.size + 1 + 1) 13 (zx 8) := by refine Arr.mk13 ?_ ?_ ?_ ?_ ?_ ?_ ?_ ?_ ?_ ?_ ?_ ?_ ?_ ?_ <;> simp [go_sem, px, sx, zx]
  have hB' : Below w.heap.size w (((w.alloc (.cells #[.int .u64 (lim (X) 0), .int .u64 (lim (X) 1), .int .u64 (lim (X) 2), .int .u64 (lim (X) 3), .int .u64 (lim (Y) 0), .int .u64 (lim (Y) 1), .int .u64 (lim (Y) 2), .int .u64 (lim (Y) 3), .bool false, .int .u64 (lim (Z) 0), .int .u64 (lim (Z) 1), .int .u64 (lim (Z) 2), .int .u64 (lim (Z) 3)] 43)).alloc (.cells #[.int .u64 (lim (U) 0), .int .u64 (lim (U) 1), .int .u64 (lim (U) 2), .int .u64 (lim (U) 3), .int .u64 (lim (V) 0), .int .u64 (lim (V) 1), .int .u64 (lim (V) 2), .int .u64 (lim (V) 3), .bool false] 26)).alloc (.cells #[.int .u64 0, .int .u64 0, .int .u64 0, .int .u64 0, .int .u64 0, .int .u64 0, .int .u64 0, .int .u64 0, .bool false, .int .u64 0, .int .u64 0, .int .u64 0, .int .u64 0] 43)) := by go_grown
  have Aa := Ba
  have Ab := Bb
  have Ao := Bo
  have hB := hB'
  clear Ba Bb Bo hB'
  have ca_0 := Aa.cv 0 (by omega) (.int .u64 (lim (X) 0)) rfl
  have ca_1 := Aa.cv 1 (by omega) (.int .u64 (lim (X) 1)) rfl
  have ca_2 := Aa.cv 2 (by omega) (.int .u64 (lim (X) 2)) rfl
  have ca_3 := Aa.cv 3 (by omega) (.int .u64 (lim (X) 3)) rfl
  have ca_4 := Aa.cv 4 (by omega) (.int .u64 (lim (Y) 0)) rfl
  have ca_5 := Aa.cv 5 (by omega) (.int .u64 (lim (Y) 1)) rfl
  have ca_6 := Aa.cv 6 (by omega) (.int .u64 (lim (Y) 2)) rfl
  have ca_7 := Aa.cv 7 (by omega) (.int .u64 (lim (Y) 3)) rfl
  have ca_8 := Aa.cv 8 (by omega) (.bool false) rfl
  have ca_9 := Aa.cv 9 (by omega) (.int .u64 (lim (Z) 0)) rfl
  have ca_10 := Aa.cv 10 (by omega) (.int .u64 (lim (Z) 1)) rfl
  have ca_11 := Aa.cv 11 (by omega) (.int .u64 (lim (Z) 2)) rfl
  have ca_12 := Aa.cv 12 (by omega) (.int .u64 (lim (Z) 3)) rfl
  have cb_0 := Ab.cv 0 (by omega) (.int .u64 (lim (U) 0)) rfl
  have cb_1 := Ab.cv 1 (by omega) (.int .u64 (lim (U) 1)) rfl
  have cb_2 := Ab.cv 2 (by omega) (.int .u64 (lim (U) 2)) rfl
  have cb_3 := Ab.cv 3 (by omega) (.int .u64 (lim (U) 3)) rfl
  have cb_4 := Ab.cv 4 (by omega) (.int .u64 (lim (V) 0)) rfl
  have cb_5 := Ab.cv 5 (by omega) (.int .u64 (lim (V) 1)) rfl
  have cb_6 := Ab.cv 6 (by omega) (.int .u64 (lim (V) 2)) rfl
  have cb_7 := Ab.cv 7 (by omega) (.int .u64 (lim (V) 3)) rfl
  have cb_8 := Ab.cv 8 (by omega) (.bool false) rfl
  go_wp2_with fail
  refine (C1 _).mono ?_
  rintro e w11 ⟨rfl, hb⟩
  have Ba := Arr.to' Aa hb
  have Bb := Arr.to' Ab hb
  have Bo := Arr.to' Ao hb
  have hB' := Bel.call hB hb
  clear hb ca_0 ca_1 ca_2 ca_3 ca_4 ca_5 ca_6 ca_7 ca_8 ca_9 ca_10 ca_11 ca_12 cb_0 cb_1 cb_2 cb_3 cb_4 cb_5 cb_6 cb_7 cb_8 Aa Ab Ao hB
  have Aa := Ba
  have Ab := Bb
  have Ao := Bo
  have hB := hB'
  clear Ba Bb Bo hB'
  have la_2 := Aa.lt
  have lb_2 := Ab.lt
  have lo_2 := Ao.lt
  have lB_2 := hB.size
  have Ba := (Arr.al' Aa (.cells #[.int .u64 (lim (z2) 0), .int .u64 (lim (z2) 1), .int .u64 (lim (z2) 2), .int .u64 (lim (z2) 3)] 24))
  have Bb := (Arr.al' Ab (.cells #[.int .u64 (lim (z2) 0), .int .u64 (lim (z2) 1), .int .u64 (lim (z2) 2), .int .u64 (lim (z2) 3)] 24))
  have Bo := (Arr.al' Ao (.cells #[.int .u64 (lim (z2) 0), .int .u64 (lim (z2) 1), .int .u64 (lim (z2) 2), .int .u64 (lim (z2) 3)] 24))
  have Bq : Arr ((w11.alloc (.cells #[.int .u64 (lim (z2) 0), .int .u64 (lim (z2) 1), .int .u64 (lim (z2) 2), .int .u64 (lim (z2) 3)] 24))) (w11.heap.size) 4 (fun j => .int .u64 (lim (z2) j)) := by refine Arr.mk4 ?_ ?_ ?_ ?_ ?_ ?_ ?_ ?_ <;> simp [go_sem]
  have hB' := (Bel.al hB (.cells #[.int .u64 (lim (z2) 0), .int .u64 (lim (z2) 1), .int .u64 (lim (z2) 2), .int .u64 (lim (z2) 3)] 24))
  clear Aa Ab Ao hB
  have Aa := Ba
  have Ab := Bb
  have Ao := Bo
  have Aq := Bq
  have hB := hB'
  clear Ba Bb Bo Bq hB'
  go_wp2_with fail
  apply wp_region_alloc_tail 8 (by kernel_rfl) (by kernel_rfl) (by kernel_rfl) (.cells #[.int .u64 0, .int .u64 0, .int .u64 0, .int .u64 0] 24) _ rfl (fun _ _ => by simp [go_sem])
  · intro W hW
    have ra0 := (Arr.to' Aa hW).cg 0 (by omega) (.int .u64 (lim (X) 0)) rfl
    have ra1 := (Arr.to' Aa hW).cg 1 (by omega) (.int .u64 (lim (X) 1)) rfl
    have ra2 := (Arr.to' Aa hW).cg 2 (by omega) (.int .u64 (lim (X) 2)) rfl
    have ra3 := (Arr.to' Aa hW).cg 3 (by omega) (.int .u64 (lim (X) 3)) rfl
    have ra4 := (Arr.to' Aa hW).cg 4 (by omega) (.int .u64 (lim (Y) 0)) rfl
    have ra5 := (Arr.to' Aa hW).cg 5 (by omega) (.int .u64 (lim (Y) 1)) rfl
    have ra6 := (Arr.to' Aa hW).cg 6 (by omega) (.int .u64 (lim (Y) 2)) rfl
    have ra7 := (Arr.to' Aa hW).cg 7 (by omega) (.int .u64 (lim (Y) 3)) rfl
    have ra8 := (Arr.to' Aa hW).cg 8 (by omega) (.bool false) rfl
    have ra9 := (Arr.to' Aa hW).cg 9 (by omega) (.int .u64 (lim (Z) 0)) rfl
    have ra10 := (Arr.to' Aa hW).cg 10 (by omega) (.int .u64 (lim (Z) 1)) rfl
    have ra11 := (Arr.to' Aa hW).cg 11 (by omega) (.int .u64 (lim (Z) 2)) rfl
    have ra12 := (Arr.to' Aa hW).cg 12 (by omega) (.int .u64 (lim (Z) 3)) rfl
    have rb0 := (Arr.to' Ab hW).cg 0 (by omega) (.int .u64 (lim (U) 0)) rfl
    have rb1 := (Arr.to' Ab hW).cg 1 (by omega) (.int .u64 (lim (U) 1)) rfl
    have rb2 := (Arr.to' Ab hW).cg 2 (by omega) (.int .u64 (lim (U) 2)) rfl
    have rb3 := (Arr.to' Ab hW).cg 3 (by omega) (.int .u64 (lim (U) 3)) rfl
    have rb4 := (Arr.to' Ab hW).cg 4 (by omega) (.int .u64 (lim (V) 0)) rfl
    have rb5 := (Arr.to' Ab hW).cg 5 (by omega) (.int .u64 (lim (V) 1)) rfl
    have rb6 := (Arr.to' Ab hW).cg 6 (by omega) (.int .u64 (lim (V) 2)) rfl
    have rb7 := (Arr.to' Ab hW).cg 7 (by omega) (.int .u64 (lim (V) 3)) rfl
    have rb8 := (Arr.to' Ab hW).cg 8 (by omega) (.bool false) rfl
    have rq0 := fun ds os => cell_regrown ((Arr.to' Aq hW).c 0 (by omega)) ds os
    have rq1 := fun ds os => cell_regrown ((Arr.to' Aq hW).c 1 (by omega)) ds os
    have rq2 := fun ds os => cell_regrown ((Arr.to' Aq hW).c 2 (by omega)) ds os
    have rq3 := fun ds os => cell_regrown ((Arr.to' Aq hW).c 3 (by omega)) ds os
    simp only [List.take_succ_cons, List.take_zero]
    repeat (go_big_quiet_step (first | (go_at_call 42; with_reducible first | exact Calls.regrown_of (C1 _)) | (go_at_call 46; with_reducible first | exact Calls.regrown_of (C2 _) | exact Calls.regrown_of (C4 _) | exact Calls.regrown_of (C5 _)) | (go_at_call 45; with_reducible first | exact Calls.regrown_of (C3 _) | exact Calls.regrown_of (C6 _)) | (go_at_call 32; with_reducible first | exact Calls.regrown_of (C7 _))))
    exact wpQuiet_nil rfl
  intro v2 w12 hb1 hb2
  simp only [List.drop_succ_cons, List.drop_zero, Act.put, List.setIfInBounds_toArray, List.set_cons_succ, List.set_cons_zero]
  have Ea := Arr.to' Aa hb1
  have la_v2 := Ea.lt
  have Ba := Arr.to' (Arr.al' Ea (.cells #[.int .u64 0, .int .u64 0, .int .u64 0, .int .u64 0] 24)) hb2
  have Eb := Arr.to' Ab hb1
  have lb_v2 := Eb.lt
  have Bb := Arr.to' (Arr.al' Eb (.cells #[.int .u64 0, .int .u64 0, .int .u64 0, .int .u64 0] 24)) hb2
  have Eo := Arr.to' Ao hb1
  have lo_v2 := Eo.lt
  have Bo := Arr.to' (Arr.al' Eo (.cells #[.int .u64 0, .int .u64 0, .int .u64 0, .int .u64 0] 24)) hb2
  have Eq := Arr.to' Aq hb1
  have lq_v2 := Eq.lt
  have Bq := Arr.to' (Arr.al' Eq (.cells #[.int .u64 0, .int .u64 0, .int .u64 0, .int .u64 0] 24)) hb2
  have Bm := (Arr.mk4 (w := (v2.alloc (.cells #[.int .u64 0, .int .u64 0, .int .u64 0, .int .u64 0] 24))) (f := fun _ => .int .u64 0) (b := v2.heap.size) (by simp [go_sem]) (by simp [go_sem]) (by simp [go_sem]) (by simp [go_sem]) (by simp [go_sem]) (by simp [go_sem]) (by simp [go_sem]) (by simp [go_sem])).below hb2 (by go_size)
  have lB_v2 := (Bel.call hB hb1).size
  have hB' := Bel.call (Bel.al (Bel.call hB hb1) (.cells #[.int .u64 0, .int .u64 0, .int .u64 0, .int .u64 0] 24)) hb2
  clear hb1 hb2 Ea Eb Eo Eq Aa Ab Ao Aq hB
  have Aa := Ba
  have Ab := Bb
  have Ao := Bo
  have Aq := Bq
  have Am := Bm
  have hB := hB'
  clear Ba Bb Bo Bq Bm hB'
  have cm := Am.c
  have zm := Am.z
  have Ba := Arr.st4o (b' := v2.heap.size) Aa (by have := Aa.lt; have := Am.lt; omega) (M)
  have Bb := Arr.st4o (b' := v2.heap.size) Ab (by have := Ab.lt; have := Am.lt; omega) (M)
  have Bo := Arr.st4o (b' := v2.heap.size) Ao (by have := Ao.lt; have := Am.lt; omega) (M)
  have Bq := Arr.st4o (b' := v2.heap.size) Aq (by have := Aq.lt; have := Am.lt; omega) (M)
  have Bm := Arr.st4 Am (M)
  have hB' := Bel.st4 hB (b := v2.heap.size) (by have := hB.size; omega) (M)
  clear Aa Ab Ao Aq Am hB
  have Aa := Ba
  have Ab := Bb
  have Ao := Bo
  have Aq := Bq
  have Am := Bm
  have hB := hB'
  clear Ba Bb Bo Bq Bm hB'
  go_wp2_with fail
  apply wp_region_alloc_tail 11 (by kernel_rfl) (by kernel_rfl) (by kernel_rfl) (.cells #[.int .u64 0, .int .u64 0, .int .u64 0, .int .u64 0] 24) _ rfl (fun _ _ => by simp [go_sem])
  · intro W hW
    have ra0 := (Arr.to' Aa hW).cg 0 (by omega) (.int .u64 (lim (X) 0)) rfl
    have ra1 := (Arr.to' Aa hW).cg 1 (by omega) (.int .u64 (lim (X) 1)) rfl
    have ra2 := (Arr.to' Aa hW).cg 2 (by omega) (.int .u64 (lim (X) 2)) rfl
    have ra3 := (Arr.to' Aa hW).cg 3 (by omega) (.int .u64 (lim (X) 3)) rfl
    have ra4 := (Arr.to' Aa hW).cg 4 (by omega) (.int .u64 (lim (Y) 0)) rfl
    have ra5 := (Arr.to' Aa hW).cg 5 (by omega) (.int .u64 (lim (Y) 1)) rfl
    have ra6 := (Arr.to' Aa hW).cg 6 (by omega) (.int .u64 (lim (Y) 2)) rfl
    have ra7 := (Arr.to' Aa hW).cg 7 (by omega) (.int .u64 (lim (Y) 3)) rfl
    have ra8 := (Arr.to' Aa hW).cg 8 (by omega) (.bool false) rfl
    have ra9 := (Arr.to' Aa hW).cg 9 (by omega) (.int .u64 (lim (Z) 0)) rfl
    have ra10 := (Arr.to' Aa hW).cg 10 (by omega) (.int .u64 (lim (Z) 1)) rfl
    have ra11 := (Arr.to' Aa hW).cg 11 (by omega) (.int .u64 (lim (Z) 2)) rfl
    have ra12 := (Arr.to' Aa hW).cg 12 (by omega) (.int .u64 (lim (Z) 3)) rfl
    have rb0 := (Arr.to' Ab hW).cg 0 (by omega) (.int .u64 (lim (U) 0)) rfl
    have rb1 := (Arr.to' Ab hW).cg 1 (by omega) (.int .u64 (lim (U) 1)) rfl
    have rb2 := (Arr.to' Ab hW).cg 2 (by omega) (.int .u64 (lim (U) 2)) rfl
    have rb3 := (Arr.to' Ab hW).cg 3 (by omega) (.int .u64 (lim (U) 3)) rfl
    have rb4 := (Arr.to' Ab hW).cg 4 (by omega) (.int .u64 (lim (V) 0)) rfl
    have rb5 := (Arr.to' Ab hW).cg 5 (by omega) (.int .u64 (lim (V) 1)) rfl
    have rb6 := (Arr.to' Ab hW).cg 6 (by omega) (.int .u64 (lim (V) 2)) rfl
    have rb7 := (Arr.to' Ab hW).cg 7 (by omega) (.int .u64 (lim (V) 3)) rfl
    have rb8 := (Arr.to' Ab hW).cg 8 (by omega) (.bool false) rfl
    have rq0 := fun ds os => cell_regrown ((Arr.to' Aq hW).c 0 (by omega)) ds os
    have rq1 := fun ds os => cell_regrown ((Arr.to' Aq hW).c 1 (by omega)) ds os
    have rq2 := fun ds os => cell_regrown ((Arr.to' Aq hW).c 2 (by omega)) ds os
    have rq3 := fun ds os => cell_regrown ((Arr.to' Aq hW).c 3 (by omega)) ds os
    simp only [List.take_succ_cons, List.take_zero]
    repeat (go_big_quiet_step (first | (go_at_call 42; with_reducible first | exact Calls.regrown_of (C1 _)) | (go_at_call 46; with_reducible first | exact Calls.regrown_of (C2 _) | exact Calls.regrown_of (C4 _) | exact Calls.regrown_of (C5 _)) | (go_at_call 45; with_reducible first | exact Calls.regrown_of (C3 _) | exact Calls.regrown_of (C6 _)) | (go_at_call 32; with_reducible first | exact Calls.regrown_of (C7 _))))
    exact wpQuiet_nil rfl
  intro v3 w13 hb1 hb2
  simp only [List.drop_succ_cons, List.drop_zero, Act.put, List.setIfInBounds_toArray, List.set_cons_succ, List.set_cons_zero]
  have Ea := Arr.to' Aa hb1
  have la_v3 := Ea.lt
  have Ba := Arr.to' (Arr.al' Ea (.cells #[.int .u64 0, .int .u64 0, .int .u64 0, .int .u64 0] 24)) hb2
  have Eb := Arr.to' Ab hb1
  have lb_v3 := Eb.lt
  have Bb := Arr.to' (Arr.al' Eb (.cells #[.int .u64 0, .int .u64 0, .int .u64 0, .int .u64 0] 24)) hb2
  have Eo := Arr.to' Ao hb1
  have lo_v3 := Eo.lt
  have Bo := Arr.to' (Arr.al' Eo (.cells #[.int .u64 0, .int .u64 0, .int .u64 0, .int .u64 0] 24)) hb2
  have Eq := Arr.to' Aq hb1
  have lq_v3 := Eq.lt
  have Bq := Arr.to' (Arr.al' Eq (.cells #[.int .u64 0, .int .u64 0, .int .u64 0, .int .u64 0] 24)) hb2
  have Em := Arr.to' Am hb1
  have lm_v3 := Em.lt
  have Bm := Arr.to' (Arr.al' Em (.cells #[.int .u64 0, .int .u64 0, .int .u64 0, .int .u64 0] 24)) hb2
  have Bn := (Arr.mk4 (w := (v3.alloc (.cells #[.int .u64 0, .int .u64 0, .int .u64 0, .int .u64 0] 24))) (f := fun _ => .int .u64 0) (b := v3.heap.size) (by simp [go_sem]) (by simp [go_sem]) (by simp [go_sem]) (by simp [go_sem]) (by simp [go_sem]) (by simp [go_sem]) (by simp [go_sem]) (by simp [go_sem])).below hb2 (by go_size)
  have lB_v3 := (Bel.call hB hb1).size
  have hB' := Bel.call (Bel.al (Bel.call hB hb1) (.cells #[.int .u64 0, .int .u64 0, .int .u64 0, .int .u64 0] 24)) hb2
  clear hb1 hb2 Ea Eb Eo Eq Em Aa Ab Ao Aq Am hB
  have Aa := Ba
  have Ab := Bb
  have Ao := Bo
  have Aq := Bq
  have Am := Bm
  have An := Bn
  have hB := hB'
  clear Ba Bb Bo Bq Bm Bn hB'
  have cn := An.c
  have zn := An.z
  have Ba := Arr.st4o (b' := v3.heap.size) Aa (by have := Aa.lt; have := An.lt; omega) (N)
  have Bb := Arr.st4o (b' := v3.heap.size) Ab (by have := Ab.lt; have := An.lt; omega) (N)
  have Bo := Arr.st4o (b' := v3.heap.size) Ao (by have := Ao.lt; have := An.lt; omega) (N)
  have Bq := Arr.st4o (b' := v3.heap.size) Aq (by have := Aq.lt; have := An.lt; omega) (N)
  have Bm := Arr.st4o (b' := v3.heap.size) Am (by have := Am.lt; have := An.lt; omega) (N)
  have Bn := Arr.st4 An (N)
  have hB' := Bel.st4 hB (b := v3.heap.size) (by have := hB.size; omega) (N)
  clear Aa Ab Ao Aq Am An hB
  have Aa := Ba
  have Ab := Bb
  have Ao := Bo
  have Aq := Bq
  have Am := Bm
  have An := Bn
  have hB := hB'
  clear Ba Bb Bo Bq Bm Bn hB'
  have ca_0 := Aa.cv 0 (by omega) (.int .u64 (lim (X) 0)) rfl
  have ca_1 := Aa.cv 1 (by omega) (.int .u64 (lim (X) 1)) rfl
  have ca_2 := Aa.cv 2 (by omega) (.int .u64 (lim (X) 2)) rfl
  have ca_3 := Aa.cv 3 (by omega) (.int .u64 (lim (X) 3)) rfl
  have ca_4 := Aa.cv 4 (by omega) (.int .u64 (lim (Y) 0)) rfl
  have ca_5 := Aa.cv 5 (by omega) (.int .u64 (lim (Y) 1)) rfl
  have ca_6 := Aa.cv 6 (by omega) (.int .u64 (lim (Y) 2)) rfl
  have ca_7 := Aa.cv 7 (by omega) (.int .u64 (lim (Y) 3)) rfl
  have ca_8 := Aa.cv 8 (by omega) (.bool false) rfl
  have ca_9 := Aa.cv 9 (by omega) (.int .u64 (lim (Z) 0)) rfl
  have ca_10 := Aa.cv 10 (by omega) (.int .u64 (lim (Z) 1)) rfl
  have ca_11 := Aa.cv 11 (by omega) (.int .u64 (lim (Z) 2)) rfl
  have ca_12 := Aa.cv 12 (by omega) (.int .u64 (lim (Z) 3)) rfl
  have cm := Am.c
  have cn := An.c
  go_wp2_with fail
  refine (C7 _).mono ?_
  rintro e w14 ⟨rfl, hb⟩
  have Bo := Arr.to' Ao hb
  have hB' := Bel.call hB hb
  clear hb cn zn ca_0 ca_1 ca_2 ca_3 ca_4 ca_5 ca_6 ca_7 ca_8 ca_9 ca_10 ca_11 ca_12 cm Aa Ab Ao Aq Am An hB
  have Ao := Bo
  have hB := hB'
  clear Bo hB'
  have hS := hB.size
  have co_0 := Ao.cv 0 (by omega) (.int .u64 0) rfl
  have co_1 := Ao.cv 1 (by omega) (.int .u64 0) rfl
  have co_2 := Ao.cv 2 (by omega) (.int .u64 0) rfl
  have co_3 := Ao.cv 3 (by omega) (.int .u64 0) rfl
  have co_4 := Ao.cv 4 (by omega) (.int .u64 0) rfl
  have co_5 := Ao.cv 5 (by omega) (.int .u64 0) rfl
  have co_6 := Ao.cv 6 (by omega) (.int .u64 0) rfl
  have co_7 := Ao.cv 7 (by omega) (.int .u64 0) rfl
  have co_8 := Ao.cv 8 (by omega) (.bool false) rfl
  have co_9 := Ao.cv 9 (by omega) (.int .u64 0) rfl
  have co_10 := Ao.cv 10 (by omega) (.int .u64 0) rfl
  have co_11 := Ao.cv 11 (by omega) (.int .u64 0) rfl
  have co_12 := Ao.cv 12 (by omega) (.int .u64 0) rfl
  have zo := Ao.z
  go_wp2_with fail
  refine bodyPost_ret (v := jv x y false z) (by simp [results, Tryz.results24, go_sem, co_0, co_1, co_2, co_3, co_4, co_5, co_6, co_7, co_8, co_9, co_10, co_11, co_12]) rfl ⟨rfl, ?_⟩
  go_grown
set_option maxHeartbeats 8000000 in
theorem add_core (X Y U V x y z P Q : Int) (i k l n : Bool) (w : World)
    (C1 : ∀ W, Calls Tryz.prog 23 #[pv X Y i] W fun e w' => e = .returned (jv X Y i 1) ∧ Below W.heap.size W w')
    (C2 : ∀ W, Calls Tryz.prog 24 #[jv X Y i 1, pv U V k] W fun e w' => e = .returned (jv x y l z) ∧ Below W.heap.size W w')
    (C3 : ∀ W, Calls Tryz.prog 25 #[jv x y l z] W fun e w' => e = .returned (pv P Q n) ∧ Below W.heap.size W w') :
    Calls Tryz.prog 6 #[pv X Y i, pv U V k] w fun e w' => e = .returned (pv P Q n) ∧ Below w.heap.size w w' := by
  go_enter Tryz.func6, Tryz.ntmps6
  go_wp2_with fail
  have Ba : Arr ((((w.alloc (.cells #[.int .u64 (lim (X) 0), .int .u64 (lim (X) 1), .int .u64 (lim (X) 2), .int .u64 (lim (X) 3), .int .u64 (lim (Y) 0), .int .u64 (lim (Y) 1), .int .u64 (lim (Y) 2), .int .u64 (lim (Y) 3), .bool i] 26)).alloc (.cells #[.int .u64 (lim (U) 0), .int .u64 (lim (U) 1), .int .u64 (lim (U) 2), .int .u64 (lim (U) 3), .int .u64 (lim (V) 0), .int .u64 (lim (V) 1), .int .u64 (lim (V) 2), .int .u64 (lim (V) 3), .bool k] 26)).alloc (.cells #[.int .u64 0, .int .u64 0, .int .u64 0, .int .u64 0, .int .u64 0, .int .u64 0, .int .u64 0, .int .u64 0, .bool false] 26))) (w.heap.size) 9 (px (X) (Y) i) := by refine Arr.mk9p ?_ ?_ ?_ ?_ ?_ ?_ ?_ ?_ ?_ ?_ <;> simp [go_sem, px, sx, zx]
  have Bb : Arr ((((w.alloc (.cells #[.int .u64 (lim (X) 0), .int .u64 (lim (X) 1), .int .u64 (lim (X) 2), .int .u64 (lim (X) 3), .int .u64 (lim (Y) 0), .int .u64 (lim (Y) 1), .int .u64 (lim (Y) 2), .int .u64 (lim (Y) 3), .bool i] 26)).alloc (.cells #[.int .u64 (lim (U) 0), .int .u64 (lim (U) 1), .int .u64 (lim (U) 2), .int .u64 (lim (U) 3), .int .u64 (lim (V) 0), .int .u64 (lim (V) 1), .int .u64 (lim (V) 2), .int .u64 (lim (V) 3), .bool k] 26)).alloc (.cells #[.int .u64 0, .int .u64 0, .int .u64 0, .int .u64 0, .int .u64 0, .int .u64 0, .int .u64 0, .int .u64 0, .bool false] 26))) (w.heap.size + 1) 9 (px (U) (V) k) := by refine Arr.mk9p ?_ ?_ ?_ ?_ ?_ ?_ ?_ ?_ ?_ ?_ <;> simp [go_sem, px, sx, zx]
  have Bo : Arr ((((w.alloc (.cells #[.int .u64 (lim (X) 0), .int .u64 (lim (X) 1), .int .u64 (lim (X) 2), .int .u64 (lim (X) 3), .int .u64 (lim (Y) 0), .int .u64 (lim (Y) 1), .int .u64 (lim (Y) 2), .int .u64 (lim (Y) 3), .bool i] 26)).alloc (.cells #[.int .u64 (lim (U) 0), .int .u64 (lim (U) 1), .int .u64 (lim (U) 2), .int .u64 (lim (U) 3), .int .u64 (lim (V) 0), .int .u64 (lim (V) 1), .int .u64 (lim (V) 2), .int .u64 (lim (V) 3), .bool k] 26)).alloc (.cells #[.int .u64 0, .int .u64 0, .int .u64 0, .int .u64 0, .int .u64 0, .int .u64 0, .int .u64 0, .int .u64 0, .bool false] 26))) (w.heap.size + 1 + 1) 9 (zx 8) := by refine Arr.mk9p ?_ ?_ ?_ ?_ ?_ ?_ ?_ ?_ ?_ ?_ <;> simp [go_sem, px, sx, zx]
  have hB' : Below w.heap.size w (((w.alloc (.cells #[.int .u64 (lim (X) 0), .int .u64 (lim (X) 1), .int .u64 (lim (X) 2), .int .u64 (lim (X) 3), .int .u64 (lim (Y) 0), .int .u64 (lim (Y) 1), .int .u64 (lim (Y) 2), .int .u64 (lim (Y) 3), .bool i] 26)).alloc (.cells #[.int .u64 (lim (U) 0), .int .u64 (lim (U) 1), .int .u64 (lim (U) 2), .int .u64 (lim (U) 3), .int .u64 (lim (V) 0), .int .u64 (lim (V) 1), .int .u64 (lim (V) 2), .int .u64 (lim (V) 3), .bool k] 26)).alloc (.cells #[.int .u64 0, .int .u64 0, .int .u64 0, .int .u64 0, .int .u64 0, .int .u64 0, .int .u64 0, .int .u64 0, .bool false] 26)) := by go_grown
  have Aa := Ba
  have Ab := Bb
  have Ao := Bo
  have hB := hB'
  clear Ba Bb Bo hB'
  have ra0 := Aa.cg 0 (by omega) (.int .u64 (lim (X) 0)) rfl
  have ra1 := Aa.cg 1 (by omega) (.int .u64 (lim (X) 1)) rfl
  have ra2 := Aa.cg 2 (by omega) (.int .u64 (lim (X) 2)) rfl
  have ra3 := Aa.cg 3 (by omega) (.int .u64 (lim (X) 3)) rfl
  have ra4 := Aa.cg 4 (by omega) (.int .u64 (lim (Y) 0)) rfl
  have ra5 := Aa.cg 5 (by omega) (.int .u64 (lim (Y) 1)) rfl
  have ra6 := Aa.cg 6 (by omega) (.int .u64 (lim (Y) 2)) rfl
  have ra7 := Aa.cg 7 (by omega) (.int .u64 (lim (Y) 3)) rfl
  have ra8 := Aa.cg 8 (by omega) (.bool i) rfl
  have rb0 := Ab.cg 0 (by omega) (.int .u64 (lim (U) 0)) rfl
  have rb1 := Ab.cg 1 (by omega) (.int .u64 (lim (U) 1)) rfl
  have rb2 := Ab.cg 2 (by omega) (.int .u64 (lim (U) 2)) rfl
  have rb3 := Ab.cg 3 (by omega) (.int .u64 (lim (U) 3)) rfl
  have rb4 := Ab.cg 4 (by omega) (.int .u64 (lim (V) 0)) rfl
  have rb5 := Ab.cg 5 (by omega) (.int .u64 (lim (V) 1)) rfl
  have rb6 := Ab.cg 6 (by omega) (.int .u64 (lim (V) 2)) rfl
  have rb7 := Ab.cg 7 (by omega) (.int .u64 (lim (V) 3)) rfl
  have rb8 := Ab.cg 8 (by omega) (.bool k) rfl
  refine wp_region_below_tail 5 (by kernel_rfl) (by kernel_rfl) ?_
  simp only [List.take_succ_cons, List.take_zero, List.drop_succ_cons, List.drop_zero]
  repeat (go_big_quiet_step (first | (go_at_call 23; with_reducible first | exact Calls.regrown_of (C1 _)) | (go_at_call 24; with_reducible first | exact Calls.regrown_of (C2 _)) | (go_at_call 25; with_reducible first | exact Calls.regrown_of (C3 _))))
  refine wpQuiet_nil ?_
  intro w1 hw'
  obtain ⟨⟨dq, osq⟩, hw''⟩ := hw'
  have hb := below_of hw''
  clear hw''
  have Bo := Arr.to' Ao hb
  have hB' := Bel.call hB hb
  clear hb ra0 ra1 ra2 ra3 ra4 ra5 ra6 ra7 ra8 rb0 rb1 rb2 rb3 rb4 rb5 rb6 rb7 rb8 Aa Ab Ao hB
  have Ao := Bo
  have hB := hB'
  clear Bo hB'
  have hS := hB.size
  have co_0 := Ao.cv 0 (by omega) (.int .u64 0) rfl
  have co_1 := Ao.cv 1 (by omega) (.int .u64 0) rfl
  have co_2 := Ao.cv 2 (by omega) (.int .u64 0) rfl
  have co_3 := Ao.cv 3 (by omega) (.int .u64 0) rfl
  have co_4 := Ao.cv 4 (by omega) (.int .u64 0) rfl
  have co_5 := Ao.cv 5 (by omega) (.int .u64 0) rfl
  have co_6 := Ao.cv 6 (by omega) (.int .u64 0) rfl
  have co_7 := Ao.cv 7 (by omega) (.int .u64 0) rfl
  have co_8 := Ao.cv 8 (by omega) (.bool false) rfl
  have zo := Ao.z
  go_wp2_with fail
  refine bodyPost_ret (v := pv P Q n) (by simp [results, Tryz.results6, go_sem, co_0, co_1, co_2, co_3, co_4, co_5, co_6, co_7, co_8]) rfl ⟨rfl, ?_⟩
  go_grown
end Go.Proofs.YtgekafmojedlkaaGreat
