/- The reference's Add. -/
import Derived.Deep.Cut
import Derived.Test.YtgekafmojedlkaaGreatJ42
set_option linter.all false
set_option maxRecDepth 100000
namespace Go.Proofs.YtgekafmojedlkaaGreat
open Go.RowKit Go.Sort
attribute [local go_sem] eq24
set_option maxHeartbeats 8000000 in
theorem rsum_a (X Y U V : Int) (k : Bool) (w : World) : Calls Tryz.prog 7 #[pv X Y true, pv U V k] w fun e w' => e = .returned (pv U V k) ∧ Below w.heap.size w w' := by
  go_enter Tryz.func7, Tryz.ntmps7
  have Ba : Arr ((((w.alloc (.cells #[.int .u64 (lim (X) 0), .int .u64 (lim (X) 1), .int .u64 (lim (X) 2), .int .u64 (lim (X) 3), .int .u64 (lim (Y) 0), .int .u64 (lim (Y) 1), .int .u64 (lim (Y) 2), .int .u64 (lim (Y) 3), .bool true] 26)).alloc (.cells #[.int .u64 (lim (U) 0), .int .u64 (lim (U) 1), .int .u64 (lim (U) 2), .int .u64 (lim (U) 3), .int .u64 (lim (V) 0), .int .u64 (lim (V) 1), .int .u64 (lim (V) 2), .int .u64 (lim (V) 3), .bool k] 26)).alloc (.cells #[.int .u64 0, .int .u64 0, .int .u64 0, .int .u64 0, .int .u64 0, .int .u64 0, .int .u64 0, .int .u64 0, .bool false] 26))) (w.heap.size) 9 (px (X) (Y) true) := by refine Arr.mk9p ?_ ?_ ?_ ?_ ?_ ?_ ?_ ?_ ?_ ?_ <;> simp [go_sem, px, sx, zx, trx, trz]
  have Bb : Arr ((((w.alloc (.cells #[.int .u64 (lim (X) 0), .int .u64 (lim (X) 1), .int .u64 (lim (X) 2), .int .u64 (lim (X) 3), .int .u64 (lim (Y) 0), .int .u64 (lim (Y) 1), .int .u64 (lim (Y) 2), .int .u64 (lim (Y) 3), .bool true] 26)).alloc (.cells #[.int .u64 (lim (U) 0), .int .u64 (lim (U) 1), .int .u64 (lim (U) 2), .int .u64 (lim (U) 3), .int .u64 (lim (V) 0), .int .u64 (lim (V) 1), .int .u64 (lim (V) 2), .int .u64 (lim (V) 3), .bool k] 26)).alloc (.cells #[.int .u64 0, .int .u64 0, .int .u64 0, .int .u64 0, .int .u64 0, .int .u64 0, .int .u64 0, .int .u64 0, .bool false] 26))) (w.heap.size + 1) 9 (px (U) (V) k) := by refine Arr.mk9p ?_ ?_ ?_ ?_ ?_ ?_ ?_ ?_ ?_ ?_ <;> simp [go_sem, px, sx, zx, trx, trz]
  have Bo : Arr ((((w.alloc (.cells #[.int .u64 (lim (X) 0), .int .u64 (lim (X) 1), .int .u64 (lim (X) 2), .int .u64 (lim (X) 3), .int .u64 (lim (Y) 0), .int .u64 (lim (Y) 1), .int .u64 (lim (Y) 2), .int .u64 (lim (Y) 3), .bool true] 26)).alloc (.cells #[.int .u64 (lim (U) 0), .int .u64 (lim (U) 1), .int .u64 (lim (U) 2), .int .u64 (lim (U) 3), .int .u64 (lim (V) 0), .int .u64 (lim (V) 1), .int .u64 (lim (V) 2), .int .u64 (lim (V) 3), .bool k] 26)).alloc (.cells #[.int .u64 0, .int .u64 0, .int .u64 0, .int .u64 0, .int .u64 0, .int .u64 0, .int .u64 0, .int .u64 0, .bool false] 26))) (w.heap.size + 1 + 1) 9 (zx 8) := by refine Arr.mk9p ?_ ?_ ?_ ?_ ?_ ?_ ?_ ?_ ?_ ?_ <;> simp [go_sem, px, sx, zx, trx, trz]
  have hB' : Below w.heap.size w (((w.alloc (.cells #[.int .u64 (lim (X) 0), .int .u64 (lim (X) 1), .int .u64 (lim (X) 2), .int .u64 (lim (X) 3), .int .u64 (lim (Y) 0), .int .u64 (lim (Y) 1), .int .u64 (lim (Y) 2), .int .u64 (lim (Y) 3), .bool true] 26)).alloc (.cells #[.int .u64 (lim (U) 0), .int .u64 (lim (U) 1), .int .u64 (lim (U) 2), .int .u64 (lim (U) 3), .int .u64 (lim (V) 0), .int .u64 (lim (V) 1), .int .u64 (lim (V) 2), .int .u64 (lim (V) 3), .bool k] 26)).alloc (.cells #[.int .u64 0, .int .u64 0, .int .u64 0, .int .u64 0, .int .u64 0, .int .u64 0, .int .u64 0, .int .u64 0, .bool false] 26)) := by go_grown
  have Aa := Ba
  have Ab := Bb
  have Ao := Bo
  have hB := hB'
  clear Ba Bb Bo hB'
  have ca_0 := Aa.cv 0 (by omega) (.int .u64 (lim (X) 0)) rfl
  have ca_1 := Aa.cv 1 (by omega) (.int .u64 (lim (X) 1)) rfl
  have ca_2 := Aa.cv 2 (by omega) (.int .u64 (lim (X) 2)) rfl
  have ca_3 := Aa.cv 3 (by omega) (.int .u64 (lim (X) 3)) rfl
  have ca_4 := Aa.cv 4 (by omega) (.int .u64 (lim (Y) 0)) rfl
  have ca_5 := Aa.cv 5 (by omega) (.int .u64 (lim (Y) 1)) rfl
  have ca_6 := Aa.cv 6 (by omega) (.int .u64 (lim (Y) 2)) rfl
  have ca_7 := Aa.cv 7 (by omega) (.int .u64 (lim (Y) 3)) rfl
  have ca_8 := Aa.cv 8 (by omega) (.bool true) rfl
  have cb_0 := Ab.cv 0 (by omega) (.int .u64 (lim (U) 0)) rfl
  have cb_1 := Ab.cv 1 (by omega) (.int .u64 (lim (U) 1)) rfl
  have cb_2 := Ab.cv 2 (by omega) (.int .u64 (lim (U) 2)) rfl
  have cb_3 := Ab.cv 3 (by omega) (.int .u64 (lim (U) 3)) rfl
  have cb_4 := Ab.cv 4 (by omega) (.int .u64 (lim (V) 0)) rfl
  have cb_5 := Ab.cv 5 (by omega) (.int .u64 (lim (V) 1)) rfl
  have cb_6 := Ab.cv 6 (by omega) (.int .u64 (lim (V) 2)) rfl
  have cb_7 := Ab.cv 7 (by omega) (.int .u64 (lim (V) 3)) rfl
  have cb_8 := Ab.cv 8 (by omega) (.bool k) rfl
  have hS := hB.size
  have co_0 := Ao.cv 0 (by omega) (.int .u64 0) rfl
  have co_1 := Ao.cv 1 (by omega) (.int .u64 0) rfl
  have co_2 := Ao.cv 2 (by omega) (.int .u64 0) rfl
  have co_3 := Ao.cv 3 (by omega) (.int .u64 0) rfl
  have co_4 := Ao.cv 4 (by omega) (.int .u64 0) rfl
  have co_5 := Ao.cv 5 (by omega) (.int .u64 0) rfl
  have co_6 := Ao.cv 6 (by omega) (.int .u64 0) rfl
  have co_7 := Ao.cv 7 (by omega) (.int .u64 0) rfl
  have co_8 := Ao.cv 8 (by omega) (.bool false) rfl
  have zo := Ao.z
  go_wp2_with fail
  refine bodyPost_ret (v := pv U V k) (by simp [results, Tryz.results7, go_sem, co_0, co_1, co_2, co_3, co_4, co_5, co_6, co_7, co_8]) rfl ⟨rfl, ?_⟩
  go_grown
set_option maxHeartbeats 8000000 in
theorem rsum_b (X Y U V : Int) (w : World) : Calls Tryz.prog 7 #[pv X Y false, pv U V true] w fun e w' => e = .returned (pv X Y false) ∧ Below w.heap.size w w' := by
  go_enter Tryz.func7, Tryz.ntmps7
  have Ba : Arr ((((w.alloc (.cells #[.int .u64 (lim (X) 0), .int .u64 (lim (X) 1), .int .u64 (lim (X) 2), .int .u64 (lim (X) 3), .int .u64 (lim (Y) 0), .int .u64 (lim (Y) 1), .int .u64 (lim (Y) 2), .int .u64 (lim (Y) 3), .bool false] 26)).alloc (.cells #[.int .u64 (lim (U) 0), .int .u64 (lim (U) 1), .int .u64 (lim (U) 2), .int .u64 (lim (U) 3), .int .u64 (lim (V) 0), .int .u64 (lim (V) 1), .int .u64 (lim (V) 2), .int .u64 (lim (V) 3), .bool true] 26)).alloc (.cells #[.int .u64 0, .int .u64 0, .int .u64 0, .int .u64 0, .int .u64 0, .int .u64 0, .int .u64 0, .int .u64 0, .bool false] 26))) (w.heap.size) 9 (px (X) (Y) false) := by refine Arr.mk9p ?_ ?_ ?_ ?_ ?_ ?_ ?_ ?_ ?_ ?_ <;> simp [go_sem, px, sx, zx, trx, trz]
  have Bb : Arr ((((w.alloc (.cells #[.int .u64 (lim (X) 0), .int .u64 (lim (X) 1), .int .u64 (lim (X) 2), .int .u64 (lim (X) 3), .int .u64 (lim (Y) 0), .int .u64 (lim (Y) 1), .int .u64 (lim (Y) 2), .int .u64 (lim (Y) 3), .bool false] 26)).alloc (.cells #[.int .u64 (lim (U) 0), .int .u64 (lim (U) 1), .int .u64 (lim (U) 2), .int .u64 (lim (U) 3), .int .u64 (lim (V) 0), .int .u64 (lim (V) 1), .int .u64 (lim (V) 2), .int .u64 (lim (V) 3), .bool true] 26)).alloc (.cells #[.int .u64 0, .int .u64 0, .int .u64 0, .int .u64 0, .int .u64 0, .int .u64 0, .int .u64 0, .int .u64 0, .bool false] 26))) (w.heap.size + 1) 9 (px (U) (V) true) := by refine Arr.mk9p ?_ ?_ ?_ ?_ ?_ ?_ ?_ ?_ ?_ ?_ <;> simp [go_sem, px, sx, zx, trx, trz]
  have Bo : Arr ((((w.alloc (.cells #[.int .u64 (lim (X) 0), .int .u64 (lim (X) 1), .int .u64 (lim (X) 2), .int .u64 (lim (X) 3), .int .u64 (lim (Y) 0), .int .u64 (lim (Y) 1), .int .u64 (lim (Y) 2), .int .u64 (lim (Y) 3), .bool false] 26)).alloc (.cells #[.int .u64 (lim (U) 0), .int .u64 (lim (U) 1), .int .u64 (lim (U) 2), .int .u64 (lim (U) 3), .int .u64 (lim (V) 0), .int .u64 (lim (V) 1), .int .u64 (lim (V) 2), .int .u64 (lim (V) 3), .bool true] 26)).alloc (.cells #[.int .u64 0, .int .u64 0, .int .u64 0, .int .u64 0, .int .u64 0, .int .u64 0, .int .u64 0, .int .u64 0, .bool false] 26))) (w.heap.size + 1 + 1) 9 (zx 8) := by refine Arr.mk9p ?_ ?_ ?_ ?_ ?_ ?_ ?_ ?_ ?_ ?_ <;> simp [go_sem, px, sx, zx, trx, trz]
  have hB' : Below w.heap.size w (((w.alloc (.cells #[.int .u64 (lim (X) 0), .int .u64 (lim (X) 1), .int .u64 (lim (X) 2), .int .u64 (lim (X) 3), .int .u64 (lim (Y) 0), .int .u64 (lim (Y) 1), .int .u64 (lim (Y) 2), .int .u64 (lim (Y) 3), .bool false] 26)).alloc (.cells #[.int .u64 (lim (U) 0), .int .u64 (lim (U) 1), .int .u64 (lim (U) 2), .int .u64 (lim (U) 3), .int .u64 (lim (V) 0), .int .u64 (lim (V) 1), .int .u64 (lim (V) 2), .int .u64 (lim (V) 3), .bool true] 26)).alloc (.cells #[.int .u64 0, .int .u64 0, .int .u64 0, .int .u64 0, .int .u64 0, .int .u64 0, .int .u64 0, .int .u64 0, .bool false] 26)) := by go_grown
  have Aa := Ba
  have Ab := Bb
  have Ao := Bo
  have hB := hB'
  clear Ba Bb Bo hB'
  have ca_0 := Aa.cv 0 (by omega) (.int .u64 (lim (X) 0)) rfl
  have ca_1 := Aa.cv 1 (by omega) (.int .u64 (lim (X) 1)) rfl
  have ca_2 := Aa.cv 2 (by omega) (.int .u64 (lim (X) 2)) rfl
  have ca_3 := Aa.cv 3 (by omega) (.int .u64 (lim (X) 3)) rfl
  have ca_4 := Aa.cv 4 (by omega) (.int .u64 (lim (Y) 0)) rfl
  have ca_5 := Aa.cv 5 (by omega) (.int .u64 (lim (Y) 1)) rfl
  have ca_6 := Aa.cv 6 (by omega) (.int .u64 (lim (Y) 2)) rfl
  have ca_7 := Aa.cv 7 (by omega) (.int .u64 (lim (Y) 3)) rfl
  have ca_8 := Aa.cv 8 (by omega) (.bool false) rfl
  have cb_0 := Ab.cv 0 (by omega) (.int .u64 (lim (U) 0)) rfl
  have cb_1 := Ab.cv 1 (by omega) (.int .u64 (lim (U) 1)) rfl
  have cb_2 := Ab.cv 2 (by omega) (.int .u64 (lim (U) 2)) rfl
  have cb_3 := Ab.cv 3 (by omega) (.int .u64 (lim (U) 3)) rfl
  have cb_4 := Ab.cv 4 (by omega) (.int .u64 (lim (V) 0)) rfl
  have cb_5 := Ab.cv 5 (by omega) (.int .u64 (lim (V) 1)) rfl
  have cb_6 := Ab.cv 6 (by omega) (.int .u64 (lim (V) 2)) rfl
  have cb_7 := Ab.cv 7 (by omega) (.int .u64 (lim (V) 3)) rfl
  have cb_8 := Ab.cv 8 (by omega) (.bool true) rfl
  have hS := hB.size
  have co_0 := Ao.cv 0 (by omega) (.int .u64 0) rfl
  have co_1 := Ao.cv 1 (by omega) (.int .u64 0) rfl
  have co_2 := Ao.cv 2 (by omega) (.int .u64 0) rfl
  have co_3 := Ao.cv 3 (by omega) (.int .u64 0) rfl
  have co_4 := Ao.cv 4 (by omega) (.int .u64 0) rfl
  have co_5 := Ao.cv 5 (by omega) (.int .u64 0) rfl
  have co_6 := Ao.cv 6 (by omega) (.int .u64 0) rfl
  have co_7 := Ao.cv 7 (by omega) (.int .u64 0) rfl
  have co_8 := Ao.cv 8 (by omega) (.bool false) rfl
  have zo := Ao.z
  go_wp2_with fail
  refine bodyPost_ret (v := pv X Y false) (by simp [results, Tryz.results7, go_sem, co_0, co_1, co_2, co_3, co_4, co_5, co_6, co_7, co_8]) rfl ⟨rfl, ?_⟩
  go_grown
set_option maxHeartbeats 8000000 in
theorem rsum_none (X Y U V : Int) (w : World)
    (C1 : ∀ W, Calls Tryz.prog 26 #[pv X Y false, pv U V false] W fun e w' => e = .returned (.tuple #[.agg #[.int .u64 0, .int .u64 0, .int .u64 0, .int .u64 0], .bool false]) ∧ Below W.heap.size W w') :
    Calls Tryz.prog 7 #[pv X Y false, pv U V false] w fun e w' => e = .returned (.agg #[.int .u64 0, .int .u64 0, .int .u64 0, .int .u64 0, .int .u64 0, .int .u64 0, .int .u64 0, .int .u64 0, .bool true]) ∧ Below w.heap.size w w' := by
  go_enter Tryz.func7, Tryz.ntmps7
  have Ba : Arr ((((w.alloc (.cells #[.int .u64 (lim (X) 0), .int .u64 (lim (X) 1), .int .u64 (lim (X) 2), .int .u64 (lim (X) 3), .int .u64 (lim (Y) 0), .int .u64 (lim (Y) 1), .int .u64 (lim (Y) 2), .int .u64 (lim (Y) 3), .bool false] 26)).alloc (.cells #[.int .u64 (lim (U) 0), .int .u64 (lim (U) 1), .int .u64 (lim (U) 2), .int .u64 (lim (U) 3), .int .u64 (lim (V) 0), .int .u64 (lim (V) 1), .int .u64 (lim (V) 2), .int .u64 (lim (V) 3), .bool false] 26)).alloc (.cells #[.int .u64 0, .int .u64 0, .int .u64 0, .int .u64 0, .int .u64 0, .int .u64 0, .int .u64 0, .int .u64 0, .bool false] 26))) (w.heap.size) 9 (px (X) (Y) false) := by refine Arr.mk9p ?_ ?_ ?_ ?_ ?_ ?_ ?_ ?_ ?_ ?_ <;> simp [go_sem, px, sx, zx, trx, trz]
  have Bb : Arr ((((w.alloc (.cells #[.int .u64 (lim (X) 0), .int .u64 (lim (X) 1), .int .u64 (lim (X) 2), .int .u64 (lim (X) 3), .int .u64 (lim (Y) 0), .int .u64 (lim (Y) 1), .int .u64 (lim (Y) 2), .int .u64 (lim (Y) 3), .bool false] 26)).alloc (.cells #[.int .u64 (lim (U) 0), .int .u64 (lim (U) 1), .int .u64 (lim (U) 2), .int .u64 (lim (U) 3), .int .u64 (lim (V) 0), .int .u64 (lim (V) 1), .int .u64 (lim (V) 2), .int .u64 (lim (V) 3), .bool false] 26)).alloc (.cells #[.int .u64 0, .int .u64 0, .int .u64 0, .int .u64 0, .int .u64 0, .int .u64 0, .int .u64 0, .int .u64 0, .bool false] 26))) (w.heap.size + 1) 9 (px (U) (V) false) := by refine Arr.mk9p ?_ ?_ ?_ ?_ ?_ ?_ ?_ ?_ ?_ ?_ <;> simp [go_sem, px, sx, zx, trx, trz]
  have Bo : Arr ((((w.alloc (.cells #[.int .u64 (lim (X) 0), .int .u64 (lim (X) 1), .int .u64 (lim (X) 2), .int .u64 (lim (X) 3), .int .u64 (lim (Y) 0), .int .u64 (lim (Y) 1), .int .u64 (lim (Y) 2), .int .u64 (lim (Y) 3), .bool false] 26)).alloc (.cells #[.int .u64 (lim (U) 0), .int .u64 (lim (U) 1), .int .u64 (lim (U) 2), .int .u64 (lim (U) 3), .int .u64 (lim (V) 0), .int .u64 (lim (V) 1), .int .u64 (lim (V) 2), .int .u64 (lim (V) 3), .bool false] 26)).alloc (.cells #[.int .u64 0, .int .u64 0, .int .u64 0, .int .u64 0, .int .u64 0, .int .u64 0, .int .u64 0, .int .u64 0, .bool false] 26))) (w.heap.size + 1 + 1) 9 (zx 8) := by refine Arr.mk9p ?_ ?_ ?_ ?_ ?_ ?_ ?_ ?_ ?_ ?_ <;> simp [go_sem, px, sx, zx, trx, trz]
  have hB' : Below w.heap.size w (((w.alloc (.cells #[.int .u64 (lim (X) 0), .int .u64 (lim (X) 1), .int .u64 (lim (X) 2), .int .u64 (lim (X) 3), .int .u64 (lim (Y) 0), .int .u64 (lim (Y) 1), .int .u64 (lim (Y) 2), .int .u64 (lim (Y) 3), .bool false] 26)).alloc (.cells #[.int .u64 (lim (U) 0), .int .u64 (lim (U) 1), .int .u64 (lim (U) 2), .int .u64 (lim (U) 3), .int .u64 (lim (V) 0), .int .u64 (lim (V) 1), .int .u64 (lim (V) 2), .int .u64 (lim (V) 3), .bool false] 26)).alloc (.cells #[.int .u64 0, .int .u64 0, .int .u64 0, .int .u64 0, .int .u64 0, .int .u64 0, .int .u64 0, .int .u64 0, .bool false] 26)) := by go_grown
  have Aa := Ba
  have Ab := Bb
  have Ao := Bo
  have hB := hB'
  clear Ba Bb Bo hB'
  have ca_0 := Aa.cv 0 (by omega) (.int .u64 (lim (X) 0)) rfl
  have ca_1 := Aa.cv 1 (by omega) (.int .u64 (lim (X) 1)) rfl
  have ca_2 := Aa.cv 2 (by omega) (.int .u64 (lim (X) 2)) rfl
  have ca_3 := Aa.cv 3 (by omega) (.int .u64 (lim (X) 3)) rfl
  have ca_4 := Aa.cv 4 (by omega) (.int .u64 (lim (Y) 0)) rfl
  have ca_5 := Aa.cv 5 (by omega) (.int .u64 (lim (Y) 1)) rfl
  have ca_6 := Aa.cv 6 (by omega) (.int .u64 (lim (Y) 2)) rfl
  have ca_7 := Aa.cv 7 (by omega) (.int .u64 (lim (Y) 3)) rfl
  have ca_8 := Aa.cv 8 (by omega) (.bool false) rfl
  have cb_0 := Ab.cv 0 (by omega) (.int .u64 (lim (U) 0)) rfl
  have cb_1 := Ab.cv 1 (by omega) (.int .u64 (lim (U) 1)) rfl
  have cb_2 := Ab.cv 2 (by omega) (.int .u64 (lim (U) 2)) rfl
  have cb_3 := Ab.cv 3 (by omega) (.int .u64 (lim (U) 3)) rfl
  have cb_4 := Ab.cv 4 (by omega) (.int .u64 (lim (V) 0)) rfl
  have cb_5 := Ab.cv 5 (by omega) (.int .u64 (lim (V) 1)) rfl
  have cb_6 := Ab.cv 6 (by omega) (.int .u64 (lim (V) 2)) rfl
  have cb_7 := Ab.cv 7 (by omega) (.int .u64 (lim (V) 3)) rfl
  have cb_8 := Ab.cv 8 (by omega) (.bool false) rfl
  go_wp2_with fail
  refine (C1 _).mono ?_
  rintro e w11 ⟨rfl, hb⟩
  have Ba := Arr.to' Aa hb
  have Bb := Arr.to' Ab hb
  have Bo := Arr.to' Ao hb
  have hB' := Bel.call hB hb
  clear hb ca_0 ca_1 ca_2 ca_3 ca_4 ca_5 ca_6 ca_7 ca_8 cb_0 cb_1 cb_2 cb_3 cb_4 cb_5 cb_6 cb_7 cb_8 Aa Ab Ao hB
  have Aa := Ba
  have Ab := Bb
  have Ao := Bo
  have hB := hB'
  clear Ba Bb Bo hB'
  have la_2 := Aa.lt
  have lb_2 := Ab.lt
  have lo_2 := Ao.lt
  have lB_2 := hB.size
  have Ba := (Arr.al' Aa (.cells #[.int .u64 0, .int .u64 0, .int .u64 0, .int .u64 0] 24))
  have Bb := (Arr.al' Ab (.cells #[.int .u64 0, .int .u64 0, .int .u64 0, .int .u64 0] 24))
  have Bo := (Arr.al' Ao (.cells #[.int .u64 0, .int .u64 0, .int .u64 0, .int .u64 0] 24))
  have Bt : Arr ((w11.alloc (.cells #[.int .u64 0, .int .u64 0, .int .u64 0, .int .u64 0] 24))) (w11.heap.size) 4 (fun _ => .int .u64 0) := by refine Arr.mk4 ?_ ?_ ?_ ?_ ?_ ?_ ?_ ?_ <;> simp [go_sem]
  have hB' := (Bel.al hB (.cells #[.int .u64 0, .int .u64 0, .int .u64 0, .int .u64 0] 24))
  clear Aa Ab Ao hB
  have Aa := Ba
  have Ab := Bb
  have Ao := Bo
  have At := Bt
  have hB := hB'
  clear Ba Bb Bo Bt hB'
  go_upto_if 21 with fail
  generalize ((w11.alloc (.cells #[.int .u64 0, .int .u64 0, .int .u64 0, .int .u64 0] 24))) = w12 at *
  have hS := hB.size
  have co_0 := Ao.cv 0 (by omega) (.int .u64 0) rfl
  have co_1 := Ao.cv 1 (by omega) (.int .u64 0) rfl
  have co_2 := Ao.cv 2 (by omega) (.int .u64 0) rfl
  have co_3 := Ao.cv 3 (by omega) (.int .u64 0) rfl
  have co_4 := Ao.cv 4 (by omega) (.int .u64 0) rfl
  have co_5 := Ao.cv 5 (by omega) (.int .u64 0) rfl
  have co_6 := Ao.cv 6 (by omega) (.int .u64 0) rfl
  have co_7 := Ao.cv 7 (by omega) (.int .u64 0) rfl
  have co_8 := Ao.cv 8 (by omega) (.bool false) rfl
  have zo := Ao.z
  go_wp2_with fail
  refine bodyPost_ret (v := .agg #[.int .u64 0, .int .u64 0, .int .u64 0, .int .u64 0, .int .u64 0, .int .u64 0, .int .u64 0, .int .u64 0, .bool true]) (by simp [results, Tryz.results7, go_sem, co_0, co_1, co_2, co_3, co_4, co_5, co_6, co_7, co_8]) rfl ⟨rfl, ?_⟩
  go_grown
set_option maxHeartbeats 8000000 in
theorem rsum_core (X Y U V T t2 p1 x f g y : Int) (w : World)
    (C1 : ∀ W, Calls Tryz.prog 26 #[pv X Y false, pv U V false] W fun e w' => e = .returned (.tuple #[nv T, .bool true]) ∧ Below W.heap.size W w')
    (C2 : ∀ W, Calls Tryz.prog 15 #[nv T, nv T] W fun e w' => e = .returned (nv t2) ∧ Below W.heap.size W w')
    (C3 : ∀ W, Calls Tryz.prog 16 #[nv t2, nv X] W fun e w' => e = .returned (nv p1) ∧ Below W.heap.size W w')
    (C4 : ∀ W, Calls Tryz.prog 16 #[nv p1, nv U] W fun e w' => e = .returned (nv x) ∧ Below W.heap.size W w')
    (C5 : ∀ W, Calls Tryz.prog 16 #[nv X, nv x] W fun e w' => e = .returned (nv f) ∧ Below W.heap.size W w')
    (C6 : ∀ W, Calls Tryz.prog 15 #[nv T, nv f] W fun e w' => e = .returned (nv g) ∧ Below W.heap.size W w')
    (C7 : ∀ W, Calls Tryz.prog 16 #[nv g, nv Y] W fun e w' => e = .returned (nv y) ∧ Below W.heap.size W w') :
    Calls Tryz.prog 7 #[pv X Y false, pv U V false] w fun e w' => e = .returned (pv x y false) ∧ Below w.heap.size w w' := by
  go_enter Tryz.func7, Tryz.ntmps7
  have Ba : Arr ((((w.alloc (.cells #[.int .u64 (lim (X) 0), .int .u64 (lim (X) 1), .int .u64 (lim (X) 2), .int .u64 (lim (X) 3), .int .u64 (lim (Y) 0), .int .u64 (lim (Y) 1), .int .u64 (lim (Y) 2), .int .u64 (lim (Y) 3), .bool false] 26)).alloc (.cells #[.int .u64 (lim (U) 0), .int .u64 (lim (U) 1), .int .u64 (lim (U) 2), .int .u64 (lim (U) 3), .int .u64 (lim (V) 0), .int .u64 (lim (V) 1), .int .u64 (lim (V) 2), .int .u64 (lim (V) 3), .bool false] 26)).alloc (.cells #[.int .u64 0, .int .u64 0, .int .u64 0, .int .u64 0, .int .u64 0, .int .u64 0, .int .u64 0, .int .u64 0, .bool false] 26))) (w.heap.size) 9 (px (X) (Y) false) := by refine Arr.mk9p ?_ ?_ ?_ ?_ ?_ ?_ ?_ ?_ ?_ ?_ <;> simp [go_sem, px, sx, zx, trx, trz]
  have Bb : Arr ((((w.alloc (.cells #[.int .u64 (lim (X) 0), .int .u64 (lim (X) 1), .int .u64 (lim (X) 2), .int .u64 (lim (X) 3), .int .u64 (lim (Y) 0), .int .u64 (lim (Y) 1), .int .u64 (lim (Y) 2), .int .u64 (lim (Y) 3), .bool false] 26)).alloc (.cells #[.int .u64 (lim (U) 0), .int .u64 (lim (U) 1), .int .u64 (lim (U) 2), .int .u64 (lim (U) 3), .int .u64 (lim (V) 0), .int .u64 (lim (V) 1), .int .u64 (lim (V) 2), .int .u64 (lim (V) 3), .bool false] 26)).alloc (.cells #[.int .u64 0, .int .u64 0, .int .u64 0, .int .u64 0, .int .u64 0, .int .u64 0, .int .u64 0, .int .u64 0, .bool false] 26))) (w.heap.size + 1) 9 (px (U) (V) false) := by refine Arr.mk9p ?_ ?_ ?_ ?_ ?_ ?_ ?_ ?_ ?_ ?_ <;> simp [go_sem, px, sx, zx, trx, trz]
  have Bo : Arr ((((w.alloc (.cells #[.int .u64 (lim (X) 0), .int .u64 (lim (X) 1), .int .u64 (lim (X) 2), .int .u64 (lim (X) 3), .int .u64 (lim (Y) 0), .int .u64 (lim (Y) 1), .int .u64 (lim (Y) 2), .int .u64 (lim (Y) 3), .bool false] 26)).alloc (.cells #[.int .u64 (lim (U) 0), .int .u64 (lim (U) 1), .int .u64 (lim (U) 2), .int .u64 (lim (U) 3), .int .u64 (lim (V) 0), .int .u64 (lim (V) 1), .int .u64 (lim (V) 2), .int .u64 (lim (V) 3), .bool false] 26)).alloc (.cells #[.int .u64 0, .int .u64 0, .int .u64 0, .int .u64 0, .int .u64 0, .int .u64 0, .int .u64 0, .int .u64 0, .bool false] 26))) (w.heap.size + 1 + 1) 9 (zx 8) := by refine Arr.mk9p ?_ ?_ ?_ ?_ ?_ ?_ ?_ ?_ ?_ ?_ <;> simp [go_sem, px, sx, zx, trx, trz]
  have hB' : Below w.heap.size w (((w.alloc (.cells #[.int .u64 (lim (X) 0), .int .u64 (lim (X) 1), .int .u64 (lim (X) 2), .int .u64 (lim (X) 3), .int .u64 (lim (Y) 0), .int .u64 (lim (Y) 1), .int .u64 (lim (Y) 2), .int .u64 (lim (Y) 3), .bool false] 26)).alloc (.cells #[.int .u64 (lim (U) 0), .int .u64 (lim (U) 1), .int .u64 (lim (U) 2), .int .u64 (lim (U) 3), .int .u64 (lim (V) 0), .int .u64 (lim (V) 1), .int .u64 (lim (V) 2), .int .u64 (lim (V) 3), .bool false] 26)).alloc (.cells #[.int .u64 0, .int .u64 0, .int .u64 0, .int .u64 0, .int .u64 0, .int .u64 0, .int .u64 0, .int .u64 0, .bool false] 26)) := by go_grown
  have Aa := Ba
  have Ab := Bb
  have Ao := Bo
  have hB := hB'
  clear Ba Bb Bo hB'
  have ca_0 := Aa.cv 0 (by omega) (.int .u64 (lim (X) 0)) rfl
  have ca_1 := Aa.cv 1 (by omega) (.int .u64 (lim (X) 1)) rfl
  have ca_2 := Aa.cv 2 (by omega) (.int .u64 (lim (X) 2)) rfl
  have ca_3 := Aa.cv 3 (by omega) (.int .u64 (lim (X) 3)) rfl
  have ca_4 := Aa.cv 4 (by omega) (.int .u64 (lim (Y) 0)) rfl
  have ca_5 := Aa.cv 5 (by omega) (.int .u64 (lim (Y) 1)) rfl
  have ca_6 := Aa.cv 6 (by omega) (.int .u64 (lim (Y) 2)) rfl
  have ca_7 := Aa.cv 7 (by omega) (.int .u64 (lim (Y) 3)) rfl
  have ca_8 := Aa.cv 8 (by omega) (.bool false) rfl
  have cb_0 := Ab.cv 0 (by omega) (.int .u64 (lim (U) 0)) rfl
  have cb_1 := Ab.cv 1 (by omega) (.int .u64 (lim (U) 1)) rfl
  have cb_2 := Ab.cv 2 (by omega) (.int .u64 (lim (U) 2)) rfl
  have cb_3 := Ab.cv 3 (by omega) (.int .u64 (lim (U) 3)) rfl
  have cb_4 := Ab.cv 4 (by omega) (.int .u64 (lim (V) 0)) rfl
  have cb_5 := Ab.cv 5 (by omega) (.int .u64 (lim (V) 1)) rfl
  have cb_6 := Ab.cv 6 (by omega) (.int .u64 (lim (V) 2)) rfl
  have cb_7 := Ab.cv 7 (by omega) (.int .u64 (lim (V) 3)) rfl
  have cb_8 := Ab.cv 8 (by omega) (.bool false) rfl
  go_wp2_with fail
  refine (C1 _).mono ?_
  rintro e w11 ⟨rfl, hb⟩
  have Ba := Arr.to' Aa hb
  have Bb := Arr.to' Ab hb
  have Bo := Arr.to' Ao hb
  have hB' := Bel.call hB hb
  clear hb ca_0 ca_1 ca_2 ca_3 ca_4 ca_5 ca_6 ca_7 ca_8 cb_0 cb_1 cb_2 cb_3 cb_4 cb_5 cb_6 cb_7 cb_8 Aa Ab Ao hB
  have Aa := Ba
  have Ab := Bb
  have Ao := Bo
  have hB := hB'
  clear Ba Bb Bo hB'
  have la_2 := Aa.lt
  have lb_2 := Ab.lt
  have lo_2 := Ao.lt
  have lB_2 := hB.size
  have Ba := (Arr.al' Aa (.cells #[.int .u64 (lim (T) 0), .int .u64 (lim (T) 1), .int .u64 (lim (T) 2), .int .u64 (lim (T) 3)] 24))
  have Bb := (Arr.al' Ab (.cells #[.int .u64 (lim (T) 0), .int .u64 (lim (T) 1), .int .u64 (lim (T) 2), .int .u64 (lim (T) 3)] 24))
  have Bo := (Arr.al' Ao (.cells #[.int .u64 (lim (T) 0), .int .u64 (lim (T) 1), .int .u64 (lim (T) 2), .int .u64 (lim (T) 3)] 24))
  have Bt : Arr ((w11.alloc (.cells #[.int .u64 (lim (T) 0), .int .u64 (lim (T) 1), .int .u64 (lim (T) 2), .int .u64 (lim (T) 3)] 24))) (w11.heap.size) 4 (fun j => .int .u64 (lim (T) j)) := by refine Arr.mk4 ?_ ?_ ?_ ?_ ?_ ?_ ?_ ?_ <;> simp [go_sem]
  have hB' := (Bel.al hB (.cells #[.int .u64 (lim (T) 0), .int .u64 (lim (T) 1), .int .u64 (lim (T) 2), .int .u64 (lim (T) 3)] 24))
  clear Aa Ab Ao hB
  have Aa := Ba
  have Ab := Bb
  have Ao := Bo
  have At := Bt
  have hB := hB'
  clear Ba Bb Bo Bt hB'
  go_wp2_with fail
  apply wp_region_alloc_tail 9 (by kernel_rfl) (by kernel_rfl) (by kernel_rfl) (.cells #[.int .u64 0, .int .u64 0, .int .u64 0, .int .u64 0] 24) _ rfl (fun _ _ => by simp [go_sem])
  · intro W hW
    have ra0 := (Arr.to' Aa hW).cg 0 (by omega) (.int .u64 (lim (X) 0)) rfl
    have ra1 := (Arr.to' Aa hW).cg 1 (by omega) (.int .u64 (lim (X) 1)) rfl
    have ra2 := (Arr.to' Aa hW).cg 2 (by omega) (.int .u64 (lim (X) 2)) rfl
    have ra3 := (Arr.to' Aa hW).cg 3 (by omega) (.int .u64 (lim (X) 3)) rfl
    have ra4 := (Arr.to' Aa hW).cg 4 (by omega) (.int .u64 (lim (Y) 0)) rfl
    have ra5 := (Arr.to' Aa hW).cg 5 (by omega) (.int .u64 (lim (Y) 1)) rfl
    have ra6 := (Arr.to' Aa hW).cg 6 (by omega) (.int .u64 (lim (Y) 2)) rfl
    have ra7 := (Arr.to' Aa hW).cg 7 (by omega) (.int .u64 (lim (Y) 3)) rfl
    have ra8 := (Arr.to' Aa hW).cg 8 (by omega) (.bool false) rfl
    have rb0 := (Arr.to' Ab hW).cg 0 (by omega) (.int .u64 (lim (U) 0)) rfl
    have rb1 := (Arr.to' Ab hW).cg 1 (by omega) (.int .u64 (lim (U) 1)) rfl
    have rb2 := (Arr.to' Ab hW).cg 2 (by omega) (.int .u64 (lim (U) 2)) rfl
    have rb3 := (Arr.to' Ab hW).cg 3 (by omega) (.int .u64 (lim (U) 3)) rfl
    have rb4 := (Arr.to' Ab hW).cg 4 (by omega) (.int .u64 (lim (V) 0)) rfl
    have rb5 := (Arr.to' Ab hW).cg 5 (by omega) (.int .u64 (lim (V) 1)) rfl
    have rb6 := (Arr.to' Ab hW).cg 6 (by omega) (.int .u64 (lim (V) 2)) rfl
    have rb7 := (Arr.to' Ab hW).cg 7 (by omega) (.int .u64 (lim (V) 3)) rfl
    have rb8 := (Arr.to' Ab hW).cg 8 (by omega) (.bool false) rfl
    have rt0 := fun ds os => cell_regrown ((Arr.to' At hW).c 0 (by omega)) ds os
    have rt1 := fun ds os => cell_regrown ((Arr.to' At hW).c 1 (by omega)) ds os
    have rt2 := fun ds os => cell_regrown ((Arr.to' At hW).c 2 (by omega)) ds os
    have rt3 := fun ds os => cell_regrown ((Arr.to' At hW).c 3 (by omega)) ds os
    simp only [List.take_succ_cons, List.take_zero]
    repeat (go_big_quiet_step (first | (go_at_call 15; with_reducible first | exact Calls.regrown_of (C2 _)) | (go_at_call 16; with_reducible first | exact Calls.regrown_of (C3 _) | exact Calls.regrown_of (C4 _))))
    exact wpQuiet_nil rfl
  intro v2 w12 hb1 hb2
  simp only [List.drop_succ_cons, List.drop_zero, Act.put, List.setIfInBounds_toArray, List.set_cons_succ, List.set_cons_zero]
  have Ea := Arr.to' Aa hb1
  have la_v2 := Ea.lt
  have Ba := Arr.to' (Arr.al' Ea (.cells #[.int .u64 0, .int .u64 0, .int .u64 0, .int .u64 0] 24)) hb2
  have Eb := Arr.to' Ab hb1
  have lb_v2 := Eb.lt
  have Bb := Arr.to' (Arr.al' Eb (.cells #[.int .u64 0, .int .u64 0, .int .u64 0, .int .u64 0] 24)) hb2
  have Eo := Arr.to' Ao hb1
  have lo_v2 := Eo.lt
  have Bo := Arr.to' (Arr.al' Eo (.cells #[.int .u64 0, .int .u64 0, .int .u64 0, .int .u64 0] 24)) hb2
  have Et := Arr.to' At hb1
  have lt_v2 := Et.lt
  have Bt := Arr.to' (Arr.al' Et (.cells #[.int .u64 0, .int .u64 0, .int .u64 0, .int .u64 0] 24)) hb2
  have Bx := (Arr.mk4 (w := (v2.alloc (.cells #[.int .u64 0, .int .u64 0, .int .u64 0, .int .u64 0] 24))) (f := fun _ => .int .u64 0) (b := v2.heap.size) (by simp [go_sem]) (by simp [go_sem]) (by simp [go_sem]) (by simp [go_sem]) (by simp [go_sem]) (by simp [go_sem]) (by simp [go_sem]) (by simp [go_sem])).below hb2 (by go_size)
  have lB_v2 := (Bel.call hB hb1).size
  have hB' := Bel.call (Bel.al (Bel.call hB hb1) (.cells #[.int .u64 0, .int .u64 0, .int .u64 0, .int .u64 0] 24)) hb2
  clear hb1 hb2 Ea Eb Eo Et Aa Ab Ao At hB
  have Aa := Ba
  have Ab := Bb
  have Ao := Bo
  have At := Bt
  have Ax := Bx
  have hB := hB'
  clear Ba Bb Bo Bt Bx hB'
  have cx := Ax.c
  have zx := Ax.z
  have Ba := Arr.st4o (b' := v2.heap.size) Aa (by have := Aa.lt; have := Ax.lt; omega) (x)
  have Bb := Arr.st4o (b' := v2.heap.size) Ab (by have := Ab.lt; have := Ax.lt; omega) (x)
  have Bo := Arr.st4o (b' := v2.heap.size) Ao (by have := Ao.lt; have := Ax.lt; omega) (x)
  have Bt := Arr.st4o (b' := v2.heap.size) At (by have := At.lt; have := Ax.lt; omega) (x)
  have Bx := Arr.st4 Ax (x)
  have hB' := Bel.st4 hB (b := v2.heap.size) (by have := hB.size; omega) (x)
  clear Aa Ab Ao At Ax hB
  have Aa := Ba
  have Ab := Bb
  have Ao := Bo
  have At := Bt
  have Ax := Bx
  have hB := hB'
  clear Ba Bb Bo Bt Bx hB'
  have ra0 := Aa.cg 0 (by omega) (.int .u64 (lim (X) 0)) rfl
  have ra1 := Aa.cg 1 (by omega) (.int .u64 (lim (X) 1)) rfl
  have ra2 := Aa.cg 2 (by omega) (.int .u64 (lim (X) 2)) rfl
  have ra3 := Aa.cg 3 (by omega) (.int .u64 (lim (X) 3)) rfl
  have ra4 := Aa.cg 4 (by omega) (.int .u64 (lim (Y) 0)) rfl
  have ra5 := Aa.cg 5 (by omega) (.int .u64 (lim (Y) 1)) rfl
  have ra6 := Aa.cg 6 (by omega) (.int .u64 (lim (Y) 2)) rfl
  have ra7 := Aa.cg 7 (by omega) (.int .u64 (lim (Y) 3)) rfl
  have ra8 := Aa.cg 8 (by omega) (.bool false) rfl
  have rt0 := fun ds os => cell_regrown (At.c 0 (by omega)) ds os
  have rt1 := fun ds os => cell_regrown (At.c 1 (by omega)) ds os
  have rt2 := fun ds os => cell_regrown (At.c 2 (by omega)) ds os
  have rt3 := fun ds os => cell_regrown (At.c 3 (by omega)) ds os
  have rx0 := fun ds os => cell_regrown (Ax.c 0 (by omega)) ds os
  have rx1 := fun ds os => cell_regrown (Ax.c 1 (by omega)) ds os
  have rx2 := fun ds os => cell_regrown (Ax.c 2 (by omega)) ds os
  have rx3 := fun ds os => cell_regrown (Ax.c 3 (by omega)) ds os
  go_wp2_with fail
  refine wp_region_below_tail 11 (by kernel_rfl) (by kernel_rfl) ?_
  simp only [List.take_succ_cons, List.take_zero, List.drop_succ_cons, List.drop_zero]
  repeat (go_big_quiet_step (first | (go_at_call 16; with_reducible first | exact Calls.regrown_of (C5 _) | exact Calls.regrown_of (C7 _)) | (go_at_call 15; with_reducible first | exact Calls.regrown_of (C6 _))))
  refine wpQuiet_nil ?_
  intro w3 hw'
  obtain ⟨⟨dq, osq⟩, hw''⟩ := hw'
  have hb := below_of hw''
  clear hw''
  have Bo := Arr.to' Ao hb
  have hB' := Bel.call hB hb
  clear hb cx zx ra0 ra1 ra2 ra3 ra4 ra5 ra6 ra7 ra8 rt0 rt1 rt2 rt3 rx0 rx1 rx2 rx3 Aa Ab Ao At Ax hB
  have Ao := Bo
  have hB := hB'
  clear Bo hB'
  have hS := hB.size
  have co_0 := Ao.cv 0 (by omega) (.int .u64 0) rfl
  have co_1 := Ao.cv 1 (by omega) (.int .u64 0) rfl
  have co_2 := Ao.cv 2 (by omega) (.int .u64 0) rfl
  have co_3 := Ao.cv 3 (by omega) (.int .u64 0) rfl
  have co_4 := Ao.cv 4 (by omega) (.int .u64 0) rfl
  have co_5 := Ao.cv 5 (by omega) (.int .u64 0) rfl
  have co_6 := Ao.cv 6 (by omega) (.int .u64 0) rfl
  have co_7 := Ao.cv 7 (by omega) (.int .u64 0) rfl
  have co_8 := Ao.cv 8 (by omega) (.bool false) rfl
  have zo := Ao.z
  go_wp2_with fail
  refine bodyPost_ret (v := pv x y false) (by simp [results, Tryz.results7, go_sem, co_0, co_1, co_2, co_3, co_4, co_5, co_6, co_7, co_8]) rfl ⟨rfl, ?_⟩
  go_grown
end Go.Proofs.YtgekafmojedlkaaGreat
