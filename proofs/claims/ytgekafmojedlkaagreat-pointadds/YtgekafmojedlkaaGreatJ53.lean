/- The walk of layer 4's statement PointAdds. -/
import Derived.Test.YtgekafmojedlkaaGreatJ38
set_option linter.all false
set_option maxRecDepth 100000
namespace Go.Proofs.YtgekafmojedlkaaGreat
open Go.RowKit Go.Sort
attribute [local go_sem] eq24
set_option maxHeartbeats 8000000 in
theorem adds_no1 (X1 Y1 X2 Y2 J K : Int) (i1 i2 : Bool) (w : World)
    (C1 : ∀ W, Calls Tryz.prog 4 #[pv X1 Y1 i1] W fun e w' => e = .returned (.bool false) ∧ Below W.heap.size W w')
    (C2 : ∀ W, Calls Tryz.prog 5 #[] W fun e w' => e = .returned (.bool true) ∧ Below W.heap.size W w') :
    Calls Tryz.prog 3 #[pv X1 Y1 i1, pv X2 Y2 i2, nv J, nv K] w fun e w' => e = .returned (.bool true) ∧ Below w.heap.size w w' := by
  have q26 := eq26g
  go_enter Tryz.func3, Tryz.ntmps3
  have Ba : Arr (((((w.alloc (.cells #[.int .u64 (lim (X1) 0), .int .u64 (lim (X1) 1), .int .u64 (lim (X1) 2), .int .u64 (lim (X1) 3), .int .u64 (lim (Y1) 0), .int .u64 (lim (Y1) 1), .int .u64 (lim (Y1) 2), .int .u64 (lim (Y1) 3), .bool i1] 26)).alloc (.cells #[.int .u64 (lim (X2) 0), .int .u64 (lim (X2) 1), .int .u64 (lim (X2) 2), .int .u64 (lim (X2) 3), .int .u64 (lim (Y2) 0), .int .u64 (lim (Y2) 1), .int .u64 (lim (Y2) 2), .int .u64 (lim (Y2) 3), .bool i2] 26)).alloc (.cells #[.int .u64 (lim (J) 0), .int .u64 (lim (J) 1), .int .u64 (lim (J) 2), .int .u64 (lim (J) 3)] 24)).alloc (.cells #[.int .u64 (lim (K) 0), .int .u64 (lim (K) 1), .int .u64 (lim (K) 2), .int .u64 (lim (K) 3)] 24))) (w.heap.size) 9 (px (X1) (Y1) i1) := by refine Arr.mk9p ?_ ?_ ?_ ?_ ?_ ?_ ?_ ?_ ?_ ?_ <;> simp [go_sem, px, sx, zx]
  have Bb : Arr (((((w.alloc (.cells #[.int .u64 (lim (X1) 0), .int .u64 (lim (X1) 1), .int .u64 (lim (X1) 2), .int .u64 (lim (X1) 3), .int .u64 (lim (Y1) 0), .int .u64 (lim (Y1) 1), .int .u64 (lim (Y1) 2), .int .u64 (lim (Y1) 3), .bool i1] 26)).alloc (.cells #[.int .u64 (lim (X2) 0), .int .u64 (lim (X2) 1), .int .u64 (lim (X2) 2), .int .u64 (lim (X2) 3), .int .u64 (lim (Y2) 0), .int .u64 (lim (Y2) 1), .int .u64 (lim (Y2) 2), .int .u64 (lim (Y2) 3), .bool i2] 26)).alloc (.cells #[.int .u64 (lim (J) 0), .int .u64 (lim (J) 1), .int .u64 (lim (J) 2), .int .u64 (lim (J) 3)] 24)).alloc (.cells #[.int .u64 (lim (K) 0), .int .u64 (lim (K) 1), .int .u64 (lim (K) 2), .int .u64 (lim (K) 3)] 24))) (w.heap.size + 1) 9 (px (X2) (Y2) i2) := by refine Arr.mk9p ?_ ?_ ?_ ?_ ?_ ?_ ?_ ?_ ?_ ?_ <;> simp [go_sem, px, sx, zx]
  have Bj : Arr (((((w.alloc (.cells #[.int .u64 (lim (X1) 0), .int .u64 (lim (X1) 1), .int .u64 (lim (X1) 2), .int .u64 (lim (X1) 3), .int .u64 (lim (Y1) 0), .int .u64 (lim (Y1) 1), .int .u64 (lim (Y1) 2), .int .u64 (lim (Y1) 3), .bool i1] 26)).alloc (.cells #[.int .u64 (lim (X2) 0), .int .u64 (lim (X2) 1), .int .u64 (lim (X2) 2), .int .u64 (lim (X2) 3), .int .u64 (lim (Y2) 0), .int .u64 (lim (Y2) 1), .int .u64 (lim (Y2) 2), .int .u64 (lim (Y2) 3), .bool i2] 26)).alloc (.cells #[.int .u64 (lim (J) 0), .int .u64 (lim (J) 1), .int .u64 (lim (J) 2), .int .u64 (lim (J) 3)] 24)).alloc (.cells #[.int .u64 (lim (K) 0), .int .u64 (lim (K) 1), .int .u64 (lim (K) 2), .int .u64 (lim (K) 3)] 24))) (w.heap.size + 1 + 1) 4 (fun j => .int .u64 (lim (J) j)) := by refine Arr.mk4 ?_ ?_ ?_ ?_ ?_ ?_ ?_ ?_ <;> simp [go_sem]
  have Bk : Arr (((((w.alloc (.cells #[.int .u64 (lim (X1) 0), .int .u64 (lim (X1) 1), .int .u64 (lim (X1) 2), .int .u64 (lim (X1) 3), .int .u64 (lim (Y1) 0), .int .u64 (lim (Y1) 1), .int .u64 (lim (Y1) 2), .int .u64 (lim (Y1) 3), .bool i1] 26)).alloc (.cells #[.int .u64 (lim (X2) 0), .int .u64 (lim (X2) 1), .int .u64 (lim (X2) 2), .int .u64 (lim (X2) 3), .int .u64 (lim (Y2) 0), .int .u64 (lim (Y2) 1), .int .u64 (lim (Y2) 2), .int .u64 (lim (Y2) 3), .bool i2] 26)).alloc (.cells #[.int .u64 (lim (J) 0), .int .u64 (lim (J) 1), .int .u64 (lim (J) 2), .int .u64 (lim (J) 3)] 24)).alloc (.cells #[.int .u64 (lim (K) 0), .int .u64 (lim (K) 1), .int .u64 (lim (K) 2), .int .u64 (lim (K) 3)] 24))) (w.heap.size + 1 + 1 + 1) 4 (fun j => .int .u64 (lim (K) j)) := by refine Arr.mk4 ?_ ?_ ?_ ?_ ?_ ?_ ?_ ?_ <;> simp [go_sem]
  have hB' : Below w.heap.size w ((((w.alloc (.cells #[.int .u64 (lim (X1) 0), .int .u64 (lim (X1) 1), .int .u64 (lim (X1) 2), .int .u64 (lim (X1) 3), .int .u64 (lim (Y1) 0), .int .u64 (lim (Y1) 1), .int .u64 (lim (Y1) 2), .int .u64 (lim (Y1) 3), .bool i1] 26)).alloc (.cells #[.int .u64 (lim (X2) 0), .int .u64 (lim (X2) 1), .int .u64 (lim (X2) 2), .int .u64 (lim (X2) 3), .int .u64 (lim (Y2) 0), .int .u64 (lim (Y2) 1), .int .u64 (lim (Y2) 2), .int .u64 (lim (Y2) 3), .bool i2] 26)).alloc (.cells #[.int .u64 (lim (J) 0), .int .u64 (lim (J) 1), .int .u64 (lim (J) 2), .int .u64 (lim (J) 3)] 24)).alloc (.cells #[.int .u64 (lim (K) 0), .int .u64 (lim (K) 1), .int .u64 (lim (K) 2), .int .u64 (lim (K) 3)] 24)) := by go_grown
  have Aa := Ba
  have Ab := Bb
  have Aj := Bj
  have Ak := Bk
  have hB := hB'
  clear Ba Bb Bj Bk hB'
  have ca_0 := Aa.cv 0 (by omega) (.int .u64 (lim (X1) 0)) rfl
  have ca_1 := Aa.cv 1 (by omega) (.int .u64 (lim (X1) 1)) rfl
  have ca_2 := Aa.cv 2 (by omega) (.int .u64 (lim (X1) 2)) rfl
  have ca_3 := Aa.cv 3 (by omega) (.int .u64 (lim (X1) 3)) rfl
  have ca_4 := Aa.cv 4 (by omega) (.int .u64 (lim (Y1) 0)) rfl
  have ca_5 := Aa.cv 5 (by omega) (.int .u64 (lim (Y1) 1)) rfl
  have ca_6 := Aa.cv 6 (by omega) (.int .u64 (lim (Y1) 2)) rfl
  have ca_7 := Aa.cv 7 (by omega) (.int .u64 (lim (Y1) 3)) rfl
  have ca_8 := Aa.cv 8 (by omega) (.bool i1) rfl
  go_wp2_with fail
  refine (C1 _).mono ?_
  rintro e w1 ⟨rfl, hb⟩
  have Ba := Arr.to' Aa hb
  have Bb := Arr.to' Ab hb
  have Bj := Arr.to' Aj hb
  have Bk := Arr.to' Ak hb
  have hB' := Bel.call hB hb
  clear hb ca_0 ca_1 ca_2 ca_3 ca_4 ca_5 ca_6 ca_7 ca_8 Aa Ab Aj Ak hB
  have Aa := Ba
  have Ab := Bb
  have Aj := Bj
  have Ak := Bk
  have hB := hB'
  clear Ba Bb Bj Bk hB'
  go_wp2_with fail
  refine (C2 _).mono ?_
  rintro e w12 ⟨rfl, hb⟩
  have Ba := Arr.to' Aa hb
  have Bb := Arr.to' Ab hb
  have Bj := Arr.to' Aj hb
  have Bk := Arr.to' Ak hb
  have hB' := Bel.call hB hb
  clear hb Aa Ab Aj Ak hB
  have Aa := Ba
  have Ab := Bb
  have Aj := Bj
  have Ak := Bk
  have hB := hB'
  clear Ba Bb Bj Bk hB'
  go_wp2_with fail
  go_ret
  exact ⟨rfl, hB⟩
set_option maxHeartbeats 8000000 in
theorem adds_no2 (X1 Y1 X2 Y2 J K : Int) (i1 i2 : Bool) (w : World)
    (C1 : ∀ W, Calls Tryz.prog 4 #[pv X1 Y1 i1] W fun e w' => e = .returned (.bool true) ∧ Below W.heap.size W w')
    (C2 : ∀ W, Calls Tryz.prog 4 #[pv X2 Y2 i2] W fun e w' => e = .returned (.bool false) ∧ Below W.heap.size W w')
    (C3 : ∀ W, Calls Tryz.prog 5 #[] W fun e w' => e = .returned (.bool true) ∧ Below W.heap.size W w') :
    Calls Tryz.prog 3 #[pv X1 Y1 i1, pv X2 Y2 i2, nv J, nv K] w fun e w' => e = .returned (.bool true) ∧ Below w.heap.size w w' := by
  have q26 := eq26g
  go_enter Tryz.func3, Tryz.ntmps3
  have Ba : Arr (((((w.alloc (.cells #[.int .u64 (lim (X1) 0), .int .u64 (lim (X1) 1), .int .u64 (lim (X1) 2), .int .u64 (lim (X1) 3), .int .u64 (lim (Y1) 0), .int .u64 (lim (Y1) 1), .int .u64 (lim (Y1) 2), .int .u64 (lim (Y1) 3), .bool i1] 26)).alloc (.cells #[.int .u64 (lim (X2) 0), .int .u64 (lim (X2) 1), .int .u64 (lim (X2) 2), .int .u64 (lim (X2) 3), .int .u64 (lim (Y2) 0), .int .u64 (lim (Y2) 1), .int .u64 (lim (Y2) 2), .int .u64 (lim (Y2) 3), .bool i2] 26)).alloc (.cells #[.int .u64 (lim (J) 0), .int .u64 (lim (J) 1), .int .u64 (lim (J) 2), .int .u64 (lim (J) 3)] 24)).alloc (.cells #[.int .u64 (lim (K) 0), .int .u64 (lim (K) 1), .int .u64 (lim (K) 2), .int .u64 (lim (K) 3)] 24))) (w.heap.size) 9 (px (X1) (Y1) i1) := by refine Arr.mk9p ?_ ?_ ?_ ?_ ?_ ?_ ?_ ?_ ?_ ?_ <;> simp [go_sem, px, sx, zx]
  have Bb : Arr (((((w.alloc (.cells #[.int .u64 (lim (X1) 0), .int .u64 (lim (X1) 1), .int .u64 (lim (X1) 2), .int .u64 (lim (X1) 3), .int .u64 (lim (Y1) 0), .int .u64 (lim (Y1) 1), .int .u64 (lim (Y1) 2), .int .u64 (lim (Y1) 3), .bool i1] 26)).alloc (.cells #[.int .u64 (lim (X2) 0), .int .u64 (lim (X2) 1), .int .u64 (lim (X2) 2), .int .u64 (lim (X2) 3), .int .u64 (lim (Y2) 0), .int .u64 (lim (Y2) 1), .int .u64 (lim (Y2) 2), .int .u64 (lim (Y2) 3), .bool i2] 26)).alloc (.cells #[.int .u64 (lim (J) 0), .int .u64 (lim (J) 1), .int .u64 (lim (J) 2), .int .u64 (lim (J) 3)] 24)).alloc (.cells #[.int .u64 (lim (K) 0), .int .u64 (lim (K) 1), .int .u64 (lim (K) 2), .int .u64 (lim (K) 3)] 24))) (w.heap.size + 1) 9 (px (X2) (Y2) i2) := by refine Arr.mk9p ?_ ?_ ?_ ?_ ?_ ?_ ?_ ?_ ?_ ?_ <;> simp [go_sem, px, sx, zx]
  have Bj : Arr (((((w.alloc (.cells #[.int .u64 (lim (X1) 0), .int .u64 (lim (X1) 1), .int .u64 (lim (X1) 2), .int .u64 (lim (X1) 3), .int .u64 (lim (Y1) 0), .int .u64 (lim (Y1) 1), .int .u64 (lim (Y1) 2), .int .u64 (lim (Y1) 3), .bool i1] 26)).alloc (.cells #[.int .u64 (lim (X2) 0), .int .u64 (lim (X2) 1), .int .u64 (lim (X2) 2), .int .u64 (lim (X2) 3), .int .u64 (lim (Y2) 0), .int .u64 (lim (Y2) 1), .int .u64 (lim (Y2) 2), .int .u64 (lim (Y2) 3), .bool i2] 26)).alloc (.cells #[.int .u64 (lim (J) 0), .int .u64 (lim (J) 1), .int .u64 (lim (J) 2), .int .u64 (lim (J) 3)] 24)).alloc (.cells #[.int .u64 (lim (K) 0), .int .u64 (lim (K) 1), .int .u64 (lim (K) 2), .int .u64 (lim (K) 3)] 24))) (w.heap.size + 1 + 1) 4 (fun j => .int .u64 (lim (J) j)) := by refine Arr.mk4 ?_ ?_ ?_ ?_ ?_ ?_ ?_ ?_ <;> simp [go_sem]
  have Bk : Arr (((((w.alloc (.cells #[.int .u64 (lim (X1) 0), .int .u64 (lim (X1) 1), .int .u64 (lim (X1) 2), .int .u64 (lim (X1) 3), .int .u64 (lim (Y1) 0), .int .u64 (lim (Y1) 1), .int .u64 (lim (Y1) 2), .int .u64 (lim (Y1) 3), .bool i1] 26)).alloc (.cells #[.int .u64 (lim (X2) 0), .int .u64 (lim (X2) 1), .int .u64 (lim (X2) 2), .int .u64 (lim (X2) 3), .int .u64 (lim (Y2) 0), .int .u64 (lim (Y2) 1), .int .u64 (lim (Y2) 2), .int .u64 (lim (Y2) 3), .bool i2] 26)).alloc (.cells #[.int .u64 (lim (J) 0), .int .u64 (lim (J) 1), .int .u64 (lim (J) 2), .int .u64 (lim (J) 3)] 24)).alloc (.cells #[.int .u64 (lim (K) 0), .int .u64 (lim (K) 1), .int .u64 (lim (K) 2), .int .u64 (lim (K) 3)] 24))) (w.heap.size + 1 + 1 + 1) 4 (fun j => .int .u64 (lim (K) j)) := by refine Arr.mk4 ?_ ?_ ?_ ?_ ?_ ?_ ?_ ?_ <;> simp [go_sem]
  have hB' : Below w.heap.size w ((((w.alloc (.cells #[.int .u64 (lim (X1) 0), .int .u64 (lim (X1) 1), .int .u64 (lim (X1) 2), .int .u64 (lim (X1) 3), .int .u64 (lim (Y1) 0), .int .u64 (lim (Y1) 1), .int .u64 (lim (Y1) 2), .int .u64 (lim (Y1) 3), .bool i1] 26)).alloc (.cells #[.int .u64 (lim (X2) 0), .int .u64 (lim (X2) 1), .int .u64 (lim (X2) 2), .int .u64 (lim (X2) 3), .int .u64 (lim (Y2) 0), .int .u64 (lim (Y2) 1), .int .u64 (lim (Y2) 2), .int .u64 (lim (Y2) 3), .bool i2] 26)).alloc (.cells #[.int .u64 (lim (J) 0), .int .u64 (lim (J) 1), .int .u64 (lim (J) 2), .int .u64 (lim (J) 3)] 24)).alloc (.cells #[.int .u64 (lim (K) 0), .int .u64 (lim (K) 1), .int .u64 (lim (K) 2), .int .u64 (lim (K) 3)] 24)) := by go_grown
  have Aa := Ba
  have Ab := Bb
  have Aj := Bj
  have Ak := Bk
  have hB := hB'
  clear Ba Bb Bj Bk hB'
  have ca_0 := Aa.cv 0 (by omega) (.int .u64 (lim (X1) 0)) rfl
  have ca_1 := Aa.cv 1 (by omega) (.int .u64 (lim (X1) 1)) rfl
  have ca_2 := Aa.cv 2 (by omega) (.int .u64 (lim (X1) 2)) rfl
  have ca_3 := Aa.cv 3 (by omega) (.int .u64 (lim (X1) 3)) rfl
  have ca_4 := Aa.cv 4 (by omega) (.int .u64 (lim (Y1) 0)) rfl
  have ca_5 := Aa.cv 5 (by omega) (.int .u64 (lim (Y1) 1)) rfl
  have ca_6 := Aa.cv 6 (by omega) (.int .u64 (lim (Y1) 2)) rfl
  have ca_7 := Aa.cv 7 (by omega) (.int .u64 (lim (Y1) 3)) rfl
  have ca_8 := Aa.cv 8 (by omega) (.bool i1) rfl
  go_wp2_with fail
  refine (C1 _).mono ?_
  rintro e w1 ⟨rfl, hb⟩
  have Ba := Arr.to' Aa hb
  have Bb := Arr.to' Ab hb
  have Bj := Arr.to' Aj hb
  have Bk := Arr.to' Ak hb
  have hB' := Bel.call hB hb
  clear hb ca_0 ca_1 ca_2 ca_3 ca_4 ca_5 ca_6 ca_7 ca_8 Aa Ab Aj Ak hB
  have Aa := Ba
  have Ab := Bb
  have Aj := Bj
  have Ak := Bk
  have hB := hB'
  clear Ba Bb Bj Bk hB'
  have cb_0 := Ab.cv 0 (by omega) (.int .u64 (lim (X2) 0)) rfl
  have cb_1 := Ab.cv 1 (by omega) (.int .u64 (lim (X2) 1)) rfl
  have cb_2 := Ab.cv 2 (by omega) (.int .u64 (lim (X2) 2)) rfl
  have cb_3 := Ab.cv 3 (by omega) (.int .u64 (lim (X2) 3)) rfl
  have cb_4 := Ab.cv 4 (by omega) (.int .u64 (lim (Y2) 0)) rfl
  have cb_5 := Ab.cv 5 (by omega) (.int .u64 (lim (Y2) 1)) rfl
  have cb_6 := Ab.cv 6 (by omega) (.int .u64 (lim (Y2) 2)) rfl
  have cb_7 := Ab.cv 7 (by omega) (.int .u64 (lim (Y2) 3)) rfl
  have cb_8 := Ab.cv 8 (by omega) (.bool i2) rfl
  go_wp2_with fail
  refine (C2 _).mono ?_
  rintro e w12 ⟨rfl, hb⟩
  have Ba := Arr.to' Aa hb
  have Bb := Arr.to' Ab hb
  have Bj := Arr.to' Aj hb
  have Bk := Arr.to' Ak hb
  have hB' := Bel.call hB hb
  clear hb cb_0 cb_1 cb_2 cb_3 cb_4 cb_5 cb_6 cb_7 cb_8 Aa Ab Aj Ak hB
  have Aa := Ba
  have Ab := Bb
  have Aj := Bj
  have Ak := Bk
  have hB := hB'
  clear Ba Bb Bj Bk hB'
  go_wp2_with fail
  refine (C3 _).mono ?_
  rintro e w13 ⟨rfl, hb⟩
  have Ba := Arr.to' Aa hb
  have Bb := Arr.to' Ab hb
  have Bj := Arr.to' Aj hb
  have Bk := Arr.to' Ak hb
  have hB' := Bel.call hB hb
  clear hb Aa Ab Aj Ak hB
  have Aa := Ba
  have Ab := Bb
  have Aj := Bj
  have Ak := Bk
  have hB := hB'
  clear Ba Bb Bj Bk hB'
  go_wp2_with fail
  go_ret
  exact ⟨rfl, hB⟩
set_option maxHeartbeats 8000000 in
theorem adds_yes (X1 Y1 X2 Y2 X3 Y3 X4 Y4 X5 Y5 J K : Int) (i1 i2 i3 i4 i5 : Bool) (w : World)
    (C1 : ∀ W, Calls Tryz.prog 4 #[pv X1 Y1 i1] W fun e w' => e = .returned (.bool true) ∧ Below W.heap.size W w')
    (C2 : ∀ W, Calls Tryz.prog 4 #[pv X2 Y2 i2] W fun e w' => e = .returned (.bool true) ∧ Below W.heap.size W w')
    (C3 : ∀ W, Calls Tryz.prog 6 #[pv X1 Y1 i1, pv X2 Y2 i2] W fun e w' => e = .returned (pv X3 Y3 i3) ∧ Below W.heap.size W w')
    (C4 : ∀ W, Calls Tryz.prog 7 #[pv X1 Y1 i1, pv X2 Y2 i2] W fun e w' => e = .returned (pv X3 Y3 i3) ∧ Below W.heap.size W w')
    (C5 : ∀ W, Calls Tryz.prog 8 #[nv K, pv X1 Y1 i1] W fun e w' => e = .returned (pv X4 Y4 i4) ∧ Below W.heap.size W w')
    (C6 : ∀ W, Calls Tryz.prog 9 #[nv K, pv X1 Y1 i1] W fun e w' => e = .returned (pv X4 Y4 i4) ∧ Below W.heap.size W w')
    (C7 : ∀ W, Calls Tryz.prog 10 #[nv J, nv K, pv X1 Y1 i1] W fun e w' => e = .returned (pv X5 Y5 i5) ∧ Below W.heap.size W w')
    (C8 : ∀ W, Calls Tryz.prog 11 #[nv J, nv K, pv X1 Y1 i1] W fun e w' => e = .returned (pv X5 Y5 i5) ∧ Below W.heap.size W w')
    (C9 : ∀ W, Calls Tryz.prog 5 #[] W fun e w' => e = .returned (.bool true) ∧ Below W.heap.size W w') :
    Calls Tryz.prog 3 #[pv X1 Y1 i1, pv X2 Y2 i2, nv J, nv K] w fun e w' => e = .returned (.bool true) ∧ Below w.heap.size w w' := by
  have q26 := eq26g
  go_enter Tryz.func3, Tryz.ntmps3
  have Ba : Arr (((((w.alloc (.cells #[.int .u64 (lim (X1) 0), .int .u64 (lim (X1) 1), .int .u64 (lim (X1) 2), .int .u64 (lim (X1) 3), .int .u64 (lim (Y1) 0), .int .u64 (lim (Y1) 1), .int .u64 (lim (Y1) 2), .int .u64 (lim (Y1) 3), .bool i1] 26)).alloc (.cells #[.int .u64 (lim (X2) 0), .int .u64 (lim (X2) 1), .int .u64 (lim (X2) 2), .int .u64 (lim (X2) 3), .int .u64 (lim (Y2) 0), .int .u64 (lim (Y2) 1), .int .u64 (lim (Y2) 2), .int .u64 (lim (Y2) 3), .bool i2] 26)).alloc (.cells #[.int .u64 (lim (J) 0), .int .u64 (lim (J) 1), .int .u64 (lim (J) 2), .int .u64 (lim (J) 3)] 24)).alloc (.cells #[.int .u64 (lim (K) 0), .int .u64 (lim (K) 1), .int .u64 (lim (K) 2), .int .u64 (lim (K) 3)] 24))) (w.heap.size) 9 (px (X1) (Y1) i1) := by refine Arr.mk9p ?_ ?_ ?_ ?_ ?_ ?_ ?_ ?_ ?_ ?_ <;> simp [go_sem, px, sx, zx]
  have Bb : Arr (((((w.alloc (.cells #[.int .u64 (lim (X1) 0), .int .u64 (lim (X1) 1), .int .u64 (lim (X1) 2), .int .u64 (lim (X1) 3), .int .u64 (lim (Y1) 0), .int .u64 (lim (Y1) 1), .int .u64 (lim (Y1) 2), .int .u64 (lim (Y1) 3), .bool i1] 26)).alloc (.cells #[.int .u64 (lim (X2) 0), .int .u64 (lim (X2) 1), .int .u64 (lim (X2) 2), .int .u64 (lim (X2) 3), .int .u64 (lim (Y2) 0), .int .u64 (lim (Y2) 1), .int .u64 (lim (Y2) 2), .int .u64 (lim (Y2) 3), .bool i2] 26)).alloc (.cells #[.int .u64 (lim (J) 0), .int .u64 (lim (J) 1), .int .u64 (lim (J) 2), .int .u64 (lim (J) 3)] 24)).alloc (.cells #[.int .u64 (lim (K) 0), .int .u64 (lim (K) 1), .int .u64 (lim (K) 2), .int .u64 (lim (K) 3)] 24))) (w.heap.size + 1) 9 (px (X2) (Y2) i2) := by refine Arr.mk9p ?_ ?_ ?_ ?_ ?_ ?_ ?_ ?_ ?_ ?_ <;> simp [go_sem, px, sx, zx]
  have Bj : Arr (((((w.alloc (.cells #[.int .u64 (lim (X1) 0), .int .u64 (lim (X1) 1), .int .u64 (lim (X1) 2), .int .u64 (lim (X1) 3), .int .u64 (lim (Y1) 0), .int .u64 (lim (Y1) 1), .int .u64 (lim (Y1) 2), .int .u64 (lim (Y1) 3), .bool i1] 26)).alloc (.cells #[.int .u64 (lim (X2) 0), .int .u64 (lim (X2) 1), .int .u64 (lim (X2) 2), .int .u64 (lim (X2) 3), .int .u64 (lim (Y2) 0), .int .u64 (lim (Y2) 1), .int .u64 (lim (Y2) 2), .int .u64 (lim (Y2) 3), .bool i2] 26)).alloc (.cells #[.int .u64 (lim (J) 0), .int .u64 (lim (J) 1), .int .u64 (lim (J) 2), .int .u64 (lim (J) 3)] 24)).alloc (.cells #[.int .u64 (lim (K) 0), .int .u64 (lim (K) 1), .int .u64 (lim (K) 2), .int .u64 (lim (K) 3)] 24))) (w.heap.size + 1 + 1) 4 (fun j => .int .u64 (lim (J) j)) := by refine Arr.mk4 ?_ ?_ ?_ ?_ ?_ ?_ ?_ ?_ <;> simp [go_sem]
  have Bk : Arr (((((w.alloc (.cells #[.int .u64 (lim (X1) 0), .int .u64 (lim (X1) 1), .int .u64 (lim (X1) 2), .int .u64 (lim (X1) 3), .int .u64 (lim (Y1) 0), .int .u64 (lim (Y1) 1), .int .u64 (lim (Y1) 2), .int .u64 (lim (Y1) 3), .bool i1] 26)).alloc (.cells #[.int .u64 (lim (X2) 0), .int .u64 (lim (X2) 1), .int .u64 (lim (X2) 2), .int .u64 (lim (X2) 3), .int .u64 (lim (Y2) 0), .int .u64 (lim (Y2) 1), .int .u64 (lim (Y2) 2), .int .u64 (lim (Y2) 3), .bool i2] 26)).alloc (.cells #[.int .u64 (lim (J) 0), .int .u64 (lim (J) 1), .int .u64 (lim (J) 2), .int .u64 (lim (J) 3)] 24)).alloc (.cells #[.int .u64 (lim (K) 0), .int .u64 (lim (K) 1), .int .u64 (lim (K) 2), .int .u64 (lim (K) 3)] 24))) (w.heap.size + 1 + 1 + 1) 4 (fun j => .int .u64 (lim (K) j)) := by refine Arr.mk4 ?_ ?_ ?_ ?_ ?_ ?_ ?_ ?_ <;> simp [go_sem]
  have hB' : Below w.heap.size w ((((w.alloc (.cells #[.int .u64 (lim (X1) 0), .int .u64 (lim (X1) 1), .int .u64 (lim (X1) 2), .int .u64 (lim (X1) 3), .int .u64 (lim (Y1) 0), .int .u64 (lim (Y1) 1), .int .u64 (lim (Y1) 2), .int .u64 (lim (Y1) 3), .bool i1] 26)).alloc (.cells #[.int .u64 (lim (X2) 0), .int .u64 (lim (X2) 1), .int .u64 (lim (X2) 2), .int .u64 (lim (X2) 3), .int .u64 (lim (Y2) 0), .int .u64 (lim (Y2) 1), .int .u64 (lim (Y2) 2), .int .u64 (lim (Y2) 3), .bool i2] 26)).alloc (.cells #[.int .u64 (lim (J) 0), .int .u64 (lim (J) 1), .int .u64 (lim (J) 2), .int .u64 (lim (J) 3)] 24)).alloc (.cells #[.int .u64 (lim (K) 0), .int .u64 (lim (K) 1), .int .u64 (lim (K) 2), .int .u64 (lim (K) 3)] 24)) := by go_grown
  have Aa := Ba
  have Ab := Bb
  have Aj := Bj
  have Ak := Bk
  have hB := hB'
  clear Ba Bb Bj Bk hB'
  have ca_0 := Aa.cv 0 (by omega) (.int .u64 (lim (X1) 0)) rfl
  have ca_1 := Aa.cv 1 (by omega) (.int .u64 (lim (X1) 1)) rfl
  have ca_2 := Aa.cv 2 (by omega) (.int .u64 (lim (X1) 2)) rfl
  have ca_3 := Aa.cv 3 (by omega) (.int .u64 (lim (X1) 3)) rfl
  have ca_4 := Aa.cv 4 (by omega) (.int .u64 (lim (Y1) 0)) rfl
  have ca_5 := Aa.cv 5 (by omega) (.int .u64 (lim (Y1) 1)) rfl
  have ca_6 := Aa.cv 6 (by omega) (.int .u64 (lim (Y1) 2)) rfl
  have ca_7 := Aa.cv 7 (by omega) (.int .u64 (lim (Y1) 3)) rfl
  have ca_8 := Aa.cv 8 (by omega) (.bool i1) rfl
  go_wp2_with fail
  refine (C1 _).mono ?_
  rintro e w1 ⟨rfl, hb⟩
  have Ba := Arr.to' Aa hb
  have Bb := Arr.to' Ab hb
  have Bj := Arr.to' Aj hb
  have Bk := Arr.to' Ak hb
  have hB' := Bel.call hB hb
  clear hb ca_0 ca_1 ca_2 ca_3 ca_4 ca_5 ca_6 ca_7 ca_8 Aa Ab Aj Ak hB
  have Aa := Ba
  have Ab := Bb
  have Aj := Bj
  have Ak := Bk
  have hB := hB'
  clear Ba Bb Bj Bk hB'
  have cb_0 := Ab.cv 0 (by omega) (.int .u64 (lim (X2) 0)) rfl
  have cb_1 := Ab.cv 1 (by omega) (.int .u64 (lim (X2) 1)) rfl
  have cb_2 := Ab.cv 2 (by omega) (.int .u64 (lim (X2) 2)) rfl
  have cb_3 := Ab.cv 3 (by omega) (.int .u64 (lim (X2) 3)) rfl
  have cb_4 := Ab.cv 4 (by omega) (.int .u64 (lim (Y2) 0)) rfl
  have cb_5 := Ab.cv 5 (by omega) (.int .u64 (lim (Y2) 1)) rfl
  have cb_6 := Ab.cv 6 (by omega) (.int .u64 (lim (Y2) 2)) rfl
  have cb_7 := Ab.cv 7 (by omega) (.int .u64 (lim (Y2) 3)) rfl
  have cb_8 := Ab.cv 8 (by omega) (.bool i2) rfl
  go_wp2_with fail
  refine (C2 _).mono ?_
  rintro e w12 ⟨rfl, hb⟩
  have Ba := Arr.to' Aa hb
  have Bb := Arr.to' Ab hb
  have Bj := Arr.to' Aj hb
  have Bk := Arr.to' Ak hb
  have hB' := Bel.call hB hb
  clear hb cb_0 cb_1 cb_2 cb_3 cb_4 cb_5 cb_6 cb_7 cb_8 Aa Ab Aj Ak hB
  have Aa := Ba
  have Ab := Bb
  have Aj := Bj
  have Ak := Bk
  have hB := hB'
  clear Ba Bb Bj Bk hB'
  have ra0 := Aa.cg 0 (by omega) (.int .u64 (lim (X1) 0)) rfl
  have ra1 := Aa.cg 1 (by omega) (.int .u64 (lim (X1) 1)) rfl
  have ra2 := Aa.cg 2 (by omega) (.int .u64 (lim (X1) 2)) rfl
  have ra3 := Aa.cg 3 (by omega) (.int .u64 (lim (X1) 3)) rfl
  have ra4 := Aa.cg 4 (by omega) (.int .u64 (lim (Y1) 0)) rfl
  have ra5 := Aa.cg 5 (by omega) (.int .u64 (lim (Y1) 1)) rfl
  have ra6 := Aa.cg 6 (by omega) (.int .u64 (lim (Y1) 2)) rfl
  have ra7 := Aa.cg 7 (by omega) (.int .u64 (lim (Y1) 3)) rfl
  have ra8 := Aa.cg 8 (by omega) (.bool i1) rfl
  have rb0 := Ab.cg 0 (by omega) (.int .u64 (lim (X2) 0)) rfl
  have rb1 := Ab.cg 1 (by omega) (.int .u64 (lim (X2) 1)) rfl
  have rb2 := Ab.cg 2 (by omega) (.int .u64 (lim (X2) 2)) rfl
  have rb3 := Ab.cg 3 (by omega) (.int .u64 (lim (X2) 3)) rfl
  have rb4 := Ab.cg 4 (by omega) (.int .u64 (lim (Y2) 0)) rfl
  have rb5 := Ab.cg 5 (by omega) (.int .u64 (lim (Y2) 1)) rfl
  have rb6 := Ab.cg 6 (by omega) (.int .u64 (lim (Y2) 2)) rfl
  have rb7 := Ab.cg 7 (by omega) (.int .u64 (lim (Y2) 3)) rfl
  have rb8 := Ab.cg 8 (by omega) (.bool i2) rfl
  have rj0 := fun ds os => cell_regrown (Aj.c 0 (by omega)) ds os
  have rj1 := fun ds os => cell_regrown (Aj.c 1 (by omega)) ds os
  have rj2 := fun ds os => cell_regrown (Aj.c 2 (by omega)) ds os
  have rj3 := fun ds os => cell_regrown (Aj.c 3 (by omega)) ds os
  have rk0 := fun ds os => cell_regrown (Ak.c 0 (by omega)) ds os
  have rk1 := fun ds os => cell_regrown (Ak.c 1 (by omega)) ds os
  have rk2 := fun ds os => cell_regrown (Ak.c 2 (by omega)) ds os
  have rk3 := fun ds os => cell_regrown (Ak.c 3 (by omega)) ds os
  go_wp2_with fail
  refine wp_region_quiet_below (by kernel_rfl) (by kernel_rfl) ?_
  repeat (go_big_quiet_step (first | (go_at_call 6; with_reducible first | exact Calls.regrown_of (C3 _)) | (go_at_call 7; with_reducible first | exact Calls.regrown_of (C4 _)) | (go_at_call 8; with_reducible first | exact Calls.regrown_of (C5 _)) | (go_at_call 9; with_reducible first | exact Calls.regrown_of (C6 _)) | (go_at_call 10; with_reducible first | exact Calls.regrown_of (C7 _)) | (go_at_call 11; with_reducible first | exact Calls.regrown_of (C8 _)) | (go_at_call 5; with_reducible first | exact Calls.regrown_of (C9 _))))
  refine wpQuiet_nil ?_
  intro w3 hw'
  obtain ⟨⟨dq, osq⟩, hw''⟩ := hw'
  have hb := below_of hw''
  clear hw''
  have Ba := Arr.to' Aa hb
  have Bb := Arr.to' Ab hb
  have Bj := Arr.to' Aj hb
  have Bk := Arr.to' Ak hb
  have hB' := Bel.call hB hb
  clear hb ra0 ra1 ra2 ra3 ra4 ra5 ra6 ra7 ra8 rb0 rb1 rb2 rb3 rb4 rb5 rb6 rb7 rb8 rj0 rj1 rj2 rj3 rk0 rk1 rk2 rk3 Aa Ab Aj Ak hB
  have Aa := Ba
  have Ab := Bb
  have Aj := Bj
  have Ak := Bk
  have hB := hB'
  clear Ba Bb Bj Bk hB'
  go_wp2_with fail
  go_ret
  exact ⟨rfl, hB⟩
end Go.Proofs.YtgekafmojedlkaaGreat
