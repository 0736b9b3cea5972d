/- The walk of layer 4's statement PointGroup. -/
import Derived.Test.YtgekafmojedlkaaJ43
set_option linter.all false
set_option maxRecDepth 100000
namespace Go.Proofs.Ytgekafmojedlkaa
open Go.RowKit Go.Sort
attribute [local go_sem] eq24
set_option maxHeartbeats 8000000 in
theorem group_no1 (X1 Y1 X2 Y2 X3 Y3 : Int) (i1 i2 i3 : Bool) (w : World)
    (C1 : ∀ W, Calls Try.prog 12 #[pv X1 Y1 i1] W fun e w' => e = .returned (.bool false) ∧ Below W.heap.size W w')
    (C2 : ∀ W, Calls Try.prog 17 #[] W fun e w' => e = .returned (.bool true) ∧ Below W.heap.size W w') :
    Calls Try.prog 4 #[pv X1 Y1 i1, pv X2 Y2 i2, pv X3 Y3 i3] w fun e w' => e = .returned (.bool true) ∧ Below w.heap.size w w' := by
  have q26 := eq26g
  go_enter Try.func4, Try.ntmps4
  have Ba := Arr.mk9p (w := (((w.alloc (.cells #[.int .u64 (lim (X1) 0), .int .u64 (lim (X1) 1), .int .u64 (lim (X1) 2), .int .u64 (lim (X1) 3), .int .u64 (lim (Y1) 0), .int .u64 (lim (Y1) 1), .int .u64 (lim (Y1) 2), .int .u64 (lim (Y1) 3), .bool i1] 26)).alloc (.cells #[.int .u64 (lim (X2) 0), .int .u64 (lim (X2) 1), .int .u64 (lim (X2) 2), .int .u64 (lim (X2) 3), .int .u64 (lim (Y2) 0), .int .u64 (lim (Y2) 1), .int .u64 (lim (Y2) 2), .int .u64 (lim (Y2) 3), .bool i2] 26)).alloc (.cells #[.int .u64 (lim (X3) 0), .int .u64 (lim (X3) 1), .int .u64 (lim (X3) 2), .int .u64 (lim (X3) 3), .int .u64 (lim (Y3) 0), .int .u64 (lim (Y3) 1), .int .u64 (lim (Y3) 2), .int .u64 (lim (Y3) 3), .bool i3] 26))) (f := px (X1) (Y1) i1) (b := w.heap.size) (by simp [go_sem, px, sx, zx]) (by simp [go_sem, px, sx, zx]) (by simp [go_sem, px, sx, zx]) (by simp [go_sem, px, sx, zx]) (by simp [go_sem, px, sx, zx]) (by simp [go_sem, px, sx, zx]) (by simp [go_sem, px, sx, zx]) (by simp [go_sem, px, sx, zx]) (by simp [go_sem, px, sx, zx]) (by simp [go_sem, px, sx, zx])
  have Bb := Arr.mk9p (w := (((w.alloc (.cells #[.int .u64 (lim (X1) 0), .int .u64 (lim (X1) 1), .int .u64 (lim (X1) 2), .int .u64 (lim (X1) 3), .int .u64 (lim (Y1) 0), .int .u64 (lim (Y1) 1), .int .u64 (lim (Y1) 2), .int .u64 (lim (Y1) 3), .bool i1] 26)).alloc (.cells #[.int .u64 (lim (X2) 0), .int .u64 (lim (X2) 1), .int .u64 (lim (X2) 2), .int .u64 (lim (X2) 3), .int .u64 (lim (Y2) 0), .int .u64 (lim (Y2) 1), .int .u64 (lim (Y2) 2), .int .u64 (lim (Y2) 3), .bool i2] 26)).alloc (.cells #[.int .u64 (lim (X3) 0), .int .u64 (lim (X3) 1), .int .u64 (lim (X3) 2), .int .u64 (lim (X3) 3), .int .u64 (lim (Y3) 0), .int .u64 (lim (Y3) 1), .int .u64 (lim (Y3) 2), .int .u64 (lim (Y3) 3), .bool i3] 26))) (f := px (X2) (Y2) i2) (b := w.heap.size + 1) (by simp [go_sem, px, sx, zx]) (by simp [go_sem, px, sx, zx]) (by simp [go_sem, px, sx, zx]) (by simp [go_sem, px, sx, zx]) (by simp [go_sem, px, sx, zx]) (by simp [go_sem, px, sx, zx]) (by simp [go_sem, px, sx, zx]) (by simp [go_sem, px, sx, zx]) (by simp [go_sem, px, sx, zx]) (by simp [go_sem, px, sx, zx])
  have Bc := Arr.mk9p (w := (((w.alloc (.cells #[.int .u64 (lim (X1) 0), .int .u64 (lim (X1) 1), .int .u64 (lim (X1) 2), .int .u64 (lim (X1) 3), .int .u64 (lim (Y1) 0), .int .u64 (lim (Y1) 1), .int .u64 (lim (Y1) 2), .int .u64 (lim (Y1) 3), .bool i1] 26)).alloc (.cells #[.int .u64 (lim (X2) 0), .int .u64 (lim (X2) 1), .int .u64 (lim (X2) 2), .int .u64 (lim (X2) 3), .int .u64 (lim (Y2) 0), .int .u64 (lim (Y2) 1), .int .u64 (lim (Y2) 2), .int .u64 (lim (Y2) 3), .bool i2] 26)).alloc (.cells #[.int .u64 (lim (X3) 0), .int .u64 (lim (X3) 1), .int .u64 (lim (X3) 2), .int .u64 (lim (X3) 3), .int .u64 (lim (Y3) 0), .int .u64 (lim (Y3) 1), .int .u64 (lim (Y3) 2), .int .u64 (lim (Y3) 3), .bool i3] 26))) (f := px (X3) (Y3) i3) (b := w.heap.size + 1 + 1) (by simp [go_sem, px, sx, zx]) (by simp [go_sem, px, sx, zx]) (by simp [go_sem, px, sx, zx]) (by simp [go_sem, px, sx, zx]) (by simp [go_sem, px, sx, zx]) (by simp [go_sem, px, sx, zx]) (by simp [go_sem, px, sx, zx]) (by simp [go_sem, px, sx, zx]) (by simp [go_sem, px, sx, zx]) (by simp [go_sem, px, sx, zx])
  have hB' : Below w.heap.size w (((w.alloc (.cells #[.int .u64 (lim (X1) 0), .int .u64 (lim (X1) 1), .int .u64 (lim (X1) 2), .int .u64 (lim (X1) 3), .int .u64 (lim (Y1) 0), .int .u64 (lim (Y1) 1), .int .u64 (lim (Y1) 2), .int .u64 (lim (Y1) 3), .bool i1] 26)).alloc (.cells #[.int .u64 (lim (X2) 0), .int .u64 (lim (X2) 1), .int .u64 (lim (X2) 2), .int .u64 (lim (X2) 3), .int .u64 (lim (Y2) 0), .int .u64 (lim (Y2) 1), .int .u64 (lim (Y2) 2), .int .u64 (lim (Y2) 3), .bool i2] 26)).alloc (.cells #[.int .u64 (lim (X3) 0), .int .u64 (lim (X3) 1), .int .u64 (lim (X3) 2), .int .u64 (lim (X3) 3), .int .u64 (lim (Y3) 0), .int .u64 (lim (Y3) 1), .int .u64 (lim (Y3) 2), .int .u64 (lim (Y3) 3), .bool i3] 26)) := by go_grown
  have Aa := Ba
  have Ab := Bb
  have Ac := Bc
  have hB := hB'
  clear Ba Bb Bc hB'
  have ca_0 := Aa.cv 0 (by omega) (.int .u64 (lim (X1) 0)) rfl
  have ca_1 := Aa.cv 1 (by omega) (.int .u64 (lim (X1) 1)) rfl
  have ca_2 := Aa.cv 2 (by omega) (.int .u64 (lim (X1) 2)) rfl
  have ca_3 := Aa.cv 3 (by omega) (.int .u64 (lim (X1) 3)) rfl
  have ca_4 := Aa.cv 4 (by omega) (.int .u64 (lim (Y1) 0)) rfl
  have ca_5 := Aa.cv 5 (by omega) (.int .u64 (lim (Y1) 1)) rfl
  have ca_6 := Aa.cv 6 (by omega) (.int .u64 (lim (Y1) 2)) rfl
  have ca_7 := Aa.cv 7 (by omega) (.int .u64 (lim (Y1) 3)) rfl
  have ca_8 := Aa.cv 8 (by omega) (.bool i1) rfl
  go_wp2_with fail
  refine (C1 _).mono ?_
  rintro e w1 ⟨rfl, hb⟩
  have Ba := Arr.to' Aa hb
  have Bb := Arr.to' Ab hb
  have Bc := Arr.to' Ac hb
  have hB' := Bel.call hB hb
  clear hb ca_0 ca_1 ca_2 ca_3 ca_4 ca_5 ca_6 ca_7 ca_8 Aa Ab Ac hB
  have Aa := Ba
  have Ab := Bb
  have Ac := Bc
  have hB := hB'
  clear Ba Bb Bc hB'
  go_wp2_with fail
  refine (C2 _).mono ?_
  rintro e w12 ⟨rfl, hb⟩
  have Ba := Arr.to' Aa hb
  have Bb := Arr.to' Ab hb
  have Bc := Arr.to' Ac hb
  have hB' := Bel.call hB hb
  clear hb Aa Ab Ac hB
  have Aa := Ba
  have Ab := Bb
  have Ac := Bc
  have hB := hB'
  clear Ba Bb Bc hB'
  go_wp2_with fail
  go_ret
  exact ⟨rfl, hB⟩
set_option maxHeartbeats 8000000 in
theorem group_no2 (X1 Y1 X2 Y2 X3 Y3 : Int) (i1 i2 i3 : Bool) (w : World)
    (C1 : ∀ W, Calls Try.prog 12 #[pv X1 Y1 i1] W fun e w' => e = .returned (.bool true) ∧ Below W.heap.size W w')
    (C2 : ∀ W, Calls Try.prog 12 #[pv X2 Y2 i2] W fun e w' => e = .returned (.bool false) ∧ Below W.heap.size W w')
    (C3 : ∀ W, Calls Try.prog 17 #[] W fun e w' => e = .returned (.bool true) ∧ Below W.heap.size W w') :
    Calls Try.prog 4 #[pv X1 Y1 i1, pv X2 Y2 i2, pv X3 Y3 i3] w fun e w' => e = .returned (.bool true) ∧ Below w.heap.size w w' := by
  have q26 := eq26g
  go_enter Try.func4, Try.ntmps4
  have Ba := Arr.mk9p (w := (((w.alloc (.cells #[.int .u64 (lim (X1) 0), .int .u64 (lim (X1) 1), .int .u64 (lim (X1) 2), .int .u64 (lim (X1) 3), .int .u64 (lim (Y1) 0), .int .u64 (lim (Y1) 1), .int .u64 (lim (Y1) 2), .int .u64 (lim (Y1) 3), .bool i1] 26)).alloc (.cells #[.int .u64 (lim (X2) 0), .int .u64 (lim (X2) 1), .int .u64 (lim (X2) 2), .int .u64 (lim (X2) 3), .int .u64 (lim (Y2) 0), .int .u64 (lim (Y2) 1), .int .u64 (lim (Y2) 2), .int .u64 (lim (Y2) 3), .bool i2] 26)).alloc (.cells #[.int .u64 (lim (X3) 0), .int .u64 (lim (X3) 1), .int .u64 (lim (X3) 2), .int .u64 (lim (X3) 3), .int .u64 (lim (Y3) 0), .int .u64 (lim (Y3) 1), .int .u64 (lim (Y3) 2), .int .u64 (lim (Y3) 3), .bool i3] 26))) (f := px (X1) (Y1) i1) (b := w.heap.size) (by simp [go_sem, px, sx, zx]) (by simp [go_sem, px, sx, zx]) (by simp [go_sem, px, sx, zx]) (by simp [go_sem, px, sx, zx]) (by simp [go_sem, px, sx, zx]) (by simp [go_sem, px, sx, zx]) (by simp [go_sem, px, sx, zx]) (by simp [go_sem, px, sx, zx]) (by simp [go_sem, px, sx, zx]) (by simp [go_sem, px, sx, zx])
  have Bb := Arr.mk9p (w := (((w.alloc (.cells #[.int .u64 (lim (X1) 0), .int .u64 (lim (X1) 1), .int .u64 (lim (X1) 2), .int .u64 (lim (X1) 3), .int .u64 (lim (Y1) 0), .int .u64 (lim (Y1) 1), .int .u64 (lim (Y1) 2), .int .u64 (lim (Y1) 3), .bool i1] 26)).alloc (.cells #[.int .u64 (lim (X2) 0), .int .u64 (lim (X2) 1), .int .u64 (lim (X2) 2), .int .u64 (lim (X2) 3), .int .u64 (lim (Y2) 0), .int .u64 (lim (Y2) 1), .int .u64 (lim (Y2) 2), .int .u64 (lim (Y2) 3), .bool i2] 26)).alloc (.cells #[.int .u64 (lim (X3) 0), .int .u64 (lim (X3) 1), .int .u64 (lim (X3) 2), .int .u64 (lim (X3) 3), .int .u64 (lim (Y3) 0), .int .u64 (lim (Y3) 1), .int .u64 (lim (Y3) 2), .int .u64 (lim (Y3) 3), .bool i3] 26))) (f := px (X2) (Y2) i2) (b := w.heap.size + 1) (by simp [go_sem, px, sx, zx]) (by simp [go_sem, px, sx, zx]) (by simp [go_sem, px, sx, zx]) (by simp [go_sem, px, sx, zx]) (by simp [go_sem, px, sx, zx]) (by simp [go_sem, px, sx, zx]) (by simp [go_sem, px, sx, zx]) (by simp [go_sem, px, sx, zx]) (by simp [go_sem, px, sx, zx]) (by simp [go_sem, px, sx, zx])
  have Bc := Arr.mk9p (w := (((w.alloc (.cells #[.int .u64 (lim (X1) 0), .int .u64 (lim (X1) 1), .int .u64 (lim (X1) 2), .int .u64 (lim (X1) 3), .int .u64 (lim (Y1) 0), .int .u64 (lim (Y1) 1), .int .u64 (lim (Y1) 2), .int .u64 (lim (Y1) 3), .bool i1] 26)).alloc (.cells #[.int .u64 (lim (X2) 0), .int .u64 (lim (X2) 1), .int .u64 (lim (X2) 2), .int .u64 (lim (X2) 3), .int .u64 (lim (Y2) 0), .int .u64 (lim (Y2) 1), .int .u64 (lim (Y2) 2), .int .u64 (lim (Y2) 3), .bool i2] 26)).alloc (.cells #[.int .u64 (lim (X3) 0), .int .u64 (lim (X3) 1), .int .u64 (lim (X3) 2), .int .u64 (lim (X3) 3), .int .u64 (lim (Y3) 0), .int .u64 (lim (Y3) 1), .int .u64 (lim (Y3) 2), .int .u64 (lim (Y3) 3), .bool i3] 26))) (f := px (X3) (Y3) i3) (b := w.heap.size + 1 + 1) (by simp [go_sem, px, sx, zx]) (by simp [go_sem, px, sx, zx]) (by simp [go_sem, px, sx, zx]) (by simp [go_sem, px, sx, zx]) (by simp [go_sem, px, sx, zx]) (by simp [go_sem, px, sx, zx]) (by simp [go_sem, px, sx, zx]) (by simp [go_sem, px, sx, zx]) (by simp [go_sem, px, sx, zx]) (by simp [go_sem, px, sx, zx])
  have hB' : Below w.heap.size w (((w.alloc (.cells #[.int .u64 (lim (X1) 0), .int .u64 (lim (X1) 1), .int .u64 (lim (X1) 2), .int .u64 (lim (X1) 3), .int .u64 (lim (Y1) 0), .int .u64 (lim (Y1) 1), .int .u64 (lim (Y1) 2), .int .u64 (lim (Y1) 3), .bool i1] 26)).alloc (.cells #[.int .u64 (lim (X2) 0), .int .u64 (lim (X2) 1), .int .u64 (lim (X2) 2), .int .u64 (lim (X2) 3), .int .u64 (lim (Y2) 0), .int .u64 (lim (Y2) 1), .int .u64 (lim (Y2) 2), .int .u64 (lim (Y2) 3), .bool i2] 26)).alloc (.cells #[.int .u64 (lim (X3) 0), .int .u64 (lim (X3) 1), .int .u64 (lim (X3) 2), .int .u64 (lim (X3) 3), .int .u64 (lim (Y3) 0), .int .u64 (lim (Y3) 1), .int .u64 (lim (Y3) 2), .int .u64 (lim (Y3) 3), .bool i3] 26)) := by go_grown
  have Aa := Ba
  have Ab := Bb
  have Ac := Bc
  have hB := hB'
  clear Ba Bb Bc hB'
  have ca_0 := Aa.cv 0 (by omega) (.int .u64 (lim (X1) 0)) rfl
  have ca_1 := Aa.cv 1 (by omega) (.int .u64 (lim (X1) 1)) rfl
  have ca_2 := Aa.cv 2 (by omega) (.int .u64 (lim (X1) 2)) rfl
  have ca_3 := Aa.cv 3 (by omega) (.int .u64 (lim (X1) 3)) rfl
  have ca_4 := Aa.cv 4 (by omega) (.int .u64 (lim (Y1) 0)) rfl
  have ca_5 := Aa.cv 5 (by omega) (.int .u64 (lim (Y1) 1)) rfl
  have ca_6 := Aa.cv 6 (by omega) (.int .u64 (lim (Y1) 2)) rfl
  have ca_7 := Aa.cv 7 (by omega) (.int .u64 (lim (Y1) 3)) rfl
  have ca_8 := Aa.cv 8 (by omega) (.bool i1) rfl
  go_wp2_with fail
  refine (C1 _).mono ?_
  rintro e w1 ⟨rfl, hb⟩
  have Ba := Arr.to' Aa hb
  have Bb := Arr.to' Ab hb
  have Bc := Arr.to' Ac hb
  have hB' := Bel.call hB hb
  clear hb ca_0 ca_1 ca_2 ca_3 ca_4 ca_5 ca_6 ca_7 ca_8 Aa Ab Ac hB
  have Aa := Ba
  have Ab := Bb
  have Ac := Bc
  have hB := hB'
  clear Ba Bb Bc hB'
  have cb_0 := Ab.cv 0 (by omega) (.int .u64 (lim (X2) 0)) rfl
  have cb_1 := Ab.cv 1 (by omega) (.int .u64 (lim (X2) 1)) rfl
  have cb_2 := Ab.cv 2 (by omega) (.int .u64 (lim (X2) 2)) rfl
  have cb_3 := Ab.cv 3 (by omega) (.int .u64 (lim (X2) 3)) rfl
  have cb_4 := Ab.cv 4 (by omega) (.int .u64 (lim (Y2) 0)) rfl
  have cb_5 := Ab.cv 5 (by omega) (.int .u64 (lim (Y2) 1)) rfl
  have cb_6 := Ab.cv 6 (by omega) (.int .u64 (lim (Y2) 2)) rfl
  have cb_7 := Ab.cv 7 (by omega) (.int .u64 (lim (Y2) 3)) rfl
  have cb_8 := Ab.cv 8 (by omega) (.bool i2) rfl
  go_wp2_with fail
  refine (C2 _).mono ?_
  rintro e w12 ⟨rfl, hb⟩
  have Ba := Arr.to' Aa hb
  have Bb := Arr.to' Ab hb
  have Bc := Arr.to' Ac hb
  have hB' := Bel.call hB hb
  clear hb cb_0 cb_1 cb_2 cb_3 cb_4 cb_5 cb_6 cb_7 cb_8 Aa Ab Ac hB
  have Aa := Ba
  have Ab := Bb
  have Ac := Bc
  have hB := hB'
  clear Ba Bb Bc hB'
  go_wp2_with fail
  refine (C3 _).mono ?_
  rintro e w13 ⟨rfl, hb⟩
  have Ba := Arr.to' Aa hb
  have Bb := Arr.to' Ab hb
  have Bc := Arr.to' Ac hb
  have hB' := Bel.call hB hb
  clear hb Aa Ab Ac hB
  have Aa := Ba
  have Ab := Bb
  have Ac := Bc
  have hB := hB'
  clear Ba Bb Bc hB'
  go_wp2_with fail
  go_ret
  exact ⟨rfl, hB⟩
set_option maxHeartbeats 8000000 in
theorem group_no3 (X1 Y1 X2 Y2 X3 Y3 : Int) (i1 i2 i3 : Bool) (w : World)
    (C1 : ∀ W, Calls Try.prog 12 #[pv X1 Y1 i1] W fun e w' => e = .returned (.bool true) ∧ Below W.heap.size W w')
    (C2 : ∀ W, Calls Try.prog 12 #[pv X2 Y2 i2] W fun e w' => e = .returned (.bool true) ∧ Below W.heap.size W w')
    (C3 : ∀ W, Calls Try.prog 12 #[pv X3 Y3 i3] W fun e w' => e = .returned (.bool false) ∧ Below W.heap.size W w')
    (C4 : ∀ W, Calls Try.prog 17 #[] W fun e w' => e = .returned (.bool true) ∧ Below W.heap.size W w') :
    Calls Try.prog 4 #[pv X1 Y1 i1, pv X2 Y2 i2, pv X3 Y3 i3] w fun e w' => e = .returned (.bool true) ∧ Below w.heap.size w w' := by
  have q26 := eq26g
  go_enter Try.func4, Try.ntmps4
  have Ba := Arr.mk9p (w := (((w.alloc (.cells #[.int .u64 (lim (X1) 0), .int .u64 (lim (X1) 1), .int .u64 (lim (X1) 2), .int .u64 (lim (X1) 3), .int .u64 (lim (Y1) 0), .int .u64 (lim (Y1) 1), .int .u64 (lim (Y1) 2), .int .u64 (lim (Y1) 3), .bool i1] 26)).alloc (.cells #[.int .u64 (lim (X2) 0), .int .u64 (lim (X2) 1), .int .u64 (lim (X2) 2), .int .u64 (lim (X2) 3), .int .u64 (lim (Y2) 0), .int .u64 (lim (Y2) 1), .int .u64 (lim (Y2) 2), .int .u64 (lim (Y2) 3), .bool i2] 26)).alloc (.cells #[.int .u64 (lim (X3) 0), .int .u64 (lim (X3) 1), .int .u64 (lim (X3) 2), .int .u64 (lim (X3) 3), .int .u64 (lim (Y3) 0), .int .u64 (lim (Y3) 1), .int .u64 (lim (Y3) 2), .int .u64 (lim (Y3) 3), .bool i3] 26))) (f := px (X1) (Y1) i1) (b := w.heap.size) (by simp [go_sem, px, sx, zx]) (by simp [go_sem, px, sx, zx]) (by simp [go_sem, px, sx, zx]) (by simp [go_sem, px, sx, zx]) (by simp [go_sem, px, sx, zx]) (by simp [go_sem, px, sx, zx]) (by simp [go_sem, px, sx, zx]) (by simp [go_sem, px, sx, zx]) (by simp [go_sem, px, sx, zx]) (by simp [go_sem, px, sx, zx])
  have Bb := Arr.mk9p (w := (((w.alloc (.cells #[.int .u64 (lim (X1) 0), .int .u64 (lim (X1) 1), .int .u64 (lim (X1) 2), .int .u64 (lim (X1) 3), .int .u64 (lim (Y1) 0), .int .u64 (lim (Y1) 1), .int .u64 (lim (Y1) 2), .int .u64 (lim (Y1) 3), .bool i1] 26)).alloc (.cells #[.int .u64 (lim (X2) 0), .int .u64 (lim (X2) 1), .int .u64 (lim (X2) 2), .int .u64 (lim (X2) 3), .int .u64 (lim (Y2) 0), .int .u64 (lim (Y2) 1), .int .u64 (lim (Y2) 2), .int .u64 (lim (Y2) 3), .bool i2] 26)).alloc (.cells #[.int .u64 (lim (X3) 0), .int .u64 (lim (X3) 1), .int .u64 (lim (X3) 2), .int .u64 (lim (X3) 3), .int .u64 (lim (Y3) 0), .int .u64 (lim (Y3) 1), .int .u64 (lim (Y3) 2), .int .u64 (lim (Y3) 3), .bool i3] 26))) (f := px (X2) (Y2) i2) (b := w.heap.size + 1) (by simp [go_sem, px, sx, zx]) (by simp [go_sem, px, sx, zx]) (by simp [go_sem, px, sx, zx]) (by simp [go_sem, px, sx, zx]) (by simp [go_sem, px, sx, zx]) (by simp [go_sem, px, sx, zx]) (by simp [go_sem, px, sx, zx]) (by simp [go_sem, px, sx, zx]) (by simp [go_sem, px, sx, zx]) (by simp [go_sem, px, sx, zx])
  have Bc := Arr.mk9p (w := (((w.alloc (.cells #[.int .u64 (lim (X1) 0), .int .u64 (lim (X1) 1), .int .u64 (lim (X1) 2), .int .u64 (lim (X1) 3), .int .u64 (lim (Y1) 0), .int .u64 (lim (Y1) 1), .int .u64 (lim (Y1) 2), .int .u64 (lim (Y1) 3), .bool i1] 26)).alloc (.cells #[.int .u64 (lim (X2) 0), .int .u64 (lim (X2) 1), .int .u64 (lim (X2) 2), .int .u64 (lim (X2) 3), .int .u64 (lim (Y2) 0), .int .u64 (lim (Y2) 1), .int .u64 (lim (Y2) 2), .int .u64 (lim (Y2) 3), .bool i2] 26)).alloc (.cells #[.int .u64 (lim (X3) 0), .int .u64 (lim (X3) 1), .int .u64 (lim (X3) 2), .int .u64 (lim (X3) 3), .int .u64 (lim (Y3) 0), .int .u64 (lim (Y3) 1), .int .u64 (lim (Y3) 2), .int .u64 (lim (Y3) 3), .bool i3] 26))) (f := px (X3) (Y3) i3) (b := w.heap.size + 1 + 1) (by simp [go_sem, px, sx, zx]) (by simp [go_sem, px, sx, zx]) (by simp [go_sem, px, sx, zx]) (by simp [go_sem, px, sx, zx]) (by simp [go_sem, px, sx, zx]) (by simp [go_sem, px, sx, zx]) (by simp [go_sem, px, sx, zx]) (by simp [go_sem, px, sx, zx]) (by simp [go_sem, px, sx, zx]) (by simp [go_sem, px, sx, zx])
  have hB' : Below w.heap.size w (((w.alloc (.cells #[.int .u64 (lim (X1) 0), .int .u64 (lim (X1) 1), .int .u64 (lim (X1) 2), .int .u64 (lim (X1) 3), .int .u64 (lim (Y1) 0), .int .u64 (lim (Y1) 1), .int .u64 (lim (Y1) 2), .int .u64 (lim (Y1) 3), .bool i1] 26)).alloc (.cells #[.int .u64 (lim (X2) 0), .int .u64 (lim (X2) 1), .int .u64 (lim (X2) 2), .int .u64 (lim (X2) 3), .int .u64 (lim (Y2) 0), .int .u64 (lim (Y2) 1), .int .u64 (lim (Y2) 2), .int .u64 (lim (Y2) 3), .bool i2] 26)).alloc (.cells #[.int .u64 (lim (X3) 0), .int .u64 (lim (X3) 1), .int .u64 (lim (X3) 2), .int .u64 (lim (X3) 3), .int .u64 (lim (Y3) 0), .int .u64 (lim (Y3) 1), .int .u64 (lim (Y3) 2), .int .u64 (lim (Y3) 3), .bool i3] 26)) := by go_grown
  have Aa := Ba
  have Ab := Bb
  have Ac := Bc
  have hB := hB'
  clear Ba Bb Bc hB'
  have ca_0 := Aa.cv 0 (by omega) (.int .u64 (lim (X1) 0)) rfl
  have ca_1 := Aa.cv 1 (by omega) (.int .u64 (lim (X1) 1)) rfl
  have ca_2 := Aa.cv 2 (by omega) (.int .u64 (lim (X1) 2)) rfl
  have ca_3 := Aa.cv 3 (by omega) (.int .u64 (lim (X1) 3)) rfl
  have ca_4 := Aa.cv 4 (by omega) (.int .u64 (lim (Y1) 0)) rfl
  have ca_5 := Aa.cv 5 (by omega) (.int .u64 (lim (Y1) 1)) rfl
  have ca_6 := Aa.cv 6 (by omega) (.int .u64 (lim (Y1) 2)) rfl
  have ca_7 := Aa.cv 7 (by omega) (.int .u64 (lim (Y1) 3)) rfl
  have ca_8 := Aa.cv 8 (by omega) (.bool i1) rfl
  go_wp2_with fail
  refine (C1 _).mono ?_
  rintro e w1 ⟨rfl, hb⟩
  have Ba := Arr.to' Aa hb
  have Bb := Arr.to' Ab hb
  have Bc := Arr.to' Ac hb
  have hB' := Bel.call hB hb
  clear hb ca_0 ca_1 ca_2 ca_3 ca_4 ca_5 ca_6 ca_7 ca_8 Aa Ab Ac hB
  have Aa := Ba
  have Ab := Bb
  have Ac := Bc
  have hB := hB'
  clear Ba Bb Bc hB'
  have cb_0 := Ab.cv 0 (by omega) (.int .u64 (lim (X2) 0)) rfl
  have cb_1 := Ab.cv 1 (by omega) (.int .u64 (lim (X2) 1)) rfl
  have cb_2 := Ab.cv 2 (by omega) (.int .u64 (lim (X2) 2)) rfl
  have cb_3 := Ab.cv 3 (by omega) (.int .u64 (lim (X2) 3)) rfl
  have cb_4 := Ab.cv 4 (by omega) (.int .u64 (lim (Y2) 0)) rfl
  have cb_5 := Ab.cv 5 (by omega) (.int .u64 (lim (Y2) 1)) rfl
  have cb_6 := Ab.cv 6 (by omega) (.int .u64 (lim (Y2) 2)) rfl
  have cb_7 := Ab.cv 7 (by omega) (.int .u64 (lim (Y2) 3)) rfl
  have cb_8 := Ab.cv 8 (by omega) (.bool i2) rfl
  go_wp2_with fail
  refine (C2 _).mono ?_
  rintro e w12 ⟨rfl, hb⟩
  have Ba := Arr.to' Aa hb
  have Bb := Arr.to' Ab hb
  have Bc := Arr.to' Ac hb
  have hB' := Bel.call hB hb
  clear hb cb_0 cb_1 cb_2 cb_3 cb_4 cb_5 cb_6 cb_7 cb_8 Aa Ab Ac hB
  have Aa := Ba
  have Ab := Bb
  have Ac := Bc
  have hB := hB'
  clear Ba Bb Bc hB'
  have cc_0 := Ac.cv 0 (by omega) (.int .u64 (lim (X3) 0)) rfl
  have cc_1 := Ac.cv 1 (by omega) (.int .u64 (lim (X3) 1)) rfl
  have cc_2 := Ac.cv 2 (by omega) (.int .u64 (lim (X3) 2)) rfl
  have cc_3 := Ac.cv 3 (by omega) (.int .u64 (lim (X3) 3)) rfl
  have cc_4 := Ac.cv 4 (by omega) (.int .u64 (lim (Y3) 0)) rfl
  have cc_5 := Ac.cv 5 (by omega) (.int .u64 (lim (Y3) 1)) rfl
  have cc_6 := Ac.cv 6 (by omega) (.int .u64 (lim (Y3) 2)) rfl
  have cc_7 := Ac.cv 7 (by omega) (.int .u64 (lim (Y3) 3)) rfl
  have cc_8 := Ac.cv 8 (by omega) (.bool i3) rfl
  go_wp2_with fail
  refine (C3 _).mono ?_
  rintro e w13 ⟨rfl, hb⟩
  have Ba := Arr.to' Aa hb
  have Bb := Arr.to' Ab hb
  have Bc := Arr.to' Ac hb
  have hB' := Bel.call hB hb
  clear hb cc_0 cc_1 cc_2 cc_3 cc_4 cc_5 cc_6 cc_7 cc_8 Aa Ab Ac hB
  have Aa := Ba
  have Ab := Bb
  have Ac := Bc
  have hB := hB'
  clear Ba Bb Bc hB'
  go_wp2_with fail
  refine (C4 _).mono ?_
  rintro e w14 ⟨rfl, hb⟩
  have Ba := Arr.to' Aa hb
  have Bb := Arr.to' Ab hb
  have Bc := Arr.to' Ac hb
  have hB' := Bel.call hB hb
  clear hb Aa Ab Ac hB
  have Aa := Ba
  have Ab := Bb
  have Ac := Bc
  have hB := hB'
  clear Ba Bb Bc hB'
  go_wp2_with fail
  go_ret
  exact ⟨rfl, hB⟩
set_option maxHeartbeats 8000000 in
theorem group_yes (X1 Y1 X2 Y2 X3 Y3 X4 Y4 X5 Y5 X6 Y6 X7 Y7 : Int) (i1 i2 i3 i4 i5 i6 i7 : Bool) (w : World)
    (C1 : ∀ W, Calls Try.prog 12 #[pv X1 Y1 i1] W fun e w' => e = .returned (.bool true) ∧ Below W.heap.size W w')
    (C2 : ∀ W, Calls Try.prog 12 #[pv X2 Y2 i2] W fun e w' => e = .returned (.bool true) ∧ Below W.heap.size W w')
    (C3 : ∀ W, Calls Try.prog 12 #[pv X3 Y3 i3] W fun e w' => e = .returned (.bool true) ∧ Below W.heap.size W w')
    (C4 : ∀ W, Calls Try.prog 18 #[pv X1 Y1 i1, pv X2 Y2 i2] W fun e w' => e = .returned (pv X4 Y4 i4) ∧ Below W.heap.size W w')
    (C5 : ∀ W, Calls Try.prog 12 #[pv X4 Y4 i4] W fun e w' => e = .returned (.bool true) ∧ Below W.heap.size W w')
    (C6 : ∀ W, Calls Try.prog 18 #[pv X2 Y2 i2, pv X1 Y1 i1] W fun e w' => e = .returned (pv X4 Y4 i4) ∧ Below W.heap.size W w')
    (C7 : ∀ W, Calls Try.prog 18 #[pv X4 Y4 i4, pv X3 Y3 i3] W fun e w' => e = .returned (pv X5 Y5 i5) ∧ Below W.heap.size W w')
    (C8 : ∀ W, Calls Try.prog 18 #[pv X2 Y2 i2, pv X3 Y3 i3] W fun e w' => e = .returned (pv X6 Y6 i6) ∧ Below W.heap.size W w')
    (C9 : ∀ W, Calls Try.prog 18 #[pv X1 Y1 i1, pv X6 Y6 i6] W fun e w' => e = .returned (pv X5 Y5 i5) ∧ Below W.heap.size W w')
    (C10 : ∀ W, Calls Try.prog 15 #[pv X1 Y1 i1] W fun e w' => e = .returned (pv X7 Y7 i7) ∧ Below W.heap.size W w')
    (C11 : ∀ W, Calls Try.prog 18 #[pv X1 Y1 i1, pv X7 Y7 i7] W fun e w' => e = .returned (.agg #[.int .u64 0, .int .u64 0, .int .u64 0, .int .u64 0, .int .u64 0, .int .u64 0, .int .u64 0, .int .u64 0, .bool true]) ∧ Below W.heap.size W w')
    (C12 : ∀ W, Calls Try.prog 18 #[pv X1 Y1 i1, .agg #[.int .u64 0, .int .u64 0, .int .u64 0, .int .u64 0, .int .u64 0, .int .u64 0, .int .u64 0, .int .u64 0, .bool true]] W fun e w' => e = .returned (pv X1 Y1 i1) ∧ Below W.heap.size W w')
    (C13 : ∀ W, Calls Try.prog 17 #[] W fun e w' => e = .returned (.bool true) ∧ Below W.heap.size W w') :
    Calls Try.prog 4 #[pv X1 Y1 i1, pv X2 Y2 i2, pv X3 Y3 i3] w fun e w' => e = .returned (.bool true) ∧ Below w.heap.size w w' := by
  have q26 := eq26g
  go_enter Try.func4, Try.ntmps4
  have Ba := Arr.mk9p (w := (((w.alloc (.cells #[.int .u64 (lim (X1) 0), .int .u64 (lim (X1) 1), .int .u64 (lim (X1) 2), .int .u64 (lim (X1) 3), .int .u64 (lim (Y1) 0), .int .u64 (lim (Y1) 1), .int .u64 (lim (Y1) 2), .int .u64 (lim (Y1) 3), .bool i1] 26)).alloc (.cells #[.int .u64 (lim (X2) 0), .int .u64 (lim (X2) 1), .int .u64 (lim (X2) 2), .int .u64 (lim (X2) 3), .int .u64 (lim (Y2) 0), .int .u64 (lim (Y2) 1), .int .u64 (lim (Y2) 2), .int .u64 (lim (Y2) 3), .bool i2] 26)).alloc (.cells #[.int .u64 (lim (X3) 0), .int .u64 (lim (X3) 1), .int .u64 (lim (X3) 2), .int .u64 (lim (X3) 3), .int .u64 (lim (Y3) 0), .int .u64 (lim (Y3) 1), .int .u64 (lim (Y3) 2), .int .u64 (lim (Y3) 3), .bool i3] 26))) (f := px (X1) (Y1) i1) (b := w.heap.size) (by simp [go_sem, px, sx, zx]) (by simp [go_sem, px, sx, zx]) (by simp [go_sem, px, sx, zx]) (by simp [go_sem, px, sx, zx]) (by simp [go_sem, px, sx, zx]) (by simp [go_sem, px, sx, zx]) (by simp [go_sem, px, sx, zx]) (by simp [go_sem, px, sx, zx]) (by simp [go_sem, px, sx, zx]) (by simp [go_sem, px, sx, zx])
  have Bb := Arr.mk9p (w := (((w.alloc (.cells #[.int .u64 (lim (X1) 0), .int .u64 (lim (X1) 1), .int .u64 (lim (X1) 2), .int .u64 (lim (X1) 3), .int .u64 (lim (Y1) 0), .int .u64 (lim (Y1) 1), .int .u64 (lim (Y1) 2), .int .u64 (lim (Y1) 3), .bool i1] 26)).alloc (.cells #[.int .u64 (lim (X2) 0), .int .u64 (lim (X2) 1), .int .u64 (lim (X2) 2), .int .u64 (lim (X2) 3), .int .u64 (lim (Y2) 0), .int .u64 (lim (Y2) 1), .int .u64 (lim (Y2) 2), .int .u64 (lim (Y2) 3), .bool i2] 26)).alloc (.cells #[.int .u64 (lim (X3) 0), .int .u64 (lim (X3) 1), .int .u64 (lim (X3) 2), .int .u64 (lim (X3) 3), .int .u64 (lim (Y3) 0), .int .u64 (lim (Y3) 1), .int .u64 (lim (Y3) 2), .int .u64 (lim (Y3) 3), .bool i3] 26))) (f := px (X2) (Y2) i2) (b := w.heap.size + 1) (by simp [go_sem, px, sx, zx]) (by simp [go_sem, px, sx, zx]) (by simp [go_sem, px, sx, zx]) (by simp [go_sem, px, sx, zx]) (by simp [go_sem, px, sx, zx]) (by simp [go_sem, px, sx, zx]) (by simp [go_sem, px, sx, zx]) (by simp [go_sem, px, sx, zx]) (by simp [go_sem, px, sx, zx]) (by simp [go_sem, px, sx, zx])
  have Bc := Arr.mk9p (w := (((w.alloc (.cells #[.int .u64 (lim (X1) 0), .int .u64 (lim (X1) 1), .int .u64 (lim (X1) 2), .int .u64 (lim (X1) 3), .int .u64 (lim (Y1) 0), .int .u64 (lim (Y1) 1), .int .u64 (lim (Y1) 2), .int .u64 (lim (Y1) 3), .bool i1] 26)).alloc (.cells #[.int .u64 (lim (X2) 0), .int .u64 (lim (X2) 1), .int .u64 (lim (X2) 2), .int .u64 (lim (X2) 3), .int .u64 (lim (Y2) 0), .int .u64 (lim (Y2) 1), .int .u64 (lim (Y2) 2), .int .u64 (lim (Y2) 3), .bool i2] 26)).alloc (.cells #[.int .u64 (lim (X3) 0), .int .u64 (lim (X3) 1), .int .u64 (lim (X3) 2), .int .u64 (lim (X3) 3), .int .u64 (lim (Y3) 0), .int .u64 (lim (Y3) 1), .int .u64 (lim (Y3) 2), .int .u64 (lim (Y3) 3), .bool i3] 26))) (f := px (X3) (Y3) i3) (b := w.heap.size + 1 + 1) (by simp [go_sem, px, sx, zx]) (by simp [go_sem, px, sx, zx]) (by simp [go_sem, px, sx, zx]) (by simp [go_sem, px, sx, zx]) (by simp [go_sem, px, sx, zx]) (by simp [go_sem, px, sx, zx]) (by simp [go_sem, px, sx, zx]) (by simp [go_sem, px, sx, zx]) (by simp [go_sem, px, sx, zx]) (by simp [go_sem, px, sx, zx])
  have hB' : Below w.heap.size w (((w.alloc (.cells #[.int .u64 (lim (X1) 0), .int .u64 (lim (X1) 1), .int .u64 (lim (X1) 2), .int .u64 (lim (X1) 3), .int .u64 (lim (Y1) 0), .int .u64 (lim (Y1) 1), .int .u64 (lim (Y1) 2), .int .u64 (lim (Y1) 3), .bool i1] 26)).alloc (.cells #[.int .u64 (lim (X2) 0), .int .u64 (lim (X2) 1), .int .u64 (lim (X2) 2), .int .u64 (lim (X2) 3), .int .u64 (lim (Y2) 0), .int .u64 (lim (Y2) 1), .int .u64 (lim (Y2) 2), .int .u64 (lim (Y2) 3), .bool i2] 26)).alloc (.cells #[.int .u64 (lim (X3) 0), .int .u64 (lim (X3) 1), .int .u64 (lim (X3) 2), .int .u64 (lim (X3) 3), .int .u64 (lim (Y3) 0), .int .u64 (lim (Y3) 1), .int .u64 (lim (Y3) 2), .int .u64 (lim (Y3) 3), .bool i3] 26)) := by go_grown
  have Aa := Ba
  have Ab := Bb
  have Ac := Bc
  have hB := hB'
  clear Ba Bb Bc hB'
  have ca_0 := Aa.cv 0 (by omega) (.int .u64 (lim (X1) 0)) rfl
  have ca_1 := Aa.cv 1 (by omega) (.int .u64 (lim (X1) 1)) rfl
  have ca_2 := Aa.cv 2 (by omega) (.int .u64 (lim (X1) 2)) rfl
  have ca_3 := Aa.cv 3 (by omega) (.int .u64 (lim (X1) 3)) rfl
  have ca_4 := Aa.cv 4 (by omega) (.int .u64 (lim (Y1) 0)) rfl
  have ca_5 := Aa.cv 5 (by omega) (.int .u64 (lim (Y1) 1)) rfl
  have ca_6 := Aa.cv 6 (by omega) (.int .u64 (lim (Y1) 2)) rfl
  have ca_7 := Aa.cv 7 (by omega) (.int .u64 (lim (Y1) 3)) rfl
  have ca_8 := Aa.cv 8 (by omega) (.bool i1) rfl
  go_wp2_with fail
  refine (C1 _).mono ?_
  rintro e w1 ⟨rfl, hb⟩
  have Ba := Arr.to' Aa hb
  have Bb := Arr.to' Ab hb
  have Bc := Arr.to' Ac hb
  have hB' := Bel.call hB hb
  clear hb ca_0 ca_1 ca_2 ca_3 ca_4 ca_5 ca_6 ca_7 ca_8 Aa Ab Ac hB
  have Aa := Ba
  have Ab := Bb
  have Ac := Bc
  have hB := hB'
  clear Ba Bb Bc hB'
  have cb_0 := Ab.cv 0 (by omega) (.int .u64 (lim (X2) 0)) rfl
  have cb_1 := Ab.cv 1 (by omega) (.int .u64 (lim (X2) 1)) rfl
  have cb_2 := Ab.cv 2 (by omega) (.int .u64 (lim (X2) 2)) rfl
  have cb_3 := Ab.cv 3 (by omega) (.int .u64 (lim (X2) 3)) rfl
  have cb_4 := Ab.cv 4 (by omega) (.int .u64 (lim (Y2) 0)) rfl
  have cb_5 := Ab.cv 5 (by omega) (.int .u64 (lim (Y2) 1)) rfl
  have cb_6 := Ab.cv 6 (by omega) (.int .u64 (lim (Y2) 2)) rfl
  have cb_7 := Ab.cv 7 (by omega) (.int .u64 (lim (Y2) 3)) rfl
  have cb_8 := Ab.cv 8 (by omega) (.bool i2) rfl
  go_wp2_with fail
  refine (C2 _).mono ?_
  rintro e w12 ⟨rfl, hb⟩
  have Ba := Arr.to' Aa hb
  have Bb := Arr.to' Ab hb
  have Bc := Arr.to' Ac hb
  have hB' := Bel.call hB hb
  clear hb cb_0 cb_1 cb_2 cb_3 cb_4 cb_5 cb_6 cb_7 cb_8 Aa Ab Ac hB
  have Aa := Ba
  have Ab := Bb
  have Ac := Bc
  have hB := hB'
  clear Ba Bb Bc hB'
  have cc_0 := Ac.cv 0 (by omega) (.int .u64 (lim (X3) 0)) rfl
  have cc_1 := Ac.cv 1 (by omega) (.int .u64 (lim (X3) 1)) rfl
  have cc_2 := Ac.cv 2 (by omega) (.int .u64 (lim (X3) 2)) rfl
  have cc_3 := Ac.cv 3 (by omega) (.int .u64 (lim (X3) 3)) rfl
  have cc_4 := Ac.cv 4 (by omega) (.int .u64 (lim (Y3) 0)) rfl
  have cc_5 := Ac.cv 5 (by omega) (.int .u64 (lim (Y3) 1)) rfl
  have cc_6 := Ac.cv 6 (by omega) (.int .u64 (lim (Y3) 2)) rfl
  have cc_7 := Ac.cv 7 (by omega) (.int .u64 (lim (Y3) 3)) rfl
  have cc_8 := Ac.cv 8 (by omega) (.bool i3) rfl
  go_wp2_with fail
  refine (C3 _).mono ?_
  rintro e w13 ⟨rfl, hb⟩
  have Ba := Arr.to' Aa hb
  have Bb := Arr.to' Ab hb
  have Bc := Arr.to' Ac hb
  have hB' := Bel.call hB hb
  clear hb cc_0 cc_1 cc_2 cc_3 cc_4 cc_5 cc_6 cc_7 cc_8 Aa Ab Ac hB
  have Aa := Ba
  have Ab := Bb
  have Ac := Bc
  have hB := hB'
  clear Ba Bb Bc hB'
  have ca_0 := Aa.cv 0 (by omega) (.int .u64 (lim (X1) 0)) rfl
  have ca_1 := Aa.cv 1 (by omega) (.int .u64 (lim (X1) 1)) rfl
  have ca_2 := Aa.cv 2 (by omega) (.int .u64 (lim (X1) 2)) rfl
  have ca_3 := Aa.cv 3 (by omega) (.int .u64 (lim (X1) 3)) rfl
  have ca_4 := Aa.cv 4 (by omega) (.int .u64 (lim (Y1) 0)) rfl
  have ca_5 := Aa.cv 5 (by omega) (.int .u64 (lim (Y1) 1)) rfl
  have ca_6 := Aa.cv 6 (by omega) (.int .u64 (lim (Y1) 2)) rfl
  have ca_7 := Aa.cv 7 (by omega) (.int .u64 (lim (Y1) 3)) rfl
  have ca_8 := Aa.cv 8 (by omega) (.bool i1) rfl
  have cb_0 := Ab.cv 0 (by omega) (.int .u64 (lim (X2) 0)) rfl
  have cb_1 := Ab.cv 1 (by omega) (.int .u64 (lim (X2) 1)) rfl
  have cb_2 := Ab.cv 2 (by omega) (.int .u64 (lim (X2) 2)) rfl
  have cb_3 := Ab.cv 3 (by omega) (.int .u64 (lim (X2) 3)) rfl
  have cb_4 := Ab.cv 4 (by omega) (.int .u64 (lim (Y2) 0)) rfl
  have cb_5 := Ab.cv 5 (by omega) (.int .u64 (lim (Y2) 1)) rfl
  have cb_6 := Ab.cv 6 (by omega) (.int .u64 (lim (Y2) 2)) rfl
  have cb_7 := Ab.cv 7 (by omega) (.int .u64 (lim (Y2) 3)) rfl
  have cb_8 := Ab.cv 8 (by omega) (.bool i2) rfl
  go_wp2_with fail
  refine (C4 _).mono ?_
  rintro e w14 ⟨rfl, hb⟩
  have Ba := Arr.to' Aa hb
  have Bb := Arr.to' Ab hb
  have Bc := Arr.to' Ac hb
  have hB' := Bel.call hB hb
  clear hb ca_0 ca_1 ca_2 ca_3 ca_4 ca_5 ca_6 ca_7 ca_8 cb_0 cb_1 cb_2 cb_3 cb_4 cb_5 cb_6 cb_7 cb_8 Aa Ab Ac hB
  have Aa := Ba
  have Ab := Bb
  have Ac := Bc
  have hB := hB'
  clear Ba Bb Bc hB'
  have la_2 := Aa.lt
  have lb_2 := Ab.lt
  have lc_2 := Ac.lt
  have lB_2 := hB.size
  have Ba := (Arr.al' Aa (.cells #[.int .u64 (lim (X4) 0), .int .u64 (lim (X4) 1), .int .u64 (lim (X4) 2), .int .u64 (lim (X4) 3), .int .u64 (lim (Y4) 0), .int .u64 (lim (Y4) 1), .int .u64 (lim (Y4) 2), .int .u64 (lim (Y4) 3), .bool i4] 26))
  have Bb := (Arr.al' Ab (.cells #[.int .u64 (lim (X4) 0), .int .u64 (lim (X4) 1), .int .u64 (lim (X4) 2), .int .u64 (lim (X4) 3), .int .u64 (lim (Y4) 0), .int .u64 (lim (Y4) 1), .int .u64 (lim (Y4) 2), .int .u64 (lim (Y4) 3), .bool i4] 26))
  have Bc := (Arr.al' Ac (.cells #[.int .u64 (lim (X4) 0), .int .u64 (lim (X4) 1), .int .u64 (lim (X4) 2), .int .u64 (lim (X4) 3), .int .u64 (lim (Y4) 0), .int .u64 (lim (Y4) 1), .int .u64 (lim (Y4) 2), .int .u64 (lim (Y4) 3), .bool i4] 26))
  have Bs := Arr.mk9p (w := (w14.alloc (.cells #[.int .u64 (lim (X4) 0), .int .u64 (lim (X4) 1), .int .u64 (lim (X4) 2), .int .u64 (lim (X4) 3), .int .u64 (lim (Y4) 0), .int .u64 (lim (Y4) 1), .int .u64 (lim (Y4) 2), .int .u64 (lim (Y4) 3), .bool i4] 26))) (f := px (X4) (Y4) i4) (b := w14.heap.size) (by simp [go_sem, px, sx, zx]) (by simp [go_sem, px, sx, zx]) (by simp [go_sem, px, sx, zx]) (by simp [go_sem, px, sx, zx]) (by simp [go_sem, px, sx, zx]) (by simp [go_sem, px, sx, zx]) (by simp [go_sem, px, sx, zx]) (by simp [go_sem, px, sx, zx]) (by simp [go_sem, px, sx, zx]) (by simp [go_sem, px, sx, zx])
  have hB' := (Bel.al hB (.cells #[.int .u64 (lim (X4) 0), .int .u64 (lim (X4) 1), .int .u64 (lim (X4) 2), .int .u64 (lim (X4) 3), .int .u64 (lim (Y4) 0), .int .u64 (lim (Y4) 1), .int .u64 (lim (Y4) 2), .int .u64 (lim (Y4) 3), .bool i4] 26))
  clear Aa Ab Ac hB
  have Aa := Ba
  have Ab := Bb
  have Ac := Bc
  have As := Bs
  have hB := hB'
  clear Ba Bb Bc Bs hB'
  have ra0 := fun ds os => cell_regrown (v := .int .u64 (lim (X1) 0)) (Aa.c 0 (by omega)) ds os
  have ra1 := fun ds os => cell_regrown (v := .int .u64 (lim (X1) 1)) (Aa.c 1 (by omega)) ds os
  have ra2 := fun ds os => cell_regrown (v := .int .u64 (lim (X1) 2)) (Aa.c 2 (by omega)) ds os
  have ra3 := fun ds os => cell_regrown (v := .int .u64 (lim (X1) 3)) (Aa.c 3 (by omega)) ds os
  have ra4 := fun ds os => cell_regrown (v := .int .u64 (lim (Y1) 0)) (Aa.c 4 (by omega)) ds os
  have ra5 := fun ds os => cell_regrown (v := .int .u64 (lim (Y1) 1)) (Aa.c 5 (by omega)) ds os
  have ra6 := fun ds os => cell_regrown (v := .int .u64 (lim (Y1) 2)) (Aa.c 6 (by omega)) ds os
  have ra7 := fun ds os => cell_regrown (v := .int .u64 (lim (Y1) 3)) (Aa.c 7 (by omega)) ds os
  have ra8 := fun ds os => cell_regrown (v := .bool i1) (Aa.c 8 (by omega)) ds os
  have rb0 := fun ds os => cell_regrown (v := .int .u64 (lim (X2) 0)) (Ab.c 0 (by omega)) ds os
  have rb1 := fun ds os => cell_regrown (v := .int .u64 (lim (X2) 1)) (Ab.c 1 (by omega)) ds os
  have rb2 := fun ds os => cell_regrown (v := .int .u64 (lim (X2) 2)) (Ab.c 2 (by omega)) ds os
  have rb3 := fun ds os => cell_regrown (v := .int .u64 (lim (X2) 3)) (Ab.c 3 (by omega)) ds os
  have rb4 := fun ds os => cell_regrown (v := .int .u64 (lim (Y2) 0)) (Ab.c 4 (by omega)) ds os
  have rb5 := fun ds os => cell_regrown (v := .int .u64 (lim (Y2) 1)) (Ab.c 5 (by omega)) ds os
  have rb6 := fun ds os => cell_regrown (v := .int .u64 (lim (Y2) 2)) (Ab.c 6 (by omega)) ds os
  have rb7 := fun ds os => cell_regrown (v := .int .u64 (lim (Y2) 3)) (Ab.c 7 (by omega)) ds os
  have rb8 := fun ds os => cell_regrown (v := .bool i2) (Ab.c 8 (by omega)) ds os
  have rc0 := fun ds os => cell_regrown (v := .int .u64 (lim (X3) 0)) (Ac.c 0 (by omega)) ds os
  have rc1 := fun ds os => cell_regrown (v := .int .u64 (lim (X3) 1)) (Ac.c 1 (by omega)) ds os
  have rc2 := fun ds os => cell_regrown (v := .int .u64 (lim (X3) 2)) (Ac.c 2 (by omega)) ds os
  have rc3 := fun ds os => cell_regrown (v := .int .u64 (lim (X3) 3)) (Ac.c 3 (by omega)) ds os
  have rc4 := fun ds os => cell_regrown (v := .int .u64 (lim (Y3) 0)) (Ac.c 4 (by omega)) ds os
  have rc5 := fun ds os => cell_regrown (v := .int .u64 (lim (Y3) 1)) (Ac.c 5 (by omega)) ds os
  have rc6 := fun ds os => cell_regrown (v := .int .u64 (lim (Y3) 2)) (Ac.c 6 (by omega)) ds os
  have rc7 := fun ds os => cell_regrown (v := .int .u64 (lim (Y3) 3)) (Ac.c 7 (by omega)) ds os
  have rc8 := fun ds os => cell_regrown (v := .bool i3) (Ac.c 8 (by omega)) ds os
  have rs0 := fun ds os => cell_regrown (v := .int .u64 (lim (X4) 0)) (As.c 0 (by omega)) ds os
  have rs1 := fun ds os => cell_regrown (v := .int .u64 (lim (X4) 1)) (As.c 1 (by omega)) ds os
  have rs2 := fun ds os => cell_regrown (v := .int .u64 (lim (X4) 2)) (As.c 2 (by omega)) ds os
  have rs3 := fun ds os => cell_regrown (v := .int .u64 (lim (X4) 3)) (As.c 3 (by omega)) ds os
  have rs4 := fun ds os => cell_regrown (v := .int .u64 (lim (Y4) 0)) (As.c 4 (by omega)) ds os
  have rs5 := fun ds os => cell_regrown (v := .int .u64 (lim (Y4) 1)) (As.c 5 (by omega)) ds os
  have rs6 := fun ds os => cell_regrown (v := .int .u64 (lim (Y4) 2)) (As.c 6 (by omega)) ds os
  have rs7 := fun ds os => cell_regrown (v := .int .u64 (lim (Y4) 3)) (As.c 7 (by omega)) ds os
  have rs8 := fun ds os => cell_regrown (v := .bool i4) (As.c 8 (by omega)) ds os
  go_wp2_with fail
  refine wp_region_quiet_below (by kernel_rfl) (by kernel_rfl) ?_
  repeat (go_big_quiet_step (first | (go_at_call 12; with_reducible first | exact Calls.regrown_of (C5 _)) | (go_at_call 18; with_reducible first | exact Calls.regrown_of (C6 _) | exact Calls.regrown_of (C7 _) | exact Calls.regrown_of (C8 _) | exact Calls.regrown_of (C9 _) | exact Calls.regrown_of (C11 _) | exact Calls.regrown_of (C12 _)) | (go_at_call 15; with_reducible first | exact Calls.regrown_of (C10 _)) | (go_at_call 17; with_reducible first | exact Calls.regrown_of (C13 _))))
  refine wpQuiet_nil ?_
  intro w5 hw'
  obtain ⟨⟨dq, osq⟩, hw''⟩ := hw'
  have hb := below_of hw''
  clear hw''
  have Ba := Arr.to' Aa hb
  have Bb := Arr.to' Ab hb
  have Bc := Arr.to' Ac hb
  have Bs := Arr.to' As hb
  have hB' := Bel.call hB hb
  clear hb ra0 ra1 ra2 ra3 ra4 ra5 ra6 ra7 ra8 rb0 rb1 rb2 rb3 rb4 rb5 rb6 rb7 rb8 rc0 rc1 rc2 rc3 rc4 rc5 rc6 rc7 rc8 rs0 rs1 rs2 rs3 rs4 rs5 rs6 rs7 rs8 Aa Ab Ac As hB
  have Aa := Ba
  have Ab := Bb
  have Ac := Bc
  have As := Bs
  have hB := hB'
  clear Ba Bb Bc Bs hB'
  go_wp2_with fail
  go_ret
  exact ⟨rfl, hB⟩
end Go.Proofs.Ytgekafmojedlkaa
