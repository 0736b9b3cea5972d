/- The walk of layer 4's statement PointReads. -/
import Derived.Test.YtgekafmojedlkaaJ43
set_option linter.all false
set_option maxRecDepth 100000
namespace Go.Proofs.Ytgekafmojedlkaa
open Go.RowKit Go.Sort
attribute [local go_sem] eq24
set_option maxHeartbeats 8000000 in
theorem reads_no (X1 Y1 X2 Y2 X3 Y3 X4 Y4 er : Int) (i1 i2 i3 i4 : Bool) (s S : ByteArray) (w : World)
    (C1 : ∀ W, Calls Try.prog 7 #[.string s] W fun e w' => e = .returned (.tuple #[pv X2 Y2 i2, .int .i64 er]) ∧ Below W.heap.size W w')
    (C2 : ∀ W, Calls Try.prog 8 #[.string s] W fun e w' => e = .returned (.tuple #[pv X2 Y2 i2, .int .i64 er]) ∧ Below W.heap.size W w')
    (C3 : ∀ W, Calls Try.prog 9 #[] W fun e w' => e = .returned (pv X3 Y3 i3) ∧ Below W.heap.size W w')
    (C4 : ∀ W, Calls Try.prog 10 #[] W fun e w' => e = .returned (pv X3 Y3 i3) ∧ Below W.heap.size W w')
    (C5 : ∀ W, Calls Try.prog 11 #[pv X1 Y1 i1] W fun e w' => e = .returned (.bool false) ∧ Below W.heap.size W w')
    (C6 : ∀ W, Calls Try.prog 12 #[pv X1 Y1 i1] W fun e w' => e = .returned (.bool false) ∧ Below W.heap.size W w')
    (C7 : ∀ W, Calls Try.prog 17 #[] W fun e w' => e = .returned (.bool true) ∧ Below W.heap.size W w') :
    Calls Try.prog 3 #[pv X1 Y1 i1, .string s] w fun e w' => e = .returned (.bool true) ∧ Below w.heap.size w w' := by
  have q26 := eq26g
  go_enter Try.func3, Try.ntmps3
  have Ba := Arr.mk9p (w := (w.alloc (.cells #[.int .u64 (lim (X1) 0), .int .u64 (lim (X1) 1), .int .u64 (lim (X1) 2), .int .u64 (lim (X1) 3), .int .u64 (lim (Y1) 0), .int .u64 (lim (Y1) 1), .int .u64 (lim (Y1) 2), .int .u64 (lim (Y1) 3), .bool i1] 26))) (f := px (X1) (Y1) i1) (b := w.heap.size) (by simp [go_sem, px, sx, zx]) (by simp [go_sem, px, sx, zx]) (by simp [go_sem, px, sx, zx]) (by simp [go_sem, px, sx, zx]) (by simp [go_sem, px, sx, zx]) (by simp [go_sem, px, sx, zx]) (by simp [go_sem, px, sx, zx]) (by simp [go_sem, px, sx, zx]) (by simp [go_sem, px, sx, zx]) (by simp [go_sem, px, sx, zx])
  have hB' : Below w.heap.size w (w.alloc (.cells #[.int .u64 (lim (X1) 0), .int .u64 (lim (X1) 1), .int .u64 (lim (X1) 2), .int .u64 (lim (X1) 3), .int .u64 (lim (Y1) 0), .int .u64 (lim (Y1) 1), .int .u64 (lim (Y1) 2), .int .u64 (lim (Y1) 3), .bool i1] 26)) := by go_grown
  have Aa := Ba
  have hB := hB'
  clear Ba hB'
  go_wp2_with fail
  refine (C1 _).mono ?_
  rintro e w1 ⟨rfl, hb⟩
  have Ba := Arr.to' Aa hb
  have hB' := Bel.call hB hb
  clear hb Aa hB
  have Aa := Ba
  have hB := hB'
  clear Ba hB'
  have la_2 := Aa.lt
  have lB_2 := hB.size
  have Ba := (Arr.al' Aa (.cells #[.int .u64 (lim (X2) 0), .int .u64 (lim (X2) 1), .int .u64 (lim (X2) 2), .int .u64 (lim (X2) 3), .int .u64 (lim (Y2) 0), .int .u64 (lim (Y2) 1), .int .u64 (lim (Y2) 2), .int .u64 (lim (Y2) 3), .bool i2] 26))
  have Bb := Arr.mk9p (w := (w1.alloc (.cells #[.int .u64 (lim (X2) 0), .int .u64 (lim (X2) 1), .int .u64 (lim (X2) 2), .int .u64 (lim (X2) 3), .int .u64 (lim (Y2) 0), .int .u64 (lim (Y2) 1), .int .u64 (lim (Y2) 2), .int .u64 (lim (Y2) 3), .bool i2] 26))) (f := px (X2) (Y2) i2) (b := w1.heap.size) (by simp [go_sem, px, sx, zx]) (by simp [go_sem, px, sx, zx]) (by simp [go_sem, px, sx, zx]) (by simp [go_sem, px, sx, zx]) (by simp [go_sem, px, sx, zx]) (by simp [go_sem, px, sx, zx]) (by simp [go_sem, px, sx, zx]) (by simp [go_sem, px, sx, zx]) (by simp [go_sem, px, sx, zx]) (by simp [go_sem, px, sx, zx])
  have hB' := (Bel.al hB (.cells #[.int .u64 (lim (X2) 0), .int .u64 (lim (X2) 1), .int .u64 (lim (X2) 2), .int .u64 (lim (X2) 3), .int .u64 (lim (Y2) 0), .int .u64 (lim (Y2) 1), .int .u64 (lim (Y2) 2), .int .u64 (lim (Y2) 3), .bool i2] 26))
  clear Aa hB
  have Aa := Ba
  have Ab := Bb
  have hB := hB'
  clear Ba Bb hB'
  go_wp2_with fail
  refine (C2 _).mono ?_
  rintro e w2 ⟨rfl, hb⟩
  have Ba := Arr.to' Aa hb
  have Bb := Arr.to' Ab hb
  have hB' := Bel.call hB hb
  clear hb Aa Ab hB
  have Aa := Ba
  have Ab := Bb
  have hB := hB'
  clear Ba Bb hB'
  have la_3 := Aa.lt
  have lb_3 := Ab.lt
  have lB_3 := hB.size
  have Ba := (Arr.al' Aa (.cells #[.int .u64 (lim (X2) 0), .int .u64 (lim (X2) 1), .int .u64 (lim (X2) 2), .int .u64 (lim (X2) 3), .int .u64 (lim (Y2) 0), .int .u64 (lim (Y2) 1), .int .u64 (lim (Y2) 2), .int .u64 (lim (Y2) 3), .bool i2] 26))
  have Bb := (Arr.al' Ab (.cells #[.int .u64 (lim (X2) 0), .int .u64 (lim (X2) 1), .int .u64 (lim (X2) 2), .int .u64 (lim (X2) 3), .int .u64 (lim (Y2) 0), .int .u64 (lim (Y2) 1), .int .u64 (lim (Y2) 2), .int .u64 (lim (Y2) 3), .bool i2] 26))
  have Bc := Arr.mk9p (w := (w2.alloc (.cells #[.int .u64 (lim (X2) 0), .int .u64 (lim (X2) 1), .int .u64 (lim (X2) 2), .int .u64 (lim (X2) 3), .int .u64 (lim (Y2) 0), .int .u64 (lim (Y2) 1), .int .u64 (lim (Y2) 2), .int .u64 (lim (Y2) 3), .bool i2] 26))) (f := px (X2) (Y2) i2) (b := w2.heap.size) (by simp [go_sem, px, sx, zx]) (by simp [go_sem, px, sx, zx]) (by simp [go_sem, px, sx, zx]) (by simp [go_sem, px, sx, zx]) (by simp [go_sem, px, sx, zx]) (by simp [go_sem, px, sx, zx]) (by simp [go_sem, px, sx, zx]) (by simp [go_sem, px, sx, zx]) (by simp [go_sem, px, sx, zx]) (by simp [go_sem, px, sx, zx])
  have hB' := (Bel.al hB (.cells #[.int .u64 (lim (X2) 0), .int .u64 (lim (X2) 1), .int .u64 (lim (X2) 2), .int .u64 (lim (X2) 3), .int .u64 (lim (Y2) 0), .int .u64 (lim (Y2) 1), .int .u64 (lim (Y2) 2), .int .u64 (lim (Y2) 3), .bool i2] 26))
  clear Aa Ab hB
  have Aa := Ba
  have Ab := Bb
  have Ac := Bc
  have hB := hB'
  clear Ba Bb Bc hB'
  have ra0 := fun ds os => cell_regrown (v := .int .u64 (lim (X1) 0)) (Aa.c 0 (by omega)) ds os
  have ra1 := fun ds os => cell_regrown (v := .int .u64 (lim (X1) 1)) (Aa.c 1 (by omega)) ds os
  have ra2 := fun ds os => cell_regrown (v := .int .u64 (lim (X1) 2)) (Aa.c 2 (by omega)) ds os
  have ra3 := fun ds os => cell_regrown (v := .int .u64 (lim (X1) 3)) (Aa.c 3 (by omega)) ds os
  have ra4 := fun ds os => cell_regrown (v := .int .u64 (lim (Y1) 0)) (Aa.c 4 (by omega)) ds os
  have ra5 := fun ds os => cell_regrown (v := .int .u64 (lim (Y1) 1)) (Aa.c 5 (by omega)) ds os
  have ra6 := fun ds os => cell_regrown (v := .int .u64 (lim (Y1) 2)) (Aa.c 6 (by omega)) ds os
  have ra7 := fun ds os => cell_regrown (v := .int .u64 (lim (Y1) 3)) (Aa.c 7 (by omega)) ds os
  have ra8 := fun ds os => cell_regrown (v := .bool i1) (Aa.c 8 (by omega)) ds os
  have rb0 := fun ds os => cell_regrown (v := .int .u64 (lim (X2) 0)) (Ab.c 0 (by omega)) ds os
  have rb1 := fun ds os => cell_regrown (v := .int .u64 (lim (X2) 1)) (Ab.c 1 (by omega)) ds os
  have rb2 := fun ds os => cell_regrown (v := .int .u64 (lim (X2) 2)) (Ab.c 2 (by omega)) ds os
  have rb3 := fun ds os => cell_regrown (v := .int .u64 (lim (X2) 3)) (Ab.c 3 (by omega)) ds os
  have rb4 := fun ds os => cell_regrown (v := .int .u64 (lim (Y2) 0)) (Ab.c 4 (by omega)) ds os
  have rb5 := fun ds os => cell_regrown (v := .int .u64 (lim (Y2) 1)) (Ab.c 5 (by omega)) ds os
  have rb6 := fun ds os => cell_regrown (v := .int .u64 (lim (Y2) 2)) (Ab.c 6 (by omega)) ds os
  have rb7 := fun ds os => cell_regrown (v := .int .u64 (lim (Y2) 3)) (Ab.c 7 (by omega)) ds os
  have rb8 := fun ds os => cell_regrown (v := .bool i2) (Ab.c 8 (by omega)) ds os
  have rc0 := fun ds os => cell_regrown (v := .int .u64 (lim (X2) 0)) (Ac.c 0 (by omega)) ds os
  have rc1 := fun ds os => cell_regrown (v := .int .u64 (lim (X2) 1)) (Ac.c 1 (by omega)) ds os
  have rc2 := fun ds os => cell_regrown (v := .int .u64 (lim (X2) 2)) (Ac.c 2 (by omega)) ds os
  have rc3 := fun ds os => cell_regrown (v := .int .u64 (lim (X2) 3)) (Ac.c 3 (by omega)) ds os
  have rc4 := fun ds os => cell_regrown (v := .int .u64 (lim (Y2) 0)) (Ac.c 4 (by omega)) ds os
  have rc5 := fun ds os => cell_regrown (v := .int .u64 (lim (Y2) 1)) (Ac.c 5 (by omega)) ds os
  have rc6 := fun ds os => cell_regrown (v := .int .u64 (lim (Y2) 2)) (Ac.c 6 (by omega)) ds os
  have rc7 := fun ds os => cell_regrown (v := .int .u64 (lim (Y2) 3)) (Ac.c 7 (by omega)) ds os
  have rc8 := fun ds os => cell_regrown (v := .bool i2) (Ac.c 8 (by omega)) ds os
  go_wp2_with fail
  refine wp_region_quiet_below (by kernel_rfl) (by kernel_rfl) ?_
  repeat (go_big_quiet_step (first | (go_at_call 9; with_reducible first | exact Calls.regrown_of (C3 _)) | (go_at_call 10; with_reducible first | exact Calls.regrown_of (C4 _)) | (go_at_call 11; with_reducible first | exact Calls.regrown_of (C5 _)) | (go_at_call 12; with_reducible first | exact Calls.regrown_of (C6 _))))
  refine wpQuiet_nil ?_
  intro w3 hw'
  obtain ⟨⟨dq, osq⟩, hw''⟩ := hw'
  have hb := below_of hw''
  clear hw''
  have Ba := Arr.to' Aa hb
  have Bb := Arr.to' Ab hb
  have Bc := Arr.to' Ac hb
  have hB' := Bel.call hB hb
  clear hb ra0 ra1 ra2 ra3 ra4 ra5 ra6 ra7 ra8 rb0 rb1 rb2 rb3 rb4 rb5 rb6 rb7 rb8 rc0 rc1 rc2 rc3 rc4 rc5 rc6 rc7 rc8 Aa Ab Ac hB
  have Aa := Ba
  have Ab := Bb
  have Ac := Bc
  have hB := hB'
  clear Ba Bb Bc hB'
  have ra0 := fun ds os => cell_regrown (v := .int .u64 (lim (X1) 0)) (Aa.c 0 (by omega)) ds os
  have ra1 := fun ds os => cell_regrown (v := .int .u64 (lim (X1) 1)) (Aa.c 1 (by omega)) ds os
  have ra2 := fun ds os => cell_regrown (v := .int .u64 (lim (X1) 2)) (Aa.c 2 (by omega)) ds os
  have ra3 := fun ds os => cell_regrown (v := .int .u64 (lim (X1) 3)) (Aa.c 3 (by omega)) ds os
  have ra4 := fun ds os => cell_regrown (v := .int .u64 (lim (Y1) 0)) (Aa.c 4 (by omega)) ds os
  have ra5 := fun ds os => cell_regrown (v := .int .u64 (lim (Y1) 1)) (Aa.c 5 (by omega)) ds os
  have ra6 := fun ds os => cell_regrown (v := .int .u64 (lim (Y1) 2)) (Aa.c 6 (by omega)) ds os
  have ra7 := fun ds os => cell_regrown (v := .int .u64 (lim (Y1) 3)) (Aa.c 7 (by omega)) ds os
  have ra8 := fun ds os => cell_regrown (v := .bool i1) (Aa.c 8 (by omega)) ds os
  go_wp2_with fail
  refine wp_region_quiet_below (by kernel_rfl) (by kernel_rfl) ?_
  repeat (go_big_quiet_step (first | (go_at_call 12; with_reducible first | exact Calls.regrown_of (C6 _)) | (go_at_call 17; with_reducible first | exact Calls.regrown_of (C7 _))))
  refine wpQuiet_nil ?_
  intro w4 hw'
  obtain ⟨⟨dq, osq⟩, hw''⟩ := hw'
  have hb := below_of hw''
  clear hw''
  have Ba := Arr.to' Aa hb
  have Bb := Arr.to' Ab hb
  have Bc := Arr.to' Ac hb
  have hB' := Bel.call hB hb
  clear hb ra0 ra1 ra2 ra3 ra4 ra5 ra6 ra7 ra8 Aa Ab Ac hB
  have Aa := Ba
  have Ab := Bb
  have Ac := Bc
  have hB := hB'
  clear Ba Bb Bc hB'
  go_wp2_with fail
  go_ret
  exact ⟨rfl, hB⟩
set_option maxHeartbeats 8000000 in
theorem reads_yes (X1 Y1 X2 Y2 X3 Y3 X4 Y4 er : Int) (i1 i2 i3 i4 : Bool) (s S : ByteArray) (w : World)
    (C1 : ∀ W, Calls Try.prog 7 #[.string s] W fun e w' => e = .returned (.tuple #[pv X2 Y2 i2, .int .i64 er]) ∧ Below W.heap.size W w')
    (C2 : ∀ W, Calls Try.prog 8 #[.string s] W fun e w' => e = .returned (.tuple #[pv X2 Y2 i2, .int .i64 er]) ∧ Below W.heap.size W w')
    (C3 : ∀ W, Calls Try.prog 9 #[] W fun e w' => e = .returned (pv X3 Y3 i3) ∧ Below W.heap.size W w')
    (C4 : ∀ W, Calls Try.prog 10 #[] W fun e w' => e = .returned (pv X3 Y3 i3) ∧ Below W.heap.size W w')
    (C5 : ∀ W, Calls Try.prog 11 #[pv X1 Y1 i1] W fun e w' => e = .returned (.bool true) ∧ Below W.heap.size W w')
    (C6 : ∀ W, Calls Try.prog 12 #[pv X1 Y1 i1] W fun e w' => e = .returned (.bool true) ∧ Below W.heap.size W w')
    (C7 : ∀ W, Calls Try.prog 17 #[] W fun e w' => e = .returned (.bool true) ∧ Below W.heap.size W w')
    (C8 : ∀ W, Calls Try.prog 13 #[pv X1 Y1 i1] W fun e w' => e = .returned (.string S) ∧ Below W.heap.size W w')
    (C9 : ∀ W, Calls Try.prog 14 #[pv X1 Y1 i1] W fun e w' => e = .returned (.string S) ∧ Below W.heap.size W w')
    (C10 : ∀ W, Calls Try.prog 15 #[pv X1 Y1 i1] W fun e w' => e = .returned (pv X4 Y4 i4) ∧ Below W.heap.size W w')
    (C11 : ∀ W, Calls Try.prog 16 #[pv X1 Y1 i1] W fun e w' => e = .returned (pv X4 Y4 i4) ∧ Below W.heap.size W w') :
    Calls Try.prog 3 #[pv X1 Y1 i1, .string s] w fun e w' => e = .returned (.bool true) ∧ Below w.heap.size w w' := by
  have q26 := eq26g
  go_enter Try.func3, Try.ntmps3
  have Ba := Arr.mk9p (w := (w.alloc (.cells #[.int .u64 (lim (X1) 0), .int .u64 (lim (X1) 1), .int .u64 (lim (X1) 2), .int .u64 (lim (X1) 3), .int .u64 (lim (Y1) 0), .int .u64 (lim (Y1) 1), .int .u64 (lim (Y1) 2), .int .u64 (lim (Y1) 3), .bool i1] 26))) (f := px (X1) (Y1) i1) (b := w.heap.size) (by simp [go_sem, px, sx, zx]) (by simp [go_sem, px, sx, zx]) (by simp [go_sem, px, sx, zx]) (by simp [go_sem, px, sx, zx]) (by simp [go_sem, px, sx, zx]) (by simp [go_sem, px, sx, zx]) (by simp [go_sem, px, sx, zx]) (by simp [go_sem, px, sx, zx]) (by simp [go_sem, px, sx, zx]) (by simp [go_sem, px, sx, zx])
  have hB' : Below w.heap.size w (w.alloc (.cells #[.int .u64 (lim (X1) 0), .int .u64 (lim (X1) 1), .int .u64 (lim (X1) 2), .int .u64 (lim (X1) 3), .int .u64 (lim (Y1) 0), .int .u64 (lim (Y1) 1), .int .u64 (lim (Y1) 2), .int .u64 (lim (Y1) 3), .bool i1] 26)) := by go_grown
  have Aa := Ba
  have hB := hB'
  clear Ba hB'
  go_wp2_with fail
  refine (C1 _).mono ?_
  rintro e w1 ⟨rfl, hb⟩
  have Ba := Arr.to' Aa hb
  have hB' := Bel.call hB hb
  clear hb Aa hB
  have Aa := Ba
  have hB := hB'
  clear Ba hB'
  have la_2 := Aa.lt
  have lB_2 := hB.size
  have Ba := (Arr.al' Aa (.cells #[.int .u64 (lim (X2) 0), .int .u64 (lim (X2) 1), .int .u64 (lim (X2) 2), .int .u64 (lim (X2) 3), .int .u64 (lim (Y2) 0), .int .u64 (lim (Y2) 1), .int .u64 (lim (Y2) 2), .int .u64 (lim (Y2) 3), .bool i2] 26))
  have Bb := Arr.mk9p (w := (w1.alloc (.cells #[.int .u64 (lim (X2) 0), .int .u64 (lim (X2) 1), .int .u64 (lim (X2) 2), .int .u64 (lim (X2) 3), .int .u64 (lim (Y2) 0), .int .u64 (lim (Y2) 1), .int .u64 (lim (Y2) 2), .int .u64 (lim (Y2) 3), .bool i2] 26))) (f := px (X2) (Y2) i2) (b := w1.heap.size) (by simp [go_sem, px, sx, zx]) (by simp [go_sem, px, sx, zx]) (by simp [go_sem, px, sx, zx]) (by simp [go_sem, px, sx, zx]) (by simp [go_sem, px, sx, zx]) (by simp [go_sem, px, sx, zx]) (by simp [go_sem, px, sx, zx]) (by simp [go_sem, px, sx, zx]) (by simp [go_sem, px, sx, zx]) (by simp [go_sem, px, sx, zx])
  have hB' := (Bel.al hB (.cells #[.int .u64 (lim (X2) 0), .int .u64 (lim (X2) 1), .int .u64 (lim (X2) 2), .int .u64 (lim (X2) 3), .int .u64 (lim (Y2) 0), .int .u64 (lim (Y2) 1), .int .u64 (lim (Y2) 2), .int .u64 (lim (Y2) 3), .bool i2] 26))
  clear Aa hB
  have Aa := Ba
  have Ab := Bb
  have hB := hB'
  clear Ba Bb hB'
  go_wp2_with fail
  refine (C2 _).mono ?_
  rintro e w2 ⟨rfl, hb⟩
  have Ba := Arr.to' Aa hb
  have Bb := Arr.to' Ab hb
  have hB' := Bel.call hB hb
  clear hb Aa Ab hB
  have Aa := Ba
  have Ab := Bb
  have hB := hB'
  clear Ba Bb hB'
  have la_3 := Aa.lt
  have lb_3 := Ab.lt
  have lB_3 := hB.size
  have Ba := (Arr.al' Aa (.cells #[.int .u64 (lim (X2) 0), .int .u64 (lim (X2) 1), .int .u64 (lim (X2) 2), .int .u64 (lim (X2) 3), .int .u64 (lim (Y2) 0), .int .u64 (lim (Y2) 1), .int .u64 (lim (Y2) 2), .int .u64 (lim (Y2) 3), .bool i2] 26))
  have Bb := (Arr.al' Ab (.cells #[.int .u64 (lim (X2) 0), .int .u64 (lim (X2) 1), .int .u64 (lim (X2) 2), .int .u64 (lim (X2) 3), .int .u64 (lim (Y2) 0), .int .u64 (lim (Y2) 1), .int .u64 (lim (Y2) 2), .int .u64 (lim (Y2) 3), .bool i2] 26))
  have Bc := Arr.mk9p (w := (w2.alloc (.cells #[.int .u64 (lim (X2) 0), .int .u64 (lim (X2) 1), .int .u64 (lim (X2) 2), .int .u64 (lim (X2) 3), .int .u64 (lim (Y2) 0), .int .u64 (lim (Y2) 1), .int .u64 (lim (Y2) 2), .int .u64 (lim (Y2) 3), .bool i2] 26))) (f := px (X2) (Y2) i2) (b := w2.heap.size) (by simp [go_sem, px, sx, zx]) (by simp [go_sem, px, sx, zx]) (by simp [go_sem, px, sx, zx]) (by simp [go_sem, px, sx, zx]) (by simp [go_sem, px, sx, zx]) (by simp [go_sem, px, sx, zx]) (by simp [go_sem, px, sx, zx]) (by simp [go_sem, px, sx, zx]) (by simp [go_sem, px, sx, zx]) (by simp [go_sem, px, sx, zx])
  have hB' := (Bel.al hB (.cells #[.int .u64 (lim (X2) 0), .int .u64 (lim (X2) 1), .int .u64 (lim (X2) 2), .int .u64 (lim (X2) 3), .int .u64 (lim (Y2) 0), .int .u64 (lim (Y2) 1), .int .u64 (lim (Y2) 2), .int .u64 (lim (Y2) 3), .bool i2] 26))
  clear Aa Ab hB
  have Aa := Ba
  have Ab := Bb
  have Ac := Bc
  have hB := hB'
  clear Ba Bb Bc hB'
  have ra0 := fun ds os => cell_regrown (v := .int .u64 (lim (X1) 0)) (Aa.c 0 (by omega)) ds os
  have ra1 := fun ds os => cell_regrown (v := .int .u64 (lim (X1) 1)) (Aa.c 1 (by omega)) ds os
  have ra2 := fun ds os => cell_regrown (v := .int .u64 (lim (X1) 2)) (Aa.c 2 (by omega)) ds os
  have ra3 := fun ds os => cell_regrown (v := .int .u64 (lim (X1) 3)) (Aa.c 3 (by omega)) ds os
  have ra4 := fun ds os => cell_regrown (v := .int .u64 (lim (Y1) 0)) (Aa.c 4 (by omega)) ds os
  have ra5 := fun ds os => cell_regrown (v := .int .u64 (lim (Y1) 1)) (Aa.c 5 (by omega)) ds os
  have ra6 := fun ds os => cell_regrown (v := .int .u64 (lim (Y1) 2)) (Aa.c 6 (by omega)) ds os
  have ra7 := fun ds os => cell_regrown (v := .int .u64 (lim (Y1) 3)) (Aa.c 7 (by omega)) ds os
  have ra8 := fun ds os => cell_regrown (v := .bool i1) (Aa.c 8 (by omega)) ds os
  have rb0 := fun ds os => cell_regrown (v := .int .u64 (lim (X2) 0)) (Ab.c 0 (by omega)) ds os
  have rb1 := fun ds os => cell_regrown (v := .int .u64 (lim (X2) 1)) (Ab.c 1 (by omega)) ds os
  have rb2 := fun ds os => cell_regrown (v := .int .u64 (lim (X2) 2)) (Ab.c 2 (by omega)) ds os
  have rb3 := fun ds os => cell_regrown (v := .int .u64 (lim (X2) 3)) (Ab.c 3 (by omega)) ds os
  have rb4 := fun ds os => cell_regrown (v := .int .u64 (lim (Y2) 0)) (Ab.c 4 (by omega)) ds os
  have rb5 := fun ds os => cell_regrown (v := .int .u64 (lim (Y2) 1)) (Ab.c 5 (by omega)) ds os
  have rb6 := fun ds os => cell_regrown (v := .int .u64 (lim (Y2) 2)) (Ab.c 6 (by omega)) ds os
  have rb7 := fun ds os => cell_regrown (v := .int .u64 (lim (Y2) 3)) (Ab.c 7 (by omega)) ds os
  have rb8 := fun ds os => cell_regrown (v := .bool i2) (Ab.c 8 (by omega)) ds os
  have rc0 := fun ds os => cell_regrown (v := .int .u64 (lim (X2) 0)) (Ac.c 0 (by omega)) ds os
  have rc1 := fun ds os => cell_regrown (v := .int .u64 (lim (X2) 1)) (Ac.c 1 (by omega)) ds os
  have rc2 := fun ds os => cell_regrown (v := .int .u64 (lim (X2) 2)) (Ac.c 2 (by omega)) ds os
  have rc3 := fun ds os => cell_regrown (v := .int .u64 (lim (X2) 3)) (Ac.c 3 (by omega)) ds os
  have rc4 := fun ds os => cell_regrown (v := .int .u64 (lim (Y2) 0)) (Ac.c 4 (by omega)) ds os
  have rc5 := fun ds os => cell_regrown (v := .int .u64 (lim (Y2) 1)) (Ac.c 5 (by omega)) ds os
  have rc6 := fun ds os => cell_regrown (v := .int .u64 (lim (Y2) 2)) (Ac.c 6 (by omega)) ds os
  have rc7 := fun ds os => cell_regrown (v := .int .u64 (lim (Y2) 3)) (Ac.c 7 (by omega)) ds os
  have rc8 := fun ds os => cell_regrown (v := .bool i2) (Ac.c 8 (by omega)) ds os
  go_wp2_with fail
  refine wp_region_quiet_below (by kernel_rfl) (by kernel_rfl) ?_
  repeat (go_big_quiet_step (first | (go_at_call 9; with_reducible first | exact Calls.regrown_of (C3 _)) | (go_at_call 10; with_reducible first | exact Calls.regrown_of (C4 _)) | (go_at_call 11; with_reducible first | exact Calls.regrown_of (C5 _)) | (go_at_call 12; with_reducible first | exact Calls.regrown_of (C6 _))))
  refine wpQuiet_nil ?_
  intro w3 hw'
  obtain ⟨⟨dq, osq⟩, hw''⟩ := hw'
  have hb := below_of hw''
  clear hw''
  have Ba := Arr.to' Aa hb
  have Bb := Arr.to' Ab hb
  have Bc := Arr.to' Ac hb
  have hB' := Bel.call hB hb
  clear hb ra0 ra1 ra2 ra3 ra4 ra5 ra6 ra7 ra8 rb0 rb1 rb2 rb3 rb4 rb5 rb6 rb7 rb8 rc0 rc1 rc2 rc3 rc4 rc5 rc6 rc7 rc8 Aa Ab Ac hB
  have Aa := Ba
  have Ab := Bb
  have Ac := Bc
  have hB := hB'
  clear Ba Bb Bc hB'
  have ra0 := fun ds os => cell_regrown (v := .int .u64 (lim (X1) 0)) (Aa.c 0 (by omega)) ds os
  have ra1 := fun ds os => cell_regrown (v := .int .u64 (lim (X1) 1)) (Aa.c 1 (by omega)) ds os
  have ra2 := fun ds os => cell_regrown (v := .int .u64 (lim (X1) 2)) (Aa.c 2 (by omega)) ds os
  have ra3 := fun ds os => cell_regrown (v := .int .u64 (lim (X1) 3)) (Aa.c 3 (by omega)) ds os
  have ra4 := fun ds os => cell_regrown (v := .int .u64 (lim (Y1) 0)) (Aa.c 4 (by omega)) ds os
  have ra5 := fun ds os => cell_regrown (v := .int .u64 (lim (Y1) 1)) (Aa.c 5 (by omega)) ds os
  have ra6 := fun ds os => cell_regrown (v := .int .u64 (lim (Y1) 2)) (Aa.c 6 (by omega)) ds os
  have ra7 := fun ds os => cell_regrown (v := .int .u64 (lim (Y1) 3)) (Aa.c 7 (by omega)) ds os
  have ra8 := fun ds os => cell_regrown (v := .bool i1) (Aa.c 8 (by omega)) ds os
  go_wp2_with fail
  refine wp_region_quiet_below (by kernel_rfl) (by kernel_rfl) ?_
  repeat (go_big_quiet_step (first | (go_at_call 12; with_reducible first | exact Calls.regrown_of (C6 _)) | (go_at_call 17; with_reducible first | exact Calls.regrown_of (C7 _)) | (go_at_call 13; with_reducible first | exact Calls.regrown_of (C8 _)) | (go_at_call 14; with_reducible first | exact Calls.regrown_of (C9 _)) | (go_at_call 15; with_reducible first | exact Calls.regrown_of (C10 _)) | (go_at_call 16; with_reducible first | exact Calls.regrown_of (C11 _))))
  refine wpQuiet_nil ?_
  intro w4 hw'
  obtain ⟨⟨dq, osq⟩, hw''⟩ := hw'
  have hb := below_of hw''
  clear hw''
  have Ba := Arr.to' Aa hb
  have Bb := Arr.to' Ab hb
  have Bc := Arr.to' Ac hb
  have hB' := Bel.call hB hb
  clear hb ra0 ra1 ra2 ra3 ra4 ra5 ra6 ra7 ra8 Aa Ab Ac hB
  have Aa := Ba
  have Ab := Bb
  have Ac := Bc
  have hB := hB'
  clear Ba Bb Bc hB'
  go_wp2_with fail
  go_ret
  exact ⟨rfl, hB⟩
end Go.Proofs.Ytgekafmojedlkaa
