/- The walk of layer 4's statement PointBack. -/
import Derived.Test.YtgekafmojedlkaaJ43
set_option linter.all false
set_option maxRecDepth 100000
namespace Go.Proofs.Ytgekafmojedlkaa
open Go.RowKit Go.Sort
attribute [local go_sem] eq24
set_option maxHeartbeats 8000000 in
theorem back_ok_off (X1 Y1 X2 Y2 X3 Y3 er : Int) (i1 i2 i3 : Bool) (s S : ByteArray) (w : World)
    (C1 : ∀ W, Calls Try.prog 7 #[.string s] W fun e w' => e = .returned (.tuple #[pv X2 Y2 false, .int .i64 0]) ∧ Below W.heap.size W w')
    (C2 : ∀ W, Calls Try.prog 13 #[pv X2 Y2 false] W fun e w' => e = .returned (.string s) ∧ Below W.heap.size W w')
    (C3 : ∀ W, Calls Try.prog 12 #[pv X2 Y2 false] W fun e w' => e = .returned (.bool true) ∧ Below W.heap.size W w')
    (C4 : ∀ W, Calls Try.prog 12 #[pv X1 Y1 i1] W fun e w' => e = .returned (.bool false) ∧ Below W.heap.size W w')
    (C5 : ∀ W, Calls Try.prog 17 #[] W fun e w' => e = .returned (.bool true) ∧ Below W.heap.size W w') :
    Calls Try.prog 6 #[pv X1 Y1 i1, .string s] w fun e w' => e = .returned (.bool true) ∧ Below w.heap.size w w' := by
  have q26 := eq26g
  go_enter Try.func6, Try.ntmps6
  have Ba := Arr.mk9p (w := (w.alloc (.cells #[.int .u64 (lim (X1) 0), .int .u64 (lim (X1) 1), .int .u64 (lim (X1) 2), .int .u64 (lim (X1) 3), .int .u64 (lim (Y1) 0), .int .u64 (lim (Y1) 1), .int .u64 (lim (Y1) 2), .int .u64 (lim (Y1) 3), .bool i1] 26))) (f := px (X1) (Y1) i1) (b := w.heap.size) (by simp [go_sem, px, sx, zx]) (by simp [go_sem, px, sx, zx]) (by simp [go_sem, px, sx, zx]) (by simp [go_sem, px, sx, zx]) (by simp [go_sem, px, sx, zx]) (by simp [go_sem, px, sx, zx]) (by simp [go_sem, px, sx, zx]) (by simp [go_sem, px, sx, zx]) (by simp [go_sem, px, sx, zx]) (by simp [go_sem, px, sx, zx])
  have hB' : Below w.heap.size w (w.alloc (.cells #[.int .u64 (lim (X1) 0), .int .u64 (lim (X1) 1), .int .u64 (lim (X1) 2), .int .u64 (lim (X1) 3), .int .u64 (lim (Y1) 0), .int .u64 (lim (Y1) 1), .int .u64 (lim (Y1) 2), .int .u64 (lim (Y1) 3), .bool i1] 26)) := by go_grown
  have Aa := Ba
  have hB := hB'
  clear Ba hB'
  go_wp2_with fail
  refine (C1 _).mono ?_
  rintro e w1 ⟨rfl, hb⟩
  have Ba := Arr.to' Aa hb
  have hB' := Bel.call hB hb
  clear hb Aa hB
  have Aa := Ba
  have hB := hB'
  clear Ba hB'
  have la_2 := Aa.lt
  have lB_2 := hB.size
  have Ba := (Arr.al' Aa (.cells #[.int .u64 (lim (X2) 0), .int .u64 (lim (X2) 1), .int .u64 (lim (X2) 2), .int .u64 (lim (X2) 3), .int .u64 (lim (Y2) 0), .int .u64 (lim (Y2) 1), .int .u64 (lim (Y2) 2), .int .u64 (lim (Y2) 3), .bool false] 26))
  have Bb := Arr.mk9p (w := (w1.alloc (.cells #[.int .u64 (lim (X2) 0), .int .u64 (lim (X2) 1), .int .u64 (lim (X2) 2), .int .u64 (lim (X2) 3), .int .u64 (lim (Y2) 0), .int .u64 (lim (Y2) 1), .int .u64 (lim (Y2) 2), .int .u64 (lim (Y2) 3), .bool false] 26))) (f := px (X2) (Y2) false) (b := w1.heap.size) (by simp [go_sem, px, sx, zx]) (by simp [go_sem, px, sx, zx]) (by simp [go_sem, px, sx, zx]) (by simp [go_sem, px, sx, zx]) (by simp [go_sem, px, sx, zx]) (by simp [go_sem, px, sx, zx]) (by simp [go_sem, px, sx, zx]) (by simp [go_sem, px, sx, zx]) (by simp [go_sem, px, sx, zx]) (by simp [go_sem, px, sx, zx])
  have hB' := (Bel.al hB (.cells #[.int .u64 (lim (X2) 0), .int .u64 (lim (X2) 1), .int .u64 (lim (X2) 2), .int .u64 (lim (X2) 3), .int .u64 (lim (Y2) 0), .int .u64 (lim (Y2) 1), .int .u64 (lim (Y2) 2), .int .u64 (lim (Y2) 3), .bool false] 26))
  clear Aa hB
  have Aa := Ba
  have Ab := Bb
  have hB := hB'
  clear Ba Bb hB'
  have cb_0 := Ab.cv 0 (by omega) (.int .u64 (lim (X2) 0)) rfl
  have cb_1 := Ab.cv 1 (by omega) (.int .u64 (lim (X2) 1)) rfl
  have cb_2 := Ab.cv 2 (by omega) (.int .u64 (lim (X2) 2)) rfl
  have cb_3 := Ab.cv 3 (by omega) (.int .u64 (lim (X2) 3)) rfl
  have cb_4 := Ab.cv 4 (by omega) (.int .u64 (lim (Y2) 0)) rfl
  have cb_5 := Ab.cv 5 (by omega) (.int .u64 (lim (Y2) 1)) rfl
  have cb_6 := Ab.cv 6 (by omega) (.int .u64 (lim (Y2) 2)) rfl
  have cb_7 := Ab.cv 7 (by omega) (.int .u64 (lim (Y2) 3)) rfl
  have cb_8 := Ab.cv 8 (by omega) (.bool false) rfl
  go_wp2_with fail
  refine (C2 _).mono ?_
  rintro e w12 ⟨rfl, hb⟩
  have Ba := Arr.to' Aa hb
  have Bb := Arr.to' Ab hb
  have hB' := Bel.call hB hb
  clear hb cb_0 cb_1 cb_2 cb_3 cb_4 cb_5 cb_6 cb_7 cb_8 Aa Ab hB
  have Aa := Ba
  have Ab := Bb
  have hB := hB'
  clear Ba Bb hB'
  have cb_0 := Ab.cv 0 (by omega) (.int .u64 (lim (X2) 0)) rfl
  have cb_1 := Ab.cv 1 (by omega) (.int .u64 (lim (X2) 1)) rfl
  have cb_2 := Ab.cv 2 (by omega) (.int .u64 (lim (X2) 2)) rfl
  have cb_3 := Ab.cv 3 (by omega) (.int .u64 (lim (X2) 3)) rfl
  have cb_4 := Ab.cv 4 (by omega) (.int .u64 (lim (Y2) 0)) rfl
  have cb_5 := Ab.cv 5 (by omega) (.int .u64 (lim (Y2) 1)) rfl
  have cb_6 := Ab.cv 6 (by omega) (.int .u64 (lim (Y2) 2)) rfl
  have cb_7 := Ab.cv 7 (by omega) (.int .u64 (lim (Y2) 3)) rfl
  have cb_8 := Ab.cv 8 (by omega) (.bool false) rfl
  go_wp2_with fail
  refine (C3 _).mono ?_
  rintro e w13 ⟨rfl, hb⟩
  have Ba := Arr.to' Aa hb
  have Bb := Arr.to' Ab hb
  have hB' := Bel.call hB hb
  clear hb cb_0 cb_1 cb_2 cb_3 cb_4 cb_5 cb_6 cb_7 cb_8 Aa Ab hB
  have Aa := Ba
  have Ab := Bb
  have hB := hB'
  clear Ba Bb hB'
  have cb_0 := Ab.cv 0 (by omega) (.int .u64 (lim (X2) 0)) rfl
  have cb_1 := Ab.cv 1 (by omega) (.int .u64 (lim (X2) 1)) rfl
  have cb_2 := Ab.cv 2 (by omega) (.int .u64 (lim (X2) 2)) rfl
  have cb_3 := Ab.cv 3 (by omega) (.int .u64 (lim (X2) 3)) rfl
  have cb_4 := Ab.cv 4 (by omega) (.int .u64 (lim (Y2) 0)) rfl
  have cb_5 := Ab.cv 5 (by omega) (.int .u64 (lim (Y2) 1)) rfl
  have cb_6 := Ab.cv 6 (by omega) (.int .u64 (lim (Y2) 2)) rfl
  have cb_7 := Ab.cv 7 (by omega) (.int .u64 (lim (Y2) 3)) rfl
  have cb_8 := Ab.cv 8 (by omega) (.bool false) rfl
  have ca_0 := Aa.cv 0 (by omega) (.int .u64 (lim (X1) 0)) rfl
  have ca_1 := Aa.cv 1 (by omega) (.int .u64 (lim (X1) 1)) rfl
  have ca_2 := Aa.cv 2 (by omega) (.int .u64 (lim (X1) 2)) rfl
  have ca_3 := Aa.cv 3 (by omega) (.int .u64 (lim (X1) 3)) rfl
  have ca_4 := Aa.cv 4 (by omega) (.int .u64 (lim (Y1) 0)) rfl
  have ca_5 := Aa.cv 5 (by omega) (.int .u64 (lim (Y1) 1)) rfl
  have ca_6 := Aa.cv 6 (by omega) (.int .u64 (lim (Y1) 2)) rfl
  have ca_7 := Aa.cv 7 (by omega) (.int .u64 (lim (Y1) 3)) rfl
  have ca_8 := Aa.cv 8 (by omega) (.bool i1) rfl
  go_wp2_with fail
  refine (C4 _).mono ?_
  rintro e w14 ⟨rfl, hb⟩
  have Ba := Arr.to' Aa hb
  have Bb := Arr.to' Ab hb
  have hB' := Bel.call hB hb
  clear hb cb_0 cb_1 cb_2 cb_3 cb_4 cb_5 cb_6 cb_7 cb_8 ca_0 ca_1 ca_2 ca_3 ca_4 ca_5 ca_6 ca_7 ca_8 Aa Ab hB
  have Aa := Ba
  have Ab := Bb
  have hB := hB'
  clear Ba Bb hB'
  go_wp2_with fail
  refine (C5 _).mono ?_
  rintro e w15 ⟨rfl, hb⟩
  have Ba := Arr.to' Aa hb
  have Bb := Arr.to' Ab hb
  have hB' := Bel.call hB hb
  clear hb Aa Ab hB
  have Aa := Ba
  have Ab := Bb
  have hB := hB'
  clear Ba Bb hB'
  go_wp2_with fail
  go_ret
  exact ⟨rfl, hB⟩
set_option maxHeartbeats 8000000 in
theorem back_ok_none (X1 Y1 X2 Y2 X3 Y3 er : Int) (i1 i2 i3 : Bool) (s S : ByteArray) (w : World)
    (C1 : ∀ W, Calls Try.prog 7 #[.string s] W fun e w' => e = .returned (.tuple #[pv X2 Y2 false, .int .i64 0]) ∧ Below W.heap.size W w')
    (C2 : ∀ W, Calls Try.prog 13 #[pv X2 Y2 false] W fun e w' => e = .returned (.string s) ∧ Below W.heap.size W w')
    (C3 : ∀ W, Calls Try.prog 12 #[pv X2 Y2 false] W fun e w' => e = .returned (.bool true) ∧ Below W.heap.size W w')
    (C4 : ∀ W, Calls Try.prog 12 #[pv X1 Y1 true] W fun e w' => e = .returned (.bool true) ∧ Below W.heap.size W w')
    (C5 : ∀ W, Calls Try.prog 17 #[] W fun e w' => e = .returned (.bool true) ∧ Below W.heap.size W w')
    (C6 : ∀ W, Calls Try.prog 13 #[pv X1 Y1 true] W fun e w' => e = .returned (.string S) ∧ Below W.heap.size W w')
    (C7 : ∀ W, Calls Try.prog 7 #[.string S] W fun e w' => e = .returned (.tuple #[pv X3 Y3 i3, .int .i64 11]) ∧ Below W.heap.size W w') :
    Calls Try.prog 6 #[pv X1 Y1 true, .string s] w fun e w' => e = .returned (.bool true) ∧ Below w.heap.size w w' := by
  have q26 := eq26g
  go_enter Try.func6, Try.ntmps6
  have Ba := Arr.mk9p (w := (w.alloc (.cells #[.int .u64 (lim (X1) 0), .int .u64 (lim (X1) 1), .int .u64 (lim (X1) 2), .int .u64 (lim (X1) 3), .int .u64 (lim (Y1) 0), .int .u64 (lim (Y1) 1), .int .u64 (lim (Y1) 2), .int .u64 (lim (Y1) 3), .bool true] 26))) (f := px (X1) (Y1) true) (b := w.heap.size) (by simp [go_sem, px, sx, zx]) (by simp [go_sem, px, sx, zx]) (by simp [go_sem, px, sx, zx]) (by simp [go_sem, px, sx, zx]) (by simp [go_sem, px, sx, zx]) (by simp [go_sem, px, sx, zx]) (by simp [go_sem, px, sx, zx]) (by simp [go_sem, px, sx, zx]) (by simp [go_sem, px, sx, zx]) (by simp [go_sem, px, sx, zx])
  have hB' : Below w.heap.size w (w.alloc (.cells #[.int .u64 (lim (X1) 0), .int .u64 (lim (X1) 1), .int .u64 (lim (X1) 2), .int .u64 (lim (X1) 3), .int .u64 (lim (Y1) 0), .int .u64 (lim (Y1) 1), .int .u64 (lim (Y1) 2), .int .u64 (lim (Y1) 3), .bool true] 26)) := by go_grown
  have Aa := Ba
  have hB := hB'
  clear Ba hB'
  go_wp2_with fail
  refine (C1 _).mono ?_
  rintro e w1 ⟨rfl, hb⟩
  have Ba := Arr.to' Aa hb
  have hB' := Bel.call hB hb
  clear hb Aa hB
  have Aa := Ba
  have hB := hB'
  clear Ba hB'
  have la_2 := Aa.lt
  have lB_2 := hB.size
  have Ba := (Arr.al' Aa (.cells #[.int .u64 (lim (X2) 0), .int .u64 (lim (X2) 1), .int .u64 (lim (X2) 2), .int .u64 (lim (X2) 3), .int .u64 (lim (Y2) 0), .int .u64 (lim (Y2) 1), .int .u64 (lim (Y2) 2), .int .u64 (lim (Y2) 3), .bool false] 26))
  have Bb := Arr.mk9p (w := (w1.alloc (.cells #[.int .u64 (lim (X2) 0), .int .u64 (lim (X2) 1), .int .u64 (lim (X2) 2), .int .u64 (lim (X2) 3), .int .u64 (lim (Y2) 0), .int .u64 (lim (Y2) 1), .int .u64 (lim (Y2) 2), .int .u64 (lim (Y2) 3), .bool false] 26))) (f := px (X2) (Y2) false) (b := w1.heap.size) (by simp [go_sem, px, sx, zx]) (by simp [go_sem, px, sx, zx]) (by simp [go_sem, px, sx, zx]) (by simp [go_sem, px, sx, zx]) (by simp [go_sem, px, sx, zx]) (by simp [go_sem, px, sx, zx]) (by simp [go_sem, px, sx, zx]) (by simp [go_sem, px, sx, zx]) (by simp [go_sem, px, sx, zx]) (by simp [go_sem, px, sx, zx])
  have hB' := (Bel.al hB (.cells #[.int .u64 (lim (X2) 0), .int .u64 (lim (X2) 1), .int .u64 (lim (X2) 2), .int .u64 (lim (X2) 3), .int .u64 (lim (Y2) 0), .int .u64 (lim (Y2) 1), .int .u64 (lim (Y2) 2), .int .u64 (lim (Y2) 3), .bool false] 26))
  clear Aa hB
  have Aa := Ba
  have Ab := Bb
  have hB := hB'
  clear Ba Bb hB'
  have cb_0 := Ab.cv 0 (by omega) (.int .u64 (lim (X2) 0)) rfl
  have cb_1 := Ab.cv 1 (by omega) (.int .u64 (lim (X2) 1)) rfl
  have cb_2 := Ab.cv 2 (by omega) (.int .u64 (lim (X2) 2)) rfl
  have cb_3 := Ab.cv 3 (by omega) (.int .u64 (lim (X2) 3)) rfl
  have cb_4 := Ab.cv 4 (by omega) (.int .u64 (lim (Y2) 0)) rfl
  have cb_5 := Ab.cv 5 (by omega) (.int .u64 (lim (Y2) 1)) rfl
  have cb_6 := Ab.cv 6 (by omega) (.int .u64 (lim (Y2) 2)) rfl
  have cb_7 := Ab.cv 7 (by omega) (.int .u64 (lim (Y2) 3)) rfl
  have cb_8 := Ab.cv 8 (by omega) (.bool false) rfl
  go_wp2_with fail
  refine (C2 _).mono ?_
  rintro e w12 ⟨rfl, hb⟩
  have Ba := Arr.to' Aa hb
  have Bb := Arr.to' Ab hb
  have hB' := Bel.call hB hb
  clear hb cb_0 cb_1 cb_2 cb_3 cb_4 cb_5 cb_6 cb_7 cb_8 Aa Ab hB
  have Aa := Ba
  have Ab := Bb
  have hB := hB'
  clear Ba Bb hB'
  have cb_0 := Ab.cv 0 (by omega) (.int .u64 (lim (X2) 0)) rfl
  have cb_1 := Ab.cv 1 (by omega) (.int .u64 (lim (X2) 1)) rfl
  have cb_2 := Ab.cv 2 (by omega) (.int .u64 (lim (X2) 2)) rfl
  have cb_3 := Ab.cv 3 (by omega) (.int .u64 (lim (X2) 3)) rfl
  have cb_4 := Ab.cv 4 (by omega) (.int .u64 (lim (Y2) 0)) rfl
  have cb_5 := Ab.cv 5 (by omega) (.int .u64 (lim (Y2) 1)) rfl
  have cb_6 := Ab.cv 6 (by omega) (.int .u64 (lim (Y2) 2)) rfl
  have cb_7 := Ab.cv 7 (by omega) (.int .u64 (lim (Y2) 3)) rfl
  have cb_8 := Ab.cv 8 (by omega) (.bool false) rfl
  go_wp2_with fail
  refine (C3 _).mono ?_
  rintro e w13 ⟨rfl, hb⟩
  have Ba := Arr.to' Aa hb
  have Bb := Arr.to' Ab hb
  have hB' := Bel.call hB hb
  clear hb cb_0 cb_1 cb_2 cb_3 cb_4 cb_5 cb_6 cb_7 cb_8 Aa Ab hB
  have Aa := Ba
  have Ab := Bb
  have hB := hB'
  clear Ba Bb hB'
  have cb_0 := Ab.cv 0 (by omega) (.int .u64 (lim (X2) 0)) rfl
  have cb_1 := Ab.cv 1 (by omega) (.int .u64 (lim (X2) 1)) rfl
  have cb_2 := Ab.cv 2 (by omega) (.int .u64 (lim (X2) 2)) rfl
  have cb_3 := Ab.cv 3 (by omega) (.int .u64 (lim (X2) 3)) rfl
  have cb_4 := Ab.cv 4 (by omega) (.int .u64 (lim (Y2) 0)) rfl
  have cb_5 := Ab.cv 5 (by omega) (.int .u64 (lim (Y2) 1)) rfl
  have cb_6 := Ab.cv 6 (by omega) (.int .u64 (lim (Y2) 2)) rfl
  have cb_7 := Ab.cv 7 (by omega) (.int .u64 (lim (Y2) 3)) rfl
  have cb_8 := Ab.cv 8 (by omega) (.bool false) rfl
  have ca_0 := Aa.cv 0 (by omega) (.int .u64 (lim (X1) 0)) rfl
  have ca_1 := Aa.cv 1 (by omega) (.int .u64 (lim (X1) 1)) rfl
  have ca_2 := Aa.cv 2 (by omega) (.int .u64 (lim (X1) 2)) rfl
  have ca_3 := Aa.cv 3 (by omega) (.int .u64 (lim (X1) 3)) rfl
  have ca_4 := Aa.cv 4 (by omega) (.int .u64 (lim (Y1) 0)) rfl
  have ca_5 := Aa.cv 5 (by omega) (.int .u64 (lim (Y1) 1)) rfl
  have ca_6 := Aa.cv 6 (by omega) (.int .u64 (lim (Y1) 2)) rfl
  have ca_7 := Aa.cv 7 (by omega) (.int .u64 (lim (Y1) 3)) rfl
  have ca_8 := Aa.cv 8 (by omega) (.bool true) rfl
  go_wp2_with fail
  refine (C4 _).mono ?_
  rintro e w14 ⟨rfl, hb⟩
  have Ba := Arr.to' Aa hb
  have Bb := Arr.to' Ab hb
  have hB' := Bel.call hB hb
  clear hb cb_0 cb_1 cb_2 cb_3 cb_4 cb_5 cb_6 cb_7 cb_8 ca_0 ca_1 ca_2 ca_3 ca_4 ca_5 ca_6 ca_7 ca_8 Aa Ab hB
  have Aa := Ba
  have Ab := Bb
  have hB := hB'
  clear Ba Bb hB'
  have ca_0 := Aa.cv 0 (by omega) (.int .u64 (lim (X1) 0)) rfl
  have ca_1 := Aa.cv 1 (by omega) (.int .u64 (lim (X1) 1)) rfl
  have ca_2 := Aa.cv 2 (by omega) (.int .u64 (lim (X1) 2)) rfl
  have ca_3 := Aa.cv 3 (by omega) (.int .u64 (lim (X1) 3)) rfl
  have ca_4 := Aa.cv 4 (by omega) (.int .u64 (lim (Y1) 0)) rfl
  have ca_5 := Aa.cv 5 (by omega) (.int .u64 (lim (Y1) 1)) rfl
  have ca_6 := Aa.cv 6 (by omega) (.int .u64 (lim (Y1) 2)) rfl
  have ca_7 := Aa.cv 7 (by omega) (.int .u64 (lim (Y1) 3)) rfl
  have ca_8 := Aa.cv 8 (by omega) (.bool true) rfl
  go_wp2_with fail
  refine (C6 _).mono ?_
  rintro e w15 ⟨rfl, hb⟩
  have Ba := Arr.to' Aa hb
  have Bb := Arr.to' Ab hb
  have hB' := Bel.call hB hb
  clear hb ca_0 ca_1 ca_2 ca_3 ca_4 ca_5 ca_6 ca_7 ca_8 Aa Ab hB
  have Aa := Ba
  have Ab := Bb
  have hB := hB'
  clear Ba Bb hB'
  go_wp2_with fail
  refine (C7 _).mono ?_
  rintro e w16 ⟨rfl, hb⟩
  have Ba := Arr.to' Aa hb
  have Bb := Arr.to' Ab hb
  have hB' := Bel.call hB hb
  clear hb Aa Ab hB
  have Aa := Ba
  have Ab := Bb
  have hB := hB'
  clear Ba Bb hB'
  have la_3 := Aa.lt
  have lb_3 := Ab.lt
  have lB_3 := hB.size
  have Ba := (Arr.al' Aa (.cells #[.int .u64 (lim (X3) 0), .int .u64 (lim (X3) 1), .int .u64 (lim (X3) 2), .int .u64 (lim (X3) 3), .int .u64 (lim (Y3) 0), .int .u64 (lim (Y3) 1), .int .u64 (lim (Y3) 2), .int .u64 (lim (Y3) 3), .bool i3] 26))
  have Bb := (Arr.al' Ab (.cells #[.int .u64 (lim (X3) 0), .int .u64 (lim (X3) 1), .int .u64 (lim (X3) 2), .int .u64 (lim (X3) 3), .int .u64 (lim (Y3) 0), .int .u64 (lim (Y3) 1), .int .u64 (lim (Y3) 2), .int .u64 (lim (Y3) 3), .bool i3] 26))
  have Bc := Arr.mk9p (w := (w16.alloc (.cells #[.int .u64 (lim (X3) 0), .int .u64 (lim (X3) 1), .int .u64 (lim (X3) 2), .int .u64 (lim (X3) 3), .int .u64 (lim (Y3) 0), .int .u64 (lim (Y3) 1), .int .u64 (lim (Y3) 2), .int .u64 (lim (Y3) 3), .bool i3] 26))) (f := px (X3) (Y3) i3) (b := w16.heap.size) (by simp [go_sem, px, sx, zx]) (by simp [go_sem, px, sx, zx]) (by simp [go_sem, px, sx, zx]) (by simp [go_sem, px, sx, zx]) (by simp [go_sem, px, sx, zx]) (by simp [go_sem, px, sx, zx]) (by simp [go_sem, px, sx, zx]) (by simp [go_sem, px, sx, zx]) (by simp [go_sem, px, sx, zx]) (by simp [go_sem, px, sx, zx])
  have hB' := (Bel.al hB (.cells #[.int .u64 (lim (X3) 0), .int .u64 (lim (X3) 1), .int .u64 (lim (X3) 2), .int .u64 (lim (X3) 3), .int .u64 (lim (Y3) 0), .int .u64 (lim (Y3) 1), .int .u64 (lim (Y3) 2), .int .u64 (lim (Y3) 3), .bool i3] 26))
  clear Aa Ab hB
  have Aa := Ba
  have Ab := Bb
  have Ac := Bc
  have hB := hB'
  clear Ba Bb Bc hB'
  have ca_0 := Aa.cv 0 (by omega) (.int .u64 (lim (X1) 0)) rfl
  have ca_1 := Aa.cv 1 (by omega) (.int .u64 (lim (X1) 1)) rfl
  have ca_2 := Aa.cv 2 (by omega) (.int .u64 (lim (X1) 2)) rfl
  have ca_3 := Aa.cv 3 (by omega) (.int .u64 (lim (X1) 3)) rfl
  have ca_4 := Aa.cv 4 (by omega) (.int .u64 (lim (Y1) 0)) rfl
  have ca_5 := Aa.cv 5 (by omega) (.int .u64 (lim (Y1) 1)) rfl
  have ca_6 := Aa.cv 6 (by omega) (.int .u64 (lim (Y1) 2)) rfl
  have ca_7 := Aa.cv 7 (by omega) (.int .u64 (lim (Y1) 3)) rfl
  have ca_8 := Aa.cv 8 (by omega) (.bool true) rfl
  have cc_0 := Ac.cv 0 (by omega) (.int .u64 (lim (X3) 0)) rfl
  have cc_1 := Ac.cv 1 (by omega) (.int .u64 (lim (X3) 1)) rfl
  have cc_2 := Ac.cv 2 (by omega) (.int .u64 (lim (X3) 2)) rfl
  have cc_3 := Ac.cv 3 (by omega) (.int .u64 (lim (X3) 3)) rfl
  have cc_4 := Ac.cv 4 (by omega) (.int .u64 (lim (Y3) 0)) rfl
  have cc_5 := Ac.cv 5 (by omega) (.int .u64 (lim (Y3) 1)) rfl
  have cc_6 := Ac.cv 6 (by omega) (.int .u64 (lim (Y3) 2)) rfl
  have cc_7 := Ac.cv 7 (by omega) (.int .u64 (lim (Y3) 3)) rfl
  have cc_8 := Ac.cv 8 (by omega) (.bool i3) rfl
  go_wp2_with fail
  refine (C5 _).mono ?_
  rintro e w17 ⟨rfl, hb⟩
  have Ba := Arr.to' Aa hb
  have Bb := Arr.to' Ab hb
  have Bc := Arr.to' Ac hb
  have hB' := Bel.call hB hb
  clear hb ca_0 ca_1 ca_2 ca_3 ca_4 ca_5 ca_6 ca_7 ca_8 cc_0 cc_1 cc_2 cc_3 cc_4 cc_5 cc_6 cc_7 cc_8 Aa Ab Ac hB
  have Aa := Ba
  have Ab := Bb
  have Ac := Bc
  have hB := hB'
  clear Ba Bb Bc hB'
  go_wp2_with fail
  go_ret
  exact ⟨rfl, hB⟩
set_option maxHeartbeats 8000000 in
theorem back_ok_some (X1 Y1 X2 Y2 X3 Y3 er : Int) (i1 i2 i3 : Bool) (s S : ByteArray) (w : World)
    (C1 : ∀ W, Calls Try.prog 7 #[.string s] W fun e w' => e = .returned (.tuple #[pv X2 Y2 false, .int .i64 0]) ∧ Below W.heap.size W w')
    (C2 : ∀ W, Calls Try.prog 13 #[pv X2 Y2 false] W fun e w' => e = .returned (.string s) ∧ Below W.heap.size W w')
    (C3 : ∀ W, Calls Try.prog 12 #[pv X2 Y2 false] W fun e w' => e = .returned (.bool true) ∧ Below W.heap.size W w')
    (C4 : ∀ W, Calls Try.prog 12 #[pv X1 Y1 false] W fun e w' => e = .returned (.bool true) ∧ Below W.heap.size W w')
    (C5 : ∀ W, Calls Try.prog 17 #[] W fun e w' => e = .returned (.bool true) ∧ Below W.heap.size W w')
    (C6 : ∀ W, Calls Try.prog 13 #[pv X1 Y1 false] W fun e w' => e = .returned (.string S) ∧ Below W.heap.size W w')
    (C7 : ∀ W, Calls Try.prog 7 #[.string S] W fun e w' => e = .returned (.tuple #[pv X1 Y1 false, .int .i64 0]) ∧ Below W.heap.size W w') :
    Calls Try.prog 6 #[pv X1 Y1 false, .string s] w fun e w' => e = .returned (.bool true) ∧ Below w.heap.size w w' := by
  have q26 := eq26g
  go_enter Try.func6, Try.ntmps6
  have Ba := Arr.mk9p (w := (w.alloc (.cells #[.int .u64 (lim (X1) 0), .int .u64 (lim (X1) 1), .int .u64 (lim (X1) 2), .int .u64 (lim (X1) 3), .int .u64 (lim (Y1) 0), .int .u64 (lim (Y1) 1), .int .u64 (lim (Y1) 2), .int .u64 (lim (Y1) 3), .bool false] 26))) (f := px (X1) (Y1) false) (b := w.heap.size) (by simp [go_sem, px, sx, zx]) (by simp [go_sem, px, sx, zx]) (by simp [go_sem, px, sx, zx]) (by simp [go_sem, px, sx, zx]) (by simp [go_sem, px, sx, zx]) (by simp [go_sem, px, sx, zx]) (by simp [go_sem, px, sx, zx]) (by simp [go_sem, px, sx, zx]) (by simp [go_sem, px, sx, zx]) (by simp [go_sem, px, sx, zx])
  have hB' : Below w.heap.size w (w.alloc (.cells #[.int .u64 (lim (X1) 0), .int .u64 (lim (X1) 1), .int .u64 (lim (X1) 2), .int .u64 (lim (X1) 3), .int .u64 (lim (Y1) 0), .int .u64 (lim (Y1) 1), .int .u64 (lim (Y1) 2), .int .u64 (lim (Y1) 3), .bool false] 26)) := by go_grown
  have Aa := Ba
  have hB := hB'
  clear Ba hB'
  go_wp2_with fail
  refine (C1 _).mono ?_
  rintro e w1 ⟨rfl, hb⟩
  have Ba := Arr.to' Aa hb
  have hB' := Bel.call hB hb
  clear hb Aa hB
  have Aa := Ba
  have hB := hB'
  clear Ba hB'
  have la_2 := Aa.lt
  have lB_2 := hB.size
  have Ba := (Arr.al' Aa (.cells #[.int .u64 (lim (X2) 0), .int .u64 (lim (X2) 1), .int .u64 (lim (X2) 2), .int .u64 (lim (X2) 3), .int .u64 (lim (Y2) 0), .int .u64 (lim (Y2) 1), .int .u64 (lim (Y2) 2), .int .u64 (lim (Y2) 3), .bool false] 26))
  have Bb := Arr.mk9p (w := (w1.alloc (.cells #[.int .u64 (lim (X2) 0), .int .u64 (lim (X2) 1), .int .u64 (lim (X2) 2), .int .u64 (lim (X2) 3), .int .u64 (lim (Y2) 0), .int .u64 (lim (Y2) 1), .int .u64 (lim (Y2) 2), .int .u64 (lim (Y2) 3), .bool false] 26))) (f := px (X2) (Y2) false) (b := w1.heap.size) (by simp [go_sem, px, sx, zx]) (by simp [go_sem, px, sx, zx]) (by simp [go_sem, px, sx, zx]) (by simp [go_sem, px, sx, zx]) (by simp [go_sem, px, sx, zx]) (by simp [go_sem, px, sx, zx]) (by simp [go_sem, px, sx, zx]) (by simp [go_sem, px, sx, zx]) (by simp [go_sem, px, sx, zx]) (by simp [go_sem, px, sx, zx])
  have hB' := (Bel.al hB (.cells #[.int .u64 (lim (X2) 0), .int .u64 (lim (X2) 1), .int .u64 (lim (X2) 2), .int .u64 (lim (X2) 3), .int .u64 (lim (Y2) 0), .int .u64 (lim (Y2) 1), .int .u64 (lim (Y2) 2), .int .u64 (lim (Y2) 3), .bool false] 26))
  clear Aa hB
  have Aa := Ba
  have Ab := Bb
  have hB := hB'
  clear Ba Bb hB'
  have cb_0 := Ab.cv 0 (by omega) (.int .u64 (lim (X2) 0)) rfl
  have cb_1 := Ab.cv 1 (by omega) (.int .u64 (lim (X2) 1)) rfl
  have cb_2 := Ab.cv 2 (by omega) (.int .u64 (lim (X2) 2)) rfl
  have cb_3 := Ab.cv 3 (by omega) (.int .u64 (lim (X2) 3)) rfl
  have cb_4 := Ab.cv 4 (by omega) (.int .u64 (lim (Y2) 0)) rfl
  have cb_5 := Ab.cv 5 (by omega) (.int .u64 (lim (Y2) 1)) rfl
  have cb_6 := Ab.cv 6 (by omega) (.int .u64 (lim (Y2) 2)) rfl
  have cb_7 := Ab.cv 7 (by omega) (.int .u64 (lim (Y2) 3)) rfl
  have cb_8 := Ab.cv 8 (by omega) (.bool false) rfl
  go_wp2_with fail
  refine (C2 _).mono ?_
  rintro e w12 ⟨rfl, hb⟩
  have Ba := Arr.to' Aa hb
  have Bb := Arr.to' Ab hb
  have hB' := Bel.call hB hb
  clear hb cb_0 cb_1 cb_2 cb_3 cb_4 cb_5 cb_6 cb_7 cb_8 Aa Ab hB
  have Aa := Ba
  have Ab := Bb
  have hB := hB'
  clear Ba Bb hB'
  have cb_0 := Ab.cv 0 (by omega) (.int .u64 (lim (X2) 0)) rfl
  have cb_1 := Ab.cv 1 (by omega) (.int .u64 (lim (X2) 1)) rfl
  have cb_2 := Ab.cv 2 (by omega) (.int .u64 (lim (X2) 2)) rfl
  have cb_3 := Ab.cv 3 (by omega) (.int .u64 (lim (X2) 3)) rfl
  have cb_4 := Ab.cv 4 (by omega) (.int .u64 (lim (Y2) 0)) rfl
  have cb_5 := Ab.cv 5 (by omega) (.int .u64 (lim (Y2) 1)) rfl
  have cb_6 := Ab.cv 6 (by omega) (.int .u64 (lim (Y2) 2)) rfl
  have cb_7 := Ab.cv 7 (by omega) (.int .u64 (lim (Y2) 3)) rfl
  have cb_8 := Ab.cv 8 (by omega) (.bool false) rfl
  go_wp2_with fail
  refine (C3 _).mono ?_
  rintro e w13 ⟨rfl, hb⟩
  have Ba := Arr.to' Aa hb
  have Bb := Arr.to' Ab hb
  have hB' := Bel.call hB hb
  clear hb cb_0 cb_1 cb_2 cb_3 cb_4 cb_5 cb_6 cb_7 cb_8 Aa Ab hB
  have Aa := Ba
  have Ab := Bb
  have hB := hB'
  clear Ba Bb hB'
  have cb_0 := Ab.cv 0 (by omega) (.int .u64 (lim (X2) 0)) rfl
  have cb_1 := Ab.cv 1 (by omega) (.int .u64 (lim (X2) 1)) rfl
  have cb_2 := Ab.cv 2 (by omega) (.int .u64 (lim (X2) 2)) rfl
  have cb_3 := Ab.cv 3 (by omega) (.int .u64 (lim (X2) 3)) rfl
  have cb_4 := Ab.cv 4 (by omega) (.int .u64 (lim (Y2) 0)) rfl
  have cb_5 := Ab.cv 5 (by omega) (.int .u64 (lim (Y2) 1)) rfl
  have cb_6 := Ab.cv 6 (by omega) (.int .u64 (lim (Y2) 2)) rfl
  have cb_7 := Ab.cv 7 (by omega) (.int .u64 (lim (Y2) 3)) rfl
  have cb_8 := Ab.cv 8 (by omega) (.bool false) rfl
  have ca_0 := Aa.cv 0 (by omega) (.int .u64 (lim (X1) 0)) rfl
  have ca_1 := Aa.cv 1 (by omega) (.int .u64 (lim (X1) 1)) rfl
  have ca_2 := Aa.cv 2 (by omega) (.int .u64 (lim (X1) 2)) rfl
  have ca_3 := Aa.cv 3 (by omega) (.int .u64 (lim (X1) 3)) rfl
  have ca_4 := Aa.cv 4 (by omega) (.int .u64 (lim (Y1) 0)) rfl
  have ca_5 := Aa.cv 5 (by omega) (.int .u64 (lim (Y1) 1)) rfl
  have ca_6 := Aa.cv 6 (by omega) (.int .u64 (lim (Y1) 2)) rfl
  have ca_7 := Aa.cv 7 (by omega) (.int .u64 (lim (Y1) 3)) rfl
  have ca_8 := Aa.cv 8 (by omega) (.bool false) rfl
  go_wp2_with fail
  refine (C4 _).mono ?_
  rintro e w14 ⟨rfl, hb⟩
  have Ba := Arr.to' Aa hb
  have Bb := Arr.to' Ab hb
  have hB' := Bel.call hB hb
  clear hb cb_0 cb_1 cb_2 cb_3 cb_4 cb_5 cb_6 cb_7 cb_8 ca_0 ca_1 ca_2 ca_3 ca_4 ca_5 ca_6 ca_7 ca_8 Aa Ab hB
  have Aa := Ba
  have Ab := Bb
  have hB := hB'
  clear Ba Bb hB'
  have ca_0 := Aa.cv 0 (by omega) (.int .u64 (lim (X1) 0)) rfl
  have ca_1 := Aa.cv 1 (by omega) (.int .u64 (lim (X1) 1)) rfl
  have ca_2 := Aa.cv 2 (by omega) (.int .u64 (lim (X1) 2)) rfl
  have ca_3 := Aa.cv 3 (by omega) (.int .u64 (lim (X1) 3)) rfl
  have ca_4 := Aa.cv 4 (by omega) (.int .u64 (lim (Y1) 0)) rfl
  have ca_5 := Aa.cv 5 (by omega) (.int .u64 (lim (Y1) 1)) rfl
  have ca_6 := Aa.cv 6 (by omega) (.int .u64 (lim (Y1) 2)) rfl
  have ca_7 := Aa.cv 7 (by omega) (.int .u64 (lim (Y1) 3)) rfl
  have ca_8 := Aa.cv 8 (by omega) (.bool false) rfl
  go_wp2_with fail
  refine (C6 _).mono ?_
  rintro e w15 ⟨rfl, hb⟩
  have Ba := Arr.to' Aa hb
  have Bb := Arr.to' Ab hb
  have hB' := Bel.call hB hb
  clear hb ca_0 ca_1 ca_2 ca_3 ca_4 ca_5 ca_6 ca_7 ca_8 Aa Ab hB
  have Aa := Ba
  have Ab := Bb
  have hB := hB'
  clear Ba Bb hB'
  go_wp2_with fail
  refine (C7 _).mono ?_
  rintro e w16 ⟨rfl, hb⟩
  have Ba := Arr.to' Aa hb
  have Bb := Arr.to' Ab hb
  have hB' := Bel.call hB hb
  clear hb Aa Ab hB
  have Aa := Ba
  have Ab := Bb
  have hB := hB'
  clear Ba Bb hB'
  have la_3 := Aa.lt
  have lb_3 := Ab.lt
  have lB_3 := hB.size
  have Ba := (Arr.al' Aa (.cells #[.int .u64 (lim (X1) 0), .int .u64 (lim (X1) 1), .int .u64 (lim (X1) 2), .int .u64 (lim (X1) 3), .int .u64 (lim (Y1) 0), .int .u64 (lim (Y1) 1), .int .u64 (lim (Y1) 2), .int .u64 (lim (Y1) 3), .bool false] 26))
  have Bb := (Arr.al' Ab (.cells #[.int .u64 (lim (X1) 0), .int .u64 (lim (X1) 1), .int .u64 (lim (X1) 2), .int .u64 (lim (X1) 3), .int .u64 (lim (Y1) 0), .int .u64 (lim (Y1) 1), .int .u64 (lim (Y1) 2), .int .u64 (lim (Y1) 3), .bool false] 26))
  have Bc := Arr.mk9p (w := (w16.alloc (.cells #[.int .u64 (lim (X1) 0), .int .u64 (lim (X1) 1), .int .u64 (lim (X1) 2), .int .u64 (lim (X1) 3), .int .u64 (lim (Y1) 0), .int .u64 (lim (Y1) 1), .int .u64 (lim (Y1) 2), .int .u64 (lim (Y1) 3), .bool false] 26))) (f := px (X1) (Y1) false) (b := w16.heap.size) (by simp [go_sem, px, sx, zx]) (by simp [go_sem, px, sx, zx]) (by simp [go_sem, px, sx, zx]) (by simp [go_sem, px, sx, zx]) (by simp [go_sem, px, sx, zx]) (by simp [go_sem, px, sx, zx]) (by simp [go_sem, px, sx, zx]) (by simp [go_sem, px, sx, zx]) (by simp [go_sem, px, sx, zx]) (by simp [go_sem, px, sx, zx])
  have hB' := (Bel.al hB (.cells #[.int .u64 (lim (X1) 0), .int .u64 (lim (X1) 1), .int .u64 (lim (X1) 2), .int .u64 (lim (X1) 3), .int .u64 (lim (Y1) 0), .int .u64 (lim (Y1) 1), .int .u64 (lim (Y1) 2), .int .u64 (lim (Y1) 3), .bool false] 26))
  clear Aa Ab hB
  have Aa := Ba
  have Ab := Bb
  have Ac := Bc
  have hB := hB'
  clear Ba Bb Bc hB'
  have ca_0 := Aa.cv 0 (by omega) (.int .u64 (lim (X1) 0)) rfl
  have ca_1 := Aa.cv 1 (by omega) (.int .u64 (lim (X1) 1)) rfl
  have ca_2 := Aa.cv 2 (by omega) (.int .u64 (lim (X1) 2)) rfl
  have ca_3 := Aa.cv 3 (by omega) (.int .u64 (lim (X1) 3)) rfl
  have ca_4 := Aa.cv 4 (by omega) (.int .u64 (lim (Y1) 0)) rfl
  have ca_5 := Aa.cv 5 (by omega) (.int .u64 (lim (Y1) 1)) rfl
  have ca_6 := Aa.cv 6 (by omega) (.int .u64 (lim (Y1) 2)) rfl
  have ca_7 := Aa.cv 7 (by omega) (.int .u64 (lim (Y1) 3)) rfl
  have ca_8 := Aa.cv 8 (by omega) (.bool false) rfl
  have cc_0 := Ac.cv 0 (by omega) (.int .u64 (lim (X1) 0)) rfl
  have cc_1 := Ac.cv 1 (by omega) (.int .u64 (lim (X1) 1)) rfl
  have cc_2 := Ac.cv 2 (by omega) (.int .u64 (lim (X1) 2)) rfl
  have cc_3 := Ac.cv 3 (by omega) (.int .u64 (lim (X1) 3)) rfl
  have cc_4 := Ac.cv 4 (by omega) (.int .u64 (lim (Y1) 0)) rfl
  have cc_5 := Ac.cv 5 (by omega) (.int .u64 (lim (Y1) 1)) rfl
  have cc_6 := Ac.cv 6 (by omega) (.int .u64 (lim (Y1) 2)) rfl
  have cc_7 := Ac.cv 7 (by omega) (.int .u64 (lim (Y1) 3)) rfl
  have cc_8 := Ac.cv 8 (by omega) (.bool false) rfl
  go_wp2_with fail
  refine (C5 _).mono ?_
  rintro e w17 ⟨rfl, hb⟩
  have Ba := Arr.to' Aa hb
  have Bb := Arr.to' Ab hb
  have Bc := Arr.to' Ac hb
  have hB' := Bel.call hB hb
  clear hb ca_0 ca_1 ca_2 ca_3 ca_4 ca_5 ca_6 ca_7 ca_8 cc_0 cc_1 cc_2 cc_3 cc_4 cc_5 cc_6 cc_7 cc_8 Aa Ab Ac hB
  have Aa := Ba
  have Ab := Bb
  have Ac := Bc
  have hB := hB'
  clear Ba Bb Bc hB'
  go_wp2_with fail
  go_ret
  exact ⟨rfl, hB⟩
set_option maxHeartbeats 8000000 in
theorem back_no_off (X1 Y1 X2 Y2 X3 Y3 er : Int) (i1 i2 i3 : Bool) (s S : ByteArray) (her : ¬ er = 0) (w : World)
    (C1 : ∀ W, Calls Try.prog 7 #[.string s] W fun e w' => e = .returned (.tuple #[pv X2 Y2 i2, .int .i64 er]) ∧ Below W.heap.size W w')
    (C2 : ∀ W, Calls Try.prog 12 #[pv X1 Y1 i1] W fun e w' => e = .returned (.bool false) ∧ Below W.heap.size W w')
    (C3 : ∀ W, Calls Try.prog 17 #[] W fun e w' => e = .returned (.bool true) ∧ Below W.heap.size W w') :
    Calls Try.prog 6 #[pv X1 Y1 i1, .string s] w fun e w' => e = .returned (.bool true) ∧ Below w.heap.size w w' := by
  have q26 := eq26g
  go_enter Try.func6, Try.ntmps6
  have Ba := Arr.mk9p (w := (w.alloc (.cells #[.int .u64 (lim (X1) 0), .int .u64 (lim (X1) 1), .int .u64 (lim (X1) 2), .int .u64 (lim (X1) 3), .int .u64 (lim (Y1) 0), .int .u64 (lim (Y1) 1), .int .u64 (lim (Y1) 2), .int .u64 (lim (Y1) 3), .bool i1] 26))) (f := px (X1) (Y1) i1) (b := w.heap.size) (by simp [go_sem, px, sx, zx]) (by simp [go_sem, px, sx, zx]) (by simp [go_sem, px, sx, zx]) (by simp [go_sem, px, sx, zx]) (by simp [go_sem, px, sx, zx]) (by simp [go_sem, px, sx, zx]) (by simp [go_sem, px, sx, zx]) (by simp [go_sem, px, sx, zx]) (by simp [go_sem, px, sx, zx]) (by simp [go_sem, px, sx, zx])
  have hB' : Below w.heap.size w (w.alloc (.cells #[.int .u64 (lim (X1) 0), .int .u64 (lim (X1) 1), .int .u64 (lim (X1) 2), .int .u64 (lim (X1) 3), .int .u64 (lim (Y1) 0), .int .u64 (lim (Y1) 1), .int .u64 (lim (Y1) 2), .int .u64 (lim (Y1) 3), .bool i1] 26)) := by go_grown
  have Aa := Ba
  have hB := hB'
  clear Ba hB'
  go_wp2_with fail
  refine (C1 _).mono ?_
  rintro e w1 ⟨rfl, hb⟩
  have Ba := Arr.to' Aa hb
  have hB' := Bel.call hB hb
  clear hb Aa hB
  have Aa := Ba
  have hB := hB'
  clear Ba hB'
  have la_2 := Aa.lt
  have lB_2 := hB.size
  have Ba := (Arr.al' Aa (.cells #[.int .u64 (lim (X2) 0), .int .u64 (lim (X2) 1), .int .u64 (lim (X2) 2), .int .u64 (lim (X2) 3), .int .u64 (lim (Y2) 0), .int .u64 (lim (Y2) 1), .int .u64 (lim (Y2) 2), .int .u64 (lim (Y2) 3), .bool i2] 26))
  have Bb := Arr.mk9p (w := (w1.alloc (.cells #[.int .u64 (lim (X2) 0), .int .u64 (lim (X2) 1), .int .u64 (lim (X2) 2), .int .u64 (lim (X2) 3), .int .u64 (lim (Y2) 0), .int .u64 (lim (Y2) 1), .int .u64 (lim (Y2) 2), .int .u64 (lim (Y2) 3), .bool i2] 26))) (f := px (X2) (Y2) i2) (b := w1.heap.size) (by simp [go_sem, px, sx, zx]) (by simp [go_sem, px, sx, zx]) (by simp [go_sem, px, sx, zx]) (by simp [go_sem, px, sx, zx]) (by simp [go_sem, px, sx, zx]) (by simp [go_sem, px, sx, zx]) (by simp [go_sem, px, sx, zx]) (by simp [go_sem, px, sx, zx]) (by simp [go_sem, px, sx, zx]) (by simp [go_sem, px, sx, zx])
  have hB' := (Bel.al hB (.cells #[.int .u64 (lim (X2) 0), .int .u64 (lim (X2) 1), .int .u64 (lim (X2) 2), .int .u64 (lim (X2) 3), .int .u64 (lim (Y2) 0), .int .u64 (lim (Y2) 1), .int .u64 (lim (Y2) 2), .int .u64 (lim (Y2) 3), .bool i2] 26))
  clear Aa hB
  have Aa := Ba
  have Ab := Bb
  have hB := hB'
  clear Ba Bb hB'
  have cb_0 := Ab.cv 0 (by omega) (.int .u64 (lim (X2) 0)) rfl
  have cb_1 := Ab.cv 1 (by omega) (.int .u64 (lim (X2) 1)) rfl
  have cb_2 := Ab.cv 2 (by omega) (.int .u64 (lim (X2) 2)) rfl
  have cb_3 := Ab.cv 3 (by omega) (.int .u64 (lim (X2) 3)) rfl
  have cb_4 := Ab.cv 4 (by omega) (.int .u64 (lim (Y2) 0)) rfl
  have cb_5 := Ab.cv 5 (by omega) (.int .u64 (lim (Y2) 1)) rfl
  have cb_6 := Ab.cv 6 (by omega) (.int .u64 (lim (Y2) 2)) rfl
  have cb_7 := Ab.cv 7 (by omega) (.int .u64 (lim (Y2) 3)) rfl
  have cb_8 := Ab.cv 8 (by omega) (.bool i2) rfl
  have ca_0 := Aa.cv 0 (by omega) (.int .u64 (lim (X1) 0)) rfl
  have ca_1 := Aa.cv 1 (by omega) (.int .u64 (lim (X1) 1)) rfl
  have ca_2 := Aa.cv 2 (by omega) (.int .u64 (lim (X1) 2)) rfl
  have ca_3 := Aa.cv 3 (by omega) (.int .u64 (lim (X1) 3)) rfl
  have ca_4 := Aa.cv 4 (by omega) (.int .u64 (lim (Y1) 0)) rfl
  have ca_5 := Aa.cv 5 (by omega) (.int .u64 (lim (Y1) 1)) rfl
  have ca_6 := Aa.cv 6 (by omega) (.int .u64 (lim (Y1) 2)) rfl
  have ca_7 := Aa.cv 7 (by omega) (.int .u64 (lim (Y1) 3)) rfl
  have ca_8 := Aa.cv 8 (by omega) (.bool i1) rfl
  go_wp2_with fail
  refine (C2 _).mono ?_
  rintro e w12 ⟨rfl, hb⟩
  have Ba := Arr.to' Aa hb
  have Bb := Arr.to' Ab hb
  have hB' := Bel.call hB hb
  clear hb cb_0 cb_1 cb_2 cb_3 cb_4 cb_5 cb_6 cb_7 cb_8 ca_0 ca_1 ca_2 ca_3 ca_4 ca_5 ca_6 ca_7 ca_8 Aa Ab hB
  have Aa := Ba
  have Ab := Bb
  have hB := hB'
  clear Ba Bb hB'
  go_wp2_with fail
  refine (C3 _).mono ?_
  rintro e w13 ⟨rfl, hb⟩
  have Ba := Arr.to' Aa hb
  have Bb := Arr.to' Ab hb
  have hB' := Bel.call hB hb
  clear hb Aa Ab hB
  have Aa := Ba
  have Ab := Bb
  have hB := hB'
  clear Ba Bb hB'
  go_wp2_with fail
  go_ret
  exact ⟨rfl, hB⟩
set_option maxHeartbeats 8000000 in
theorem back_no_none (X1 Y1 X2 Y2 X3 Y3 er : Int) (i1 i2 i3 : Bool) (s S : ByteArray) (her : ¬ er = 0) (w : World)
    (C1 : ∀ W, Calls Try.prog 7 #[.string s] W fun e w' => e = .returned (.tuple #[pv X2 Y2 i2, .int .i64 er]) ∧ Below W.heap.size W w')
    (C2 : ∀ W, Calls Try.prog 12 #[pv X1 Y1 true] W fun e w' => e = .returned (.bool true) ∧ Below W.heap.size W w')
    (C3 : ∀ W, Calls Try.prog 17 #[] W fun e w' => e = .returned (.bool true) ∧ Below W.heap.size W w')
    (C4 : ∀ W, Calls Try.prog 13 #[pv X1 Y1 true] W fun e w' => e = .returned (.string S) ∧ Below W.heap.size W w')
    (C5 : ∀ W, Calls Try.prog 7 #[.string S] W fun e w' => e = .returned (.tuple #[pv X3 Y3 i3, .int .i64 11]) ∧ Below W.heap.size W w') :
    Calls Try.prog 6 #[pv X1 Y1 true, .string s] w fun e w' => e = .returned (.bool true) ∧ Below w.heap.size w w' := by
  have q26 := eq26g
  go_enter Try.func6, Try.ntmps6
  have Ba := Arr.mk9p (w := (w.alloc (.cells #[.int .u64 (lim (X1) 0), .int .u64 (lim (X1) 1), .int .u64 (lim (X1) 2), .int .u64 (lim (X1) 3), .int .u64 (lim (Y1) 0), .int .u64 (lim (Y1) 1), .int .u64 (lim (Y1) 2), .int .u64 (lim (Y1) 3), .bool true] 26))) (f := px (X1) (Y1) true) (b := w.heap.size) (by simp [go_sem, px, sx, zx]) (by simp [go_sem, px, sx, zx]) (by simp [go_sem, px, sx, zx]) (by simp [go_sem, px, sx, zx]) (by simp [go_sem, px, sx, zx]) (by simp [go_sem, px, sx, zx]) (by simp [go_sem, px, sx, zx]) (by simp [go_sem, px, sx, zx]) (by simp [go_sem, px, sx, zx]) (by simp [go_sem, px, sx, zx])
  have hB' : Below w.heap.size w (w.alloc (.cells #[.int .u64 (lim (X1) 0), .int .u64 (lim (X1) 1), .int .u64 (lim (X1) 2), .int .u64 (lim (X1) 3), .int .u64 (lim (Y1) 0), .int .u64 (lim (Y1) 1), .int .u64 (lim (Y1) 2), .int .u64 (lim (Y1) 3), .bool true] 26)) := by go_grown
  have Aa := Ba
  have hB := hB'
  clear Ba hB'
  go_wp2_with fail
  refine (C1 _).mono ?_
  rintro e w1 ⟨rfl, hb⟩
  have Ba := Arr.to' Aa hb
  have hB' := Bel.call hB hb
  clear hb Aa hB
  have Aa := Ba
  have hB := hB'
  clear Ba hB'
  have la_2 := Aa.lt
  have lB_2 := hB.size
  have Ba := (Arr.al' Aa (.cells #[.int .u64 (lim (X2) 0), .int .u64 (lim (X2) 1), .int .u64 (lim (X2) 2), .int .u64 (lim (X2) 3), .int .u64 (lim (Y2) 0), .int .u64 (lim (Y2) 1), .int .u64 (lim (Y2) 2), .int .u64 (lim (Y2) 3), .bool i2] 26))
  have Bb := Arr.mk9p (w := (w1.alloc (.cells #[.int .u64 (lim (X2) 0), .int .u64 (lim (X2) 1), .int .u64 (lim (X2) 2), .int .u64 (lim (X2) 3), .int .u64 (lim (Y2) 0), .int .u64 (lim (Y2) 1), .int .u64 (lim (Y2) 2), .int .u64 (lim (Y2) 3), .bool i2] 26))) (f := px (X2) (Y2) i2) (b := w1.heap.size) (by simp [go_sem, px, sx, zx]) (by simp [go_sem, px, sx, zx]) (by simp [go_sem, px, sx, zx]) (by simp [go_sem, px, sx, zx]) (by simp [go_sem, px, sx, zx]) (by simp [go_sem, px, sx, zx]) (by simp [go_sem, px, sx, zx]) (by simp [go_sem, px, sx, zx]) (by simp [go_sem, px, sx, zx]) (by simp [go_sem, px, sx, zx])
  have hB' := (Bel.al hB (.cells #[.int .u64 (lim (X2) 0), .int .u64 (lim (X2) 1), .int .u64 (lim (X2) 2), .int .u64 (lim (X2) 3), .int .u64 (lim (Y2) 0), .int .u64 (lim (Y2) 1), .int .u64 (lim (Y2) 2), .int .u64 (lim (Y2) 3), .bool i2] 26))
  clear Aa hB
  have Aa := Ba
  have Ab := Bb
  have hB := hB'
  clear Ba Bb hB'
  have cb_0 := Ab.cv 0 (by omega) (.int .u64 (lim (X2) 0)) rfl
  have cb_1 := Ab.cv 1 (by omega) (.int .u64 (lim (X2) 1)) rfl
  have cb_2 := Ab.cv 2 (by omega) (.int .u64 (lim (X2) 2)) rfl
  have cb_3 := Ab.cv 3 (by omega) (.int .u64 (lim (X2) 3)) rfl
  have cb_4 := Ab.cv 4 (by omega) (.int .u64 (lim (Y2) 0)) rfl
  have cb_5 := Ab.cv 5 (by omega) (.int .u64 (lim (Y2) 1)) rfl
  have cb_6 := Ab.cv 6 (by omega) (.int .u64 (lim (Y2) 2)) rfl
  have cb_7 := Ab.cv 7 (by omega) (.int .u64 (lim (Y2) 3)) rfl
  have cb_8 := Ab.cv 8 (by omega) (.bool i2) rfl
  have ca_0 := Aa.cv 0 (by omega) (.int .u64 (lim (X1) 0)) rfl
  have ca_1 := Aa.cv 1 (by omega) (.int .u64 (lim (X1) 1)) rfl
  have ca_2 := Aa.cv 2 (by omega) (.int .u64 (lim (X1) 2)) rfl
  have ca_3 := Aa.cv 3 (by omega) (.int .u64 (lim (X1) 3)) rfl
  have ca_4 := Aa.cv 4 (by omega) (.int .u64 (lim (Y1) 0)) rfl
  have ca_5 := Aa.cv 5 (by omega) (.int .u64 (lim (Y1) 1)) rfl
  have ca_6 := Aa.cv 6 (by omega) (.int .u64 (lim (Y1) 2)) rfl
  have ca_7 := Aa.cv 7 (by omega) (.int .u64 (lim (Y1) 3)) rfl
  have ca_8 := Aa.cv 8 (by omega) (.bool true) rfl
  go_wp2_with fail
  refine (C2 _).mono ?_
  rintro e w12 ⟨rfl, hb⟩
  have Ba := Arr.to' Aa hb
  have Bb := Arr.to' Ab hb
  have hB' := Bel.call hB hb
  clear hb cb_0 cb_1 cb_2 cb_3 cb_4 cb_5 cb_6 cb_7 cb_8 ca_0 ca_1 ca_2 ca_3 ca_4 ca_5 ca_6 ca_7 ca_8 Aa Ab hB
  have Aa := Ba
  have Ab := Bb
  have hB := hB'
  clear Ba Bb hB'
  have ca_0 := Aa.cv 0 (by omega) (.int .u64 (lim (X1) 0)) rfl
  have ca_1 := Aa.cv 1 (by omega) (.int .u64 (lim (X1) 1)) rfl
  have ca_2 := Aa.cv 2 (by omega) (.int .u64 (lim (X1) 2)) rfl
  have ca_3 := Aa.cv 3 (by omega) (.int .u64 (lim (X1) 3)) rfl
  have ca_4 := Aa.cv 4 (by omega) (.int .u64 (lim (Y1) 0)) rfl
  have ca_5 := Aa.cv 5 (by omega) (.int .u64 (lim (Y1) 1)) rfl
  have ca_6 := Aa.cv 6 (by omega) (.int .u64 (lim (Y1) 2)) rfl
  have ca_7 := Aa.cv 7 (by omega) (.int .u64 (lim (Y1) 3)) rfl
  have ca_8 := Aa.cv 8 (by omega) (.bool true) rfl
  go_wp2_with fail
  refine (C4 _).mono ?_
  rintro e w13 ⟨rfl, hb⟩
  have Ba := Arr.to' Aa hb
  have Bb := Arr.to' Ab hb
  have hB' := Bel.call hB hb
  clear hb ca_0 ca_1 ca_2 ca_3 ca_4 ca_5 ca_6 ca_7 ca_8 Aa Ab hB
  have Aa := Ba
  have Ab := Bb
  have hB := hB'
  clear Ba Bb hB'
  go_wp2_with fail
  refine (C5 _).mono ?_
  rintro e w14 ⟨rfl, hb⟩
  have Ba := Arr.to' Aa hb
  have Bb := Arr.to' Ab hb
  have hB' := Bel.call hB hb
  clear hb Aa Ab hB
  have Aa := Ba
  have Ab := Bb
  have hB := hB'
  clear Ba Bb hB'
  have la_3 := Aa.lt
  have lb_3 := Ab.lt
  have lB_3 := hB.size
  have Ba := (Arr.al' Aa (.cells #[.int .u64 (lim (X3) 0), .int .u64 (lim (X3) 1), .int .u64 (lim (X3) 2), .int .u64 (lim (X3) 3), .int .u64 (lim (Y3) 0), .int .u64 (lim (Y3) 1), .int .u64 (lim (Y3) 2), .int .u64 (lim (Y3) 3), .bool i3] 26))
  have Bb := (Arr.al' Ab (.cells #[.int .u64 (lim (X3) 0), .int .u64 (lim (X3) 1), .int .u64 (lim (X3) 2), .int .u64 (lim (X3) 3), .int .u64 (lim (Y3) 0), .int .u64 (lim (Y3) 1), .int .u64 (lim (Y3) 2), .int .u64 (lim (Y3) 3), .bool i3] 26))
  have Bc := Arr.mk9p (w := (w14.alloc (.cells #[.int .u64 (lim (X3) 0), .int .u64 (lim (X3) 1), .int .u64 (lim (X3) 2), .int .u64 (lim (X3) 3), .int .u64 (lim (Y3) 0), .int .u64 (lim (Y3) 1), .int .u64 (lim (Y3) 2), .int .u64 (lim (Y3) 3), .bool i3] 26))) (f := px (X3) (Y3) i3) (b := w14.heap.size) (by simp [go_sem, px, sx, zx]) (by simp [go_sem, px, sx, zx]) (by simp [go_sem, px, sx, zx]) (by simp [go_sem, px, sx, zx]) (by simp [go_sem, px, sx, zx]) (by simp [go_sem, px, sx, zx]) (by simp [go_sem, px, sx, zx]) (by simp [go_sem, px, sx, zx]) (by simp [go_sem, px, sx, zx]) (by simp [go_sem, px, sx, zx])
  have hB' := (Bel.al hB (.cells #[.int .u64 (lim (X3) 0), .int .u64 (lim (X3) 1), .int .u64 (lim (X3) 2), .int .u64 (lim (X3) 3), .int .u64 (lim (Y3) 0), .int .u64 (lim (Y3) 1), .int .u64 (lim (Y3) 2), .int .u64 (lim (Y3) 3), .bool i3] 26))
  clear Aa Ab hB
  have Aa := Ba
  have Ab := Bb
  have Ac := Bc
  have hB := hB'
  clear Ba Bb Bc hB'
  have ca_0 := Aa.cv 0 (by omega) (.int .u64 (lim (X1) 0)) rfl
  have ca_1 := Aa.cv 1 (by omega) (.int .u64 (lim (X1) 1)) rfl
  have ca_2 := Aa.cv 2 (by omega) (.int .u64 (lim (X1) 2)) rfl
  have ca_3 := Aa.cv 3 (by omega) (.int .u64 (lim (X1) 3)) rfl
  have ca_4 := Aa.cv 4 (by omega) (.int .u64 (lim (Y1) 0)) rfl
  have ca_5 := Aa.cv 5 (by omega) (.int .u64 (lim (Y1) 1)) rfl
  have ca_6 := Aa.cv 6 (by omega) (.int .u64 (lim (Y1) 2)) rfl
  have ca_7 := Aa.cv 7 (by omega) (.int .u64 (lim (Y1) 3)) rfl
  have ca_8 := Aa.cv 8 (by omega) (.bool true) rfl
  have cc_0 := Ac.cv 0 (by omega) (.int .u64 (lim (X3) 0)) rfl
  have cc_1 := Ac.cv 1 (by omega) (.int .u64 (lim (X3) 1)) rfl
  have cc_2 := Ac.cv 2 (by omega) (.int .u64 (lim (X3) 2)) rfl
  have cc_3 := Ac.cv 3 (by omega) (.int .u64 (lim (X3) 3)) rfl
  have cc_4 := Ac.cv 4 (by omega) (.int .u64 (lim (Y3) 0)) rfl
  have cc_5 := Ac.cv 5 (by omega) (.int .u64 (lim (Y3) 1)) rfl
  have cc_6 := Ac.cv 6 (by omega) (.int .u64 (lim (Y3) 2)) rfl
  have cc_7 := Ac.cv 7 (by omega) (.int .u64 (lim (Y3) 3)) rfl
  have cc_8 := Ac.cv 8 (by omega) (.bool i3) rfl
  go_wp2_with fail
  refine (C3 _).mono ?_
  rintro e w15 ⟨rfl, hb⟩
  have Ba := Arr.to' Aa hb
  have Bb := Arr.to' Ab hb
  have Bc := Arr.to' Ac hb
  have hB' := Bel.call hB hb
  clear hb ca_0 ca_1 ca_2 ca_3 ca_4 ca_5 ca_6 ca_7 ca_8 cc_0 cc_1 cc_2 cc_3 cc_4 cc_5 cc_6 cc_7 cc_8 Aa Ab Ac hB
  have Aa := Ba
  have Ab := Bb
  have Ac := Bc
  have hB := hB'
  clear Ba Bb Bc hB'
  go_wp2_with fail
  go_ret
  exact ⟨rfl, hB⟩
set_option maxHeartbeats 8000000 in
theorem back_no_some (X1 Y1 X2 Y2 X3 Y3 er : Int) (i1 i2 i3 : Bool) (s S : ByteArray) (her : ¬ er = 0) (w : World)
    (C1 : ∀ W, Calls Try.prog 7 #[.string s] W fun e w' => e = .returned (.tuple #[pv X2 Y2 i2, .int .i64 er]) ∧ Below W.heap.size W w')
    (C2 : ∀ W, Calls Try.prog 12 #[pv X1 Y1 false] W fun e w' => e = .returned (.bool true) ∧ Below W.heap.size W w')
    (C3 : ∀ W, Calls Try.prog 17 #[] W fun e w' => e = .returned (.bool true) ∧ Below W.heap.size W w')
    (C4 : ∀ W, Calls Try.prog 13 #[pv X1 Y1 false] W fun e w' => e = .returned (.string S) ∧ Below W.heap.size W w')
    (C5 : ∀ W, Calls Try.prog 7 #[.string S] W fun e w' => e = .returned (.tuple #[pv X1 Y1 false, .int .i64 0]) ∧ Below W.heap.size W w') :
    Calls Try.prog 6 #[pv X1 Y1 false, .string s] w fun e w' => e = .returned (.bool true) ∧ Below w.heap.size w w' := by
  have q26 := eq26g
  go_enter Try.func6, Try.ntmps6
  have Ba := Arr.mk9p (w := (w.alloc (.cells #[.int .u64 (lim (X1) 0), .int .u64 (lim (X1) 1), .int .u64 (lim (X1) 2), .int .u64 (lim (X1) 3), .int .u64 (lim (Y1) 0), .int .u64 (lim (Y1) 1), .int .u64 (lim (Y1) 2), .int .u64 (lim (Y1) 3), .bool false] 26))) (f := px (X1) (Y1) false) (b := w.heap.size) (by simp [go_sem, px, sx, zx]) (by simp [go_sem, px, sx, zx]) (by simp [go_sem, px, sx, zx]) (by simp [go_sem, px, sx, zx]) (by simp [go_sem, px, sx, zx]) (by simp [go_sem, px, sx, zx]) (by simp [go_sem, px, sx, zx]) (by simp [go_sem, px, sx, zx]) (by simp [go_sem, px, sx, zx]) (by simp [go_sem, px, sx, zx])
  have hB' : Below w.heap.size w (w.alloc (.cells #[.int .u64 (lim (X1) 0), .int .u64 (lim (X1) 1), .int .u64 (lim (X1) 2), .int .u64 (lim (X1) 3), .int .u64 (lim (Y1) 0), .int .u64 (lim (Y1) 1), .int .u64 (lim (Y1) 2), .int .u64 (lim (Y1) 3), .bool false] 26)) := by go_grown
  have Aa := Ba
  have hB := hB'
  clear Ba hB'
  go_wp2_with fail
  refine (C1 _).mono ?_
  rintro e w1 ⟨rfl, hb⟩
  have Ba := Arr.to' Aa hb
  have hB' := Bel.call hB hb
  clear hb Aa hB
  have Aa := Ba
  have hB := hB'
  clear Ba hB'
  have la_2 := Aa.lt
  have lB_2 := hB.size
  have Ba := (Arr.al' Aa (.cells #[.int .u64 (lim (X2) 0), .int .u64 (lim (X2) 1), .int .u64 (lim (X2) 2), .int .u64 (lim (X2) 3), .int .u64 (lim (Y2) 0), .int .u64 (lim (Y2) 1), .int .u64 (lim (Y2) 2), .int .u64 (lim (Y2) 3), .bool i2] 26))
  have Bb := Arr.mk9p (w := (w1.alloc (.cells #[.int .u64 (lim (X2) 0), .int .u64 (lim (X2) 1), .int .u64 (lim (X2) 2), .int .u64 (lim (X2) 3), .int .u64 (lim (Y2) 0), .int .u64 (lim (Y2) 1), .int .u64 (lim (Y2) 2), .int .u64 (lim (Y2) 3), .bool i2] 26))) (f := px (X2) (Y2) i2) (b := w1.heap.size) (by simp [go_sem, px, sx, zx]) (by simp [go_sem, px, sx, zx]) (by simp [go_sem, px, sx, zx]) (by simp [go_sem, px, sx, zx]) (by simp [go_sem, px, sx, zx]) (by simp [go_sem, px, sx, zx]) (by simp [go_sem, px, sx, zx]) (by simp [go_sem, px, sx, zx]) (by simp [go_sem, px, sx, zx]) (by simp [go_sem, px, sx, zx])
  have hB' := (Bel.al hB (.cells #[.int .u64 (lim (X2) 0), .int .u64 (lim (X2) 1), .int .u64 (lim (X2) 2), .int .u64 (lim (X2) 3), .int .u64 (lim (Y2) 0), .int .u64 (lim (Y2) 1), .int .u64 (lim (Y2) 2), .int .u64 (lim (Y2) 3), .bool i2] 26))
  clear Aa hB
  have Aa := Ba
  have Ab := Bb
  have hB := hB'
  clear Ba Bb hB'
  have cb_0 := Ab.cv 0 (by omega) (.int .u64 (lim (X2) 0)) rfl
  have cb_1 := Ab.cv 1 (by omega) (.int .u64 (lim (X2) 1)) rfl
  have cb_2 := Ab.cv 2 (by omega) (.int .u64 (lim (X2) 2)) rfl
  have cb_3 := Ab.cv 3 (by omega) (.int .u64 (lim (X2) 3)) rfl
  have cb_4 := Ab.cv 4 (by omega) (.int .u64 (lim (Y2) 0)) rfl
  have cb_5 := Ab.cv 5 (by omega) (.int .u64 (lim (Y2) 1)) rfl
  have cb_6 := Ab.cv 6 (by omega) (.int .u64 (lim (Y2) 2)) rfl
  have cb_7 := Ab.cv 7 (by omega) (.int .u64 (lim (Y2) 3)) rfl
  have cb_8 := Ab.cv 8 (by omega) (.bool i2) rfl
  have ca_0 := Aa.cv 0 (by omega) (.int .u64 (lim (X1) 0)) rfl
  have ca_1 := Aa.cv 1 (by omega) (.int .u64 (lim (X1) 1)) rfl
  have ca_2 := Aa.cv 2 (by omega) (.int .u64 (lim (X1) 2)) rfl
  have ca_3 := Aa.cv 3 (by omega) (.int .u64 (lim (X1) 3)) rfl
  have ca_4 := Aa.cv 4 (by omega) (.int .u64 (lim (Y1) 0)) rfl
  have ca_5 := Aa.cv 5 (by omega) (.int .u64 (lim (Y1) 1)) rfl
  have ca_6 := Aa.cv 6 (by omega) (.int .u64 (lim (Y1) 2)) rfl
  have ca_7 := Aa.cv 7 (by omega) (.int .u64 (lim (Y1) 3)) rfl
  have ca_8 := Aa.cv 8 (by omega) (.bool false) rfl
  go_wp2_with fail
  refine (C2 _).mono ?_
  rintro e w12 ⟨rfl, hb⟩
  have Ba := Arr.to' Aa hb
  have Bb := Arr.to' Ab hb
  have hB' := Bel.call hB hb
  clear hb cb_0 cb_1 cb_2 cb_3 cb_4 cb_5 cb_6 cb_7 cb_8 ca_0 ca_1 ca_2 ca_3 ca_4 ca_5 ca_6 ca_7 ca_8 Aa Ab hB
  have Aa := Ba
  have Ab := Bb
  have hB := hB'
  clear Ba Bb hB'
  have ca_0 := Aa.cv 0 (by omega) (.int .u64 (lim (X1) 0)) rfl
  have ca_1 := Aa.cv 1 (by omega) (.int .u64 (lim (X1) 1)) rfl
  have ca_2 := Aa.cv 2 (by omega) (.int .u64 (lim (X1) 2)) rfl
  have ca_3 := Aa.cv 3 (by omega) (.int .u64 (lim (X1) 3)) rfl
  have ca_4 := Aa.cv 4 (by omega) (.int .u64 (lim (Y1) 0)) rfl
  have ca_5 := Aa.cv 5 (by omega) (.int .u64 (lim (Y1) 1)) rfl
  have ca_6 := Aa.cv 6 (by omega) (.int .u64 (lim (Y1) 2)) rfl
  have ca_7 := Aa.cv 7 (by omega) (.int .u64 (lim (Y1) 3)) rfl
  have ca_8 := Aa.cv 8 (by omega) (.bool false) rfl
  go_wp2_with fail
  refine (C4 _).mono ?_
  rintro e w13 ⟨rfl, hb⟩
  have Ba := Arr.to' Aa hb
  have Bb := Arr.to' Ab hb
  have hB' := Bel.call hB hb
  clear hb ca_0 ca_1 ca_2 ca_3 ca_4 ca_5 ca_6 ca_7 ca_8 Aa Ab hB
  have Aa := Ba
  have Ab := Bb
  have hB := hB'
  clear Ba Bb hB'
  go_wp2_with fail
  refine (C5 _).mono ?_
  rintro e w14 ⟨rfl, hb⟩
  have Ba := Arr.to' Aa hb
  have Bb := Arr.to' Ab hb
  have hB' := Bel.call hB hb
  clear hb Aa Ab hB
  have Aa := Ba
  have Ab := Bb
  have hB := hB'
  clear Ba Bb hB'
  have la_3 := Aa.lt
  have lb_3 := Ab.lt
  have lB_3 := hB.size
  have Ba := (Arr.al' Aa (.cells #[.int .u64 (lim (X1) 0), .int .u64 (lim (X1) 1), .int .u64 (lim (X1) 2), .int .u64 (lim (X1) 3), .int .u64 (lim (Y1) 0), .int .u64 (lim (Y1) 1), .int .u64 (lim (Y1) 2), .int .u64 (lim (Y1) 3), .bool false] 26))
  have Bb := (Arr.al' Ab (.cells #[.int .u64 (lim (X1) 0), .int .u64 (lim (X1) 1), .int .u64 (lim (X1) 2), .int .u64 (lim (X1) 3), .int .u64 (lim (Y1) 0), .int .u64 (lim (Y1) 1), .int .u64 (lim (Y1) 2), .int .u64 (lim (Y1) 3), .bool false] 26))
  have Bc := Arr.mk9p (w := (w14.alloc (.cells #[.int .u64 (lim (X1) 0), .int .u64 (lim (X1) 1), .int .u64 (lim (X1) 2), .int .u64 (lim (X1) 3), .int .u64 (lim (Y1) 0), .int .u64 (lim (Y1) 1), .int .u64 (lim (Y1) 2), .int .u64 (lim (Y1) 3), .bool false] 26))) (f := px (X1) (Y1) false) (b := w14.heap.size) (by simp [go_sem, px, sx, zx]) (by simp [go_sem, px, sx, zx]) (by simp [go_sem, px, sx, zx]) (by simp [go_sem, px, sx, zx]) (by simp [go_sem, px, sx, zx]) (by simp [go_sem, px, sx, zx]) (by simp [go_sem, px, sx, zx]) (by simp [go_sem, px, sx, zx]) (by simp [go_sem, px, sx, zx]) (by simp [go_sem, px, sx, zx])
  have hB' := (Bel.al hB (.cells #[.int .u64 (lim (X1) 0), .int .u64 (lim (X1) 1), .int .u64 (lim (X1) 2), .int .u64 (lim (X1) 3), .int .u64 (lim (Y1) 0), .int .u64 (lim (Y1) 1), .int .u64 (lim (Y1) 2), .int .u64 (lim (Y1) 3), .bool false] 26))
  clear Aa Ab hB
  have Aa := Ba
  have Ab := Bb
  have Ac := Bc
  have hB := hB'
  clear Ba Bb Bc hB'
  have ca_0 := Aa.cv 0 (by omega) (.int .u64 (lim (X1) 0)) rfl
  have ca_1 := Aa.cv 1 (by omega) (.int .u64 (lim (X1) 1)) rfl
  have ca_2 := Aa.cv 2 (by omega) (.int .u64 (lim (X1) 2)) rfl
  have ca_3 := Aa.cv 3 (by omega) (.int .u64 (lim (X1) 3)) rfl
  have ca_4 := Aa.cv 4 (by omega) (.int .u64 (lim (Y1) 0)) rfl
  have ca_5 := Aa.cv 5 (by omega) (.int .u64 (lim (Y1) 1)) rfl
  have ca_6 := Aa.cv 6 (by omega) (.int .u64 (lim (Y1) 2)) rfl
  have ca_7 := Aa.cv 7 (by omega) (.int .u64 (lim (Y1) 3)) rfl
  have ca_8 := Aa.cv 8 (by omega) (.bool false) rfl
  have cc_0 := Ac.cv 0 (by omega) (.int .u64 (lim (X1) 0)) rfl
  have cc_1 := Ac.cv 1 (by omega) (.int .u64 (lim (X1) 1)) rfl
  have cc_2 := Ac.cv 2 (by omega) (.int .u64 (lim (X1) 2)) rfl
  have cc_3 := Ac.cv 3 (by omega) (.int .u64 (lim (X1) 3)) rfl
  have cc_4 := Ac.cv 4 (by omega) (.int .u64 (lim (Y1) 0)) rfl
  have cc_5 := Ac.cv 5 (by omega) (.int .u64 (lim (Y1) 1)) rfl
  have cc_6 := Ac.cv 6 (by omega) (.int .u64 (lim (Y1) 2)) rfl
  have cc_7 := Ac.cv 7 (by omega) (.int .u64 (lim (Y1) 3)) rfl
  have cc_8 := Ac.cv 8 (by omega) (.bool false) rfl
  go_wp2_with fail
  refine (C3 _).mono ?_
  rintro e w15 ⟨rfl, hb⟩
  have Ba := Arr.to' Aa hb
  have Bb := Arr.to' Ab hb
  have Bc := Arr.to' Ac hb
  have hB' := Bel.call hB hb
  clear hb ca_0 ca_1 ca_2 ca_3 ca_4 ca_5 ca_6 ca_7 ca_8 cc_0 cc_1 cc_2 cc_3 cc_4 cc_5 cc_6 cc_7 cc_8 Aa Ab Ac hB
  have Aa := Ba
  have Ab := Bb
  have Ac := Bc
  have hB := hB'
  clear Ba Bb Bc hB'
  go_wp2_with fail
  go_ret
  exact ⟨rfl, hB⟩
end Go.Proofs.Ytgekafmojedlkaa
