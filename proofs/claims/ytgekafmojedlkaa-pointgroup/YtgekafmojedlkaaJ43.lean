/- The examples of chapter 4, as layer 4's statements play them: the law's walk. -/
import Derived.Test.YtgekafmojedlkaaJ30
import Derived.Test.YtgekafmojedlkaaJ2
import Derived.Test.YtgekafmojedlkaaJ32
set_option linter.all false
set_option maxRecDepth 100000
namespace Go.Proofs.Ytgekafmojedlkaa
open Go.RowKit Go.Sort
theorem eq26g (a0 a1 a2 a3 a4 a5 a6 a7 b0 b1 b2 b3 b4 b5 b6 b7 : Int) (i k : Bool) (w : World) :
    (Op.equalIn 10000 26 (.agg #[.int .u64 a0, .int .u64 a1, .int .u64 a2, .int .u64 a3, .int .u64 a4, .int .u64 a5, .int .u64 a6, .int .u64 a7, .bool i]) (.agg #[.int .u64 b0, .int .u64 b1, .int .u64 b2, .int .u64 b3, .int .u64 b4, .int .u64 b5, .int .u64 b6, .int .u64 b7, .bool k])).run Try.prog w =
      .ok ((a0 == b0 && (a1 == b1 && (a2 == b2 && a3 == b3))) && ((a4 == b4 && (a5 == b5 && (a6 == b6 && a7 == b7))) && i == k)) w := by
  rw [run_equalIn_agg (w := w) 9999 26 _ _ (by kernel_rfl) (by kernel_rfl)]
  cases h1 : (a0 == b0 && (a1 == b1 && (a2 == b2 && a3 == b3))) <;> cases h2 : (a4 == b4 && (a5 == b5 && (a6 == b6 && a7 == b7))) <;> cases i <;> cases k <;> simp [go_sem, eq24d, h1, h2]
attribute [local go_sem] eq24
set_option maxHeartbeats 8000000 in
theorem awake_core (X Y : Int) (i : Bool) (S : ByteArray) (h65 : (S.size : Int) = 65) (w : World)
    (C1 : ∀ W, Calls Try.prog 9 #[] W fun e w' => e = .returned (pv gx gy false) ∧ Below W.heap.size W w')
    (C2 : ∀ W, Calls Try.prog 7 #[.string ⟨#[2]⟩] W fun e w' => e = .returned (.tuple #[.agg #[.int .u64 0, .int .u64 0, .int .u64 0, .int .u64 0, .int .u64 0, .int .u64 0, .int .u64 0, .int .u64 0, .bool false], .int .i64 10]) ∧ Below W.heap.size W w')
    (C3 : ∀ W, Calls Try.prog 18 #[pv gx gy false, pv gx gy false] W fun e w' => e = .returned (pv X Y i) ∧ Below W.heap.size W w')
    (C4 : ∀ W, Calls Try.prog 37 #[nv X] W fun e w' => e = .returned (.string ⟨#[55, 99, 102, 50, 55, 98, 49, 56, 56, 100, 48, 51, 52, 102, 55, 101, 56, 97, 53, 50, 51, 56, 48, 51, 48, 52, 98, 53, 49, 97, 99, 51, 99, 48, 56, 57, 54, 57, 101, 50, 55, 55, 102, 50, 49, 98, 51, 53, 97, 54, 48, 98, 52, 56, 102, 99, 52, 55, 54, 54, 57, 57, 55, 56]⟩) ∧ Below W.heap.size W w')
    (C5 : ∀ W, Calls Try.prog 11 #[pv gx gy false] W fun e w' => e = .returned (.bool true) ∧ Below W.heap.size W w')
    (C6 : ∀ W, Calls Try.prog 20 #[.agg #[.int .u64 2, .int .u64 0, .int .u64 0, .int .u64 0], pv gx gy false] W fun e w' => e = .returned (pv X Y i) ∧ Below W.heap.size W w')
    (C7 : ∀ W, Calls Try.prog 13 #[pv gx gy false] W fun e w' => e = .returned (.string S) ∧ Below W.heap.size W w') :
    Calls Try.prog 17 #[] w fun e w' => e = .returned (.bool true) ∧ Below w.heap.size w w' := by
  have q26 := eq26g
  go_enter Try.func17, Try.ntmps17
  go_wp2_with fail
  refine (C1 _).mono ?_
  rintro e w1 ⟨rfl, hb⟩
  have hB := hb
  clear hb
  have lB_1 := hB.size
  have Bb := Arr.mk9p (w := (w1.alloc (.cells #[.int .u64 (lim (gx) 0), .int .u64 (lim (gx) 1), .int .u64 (lim (gx) 2), .int .u64 (lim (gx) 3), .int .u64 (lim (gy) 0), .int .u64 (lim (gy) 1), .int .u64 (lim (gy) 2), .int .u64 (lim (gy) 3), .bool false] 26))) (f := px (gx) (gy) false) (b := w1.heap.size) (by simp [go_sem, px, sx, zx]) (by simp [go_sem, px, sx, zx]) (by simp [go_sem, px, sx, zx]) (by simp [go_sem, px, sx, zx]) (by simp [go_sem, px, sx, zx]) (by simp [go_sem, px, sx, zx]) (by simp [go_sem, px, sx, zx]) (by simp [go_sem, px, sx, zx]) (by simp [go_sem, px, sx, zx]) (by simp [go_sem, px, sx, zx])
  have hB' := (Bel.al hB (.cells #[.int .u64 (lim (gx) 0), .int .u64 (lim (gx) 1), .int .u64 (lim (gx) 2), .int .u64 (lim (gx) 3), .int .u64 (lim (gy) 0), .int .u64 (lim (gy) 1), .int .u64 (lim (gy) 2), .int .u64 (lim (gy) 3), .bool false] 26))
  clear hB
  have Ab := Bb
  have hB := hB'
  clear Bb hB'
  go_wp2_with fail
  refine (C2 _).mono ?_
  rintro e w2 ⟨rfl, hb⟩
  have Bb := Arr.to' Ab hb
  have hB' := Bel.call hB hb
  clear hb Ab hB
  have Ab := Bb
  have hB := hB'
  clear Bb hB'
  have lb_2 := Ab.lt
  have lB_2 := hB.size
  have Bb := (Arr.al' Ab (.cells #[.int .u64 0, .int .u64 0, .int .u64 0, .int .u64 0, .int .u64 0, .int .u64 0, .int .u64 0, .int .u64 0, .bool false] 26))
  have hB' := (Bel.al hB (.cells #[.int .u64 0, .int .u64 0, .int .u64 0, .int .u64 0, .int .u64 0, .int .u64 0, .int .u64 0, .int .u64 0, .bool false] 26))
  clear Ab hB
  have Ab := Bb
  have hB := hB'
  clear Bb hB'
  have cb_0 := Ab.cv 0 (by omega) (.int .u64 (lim (gx) 0)) rfl
  have cb_1 := Ab.cv 1 (by omega) (.int .u64 (lim (gx) 1)) rfl
  have cb_2 := Ab.cv 2 (by omega) (.int .u64 (lim (gx) 2)) rfl
  have cb_3 := Ab.cv 3 (by omega) (.int .u64 (lim (gx) 3)) rfl
  have cb_4 := Ab.cv 4 (by omega) (.int .u64 (lim (gy) 0)) rfl
  have cb_5 := Ab.cv 5 (by omega) (.int .u64 (lim (gy) 1)) rfl
  have cb_6 := Ab.cv 6 (by omega) (.int .u64 (lim (gy) 2)) rfl
  have cb_7 := Ab.cv 7 (by omega) (.int .u64 (lim (gy) 3)) rfl
  have cb_8 := Ab.cv 8 (by omega) (.bool false) rfl
  go_wp2_with fail
  refine (C3 _).mono ?_
  rintro e w3 ⟨rfl, hb⟩
  have Bb := Arr.to' Ab hb
  have hB' := Bel.call hB hb
  clear hb cb_0 cb_1 cb_2 cb_3 cb_4 cb_5 cb_6 cb_7 cb_8 Ab hB
  have Ab := Bb
  have hB := hB'
  clear Bb hB'
  have lb_3 := Ab.lt
  have lB_3 := hB.size
  have Bb := (Arr.al' Ab (.cells #[.int .u64 (lim (X) 0), .int .u64 (lim (X) 1), .int .u64 (lim (X) 2), .int .u64 (lim (X) 3), .int .u64 (lim (Y) 0), .int .u64 (lim (Y) 1), .int .u64 (lim (Y) 2), .int .u64 (lim (Y) 3), .bool i] 26))
  have Bt := Arr.mk9p (w := (w3.alloc (.cells #[.int .u64 (lim (X) 0), .int .u64 (lim (X) 1), .int .u64 (lim (X) 2), .int .u64 (lim (X) 3), .int .u64 (lim (Y) 0), .int .u64 (lim (Y) 1), .int .u64 (lim (Y) 2), .int .u64 (lim (Y) 3), .bool i] 26))) (f := px (X) (Y) i) (b := w3.heap.size) (by simp [go_sem, px, sx, zx]) (by simp [go_sem, px, sx, zx]) (by simp [go_sem, px, sx, zx]) (by simp [go_sem, px, sx, zx]) (by simp [go_sem, px, sx, zx]) (by simp [go_sem, px, sx, zx]) (by simp [go_sem, px, sx, zx]) (by simp [go_sem, px, sx, zx]) (by simp [go_sem, px, sx, zx]) (by simp [go_sem, px, sx, zx])
  have hB' := (Bel.al hB (.cells #[.int .u64 (lim (X) 0), .int .u64 (lim (X) 1), .int .u64 (lim (X) 2), .int .u64 (lim (X) 3), .int .u64 (lim (Y) 0), .int .u64 (lim (Y) 1), .int .u64 (lim (Y) 2), .int .u64 (lim (Y) 3), .bool i] 26))
  clear Ab hB
  have Ab := Bb
  have At := Bt
  have hB := hB'
  clear Bb Bt hB'
  have rb0 := fun ds os => cell_regrown (v := .int .u64 (lim (gx) 0)) (Ab.c 0 (by omega)) ds os
  have rb1 := fun ds os => cell_regrown (v := .int .u64 (lim (gx) 1)) (Ab.c 1 (by omega)) ds os
  have rb2 := fun ds os => cell_regrown (v := .int .u64 (lim (gx) 2)) (Ab.c 2 (by omega)) ds os
  have rb3 := fun ds os => cell_regrown (v := .int .u64 (lim (gx) 3)) (Ab.c 3 (by omega)) ds os
  have rb4 := fun ds os => cell_regrown (v := .int .u64 (lim (gy) 0)) (Ab.c 4 (by omega)) ds os
  have rb5 := fun ds os => cell_regrown (v := .int .u64 (lim (gy) 1)) (Ab.c 5 (by omega)) ds os
  have rb6 := fun ds os => cell_regrown (v := .int .u64 (lim (gy) 2)) (Ab.c 6 (by omega)) ds os
  have rb7 := fun ds os => cell_regrown (v := .int .u64 (lim (gy) 3)) (Ab.c 7 (by omega)) ds os
  have rb8 := fun ds os => cell_regrown (v := .bool false) (Ab.c 8 (by omega)) ds os
  have rt0 := fun ds os => cell_regrown (v := .int .u64 (lim (X) 0)) (At.c 0 (by omega)) ds os
  have rt1 := fun ds os => cell_regrown (v := .int .u64 (lim (X) 1)) (At.c 1 (by omega)) ds os
  have rt2 := fun ds os => cell_regrown (v := .int .u64 (lim (X) 2)) (At.c 2 (by omega)) ds os
  have rt3 := fun ds os => cell_regrown (v := .int .u64 (lim (X) 3)) (At.c 3 (by omega)) ds os
  have rt4 := fun ds os => cell_regrown (v := .int .u64 (lim (Y) 0)) (At.c 4 (by omega)) ds os
  have rt5 := fun ds os => cell_regrown (v := .int .u64 (lim (Y) 1)) (At.c 5 (by omega)) ds os
  have rt6 := fun ds os => cell_regrown (v := .int .u64 (lim (Y) 2)) (At.c 6 (by omega)) ds os
  have rt7 := fun ds os => cell_regrown (v := .int .u64 (lim (Y) 3)) (At.c 7 (by omega)) ds os
  have rt8 := fun ds os => cell_regrown (v := .bool i) (At.c 8 (by omega)) ds os
  go_wp2_with fail
  refine wp_region_quiet_below (by kernel_rfl) (by kernel_rfl) ?_
  repeat (go_big_quiet_step (first | (go_at_call 9; with_reducible first | exact Calls.regrown_of (C1 _)) | (go_at_call 7; with_reducible first | exact Calls.regrown_of (C2 _)) | (go_at_call 18; with_reducible first | exact Calls.regrown_of (C3 _)) | (go_at_call 37; with_reducible first | exact Calls.regrown_of (C4 _)) | (go_at_call 11; with_reducible first | exact Calls.regrown_of (C5 _)) | (go_at_call 20; with_reducible first | exact Calls.regrown_of (C6 _)) | (go_at_call 13; with_reducible first | exact Calls.regrown_of (C7 _))))
  refine wpQuiet_nil ?_
  intro w4 hw'
  obtain ⟨⟨dq, osq⟩, hw''⟩ := hw'
  have hb := below_of hw''
  clear hw''
  have Bb := Arr.to' Ab hb
  have Bt := Arr.to' At hb
  have hB' := Bel.call hB hb
  clear hb rb0 rb1 rb2 rb3 rb4 rb5 rb6 rb7 rb8 rt0 rt1 rt2 rt3 rt4 rt5 rt6 rt7 rt8 Ab At hB
  have Ab := Bb
  have At := Bt
  have hB := hB'
  clear Bb Bt hB'
  go_wp2_with fail
  go_ret
  exact ⟨rfl, hB⟩
end Go.Proofs.Ytgekafmojedlkaa
