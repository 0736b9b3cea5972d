/- What isBelow, height, Base, On and Neg of point answer. -/
import Derived.Test.YtgekafmojedlkaaJ30
import Derived.Test.YtgekafmojedlkaaJ2
import Derived.Test.YtgekafmojedlkaaJ1
set_option linter.all false
set_option maxRecDepth 100000
namespace Go.Proofs.Ytgekafmojedlkaa
open Go.RowKit Go.Sort
theorem eq24d (d : Nat) (a0 a1 a2 a3 b0 b1 b2 b3 : Int) (w : World) : (Op.equalIn (d + 2) 24 (.agg #[.int .u64 a0, .int .u64 a1, .int .u64 a2, .int .u64 a3]) (.agg #[.int .u64 b0, .int .u64 b1, .int .u64 b2, .int .u64 b3])).run Try.prog w = .ok (a0 == b0 && (a1 == b1 && (a2 == b2 && a3 == b3))) w :=
  eq24g (d + 1) (fun a b w => run_equalIn_int w d 22 .u64 .u64 a b Try.underlying22) a0 a1 a2 a3 b0 b1 b2 b3 w
/-- The parts of two numbers are alike. -/
def e4 (A B : Int) : Bool := lim A 0 == lim B 0 && (lim A 1 == lim B 1 && (lim A 2 == lim B 2 && lim A 3 == lim B 3))
theorem eq24e (d : Nat) (X U : Int) (w : World) : (Op.equalIn (d + 2) 24 (.agg #[.int .u64 (lim X 0), .int .u64 (lim X 1), .int .u64 (lim X 2), .int .u64 (lim X 3)]) (.agg #[.int .u64 (lim U 0), .int .u64 (lim U 1), .int .u64 (lim U 2), .int .u64 (lim U 3)])).run Try.prog w = .ok (e4 X U) w := eq24d d _ _ _ _ _ _ _ _ w
theorem eq26 (X Y U V : Int) (i k : Bool) (w : World) : (Op.equalIn 10000 26 (pv X Y i) (pv U V k)).run Try.prog w = .ok (e4 X U && (e4 Y V && i == k)) w := by
  rw [run_equalIn_agg (w := w) 9999 26 _ _ (by kernel_rfl) (by kernel_rfl)]
  cases h1 : e4 X U <;> cases h2 : e4 Y V <;> cases i <;> cases k <;> simp [go_sem, eq24e, h1, h2]
attribute [local go_sem] eq24
set_option maxHeartbeats 8000000 in
theorem below_core (A s : Int) (w : World)
    (C1 : ∀ W, Calls Try.prog 46 #[] W fun e w' => e = .returned (nv pp) ∧ Below W.heap.size W w')
    (C2 : ∀ W, Calls Try.prog 45 #[nv A, nv pp] W fun e w' => e = .returned (.int .i64 s) ∧ Below W.heap.size W w') :
    Calls Try.prog 25 #[nv A] w fun e w' => e = .returned (.bool (decide (s < 0))) ∧ Below w.heap.size w w' := by
  have q26 := eq26
  go_enter Try.func25, Try.ntmps25
  go_wp2_with fail
  have Ba := Arr.mk4 (w := (w.alloc (.cells #[.int .u64 (lim (A) 0), .int .u64 (lim (A) 1), .int .u64 (lim (A) 2), .int .u64 (lim (A) 3)] 24))) (f := fun j => .int .u64 (lim (A) j)) (b := w.heap.size) (by simp [go_sem]) (by simp [go_sem]) (by simp [go_sem]) (by simp [go_sem]) (by simp [go_sem]) (by simp [go_sem]) (by simp [go_sem]) (by simp [go_sem])
  have hB' : Below w.heap.size w (w.alloc (.cells #[.int .u64 (lim (A) 0), .int .u64 (lim (A) 1), .int .u64 (lim (A) 2), .int .u64 (lim (A) 3)] 24)) := by go_grown
  have Aa := Ba
  have hB := hB'
  clear Ba hB'
  have ra0 := fun ds os => cell_regrown (Aa.c 0 (by omega)) ds os
  have ra1 := fun ds os => cell_regrown (Aa.c 1 (by omega)) ds os
  have ra2 := fun ds os => cell_regrown (Aa.c 2 (by omega)) ds os
  have ra3 := fun ds os => cell_regrown (Aa.c 3 (by omega)) ds os
  refine wp_region_quiet_below (by kernel_rfl) (by kernel_rfl) ?_
  repeat (go_big_quiet_step (first | (go_at_call 46; with_reducible first | exact Calls.regrown_of (C1 _)) | (go_at_call 45; with_reducible first | exact Calls.regrown_of (C2 _))))
  refine wpQuiet_nil ?_
  intro w1 hw'
  obtain ⟨⟨dq, osq⟩, hw''⟩ := hw'
  have hb := below_of hw''
  clear hw''
  have hB' := Bel.call hB hb
  clear hb ra0 ra1 ra2 ra3 Aa hB
  have hB := hB'
  clear hB'
  go_wp2_with fail
  go_ret
  exact ⟨rfl, hB⟩
/-- Four parts that are known. -/
def nx (a b c d : Int) : Nat → Value
  | 0 => .int .u64 a
  | 1 => .int .u64 b
  | 2 => .int .u64 c
  | _ => .int .u64 d
set_option maxHeartbeats 8000000 in
theorem height_core (X a1 a2 a3 h : Int) (w : World)
    (C1 : ∀ W, Calls Try.prog 26 #[nv X] W fun e w' => e = .returned (nv a1) ∧ Below W.heap.size W w')
    (C2 : ∀ W, Calls Try.prog 36 #[nv a1, .agg #[.int .u64 3, .int .u64 0, .int .u64 0, .int .u64 0]] W fun e w' => e = .returned (nv a2) ∧ Below W.heap.size W w')
    (C3 : ∀ W, Calls Try.prog 47 #[nv X, nv a2] W fun e w' => e = .returned (nv a3) ∧ Below W.heap.size W w')
    (C4 : ∀ W, Calls Try.prog 48 #[nv a3, .agg #[.int .u64 4309448131093880907, .int .u64 7285987128567378166, .int .u64 12964664127075681980, .int .u64 6540974713487397863]] W fun e w' => e = .returned (nv h) ∧ Below W.heap.size W w') :
    Calls Try.prog 27 #[nv X] w fun e w' => e = .returned (nv h) ∧ Below w.heap.size w w' := by
  have q26 := eq26
  go_enter Try.func27, Try.ntmps27
  go_wp2_with fail
  have Bx := Arr.mk4 (w := (((w.alloc (.cells #[.int .u64 (lim (X) 0), .int .u64 (lim (X) 1), .int .u64 (lim (X) 2), .int .u64 (lim (X) 3)] 24)).alloc (.cells #[.int .u64 0, .int .u64 0, .int .u64 0, .int .u64 0] 24)).alloc (.cells #[.int .u64 4309448131093880907, .int .u64 7285987128567378166, .int .u64 12964664127075681980, .int .u64 6540974713487397863] 24))) (f := fun j => .int .u64 (lim (X) j)) (b := w.heap.size) (by simp [go_sem]) (by simp [go_sem]) (by simp [go_sem]) (by simp [go_sem]) (by simp [go_sem]) (by simp [go_sem]) (by simp [go_sem]) (by simp [go_sem])
  have Bo := Arr.mk4 (w := (((w.alloc (.cells #[.int .u64 (lim (X) 0), .int .u64 (lim (X) 1), .int .u64 (lim (X) 2), .int .u64 (lim (X) 3)] 24)).alloc (.cells #[.int .u64 0, .int .u64 0, .int .u64 0, .int .u64 0] 24)).alloc (.cells #[.int .u64 4309448131093880907, .int .u64 7285987128567378166, .int .u64 12964664127075681980, .int .u64 6540974713487397863] 24))) (f := fun _ => .int .u64 0) (b := w.heap.size + 1) (by simp [go_sem]) (by simp [go_sem]) (by simp [go_sem]) (by simp [go_sem]) (by simp [go_sem]) (by simp [go_sem]) (by simp [go_sem]) (by simp [go_sem])
  have Bb := Arr.mk4 (w := (((w.alloc (.cells #[.int .u64 (lim (X) 0), .int .u64 (lim (X) 1), .int .u64 (lim (X) 2), .int .u64 (lim (X) 3)] 24)).alloc (.cells #[.int .u64 0, .int .u64 0, .int .u64 0, .int .u64 0] 24)).alloc (.cells #[.int .u64 4309448131093880907, .int .u64 7285987128567378166, .int .u64 12964664127075681980, .int .u64 6540974713487397863] 24))) (f := nx 4309448131093880907 7285987128567378166 12964664127075681980 6540974713487397863) (b := w.heap.size + 1 + 1) (by simp [go_sem, nx]) (by simp [go_sem, nx]) (by simp [go_sem, nx]) (by simp [go_sem, nx]) (by simp [go_sem, nx]) (by simp [go_sem, nx]) (by simp [go_sem, nx]) (by simp [go_sem, nx])
  have hB' : Below w.heap.size w (((w.alloc (.cells #[.int .u64 (lim (X) 0), .int .u64 (lim (X) 1), .int .u64 (lim (X) 2), .int .u64 (lim (X) 3)] 24)).alloc (.cells #[.int .u64 0, .int .u64 0, .int .u64 0, .int .u64 0] 24)).alloc (.cells #[.int .u64 4309448131093880907, .int .u64 7285987128567378166, .int .u64 12964664127075681980, .int .u64 6540974713487397863] 24)) := by go_grown
  have Ax := Bx
  have Ao := Bo
  have Ab := Bb
  have hB := hB'
  clear Bx Bo Bb hB'
  have rx0 := fun ds os => cell_regrown (Ax.c 0 (by omega)) ds os
  have rx1 := fun ds os => cell_regrown (Ax.c 1 (by omega)) ds os
  have rx2 := fun ds os => cell_regrown (Ax.c 2 (by omega)) ds os
  have rx3 := fun ds os => cell_regrown (Ax.c 3 (by omega)) ds os
  have rb0 := fun ds os => cell_regrown (v := .int .u64 4309448131093880907) (Ab.c 0 (by omega)) ds os
  have rb1 := fun ds os => cell_regrown (v := .int .u64 7285987128567378166) (Ab.c 1 (by omega)) ds os
  have rb2 := fun ds os => cell_regrown (v := .int .u64 12964664127075681980) (Ab.c 2 (by omega)) ds os
  have rb3 := fun ds os => cell_regrown (v := .int .u64 6540974713487397863) (Ab.c 3 (by omega)) ds os
  refine wp_region_below_tail 8 (by kernel_rfl) (by kernel_rfl) ?_
  simp only [List.take_succ_cons, List.take_zero, List.drop_succ_cons, List.drop_zero]
  repeat (go_big_quiet_step (first | (go_at_call 26; with_reducible first | exact Calls.regrown_of (C1 _)) | (go_at_call 36; with_reducible first | exact Calls.regrown_of (C2 _)) | (go_at_call 47; with_reducible first | exact Calls.regrown_of (C3 _)) | (go_at_call 48; with_reducible first | exact Calls.regrown_of (C4 _))))
  refine wpQuiet_nil ?_
  intro w1 hw'
  obtain ⟨⟨dq, osq⟩, hw''⟩ := hw'
  have hb := below_of hw''
  clear hw''
  have Bo := Arr.to' Ao hb
  have hB' := Bel.call hB hb
  clear hb rx0 rx1 rx2 rx3 rb0 rb1 rb2 rb3 Ax Ao Ab hB
  have Ao := Bo
  have hB := hB'
  clear Bo hB'
  have hS := hB.size
  have co := Ao.c
  have zo := Ao.z
  go_wp2_with fail
  refine bodyPost_ret (v := nv h) (by simp [results, Try.results27, go_sem, co]) rfl ⟨rfl, ?_⟩
  go_grown
/-- The base. -/
def gx : Int := 48439561293906451759052585252797914202762949526041747995844080717082404635286
def gy : Int := 36134250956749795798585127919587881956611106672985015071877198253568414405109
theorem pv_g : pv gx gy false = .agg #[.int .u64 17627433388654248598, .int .u64 8575836109218198432, .int .u64 17923454489921339634, .int .u64 7716867327612699207, .int .u64 14678990851816772085, .int .u64 3156516839386865358, .int .u64 10297457778147434006, .int .u64 5756518291402817435, .bool false] := by
  have h0 : lim gx 0 = 17627433388654248598 := by decide
  have h1 : lim gx 1 = 8575836109218198432 := by decide
  have h2 : lim gx 2 = 17923454489921339634 := by decide
  have h3 : lim gx 3 = 7716867327612699207 := by decide
  have h4 : lim gy 0 = 14678990851816772085 := by decide
  have h5 : lim gy 1 = 3156516839386865358 := by decide
  have h6 : lim gy 2 = 10297457778147434006 := by decide
  have h7 : lim gy 3 = 5756518291402817435 := by decide
  simp only [pv, h0, h1, h2, h3, h4, h5, h6, h7]
set_option maxHeartbeats 4000000 in
theorem base_any (w : World) : Calls Try.prog 9 #[] w fun e w' => e = .returned (pv gx gy false) ∧ Below w.heap.size w w' := by
  rw [pv_g]
  go_enter Try.func9, Try.ntmps9
  have Bo := Arr.mk9p (w := (w.alloc (.cells #[.int .u64 0, .int .u64 0, .int .u64 0, .int .u64 0, .int .u64 0, .int .u64 0, .int .u64 0, .int .u64 0, .bool false] 26))) (f := zx 8) (b := w.heap.size) (by simp [go_sem, px, sx, zx]) (by simp [go_sem, px, sx, zx]) (by simp [go_sem, px, sx, zx]) (by simp [go_sem, px, sx, zx]) (by simp [go_sem, px, sx, zx]) (by simp [go_sem, px, sx, zx]) (by simp [go_sem, px, sx, zx]) (by simp [go_sem, px, sx, zx]) (by simp [go_sem, px, sx, zx]) (by simp [go_sem, px, sx, zx])
  have hB' : Below w.heap.size w (w.alloc (.cells #[.int .u64 0, .int .u64 0, .int .u64 0, .int .u64 0, .int .u64 0, .int .u64 0, .int .u64 0, .int .u64 0, .bool false] 26)) := by go_grown
  have Ao := Bo
  have hB := hB'
  clear Bo hB'
  have hS := hB.size
  have co_0 := Ao.cv 0 (by omega) (.int .u64 0) rfl
  have co_1 := Ao.cv 1 (by omega) (.int .u64 0) rfl
  have co_2 := Ao.cv 2 (by omega) (.int .u64 0) rfl
  have co_3 := Ao.cv 3 (by omega) (.int .u64 0) rfl
  have co_4 := Ao.cv 4 (by omega) (.int .u64 0) rfl
  have co_5 := Ao.cv 5 (by omega) (.int .u64 0) rfl
  have co_6 := Ao.cv 6 (by omega) (.int .u64 0) rfl
  have co_7 := Ao.cv 7 (by omega) (.int .u64 0) rfl
  have co_8 := Ao.cv 8 (by omega) (.bool false) rfl
  have zo := Ao.z
  go_wp2_with fail
  refine bodyPost_ret (v := .agg #[.int .u64 17627433388654248598, .int .u64 8575836109218198432, .int .u64 17923454489921339634, .int .u64 7716867327612699207, .int .u64 14678990851816772085, .int .u64 3156516839386865358, .int .u64 10297457778147434006, .int .u64 5756518291402817435, .bool false]) (by simp [results, Try.results9, go_sem, co_0, co_1, co_2, co_3, co_4, co_5, co_6, co_7, co_8]) rfl ⟨rfl, ?_⟩
  go_grown
set_option maxHeartbeats 4000000 in
theorem rbase_any (w : World) : Calls Try.prog 10 #[] w fun e w' => e = .returned (pv gx gy false) ∧ Below w.heap.size w w' := by
  rw [pv_g]
  go_enter Try.func10, Try.ntmps10
  have Bo := Arr.mk9p (w := (w.alloc (.cells #[.int .u64 0, .int .u64 0, .int .u64 0, .int .u64 0, .int .u64 0, .int .u64 0, .int .u64 0, .int .u64 0, .bool false] 26))) (f := zx 8) (b := w.heap.size) (by simp [go_sem, px, sx, zx]) (by simp [go_sem, px, sx, zx]) (by simp [go_sem, px, sx, zx]) (by simp [go_sem, px, sx, zx]) (by simp [go_sem, px, sx, zx]) (by simp [go_sem, px, sx, zx]) (by simp [go_sem, px, sx, zx]) (by simp [go_sem, px, sx, zx]) (by simp [go_sem, px, sx, zx]) (by simp [go_sem, px, sx, zx])
  have hB' : Below w.heap.size w (w.alloc (.cells #[.int .u64 0, .int .u64 0, .int .u64 0, .int .u64 0, .int .u64 0, .int .u64 0, .int .u64 0, .int .u64 0, .bool false] 26)) := by go_grown
  have Ao := Bo
  have hB := hB'
  clear Bo hB'
  have hS := hB.size
  have co_0 := Ao.cv 0 (by omega) (.int .u64 0) rfl
  have co_1 := Ao.cv 1 (by omega) (.int .u64 0) rfl
  have co_2 := Ao.cv 2 (by omega) (.int .u64 0) rfl
  have co_3 := Ao.cv 3 (by omega) (.int .u64 0) rfl
  have co_4 := Ao.cv 4 (by omega) (.int .u64 0) rfl
  have co_5 := Ao.cv 5 (by omega) (.int .u64 0) rfl
  have co_6 := Ao.cv 6 (by omega) (.int .u64 0) rfl
  have co_7 := Ao.cv 7 (by omega) (.int .u64 0) rfl
  have co_8 := Ao.cv 8 (by omega) (.bool false) rfl
  have zo := Ao.z
  go_wp2_with fail
  refine bodyPost_ret (v := .agg #[.int .u64 17627433388654248598, .int .u64 8575836109218198432, .int .u64 17923454489921339634, .int .u64 7716867327612699207, .int .u64 14678990851816772085, .int .u64 3156516839386865358, .int .u64 10297457778147434006, .int .u64 5756518291402817435, .bool false]) (by simp [results, Try.results10, go_sem, co_0, co_1, co_2, co_3, co_4, co_5, co_6, co_7, co_8]) rfl ⟨rfl, ?_⟩
  go_grown
set_option maxHeartbeats 8000000 in
theorem on_none (X Y : Int) (w : World)
    (C1 : ∀ W, Calls Try.prog 24 #[] W fun e w' => e = .returned (pv 0 0 true) ∧ Below W.heap.size W w') :
    Calls Try.prog 11 #[pv X Y true] w fun e w' => e = .returned (.bool (e4 X 0 && e4 Y 0)) ∧ Below w.heap.size w w' := by
  have q26 := eq26
  go_enter Try.func11, Try.ntmps11
  go_wp2_with fail
  have Bp := Arr.mk9p (w := (w.alloc (.cells #[.int .u64 (lim (X) 0), .int .u64 (lim (X) 1), .int .u64 (lim (X) 2), .int .u64 (lim (X) 3), .int .u64 (lim (Y) 0), .int .u64 (lim (Y) 1), .int .u64 (lim (Y) 2), .int .u64 (lim (Y) 3), .bool true] 26))) (f := px (X) (Y) true) (b := w.heap.size) (by simp [go_sem, px, sx, zx]) (by simp [go_sem, px, sx, zx]) (by simp [go_sem, px, sx, zx]) (by simp [go_sem, px, sx, zx]) (by simp [go_sem, px, sx, zx]) (by simp [go_sem, px, sx, zx]) (by simp [go_sem, px, sx, zx]) (by simp [go_sem, px, sx, zx]) (by simp [go_sem, px, sx, zx]) (by simp [go_sem, px, sx, zx])
  have hB' : Below w.heap.size w (w.alloc (.cells #[.int .u64 (lim (X) 0), .int .u64 (lim (X) 1), .int .u64 (lim (X) 2), .int .u64 (lim (X) 3), .int .u64 (lim (Y) 0), .int .u64 (lim (Y) 1), .int .u64 (lim (Y) 2), .int .u64 (lim (Y) 3), .bool true] 26)) := by go_grown
  have Ap := Bp
  have hB := hB'
  clear Bp hB'
  have rp0 := fun ds os => cell_regrown (v := .int .u64 (lim (X) 0)) (Ap.c 0 (by omega)) ds os
  have rp1 := fun ds os => cell_regrown (v := .int .u64 (lim (X) 1)) (Ap.c 1 (by omega)) ds os
  have rp2 := fun ds os => cell_regrown (v := .int .u64 (lim (X) 2)) (Ap.c 2 (by omega)) ds os
  have rp3 := fun ds os => cell_regrown (v := .int .u64 (lim (X) 3)) (Ap.c 3 (by omega)) ds os
  have rp4 := fun ds os => cell_regrown (v := .int .u64 (lim (Y) 0)) (Ap.c 4 (by omega)) ds os
  have rp5 := fun ds os => cell_regrown (v := .int .u64 (lim (Y) 1)) (Ap.c 5 (by omega)) ds os
  have rp6 := fun ds os => cell_regrown (v := .int .u64 (lim (Y) 2)) (Ap.c 6 (by omega)) ds os
  have rp7 := fun ds os => cell_regrown (v := .int .u64 (lim (Y) 3)) (Ap.c 7 (by omega)) ds os
  have rp8 := fun ds os => cell_regrown (v := .bool true) (Ap.c 8 (by omega)) ds os
  refine wp_region_quiet_below (by kernel_rfl) (by kernel_rfl) ?_
  repeat (go_big_quiet_step (first | (go_at_call 24; with_reducible first | exact Calls.regrown_of (C1 _))))
  refine wpQuiet_nil ?_
  intro w1 hw'
  obtain ⟨⟨dq, osq⟩, hw''⟩ := hw'
  have hb := below_of hw''
  clear hw''
  have hB' := Bel.call hB hb
  clear hb rp0 rp1 rp2 rp3 rp4 rp5 rp6 rp7 rp8 Ap hB
  have hB := hB'
  clear hB'
  go_wp2_with fail
  go_ret
  exact ⟨rfl, hB⟩
set_option maxHeartbeats 8000000 in
theorem on_x (X Y s h : Int) (w : World)
    (C1 : ∀ W, Calls Try.prog 25 #[nv X] W fun e w' => e = .returned (.bool false) ∧ Below W.heap.size W w') :
    Calls Try.prog 11 #[pv X Y false] w fun e w' => e = .returned (.bool (false)) ∧ Below w.heap.size w w' := by
  have q26 := eq26
  go_enter Try.func11, Try.ntmps11
  go_wp2_with fail
  have Bp := Arr.mk9p (w := (w.alloc (.cells #[.int .u64 (lim (X) 0), .int .u64 (lim (X) 1), .int .u64 (lim (X) 2), .int .u64 (lim (X) 3), .int .u64 (lim (Y) 0), .int .u64 (lim (Y) 1), .int .u64 (lim (Y) 2), .int .u64 (lim (Y) 3), .bool false] 26))) (f := px (X) (Y) false) (b := w.heap.size) (by simp [go_sem, px, sx, zx]) (by simp [go_sem, px, sx, zx]) (by simp [go_sem, px, sx, zx]) (by simp [go_sem, px, sx, zx]) (by simp [go_sem, px, sx, zx]) (by simp [go_sem, px, sx, zx]) (by simp [go_sem, px, sx, zx]) (by simp [go_sem, px, sx, zx]) (by simp [go_sem, px, sx, zx]) (by simp [go_sem, px, sx, zx])
  have hB' : Below w.heap.size w (w.alloc (.cells #[.int .u64 (lim (X) 0), .int .u64 (lim (X) 1), .int .u64 (lim (X) 2), .int .u64 (lim (X) 3), .int .u64 (lim (Y) 0), .int .u64 (lim (Y) 1), .int .u64 (lim (Y) 2), .int .u64 (lim (Y) 3), .bool false] 26)) := by go_grown
  have Ap := Bp
  have hB := hB'
  clear Bp hB'
  have rp0 := fun ds os => cell_regrown (v := .int .u64 (lim (X) 0)) (Ap.c 0 (by omega)) ds os
  have rp1 := fun ds os => cell_regrown (v := .int .u64 (lim (X) 1)) (Ap.c 1 (by omega)) ds os
  have rp2 := fun ds os => cell_regrown (v := .int .u64 (lim (X) 2)) (Ap.c 2 (by omega)) ds os
  have rp3 := fun ds os => cell_regrown (v := .int .u64 (lim (X) 3)) (Ap.c 3 (by omega)) ds os
  have rp4 := fun ds os => cell_regrown (v := .int .u64 (lim (Y) 0)) (Ap.c 4 (by omega)) ds os
  have rp5 := fun ds os => cell_regrown (v := .int .u64 (lim (Y) 1)) (Ap.c 5 (by omega)) ds os
  have rp6 := fun ds os => cell_regrown (v := .int .u64 (lim (Y) 2)) (Ap.c 6 (by omega)) ds os
  have rp7 := fun ds os => cell_regrown (v := .int .u64 (lim (Y) 3)) (Ap.c 7 (by omega)) ds os
  have rp8 := fun ds os => cell_regrown (v := .bool false) (Ap.c 8 (by omega)) ds os
  refine wp_region_quiet_below (by kernel_rfl) (by kernel_rfl) ?_
  repeat (go_big_quiet_step (first | (go_at_call 25; with_reducible first | exact Calls.regrown_of (C1 _))))
  refine wpQuiet_nil ?_
  intro w1 hw'
  obtain ⟨⟨dq, osq⟩, hw''⟩ := hw'
  have hb := below_of hw''
  clear hw''
  have hB' := Bel.call hB hb
  clear hb rp0 rp1 rp2 rp3 rp4 rp5 rp6 rp7 rp8 Ap hB
  have hB := hB'
  clear hB'
  go_wp2_with fail
  go_ret
  exact ⟨rfl, hB⟩
set_option maxHeartbeats 8000000 in
theorem on_y (X Y s h : Int) (w : World)
    (C1 : ∀ W, Calls Try.prog 25 #[nv X] W fun e w' => e = .returned (.bool true) ∧ Below W.heap.size W w')
    (C2 : ∀ W, Calls Try.prog 25 #[nv Y] W fun e w' => e = .returned (.bool false) ∧ Below W.heap.size W w') :
    Calls Try.prog 11 #[pv X Y false] w fun e w' => e = .returned (.bool (false)) ∧ Below w.heap.size w w' := by
  have q26 := eq26
  go_enter Try.func11, Try.ntmps11
  go_wp2_with fail
  have Bp := Arr.mk9p (w := (w.alloc (.cells #[.int .u64 (lim (X) 0), .int .u64 (lim (X) 1), .int .u64 (lim (X) 2), .int .u64 (lim (X) 3), .int .u64 (lim (Y) 0), .int .u64 (lim (Y) 1), .int .u64 (lim (Y) 2), .int .u64 (lim (Y) 3), .bool false] 26))) (f := px (X) (Y) false) (b := w.heap.size) (by simp [go_sem, px, sx, zx]) (by simp [go_sem, px, sx, zx]) (by simp [go_sem, px, sx, zx]) (by simp [go_sem, px, sx, zx]) (by simp [go_sem, px, sx, zx]) (by simp [go_sem, px, sx, zx]) (by simp [go_sem, px, sx, zx]) (by simp [go_sem, px, sx, zx]) (by simp [go_sem, px, sx, zx]) (by simp [go_sem, px, sx, zx])
  have hB' : Below w.heap.size w (w.alloc (.cells #[.int .u64 (lim (X) 0), .int .u64 (lim (X) 1), .int .u64 (lim (X) 2), .int .u64 (lim (X) 3), .int .u64 (lim (Y) 0), .int .u64 (lim (Y) 1), .int .u64 (lim (Y) 2), .int .u64 (lim (Y) 3), .bool false] 26)) := by go_grown
  have Ap := Bp
  have hB := hB'
  clear Bp hB'
  have rp0 := fun ds os => cell_regrown (v := .int .u64 (lim (X) 0)) (Ap.c 0 (by omega)) ds os
  have rp1 := fun ds os => cell_regrown (v := .int .u64 (lim (X) 1)) (Ap.c 1 (by omega)) ds os
  have rp2 := fun ds os => cell_regrown (v := .int .u64 (lim (X) 2)) (Ap.c 2 (by omega)) ds os
  have rp3 := fun ds os => cell_regrown (v := .int .u64 (lim (X) 3)) (Ap.c 3 (by omega)) ds os
  have rp4 := fun ds os => cell_regrown (v := .int .u64 (lim (Y) 0)) (Ap.c 4 (by omega)) ds os
  have rp5 := fun ds os => cell_regrown (v := .int .u64 (lim (Y) 1)) (Ap.c 5 (by omega)) ds os
  have rp6 := fun ds os => cell_regrown (v := .int .u64 (lim (Y) 2)) (Ap.c 6 (by omega)) ds os
  have rp7 := fun ds os => cell_regrown (v := .int .u64 (lim (Y) 3)) (Ap.c 7 (by omega)) ds os
  have rp8 := fun ds os => cell_regrown (v := .bool false) (Ap.c 8 (by omega)) ds os
  refine wp_region_quiet_below (by kernel_rfl) (by kernel_rfl) ?_
  repeat (go_big_quiet_step (first | (go_at_call 25; with_reducible first | exact Calls.regrown_of (C1 _) | exact Calls.regrown_of (C2 _))))
  refine wpQuiet_nil ?_
  intro w1 hw'
  obtain ⟨⟨dq, osq⟩, hw''⟩ := hw'
  have hb := below_of hw''
  clear hw''
  have hB' := Bel.call hB hb
  clear hb rp0 rp1 rp2 rp3 rp4 rp5 rp6 rp7 rp8 Ap hB
  have hB := hB'
  clear hB'
  go_wp2_with fail
  go_ret
  exact ⟨rfl, hB⟩
set_option maxHeartbeats 8000000 in
theorem on_in (X Y s h : Int) (w : World)
    (C1 : ∀ W, Calls Try.prog 25 #[nv X] W fun e w' => e = .returned (.bool true) ∧ Below W.heap.size W w')
    (C2 : ∀ W, Calls Try.prog 25 #[nv Y] W fun e w' => e = .returned (.bool true) ∧ Below W.heap.size W w')
    (C3 : ∀ W, Calls Try.prog 26 #[nv Y] W fun e w' => e = .returned (nv s) ∧ Below W.heap.size W w')
    (C4 : ∀ W, Calls Try.prog 27 #[nv X] W fun e w' => e = .returned (nv h) ∧ Below W.heap.size W w') :
    Calls Try.prog 11 #[pv X Y false] w fun e w' => e = .returned (.bool (e4 s h)) ∧ Below w.heap.size w w' := by
  have q26 := eq26
  go_enter Try.func11, Try.ntmps11
  go_wp2_with fail
  have Bp := Arr.mk9p (w := (w.alloc (.cells #[.int .u64 (lim (X) 0), .int .u64 (lim (X) 1), .int .u64 (lim (X) 2), .int .u64 (lim (X) 3), .int .u64 (lim (Y) 0), .int .u64 (lim (Y) 1), .int .u64 (lim (Y) 2), .int .u64 (lim (Y) 3), .bool false] 26))) (f := px (X) (Y) false) (b := w.heap.size) (by simp [go_sem, px, sx, zx]) (by simp [go_sem, px, sx, zx]) (by simp [go_sem, px, sx, zx]) (by simp [go_sem, px, sx, zx]) (by simp [go_sem, px, sx, zx]) (by simp [go_sem, px, sx, zx]) (by simp [go_sem, px, sx, zx]) (by simp [go_sem, px, sx, zx]) (by simp [go_sem, px, sx, zx]) (by simp [go_sem, px, sx, zx])
  have hB' : Below w.heap.size w (w.alloc (.cells #[.int .u64 (lim (X) 0), .int .u64 (lim (X) 1), .int .u64 (lim (X) 2), .int .u64 (lim (X) 3), .int .u64 (lim (Y) 0), .int .u64 (lim (Y) 1), .int .u64 (lim (Y) 2), .int .u64 (lim (Y) 3), .bool false] 26)) := by go_grown
  have Ap := Bp
  have hB := hB'
  clear Bp hB'
  have rp0 := fun ds os => cell_regrown (v := .int .u64 (lim (X) 0)) (Ap.c 0 (by omega)) ds os
  have rp1 := fun ds os => cell_regrown (v := .int .u64 (lim (X) 1)) (Ap.c 1 (by omega)) ds os
  have rp2 := fun ds os => cell_regrown (v := .int .u64 (lim (X) 2)) (Ap.c 2 (by omega)) ds os
  have rp3 := fun ds os => cell_regrown (v := .int .u64 (lim (X) 3)) (Ap.c 3 (by omega)) ds os
  have rp4 := fun ds os => cell_regrown (v := .int .u64 (lim (Y) 0)) (Ap.c 4 (by omega)) ds os
  have rp5 := fun ds os => cell_regrown (v := .int .u64 (lim (Y) 1)) (Ap.c 5 (by omega)) ds os
  have rp6 := fun ds os => cell_regrown (v := .int .u64 (lim (Y) 2)) (Ap.c 6 (by omega)) ds os
  have rp7 := fun ds os => cell_regrown (v := .int .u64 (lim (Y) 3)) (Ap.c 7 (by omega)) ds os
  have rp8 := fun ds os => cell_regrown (v := .bool false) (Ap.c 8 (by omega)) ds os
  refine wp_region_quiet_below (by kernel_rfl) (by kernel_rfl) ?_
  repeat (go_big_quiet_step (first | (go_at_call 25; with_reducible first | exact Calls.regrown_of (C1 _) | exact Calls.regrown_of (C2 _)) | (go_at_call 26; with_reducible first | exact Calls.regrown_of (C3 _)) | (go_at_call 27; with_reducible first | exact Calls.regrown_of (C4 _))))
  refine wpQuiet_nil ?_
  intro w1 hw'
  obtain ⟨⟨dq, osq⟩, hw''⟩ := hw'
  have hb := below_of hw''
  clear hw''
  have hB' := Bel.call hB hb
  clear hb rp0 rp1 rp2 rp3 rp4 rp5 rp6 rp7 rp8 Ap hB
  have hB := hB'
  clear hB'
  go_wp2_with fail
  go_ret
  exact ⟨rfl, hB⟩
set_option maxHeartbeats 8000000 in
theorem neg_none (X Y : Int) (w : World)
    (C1 : ∀ W, Calls Try.prog 24 #[] W fun e w' => e = .returned (pv 0 0 true) ∧ Below W.heap.size W w') :
    Calls Try.prog 15 #[pv X Y true] w fun e w' => e = .returned (pv 0 0 true) ∧ Below w.heap.size w w' := by
  have q26 := eq26
  go_enter Try.func15, Try.ntmps15
  have Bp := Arr.mk9p (w := ((w.alloc (.cells #[.int .u64 (lim (X) 0), .int .u64 (lim (X) 1), .int .u64 (lim (X) 2), .int .u64 (lim (X) 3), .int .u64 (lim (Y) 0), .int .u64 (lim (Y) 1), .int .u64 (lim (Y) 2), .int .u64 (lim (Y) 3), .bool true] 26)).alloc (.cells #[.int .u64 0, .int .u64 0, .int .u64 0, .int .u64 0, .int .u64 0, .int .u64 0, .int .u64 0, .int .u64 0, .bool false] 26))) (f := px (X) (Y) true) (b := w.heap.size) (by simp [go_sem, px, sx, zx]) (by simp [go_sem, px, sx, zx]) (by simp [go_sem, px, sx, zx]) (by simp [go_sem, px, sx, zx]) (by simp [go_sem, px, sx, zx]) (by simp [go_sem, px, sx, zx]) (by simp [go_sem, px, sx, zx]) (by simp [go_sem, px, sx, zx]) (by simp [go_sem, px, sx, zx]) (by simp [go_sem, px, sx, zx])
  have Bo := Arr.mk9p (w := ((w.alloc (.cells #[.int .u64 (lim (X) 0), .int .u64 (lim (X) 1), .int .u64 (lim (X) 2), .int .u64 (lim (X) 3), .int .u64 (lim (Y) 0), .int .u64 (lim (Y) 1), .int .u64 (lim (Y) 2), .int .u64 (lim (Y) 3), .bool true] 26)).alloc (.cells #[.int .u64 0, .int .u64 0, .int .u64 0, .int .u64 0, .int .u64 0, .int .u64 0, .int .u64 0, .int .u64 0, .bool false] 26))) (f := zx 8) (b := w.heap.size + 1) (by simp [go_sem, px, sx, zx]) (by simp [go_sem, px, sx, zx]) (by simp [go_sem, px, sx, zx]) (by simp [go_sem, px, sx, zx]) (by simp [go_sem, px, sx, zx]) (by simp [go_sem, px, sx, zx]) (by simp [go_sem, px, sx, zx]) (by simp [go_sem, px, sx, zx]) (by simp [go_sem, px, sx, zx]) (by simp [go_sem, px, sx, zx])
  have hB' : Below w.heap.size w ((w.alloc (.cells #[.int .u64 (lim (X) 0), .int .u64 (lim (X) 1), .int .u64 (lim (X) 2), .int .u64 (lim (X) 3), .int .u64 (lim (Y) 0), .int .u64 (lim (Y) 1), .int .u64 (lim (Y) 2), .int .u64 (lim (Y) 3), .bool true] 26)).alloc (.cells #[.int .u64 0, .int .u64 0, .int .u64 0, .int .u64 0, .int .u64 0, .int .u64 0, .int .u64 0, .int .u64 0, .bool false] 26)) := by go_grown
  have Ap := Bp
  have Ao := Bo
  have hB := hB'
  clear Bp Bo hB'
  have cp_0 := Ap.cv 0 (by omega) (.int .u64 (lim (X) 0)) rfl
  have cp_1 := Ap.cv 1 (by omega) (.int .u64 (lim (X) 1)) rfl
  have cp_2 := Ap.cv 2 (by omega) (.int .u64 (lim (X) 2)) rfl
  have cp_3 := Ap.cv 3 (by omega) (.int .u64 (lim (X) 3)) rfl
  have cp_4 := Ap.cv 4 (by omega) (.int .u64 (lim (Y) 0)) rfl
  have cp_5 := Ap.cv 5 (by omega) (.int .u64 (lim (Y) 1)) rfl
  have cp_6 := Ap.cv 6 (by omega) (.int .u64 (lim (Y) 2)) rfl
  have cp_7 := Ap.cv 7 (by omega) (.int .u64 (lim (Y) 3)) rfl
  have cp_8 := Ap.cv 8 (by omega) (.bool true) rfl
  go_wp2_with fail
  refine (C1 _).mono ?_
  rintro e w11 ⟨rfl, hb⟩
  have Bo := Arr.to' Ao hb
  have hB' := Bel.call hB hb
  clear hb cp_0 cp_1 cp_2 cp_3 cp_4 cp_5 cp_6 cp_7 cp_8 Ap Ao hB
  have Ao := Bo
  have hB := hB'
  clear Bo hB'
  have hS := hB.size
  have co_0 := Ao.cv 0 (by omega) (.int .u64 0) rfl
  have co_1 := Ao.cv 1 (by omega) (.int .u64 0) rfl
  have co_2 := Ao.cv 2 (by omega) (.int .u64 0) rfl
  have co_3 := Ao.cv 3 (by omega) (.int .u64 0) rfl
  have co_4 := Ao.cv 4 (by omega) (.int .u64 0) rfl
  have co_5 := Ao.cv 5 (by omega) (.int .u64 0) rfl
  have co_6 := Ao.cv 6 (by omega) (.int .u64 0) rfl
  have co_7 := Ao.cv 7 (by omega) (.int .u64 0) rfl
  have co_8 := Ao.cv 8 (by omega) (.bool false) rfl
  have zo := Ao.z
  go_wp2_with fail
  refine bodyPost_ret (v := pv 0 0 true) (by simp [results, Try.results15, go_sem, co_0, co_1, co_2, co_3, co_4, co_5, co_6, co_7, co_8]) rfl ⟨rfl, ?_⟩
  go_grown
set_option maxHeartbeats 8000000 in
theorem neg_core (X Y n : Int) (w : World)
    (C1 : ∀ W, Calls Try.prog 36 #[.agg #[.int .u64 0, .int .u64 0, .int .u64 0, .int .u64 0], nv Y] W fun e w' => e = .returned (nv n) ∧ Below W.heap.size W w') :
    Calls Try.prog 15 #[pv X Y false] w fun e w' => e = .returned (pv X n false) ∧ Below w.heap.size w w' := by
  have q26 := eq26
  go_enter Try.func15, Try.ntmps15
  go_wp2_with fail
  have Bp := Arr.mk9p (w := ((w.alloc (.cells #[.int .u64 (lim (X) 0), .int .u64 (lim (X) 1), .int .u64 (lim (X) 2), .int .u64 (lim (X) 3), .int .u64 (lim (Y) 0), .int .u64 (lim (Y) 1), .int .u64 (lim (Y) 2), .int .u64 (lim (Y) 3), .bool false] 26)).alloc (.cells #[.int .u64 0, .int .u64 0, .int .u64 0, .int .u64 0, .int .u64 0, .int .u64 0, .int .u64 0, .int .u64 0, .bool false] 26))) (f := px (X) (Y) false) (b := w.heap.size) (by simp [go_sem, px, sx, zx]) (by simp [go_sem, px, sx, zx]) (by simp [go_sem, px, sx, zx]) (by simp [go_sem, px, sx, zx]) (by simp [go_sem, px, sx, zx]) (by simp [go_sem, px, sx, zx]) (by simp [go_sem, px, sx, zx]) (by simp [go_sem, px, sx, zx]) (by simp [go_sem, px, sx, zx]) (by simp [go_sem, px, sx, zx])
  have Bo := Arr.mk9p (w := ((w.alloc (.cells #[.int .u64 (lim (X) 0), .int .u64 (lim (X) 1), .int .u64 (lim (X) 2), .int .u64 (lim (X) 3), .int .u64 (lim (Y) 0), .int .u64 (lim (Y) 1), .int .u64 (lim (Y) 2), .int .u64 (lim (Y) 3), .bool false] 26)).alloc (.cells #[.int .u64 0, .int .u64 0, .int .u64 0, .int .u64 0, .int .u64 0, .int .u64 0, .int .u64 0, .int .u64 0, .bool false] 26))) (f := zx 8) (b := w.heap.size + 1) (by simp [go_sem, px, sx, zx]) (by simp [go_sem, px, sx, zx]) (by simp [go_sem, px, sx, zx]) (by simp [go_sem, px, sx, zx]) (by simp [go_sem, px, sx, zx]) (by simp [go_sem, px, sx, zx]) (by simp [go_sem, px, sx, zx]) (by simp [go_sem, px, sx, zx]) (by simp [go_sem, px, sx, zx]) (by simp [go_sem, px, sx, zx])
  have hB' : Below w.heap.size w ((w.alloc (.cells #[.int .u64 (lim (X) 0), .int .u64 (lim (X) 1), .int .u64 (lim (X) 2), .int .u64 (lim (X) 3), .int .u64 (lim (Y) 0), .int .u64 (lim (Y) 1), .int .u64 (lim (Y) 2), .int .u64 (lim (Y) 3), .bool false] 26)).alloc (.cells #[.int .u64 0, .int .u64 0, .int .u64 0, .int .u64 0, .int .u64 0, .int .u64 0, .int .u64 0, .int .u64 0, .bool false] 26)) := by go_grown
  have Ap := Bp
  have Ao := Bo
  have hB := hB'
  clear Bp Bo hB'
  have rp0 := fun ds os => cell_regrown (v := .int .u64 (lim (X) 0)) (Ap.c 0 (by omega)) ds os
  have rp1 := fun ds os => cell_regrown (v := .int .u64 (lim (X) 1)) (Ap.c 1 (by omega)) ds os
  have rp2 := fun ds os => cell_regrown (v := .int .u64 (lim (X) 2)) (Ap.c 2 (by omega)) ds os
  have rp3 := fun ds os => cell_regrown (v := .int .u64 (lim (X) 3)) (Ap.c 3 (by omega)) ds os
  have rp4 := fun ds os => cell_regrown (v := .int .u64 (lim (Y) 0)) (Ap.c 4 (by omega)) ds os
  have rp5 := fun ds os => cell_regrown (v := .int .u64 (lim (Y) 1)) (Ap.c 5 (by omega)) ds os
  have rp6 := fun ds os => cell_regrown (v := .int .u64 (lim (Y) 2)) (Ap.c 6 (by omega)) ds os
  have rp7 := fun ds os => cell_regrown (v := .int .u64 (lim (Y) 3)) (Ap.c 7 (by omega)) ds os
  have rp8 := fun ds os => cell_regrown (v := .bool false) (Ap.c 8 (by omega)) ds os
  refine wp_region_below_tail 7 (by kernel_rfl) (by kernel_rfl) ?_
  simp only [List.take_succ_cons, List.take_zero, List.drop_succ_cons, List.drop_zero]
  repeat (go_big_quiet_step (first | (go_at_call 36; with_reducible first | exact Calls.regrown_of (C1 _))))
  refine wpQuiet_nil ?_
  intro w1 hw'
  obtain ⟨⟨dq, osq⟩, hw''⟩ := hw'
  have hb := below_of hw''
  clear hw''
  have Bo := Arr.to' Ao hb
  have hB' := Bel.call hB hb
  clear hb rp0 rp1 rp2 rp3 rp4 rp5 rp6 rp7 rp8 Ap Ao hB
  have Ao := Bo
  have hB := hB'
  clear Bo hB'
  have hS := hB.size
  have co_0 := Ao.cv 0 (by omega) (.int .u64 0) rfl
  have co_1 := Ao.cv 1 (by omega) (.int .u64 0) rfl
  have co_2 := Ao.cv 2 (by omega) (.int .u64 0) rfl
  have co_3 := Ao.cv 3 (by omega) (.int .u64 0) rfl
  have co_4 := Ao.cv 4 (by omega) (.int .u64 0) rfl
  have co_5 := Ao.cv 5 (by omega) (.int .u64 0) rfl
  have co_6 := Ao.cv 6 (by omega) (.int .u64 0) rfl
  have co_7 := Ao.cv 7 (by omega) (.int .u64 0) rfl
  have co_8 := Ao.cv 8 (by omega) (.bool false) rfl
  have zo := Ao.z
  go_wp2_with fail
  refine bodyPost_ret (v := pv X n false) (by simp [results, Try.results15, go_sem, co_0, co_1, co_2, co_3, co_4, co_5, co_6, co_7, co_8]) rfl ⟨rfl, ?_⟩
  go_grown
end Go.Proofs.Ytgekafmojedlkaa
