/- What isBelow, height, Base, On and Neg of point answer. -/
import Derived.Test.YtoolbnbfbegjaaaGreatJ21
set_option linter.all false
set_option maxRecDepth 100000
namespace Go.Proofs.YtoolbnbfbegjaaaGreat
open Go.RowKit Go.Sort
theorem eq24d (d : Nat) (a0 a1 a2 a3 b0 b1 b2 b3 : Int) (w : World) : (Op.equalIn (d + 2) 24 (.agg #[.int .u64 a0, .int .u64 a1, .int .u64 a2, .int .u64 a3]) (.agg #[.int .u64 b0, .int .u64 b1, .int .u64 b2, .int .u64 b3])).run Tryz.prog w = .ok (a0 == b0 && (a1 == b1 && (a2 == b2 && a3 == b3))) w :=
  eq24g (d + 1) (fun a b w => run_equalIn_int w d 22 .u64 .u64 a b Tryz.underlying22) a0 a1 a2 a3 b0 b1 b2 b3 w
def e4 (A B : Int) : Bool := lim A 0 == lim B 0 && (lim A 1 == lim B 1 && (lim A 2 == lim B 2 && lim A 3 == lim B 3))
theorem eq24e (d : Nat) (X U : Int) (w : World) : (Op.equalIn (d + 2) 24 (.agg #[.int .u64 (lim X 0), .int .u64 (lim X 1), .int .u64 (lim X 2), .int .u64 (lim X 3)]) (.agg #[.int .u64 (lim U 0), .int .u64 (lim U 1), .int .u64 (lim U 2), .int .u64 (lim U 3)])).run Tryz.prog w = .ok (e4 X U) w := eq24d d _ _ _ _ _ _ _ _ w
theorem eq26 (X Y U V : Int) (i k : Bool) (w : World) : (Op.equalIn 10000 28 (pv X Y i) (pv U V k)).run Tryz.prog w = .ok (e4 X U && (e4 Y V && i == k)) w := by
  rw [run_equalIn_agg (w := w) 9999 28 _ _ (by kernel_rfl) (by kernel_rfl)]
  cases h1 : e4 X U <;> cases h2 : e4 Y V <;> cases i <;> cases k <;> simp [go_sem, eq24e, h1, h2]
attribute [local go_sem] eq24
set_option maxHeartbeats 8000000 in
theorem below_core (A s : Int) (w : World)
    (C1 : ∀ W, Calls Tryz.prog 116 #[] W fun e w' => e = .returned (nv pp) ∧ Below W.heap.size W w')
    (C2 : ∀ W, Calls Tryz.prog 38 #[nv A, nv pp] W fun e w' => e = .returned (.int .i64 s) ∧ Below W.heap.size W w') :
    Calls Tryz.prog 103 #[nv A] w fun e w' => e = .returned (.bool (decide (s < 0))) ∧ Below w.heap.size w w' := by
  have q26 := eq26
  go_enter Tryz.func103, Tryz.ntmps103
  go_wp2_with fail
  obtain ⟨W0, hW0⟩ : ∃ W0, W0 = (w.alloc (.cells #[.int .u64 (lim (A) 0), .int .u64 (lim (A) 1), .int .u64 (lim (A) 2), .int .u64 (lim (A) 3)] 24)) := ⟨_, rfl⟩
  have Aa : Arr W0 (w.heap.size) 4 (fun j => .int .u64 (lim (A) j)) := by subst hW0; refine Arr.mk4 ?_ ?_ ?_ ?_ ?_ ?_ ?_ ?_ <;> simp [go_sem]
  have hB : Below w.heap.size w W0 := by subst hW0; go_grown
  subst hW0
  obtain ⟨ra0, ra1, ra2, ra3⟩ := Arr.g4 Aa
  refine wp_region_quiet_below (by kernel_rfl) (by kernel_rfl) ?_
  repeat (go_big_quiet_step (first | (go_at_call 116; with_reducible first | exact Calls.regrown_of (C1 _)) | (go_at_call 38; with_reducible first | exact Calls.regrown_of (C2 _))))
  refine wpQuiet_nil ?_
  intro w1 hw'
  obtain ⟨⟨dq, osq⟩, hw''⟩ := hw'
  have hb := below_of hw''
  clear hw''
  replace hB := Bel.call hB hb
  clear hb ra0 ra1 ra2 ra3 Aa
  go_wp2_with fail
  go_ret
  exact ⟨rfl, hB⟩
def nx (a b c d : Int) : Nat → Value
  | 0 => .int .u64 a
  | 1 => .int .u64 b
  | 2 => .int .u64 c
  | _ => .int .u64 d
set_option maxHeartbeats 8000000 in
theorem height_core (X a1 a2 a3 h : Int) (w : World)
    (C1 : ∀ W, Calls Tryz.prog 104 #[nv X] W fun e w' => e = .returned (nv a1) ∧ Below W.heap.size W w')
    (C2 : ∀ W, Calls Tryz.prog 112 #[nv a1, .agg #[.int .u64 3, .int .u64 0, .int .u64 0, .int .u64 0]] W fun e w' => e = .returned (nv a2) ∧ Below W.heap.size W w')
    (C3 : ∀ W, Calls Tryz.prog 111 #[nv X, nv a2] W fun e w' => e = .returned (nv a3) ∧ Below W.heap.size W w')
    (C4 : ∀ W, Calls Tryz.prog 113 #[nv a3, .agg #[.int .u64 4309448131093880907, .int .u64 7285987128567378166, .int .u64 12964664127075681980, .int .u64 6540974713487397863]] W fun e w' => e = .returned (nv h) ∧ Below W.heap.size W w') :
    Calls Tryz.prog 105 #[nv X] w fun e w' => e = .returned (nv h) ∧ Below w.heap.size w w' := by
  have q26 := eq26
  go_enter Tryz.func105, Tryz.ntmps105
  go_wp2_with fail
  obtain ⟨W0, hW0⟩ : ∃ W0, W0 = (((w.alloc (.cells #[.int .u64 (lim (X) 0), .int .u64 (lim (X) 1), .int .u64 (lim (X) 2), .int .u64 (lim (X) 3)] 24)).alloc (.cells #[.int .u64 0, .int .u64 0, .int .u64 0, .int .u64 0] 24)).alloc (.cells #[.int .u64 4309448131093880907, .int .u64 7285987128567378166, .int .u64 12964664127075681980, .int .u64 6540974713487397863] 24)) := ⟨_, rfl⟩
  have Ax : Arr W0 (w.heap.size) 4 (fun j => .int .u64 (lim (X) j)) := by subst hW0; refine Arr.mk4 ?_ ?_ ?_ ?_ ?_ ?_ ?_ ?_ <;> simp [go_sem]
  have Ao : Arr W0 (w.heap.size + 1) 4 (fun _ => .int .u64 0) := by subst hW0; refine Arr.mk4 ?_ ?_ ?_ ?_ ?_ ?_ ?_ ?_ <;> simp [go_sem]
  have Ab : Arr W0 (w.heap.size + 1 + 1) 4 (nx 4309448131093880907 7285987128567378166 12964664127075681980 6540974713487397863) := by subst hW0; refine Arr.mk4 ?_ ?_ ?_ ?_ ?_ ?_ ?_ ?_ <;> simp [go_sem, nx]
  have hB : Below w.heap.size w W0 := by subst hW0; go_grown
  subst hW0
  obtain ⟨rx0, rx1, rx2, rx3⟩ := Arr.g4 Ax
  have rb0 := Ab.cg 0 (by omega) (.int .u64 4309448131093880907) rfl
  have rb1 := Ab.cg 1 (by omega) (.int .u64 7285987128567378166) rfl
  have rb2 := Ab.cg 2 (by omega) (.int .u64 12964664127075681980) rfl
  have rb3 := Ab.cg 3 (by omega) (.int .u64 6540974713487397863) rfl
  refine wp_region_below_tail 8 (by kernel_rfl) (by kernel_rfl) ?_
  simp only [List.take_succ_cons, List.take_zero, List.drop_succ_cons, List.drop_zero]
  repeat (go_big_quiet_step (first | (go_at_call 104; with_reducible first | exact Calls.regrown_of (C1 _)) | (go_at_call 112; with_reducible first | exact Calls.regrown_of (C2 _)) | (go_at_call 111; with_reducible first | exact Calls.regrown_of (C3 _)) | (go_at_call 113; with_reducible first | exact Calls.regrown_of (C4 _))))
  refine wpQuiet_nil ?_
  intro w1 hw'
  obtain ⟨⟨dq, osq⟩, hw''⟩ := hw'
  have hb := below_of hw''
  clear hw''
  replace Ao := Arr.to' Ao hb
  replace hB := Bel.call hB hb
  clear hb rx0 rx1 rx2 rx3 rb0 rb1 rb2 rb3 Ax Ab
  have hS := hB.size
  have co := Ao.c
  have zo := Ao.z
  go_wp2_with fail
  refine bodyPost_ret (v := nv h) (by simp [results, Tryz.results105, go_sem, co]) rfl ⟨rfl, ?_⟩
  go_grown
def gx : Int := 48439561293906451759052585252797914202762949526041747995844080717082404635286
def gy : Int := 36134250956749795798585127919587881956611106672985015071877198253568414405109
theorem pv_g : pv gx gy false = .agg #[.int .u64 17627433388654248598, .int .u64 8575836109218198432, .int .u64 17923454489921339634, .int .u64 7716867327612699207, .int .u64 14678990851816772085, .int .u64 3156516839386865358, .int .u64 10297457778147434006, .int .u64 5756518291402817435, .bool false] := by
  have h0 : lim gx 0 = 17627433388654248598 := by decide
  have h1 : lim gx 1 = 8575836109218198432 := by decide
  have h2 : lim gx 2 = 17923454489921339634 := by decide
  have h3 : lim gx 3 = 7716867327612699207 := by decide
  have h4 : lim gy 0 = 14678990851816772085 := by decide
  have h5 : lim gy 1 = 3156516839386865358 := by decide
  have h6 : lim gy 2 = 10297457778147434006 := by decide
  have h7 : lim gy 3 = 5756518291402817435 := by decide
  simp only [pv, h0, h1, h2, h3, h4, h5, h6, h7]
set_option maxHeartbeats 4000000 in
theorem base_any (w : World) : Calls Tryz.prog 29 #[] w fun e w' => e = .returned (pv gx gy false) ∧ Below w.heap.size w w' := by
  rw [pv_g]
  go_enter Tryz.func29, Tryz.ntmps29
  obtain ⟨W0, hW0⟩ : ∃ W0, W0 = (w.alloc (.cells #[.int .u64 0, .int .u64 0, .int .u64 0, .int .u64 0, .int .u64 0, .int .u64 0, .int .u64 0, .int .u64 0, .bool false] 28)) := ⟨_, rfl⟩
  have Ao : Arr W0 (w.heap.size) 9 (zx 8) := by subst hW0; refine Arr.mk9p ?_ ?_ ?_ ?_ ?_ ?_ ?_ ?_ ?_ ?_ <;> simp [go_sem, px, sx, zx]
  have hB : Below w.heap.size w W0 := by subst hW0; go_grown
  subst hW0
  have hS := hB.size
  obtain ⟨co_0, co_1, co_2, co_3, co_4, co_5, co_6, co_7, co_8⟩ := Arr.c_zp Ao
  have zo := Ao.z
  go_wp2_with fail
  refine bodyPost_ret (v := .agg #[.int .u64 17627433388654248598, .int .u64 8575836109218198432, .int .u64 17923454489921339634, .int .u64 7716867327612699207, .int .u64 14678990851816772085, .int .u64 3156516839386865358, .int .u64 10297457778147434006, .int .u64 5756518291402817435, .bool false]) (by simp [results, Tryz.results29, go_sem, co_0, co_1, co_2, co_3, co_4, co_5, co_6, co_7, co_8]) rfl ⟨rfl, ?_⟩
  go_grown
set_option maxHeartbeats 4000000 in
theorem rbase_any (w : World) : Calls Tryz.prog 31 #[] w fun e w' => e = .returned (pv gx gy false) ∧ Below w.heap.size w w' := by
  rw [pv_g]
  go_enter Tryz.func31, Tryz.ntmps31
  obtain ⟨W0, hW0⟩ : ∃ W0, W0 = (w.alloc (.cells #[.int .u64 0, .int .u64 0, .int .u64 0, .int .u64 0, .int .u64 0, .int .u64 0, .int .u64 0, .int .u64 0, .bool false] 28)) := ⟨_, rfl⟩
  have Ao : Arr W0 (w.heap.size) 9 (zx 8) := by subst hW0; refine Arr.mk9p ?_ ?_ ?_ ?_ ?_ ?_ ?_ ?_ ?_ ?_ <;> simp [go_sem, px, sx, zx]
  have hB : Below w.heap.size w W0 := by subst hW0; go_grown
  subst hW0
  have hS := hB.size
  obtain ⟨co_0, co_1, co_2, co_3, co_4, co_5, co_6, co_7, co_8⟩ := Arr.c_zp Ao
  have zo := Ao.z
  go_wp2_with fail
  refine bodyPost_ret (v := .agg #[.int .u64 17627433388654248598, .int .u64 8575836109218198432, .int .u64 17923454489921339634, .int .u64 7716867327612699207, .int .u64 14678990851816772085, .int .u64 3156516839386865358, .int .u64 10297457778147434006, .int .u64 5756518291402817435, .bool false]) (by simp [results, Tryz.results31, go_sem, co_0, co_1, co_2, co_3, co_4, co_5, co_6, co_7, co_8]) rfl ⟨rfl, ?_⟩
  go_grown
set_option maxHeartbeats 8000000 in
theorem on_none (X Y : Int) (w : World)
    (C1 : ∀ W, Calls Tryz.prog 84 #[] W fun e w' => e = .returned (pv 0 0 true) ∧ Below W.heap.size W w') :
    Calls Tryz.prog 68 #[pv X Y true] w fun e w' => e = .returned (.bool (e4 X 0 && e4 Y 0)) ∧ Below w.heap.size w w' := by
  have q26 := eq26
  go_enter Tryz.func68, Tryz.ntmps68
  go_wp2_with fail
  obtain ⟨W0, hW0⟩ : ∃ W0, W0 = (w.alloc (.cells #[.int .u64 (lim (X) 0), .int .u64 (lim (X) 1), .int .u64 (lim (X) 2), .int .u64 (lim (X) 3), .int .u64 (lim (Y) 0), .int .u64 (lim (Y) 1), .int .u64 (lim (Y) 2), .int .u64 (lim (Y) 3), .bool true] 28)) := ⟨_, rfl⟩
  have Ap : Arr W0 (w.heap.size) 9 (px (X) (Y) true) := by subst hW0; refine Arr.mk9p ?_ ?_ ?_ ?_ ?_ ?_ ?_ ?_ ?_ ?_ <;> simp [go_sem, px, sx, zx]
  have hB : Below w.heap.size w W0 := by subst hW0; go_grown
  subst hW0
  obtain ⟨rp0, rp1, rp2, rp3, rp4, rp5, rp6, rp7, rp8⟩ := Arr.g_px Ap
  refine wp_region_quiet_below (by kernel_rfl) (by kernel_rfl) ?_
  repeat (go_big_quiet_step (first | (go_at_call 84; with_reducible first | exact Calls.regrown_of (C1 _))))
  refine wpQuiet_nil ?_
  intro w1 hw'
  obtain ⟨⟨dq, osq⟩, hw''⟩ := hw'
  have hb := below_of hw''
  clear hw''
  replace hB := Bel.call hB hb
  clear hb rp0 rp1 rp2 rp3 rp4 rp5 rp6 rp7 rp8 Ap
  go_wp2_with fail
  go_ret
  exact ⟨rfl, hB⟩
set_option maxHeartbeats 8000000 in
theorem on_x (X Y s h : Int) (w : World)
    (C1 : ∀ W, Calls Tryz.prog 103 #[nv X] W fun e w' => e = .returned (.bool false) ∧ Below W.heap.size W w') :
    Calls Tryz.prog 68 #[pv X Y false] w fun e w' => e = .returned (.bool (false)) ∧ Below w.heap.size w w' := by
  have q26 := eq26
  go_enter Tryz.func68, Tryz.ntmps68
  go_wp2_with fail
  obtain ⟨W0, hW0⟩ : ∃ W0, W0 = (w.alloc (.cells #[.int .u64 (lim (X) 0), .int .u64 (lim (X) 1), .int .u64 (lim (X) 2), .int .u64 (lim (X) 3), .int .u64 (lim (Y) 0), .int .u64 (lim (Y) 1), .int .u64 (lim (Y) 2), .int .u64 (lim (Y) 3), .bool false] 28)) := ⟨_, rfl⟩
  have Ap : Arr W0 (w.heap.size) 9 (px (X) (Y) false) := by subst hW0; refine Arr.mk9p ?_ ?_ ?_ ?_ ?_ ?_ ?_ ?_ ?_ ?_ <;> simp [go_sem, px, sx, zx]
  have hB : Below w.heap.size w W0 := by subst hW0; go_grown
  subst hW0
  obtain ⟨rp0, rp1, rp2, rp3, rp4, rp5, rp6, rp7, rp8⟩ := Arr.g_px Ap
  refine wp_region_quiet_below (by kernel_rfl) (by kernel_rfl) ?_
  repeat (go_big_quiet_step (first | (go_at_call 103; with_reducible first | exact Calls.regrown_of (C1 _))))
  refine wpQuiet_nil ?_
  intro w1 hw'
  obtain ⟨⟨dq, osq⟩, hw''⟩ := hw'
  have hb := below_of hw''
  clear hw''
  replace hB := Bel.call hB hb
  clear hb rp0 rp1 rp2 rp3 rp4 rp5 rp6 rp7 rp8 Ap
  go_wp2_with fail
  go_ret
  exact ⟨rfl, hB⟩
set_option maxHeartbeats 8000000 in
theorem on_y (X Y s h : Int) (w : World)
    (C1 : ∀ W, Calls Tryz.prog 103 #[nv X] W fun e w' => e = .returned (.bool true) ∧ Below W.heap.size W w')
    (C2 : ∀ W, Calls Tryz.prog 103 #[nv Y] W fun e w' => e = .returned (.bool false) ∧ Below W.heap.size W w') :
    Calls Tryz.prog 68 #[pv X Y false] w fun e w' => e = .returned (.bool (false)) ∧ Below w.heap.size w w' := by
  have q26 := eq26
  go_enter Tryz.func68, Tryz.ntmps68
  go_wp2_with fail
  obtain ⟨W0, hW0⟩ : ∃ W0, W0 = (w.alloc (.cells #[.int .u64 (lim (X) 0), .int .u64 (lim (X) 1), .int .u64 (lim (X) 2), .int .u64 (lim (X) 3), .int .u64 (lim (Y) 0), .int .u64 (lim (Y) 1), .int .u64 (lim (Y) 2), .int .u64 (lim (Y) 3), .bool false] 28)) := ⟨_, rfl⟩
  have Ap : Arr W0 (w.heap.size) 9 (px (X) (Y) false) := by subst hW0; refine Arr.mk9p ?_ ?_ ?_ ?_ ?_ ?_ ?_ ?_ ?_ ?_ <;> simp [go_sem, px, sx, zx]
  have hB : Below w.heap.size w W0 := by subst hW0; go_grown
  subst hW0
  obtain ⟨rp0, rp1, rp2, rp3, rp4, rp5, rp6, rp7, rp8⟩ := Arr.g_px Ap
  refine wp_region_quiet_below (by kernel_rfl) (by kernel_rfl) ?_
  repeat (go_big_quiet_step (first | (go_at_call 103; with_reducible first | exact Calls.regrown_of (C1 _) | exact Calls.regrown_of (C2 _))))
  refine wpQuiet_nil ?_
  intro w1 hw'
  obtain ⟨⟨dq, osq⟩, hw''⟩ := hw'
  have hb := below_of hw''
  clear hw''
  replace hB := Bel.call hB hb
  clear hb rp0 rp1 rp2 rp3 rp4 rp5 rp6 rp7 rp8 Ap
  go_wp2_with fail
  go_ret
  exact ⟨rfl, hB⟩
set_option maxHeartbeats 8000000 in
theorem on_in (X Y s h : Int) (w : World)
    (C1 : ∀ W, Calls Tryz.prog 103 #[nv X] W fun e w' => e = .returned (.bool true) ∧ Below W.heap.size W w')
    (C2 : ∀ W, Calls Tryz.prog 103 #[nv Y] W fun e w' => e = .returned (.bool true) ∧ Below W.heap.size W w')
    (C3 : ∀ W, Calls Tryz.prog 104 #[nv Y] W fun e w' => e = .returned (nv s) ∧ Below W.heap.size W w')
    (C4 : ∀ W, Calls Tryz.prog 105 #[nv X] W fun e w' => e = .returned (nv h) ∧ Below W.heap.size W w') :
    Calls Tryz.prog 68 #[pv X Y false] w fun e w' => e = .returned (.bool (e4 s h)) ∧ Below w.heap.size w w' := by
  have q26 := eq26
  go_enter Tryz.func68, Tryz.ntmps68
  go_wp2_with fail
  obtain ⟨W0, hW0⟩ : ∃ W0, W0 = (w.alloc (.cells #[.int .u64 (lim (X) 0), .int .u64 (lim (X) 1), .int .u64 (lim (X) 2), .int .u64 (lim (X) 3), .int .u64 (lim (Y) 0), .int .u64 (lim (Y) 1), .int .u64 (lim (Y) 2), .int .u64 (lim (Y) 3), .bool false] 28)) := ⟨_, rfl⟩
  have Ap : Arr W0 (w.heap.size) 9 (px (X) (Y) false) := by subst hW0; refine Arr.mk9p ?_ ?_ ?_ ?_ ?_ ?_ ?_ ?_ ?_ ?_ <;> simp [go_sem, px, sx, zx]
  have hB : Below w.heap.size w W0 := by subst hW0; go_grown
  subst hW0
  obtain ⟨rp0, rp1, rp2, rp3, rp4, rp5, rp6, rp7, rp8⟩ := Arr.g_px Ap
  refine wp_region_quiet_below (by kernel_rfl) (by kernel_rfl) ?_
  repeat (go_big_quiet_step (first | (go_at_call 103; with_reducible first | exact Calls.regrown_of (C1 _) | exact Calls.regrown_of (C2 _)) | (go_at_call 104; with_reducible first | exact Calls.regrown_of (C3 _)) | (go_at_call 105; with_reducible first | exact Calls.regrown_of (C4 _))))
  refine wpQuiet_nil ?_
  intro w1 hw'
  obtain ⟨⟨dq, osq⟩, hw''⟩ := hw'
  have hb := below_of hw''
  clear hw''
  replace hB := Bel.call hB hb
  clear hb rp0 rp1 rp2 rp3 rp4 rp5 rp6 rp7 rp8 Ap
  go_wp2_with fail
  go_ret
  exact ⟨rfl, hB⟩
end Go.Proofs.YtoolbnbfbegjaaaGreat
