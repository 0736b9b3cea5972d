/- The reference's Mul and Both. -/
import Derived.Test.YtoolbnbfbegjaaaGreatJ45
import Derived.Test.YtoolbnbfbegjaaaGreatJ29
set_option linter.all false
set_option maxRecDepth 100000
namespace Go.Proofs.YtoolbnbfbegjaaaGreat
open Go.RowKit Go.Sort
set_option maxHeartbeats 8000000 in
theorem rmul_pt_core (K X Y x y z a b c P Q : Int) (i n : Bool) (w : World)
    (C1 : ∀ W, Calls Tryz.prog 55 #[pv X Y i] W fun e w' => e = .returned (tv x y z) ∧ Below W.heap.size W w')
    (C2 : ∀ W, Calls Tryz.prog 54 #[nv K, tv x y z] W fun e w' => e = .returned (tv a b c) ∧ Below W.heap.size W w')
    (C3 : ∀ W, Calls Tryz.prog 53 #[tv a b c] W fun e w' => e = .returned (pv P Q n) ∧ Below W.heap.size W w') :
    Calls Tryz.prog 30 #[nv K, pv X Y i] w fun e w' => e = .returned (pv P Q n) ∧ Below w.heap.size w w' := by
  go_enter Tryz.func30, Tryz.ntmps30
  go_wp2_with fail
  obtain ⟨W0, hW0⟩ : ∃ W0, W0 = (((w.alloc (.cells #[.int .u64 (lim (K) 0), .int .u64 (lim (K) 1), .int .u64 (lim (K) 2), .int .u64 (lim (K) 3)] 24)).alloc (.cells #[.int .u64 (lim (X) 0), .int .u64 (lim (X) 1), .int .u64 (lim (X) 2), .int .u64 (lim (X) 3), .int .u64 (lim (Y) 0), .int .u64 (lim (Y) 1), .int .u64 (lim (Y) 2), .int .u64 (lim (Y) 3), .bool i] 28)).alloc (.cells #[.int .u64 0, .int .u64 0, .int .u64 0, .int .u64 0, .int .u64 0, .int .u64 0, .int .u64 0, .int .u64 0, .bool false] 28)) := ⟨_, rfl⟩
  have Ak : Arr W0 (w.heap.size) 4 (fun j => .int .u64 (lim (K) j)) := by subst hW0; refine Arr.mk4 ?_ ?_ ?_ ?_ ?_ ?_ ?_ ?_ <;> simp [go_sem]
  have Ap : Arr W0 (w.heap.size + 1) 9 (px (X) (Y) i) := by subst hW0; refine Arr.mk9p ?_ ?_ ?_ ?_ ?_ ?_ ?_ ?_ ?_ ?_ <;> simp [go_sem, px, sx, zx, trx, trz]
  have Ao : Arr W0 (w.heap.size + 1 + 1) 9 (zx 8) := by subst hW0; refine Arr.mk9p ?_ ?_ ?_ ?_ ?_ ?_ ?_ ?_ ?_ ?_ <;> simp [go_sem, px, sx, zx, trx, trz]
  have hB : Below w.heap.size w W0 := by subst hW0; go_grown
  subst hW0
  obtain ⟨rk0, rk1, rk2, rk3⟩ := Arr.g4 Ak
  obtain ⟨rp0, rp1, rp2, rp3, rp4, rp5, rp6, rp7, rp8⟩ := Arr.g_px Ap
  refine wp_region_below_tail 5 (by kernel_rfl) (by kernel_rfl) ?_
  simp only [List.take_succ_cons, List.take_zero, List.drop_succ_cons, List.drop_zero]
  repeat (go_big_quiet_step (first | (go_at_call 55; with_reducible first | exact Calls.regrown_of (C1 _)) | (go_at_call 54; with_reducible first | exact Calls.regrown_of (C2 _)) | (go_at_call 53; with_reducible first | exact Calls.regrown_of (C3 _))))
  refine wpQuiet_nil ?_
  intro w1 hw'
  obtain ⟨⟨dq, osq⟩, hw''⟩ := hw'
  have hb := below_of hw''
  clear hw''
  replace Ao := Arr.to' Ao hb
  replace hB := Bel.call hB hb
  clear hb rk0 rk1 rk2 rk3 rp0 rp1 rp2 rp3 rp4 rp5 rp6 rp7 rp8 Ak Ap
  have hS := hB.size
  obtain ⟨co_0, co_1, co_2, co_3, co_4, co_5, co_6, co_7, co_8⟩ := Arr.c_zp Ao
  have zo := Ao.z
  go_wp2_with fail
  refine bodyPost_ret (v := pv P Q n) (by simp [results, Tryz.results30, go_sem, co_0, co_1, co_2, co_3, co_4, co_5, co_6, co_7, co_8]) rfl ⟨rfl, ?_⟩
  go_grown
set_option maxHeartbeats 8000000 in
theorem rboth_core (J K X Y x1 y1 z1 a1 b1 c1 x y z a b c a2 b2 c2 P Q : Int) (i n : Bool) (w : World)
    (C1 : ∀ W, Calls Tryz.prog 31 #[] W fun e w' => e = .returned (pv gx gy false) ∧ Below W.heap.size W w')
    (C2 : ∀ W, Calls Tryz.prog 55 #[pv gx gy false] W fun e w' => e = .returned (tv x1 y1 z1) ∧ Below W.heap.size W w')
    (C3 : ∀ W, Calls Tryz.prog 54 #[nv J, tv x1 y1 z1] W fun e w' => e = .returned (tv a1 b1 c1) ∧ Below W.heap.size W w')
    (C4 : ∀ W, Calls Tryz.prog 55 #[pv X Y i] W fun e w' => e = .returned (tv x y z) ∧ Below W.heap.size W w')
    (C5 : ∀ W, Calls Tryz.prog 54 #[nv K, tv x y z] W fun e w' => e = .returned (tv a b c) ∧ Below W.heap.size W w')
    (C6 : ∀ W, Calls Tryz.prog 76 #[tv a1 b1 c1, tv a b c] W fun e w' => e = .returned (tv a2 b2 c2) ∧ Below W.heap.size W w')
    (C7 : ∀ W, Calls Tryz.prog 53 #[tv a2 b2 c2] W fun e w' => e = .returned (pv P Q n) ∧ Below W.heap.size W w') :
    Calls Tryz.prog 43 #[nv J, nv K, pv X Y i] w fun e w' => e = .returned (pv P Q n) ∧ Below w.heap.size w w' := by
  go_enter Tryz.func43, Tryz.ntmps43
  go_wp2_with fail
  obtain ⟨W0, hW0⟩ : ∃ W0, W0 = ((((w.alloc (.cells #[.int .u64 (lim (J) 0), .int .u64 (lim (J) 1), .int .u64 (lim (J) 2), .int .u64 (lim (J) 3)] 24)).alloc (.cells #[.int .u64 (lim (K) 0), .int .u64 (lim (K) 1), .int .u64 (lim (K) 2), .int .u64 (lim (K) 3)] 24)).alloc (.cells #[.int .u64 (lim (X) 0), .int .u64 (lim (X) 1), .int .u64 (lim (X) 2), .int .u64 (lim (X) 3), .int .u64 (lim (Y) 0), .int .u64 (lim (Y) 1), .int .u64 (lim (Y) 2), .int .u64 (lim (Y) 3), .bool i] 28)).alloc (.cells #[.int .u64 0, .int .u64 0, .int .u64 0, .int .u64 0, .int .u64 0, .int .u64 0, .int .u64 0, .int .u64 0, .bool false] 28)) := ⟨_, rfl⟩
  have Aj : Arr W0 (w.heap.size) 4 (fun j => .int .u64 (lim (J) j)) := by subst hW0; refine Arr.mk4 ?_ ?_ ?_ ?_ ?_ ?_ ?_ ?_ <;> simp [go_sem]
  have Ak : Arr W0 (w.heap.size + 1) 4 (fun j => .int .u64 (lim (K) j)) := by subst hW0; refine Arr.mk4 ?_ ?_ ?_ ?_ ?_ ?_ ?_ ?_ <;> simp [go_sem]
  have Ap : Arr W0 (w.heap.size + 1 + 1) 9 (px (X) (Y) i) := by subst hW0; refine Arr.mk9p ?_ ?_ ?_ ?_ ?_ ?_ ?_ ?_ ?_ ?_ <;> simp [go_sem, px, sx, zx, trx, trz]
  have Ao : Arr W0 (w.heap.size + 1 + 1 + 1) 9 (zx 8) := by subst hW0; refine Arr.mk9p ?_ ?_ ?_ ?_ ?_ ?_ ?_ ?_ ?_ ?_ <;> simp [go_sem, px, sx, zx, trx, trz]
  have hB : Below w.heap.size w W0 := by subst hW0; go_grown
  subst hW0
  obtain ⟨rj0, rj1, rj2, rj3⟩ := Arr.g4 Aj
  obtain ⟨rk0, rk1, rk2, rk3⟩ := Arr.g4 Ak
  obtain ⟨rp0, rp1, rp2, rp3, rp4, rp5, rp6, rp7, rp8⟩ := Arr.g_px Ap
  refine wp_region_below_tail 10 (by kernel_rfl) (by kernel_rfl) ?_
  simp only [List.take_succ_cons, List.take_zero, List.drop_succ_cons, List.drop_zero]
  repeat (go_big_quiet_step (first | (go_at_call 31; with_reducible first | exact Calls.regrown_of (C1 _)) | (go_at_call 55; with_reducible first | exact Calls.regrown_of (C2 _) | exact Calls.regrown_of (C4 _)) | (go_at_call 54; with_reducible first | exact Calls.regrown_of (C3 _) | exact Calls.regrown_of (C5 _)) | (go_at_call 76; with_reducible first | exact Calls.regrown_of (C6 _)) | (go_at_call 53; with_reducible first | exact Calls.regrown_of (C7 _))))
  refine wpQuiet_nil ?_
  intro w1 hw'
  obtain ⟨⟨dq, osq⟩, hw''⟩ := hw'
  have hb := below_of hw''
  clear hw''
  replace Ao := Arr.to' Ao hb
  replace hB := Bel.call hB hb
  clear hb rj0 rj1 rj2 rj3 rk0 rk1 rk2 rk3 rp0 rp1 rp2 rp3 rp4 rp5 rp6 rp7 rp8 Aj Ak Ap
  have hS := hB.size
  obtain ⟨co_0, co_1, co_2, co_3, co_4, co_5, co_6, co_7, co_8⟩ := Arr.c_zp Ao
  have zo := Ao.z
  go_wp2_with fail
  refine bodyPost_ret (v := pv P Q n) (by simp [results, Tryz.results43, go_sem, co_0, co_1, co_2, co_3, co_4, co_5, co_6, co_7, co_8]) rfl ⟨rfl, ?_⟩
  go_grown
end Go.Proofs.YtoolbnbfbegjaaaGreat
