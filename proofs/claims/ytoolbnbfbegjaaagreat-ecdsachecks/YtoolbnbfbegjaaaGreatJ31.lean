/- Points with a third coordinate: what is none, what a plain point is, doubling. -/
import Derived.Test.YtoolbnbfbegjaaaGreatJ21
import Derived.Test.YtoolbnbfbegjaaaGreatJ23
set_option linter.all false
set_option maxRecDepth 100000
namespace Go.Proofs.YtoolbnbfbegjaaaGreat
open Go.RowKit Go.Sort
theorem nv_one : nv 1 = .agg #[.int .u64 1, .int .u64 0, .int .u64 0, .int .u64 0] := nv_low _ (by decide) (by decide)
theorem lim_one : lim 1 0 = 1 ∧ lim 1 1 = 0 ∧ lim 1 2 = 0 ∧ lim 1 3 = 0 := by decide
theorem l10 : lim 1 0 = 1 := lim_one.1
theorem l11 : lim 1 1 = 0 := lim_one.2.1
theorem l12 : lim 1 2 = 0 := lim_one.2.2.1
theorem l13 : lim 1 3 = 0 := lim_one.2.2.2
set_option maxHeartbeats 8000000 in
theorem none_any (w : World) : Calls Tryz.prog 84 #[] w fun e w' => e = .returned (pv 0 0 true) ∧ Below w.heap.size w w' := by
  go_enter Tryz.func84, Tryz.ntmps84
  obtain ⟨W0, hW0⟩ : ∃ W0, W0 = (w.alloc (.cells #[.int .u64 0, .int .u64 0, .int .u64 0, .int .u64 0, .int .u64 0, .int .u64 0, .int .u64 0, .int .u64 0, .bool false] 28)) := ⟨_, rfl⟩
  have Az : Arr W0 (w.heap.size) 9 (zx 8) := by subst hW0; refine Arr.mk9p ?_ ?_ ?_ ?_ ?_ ?_ ?_ ?_ ?_ ?_ <;> simp [go_sem, px, sx, zx]
  have hB : Below w.heap.size w W0 := by subst hW0; go_grown
  subst hW0
  have hS := hB.size
  obtain ⟨cz_0, cz_1, cz_2, cz_3, cz_4, cz_5, cz_6, cz_7, cz_8⟩ := Arr.c_zp Az
  have zz := Az.z
  go_wp2_with fail
  refine bodyPost_ret (v := pv 0 0 true) (by simp [results, Tryz.results84, go_sem, cz_0, cz_1, cz_2, cz_3, cz_4, cz_5, cz_6, cz_7, cz_8, lim_zero]) rfl ⟨rfl, ?_⟩
  go_grown
set_option maxHeartbeats 8000000 in
theorem scale_any (X Y : Int) (i : Bool) (w : World) : Calls Tryz.prog 83 #[pv X Y i] w fun e w' => e = .returned (jv X Y i 1) ∧ Below w.heap.size w w' := by
  go_enter Tryz.func83, Tryz.ntmps83
  obtain ⟨W0, hW0⟩ : ∃ W0, W0 = ((w.alloc (.cells #[.int .u64 (lim (X) 0), .int .u64 (lim (X) 1), .int .u64 (lim (X) 2), .int .u64 (lim (X) 3), .int .u64 (lim (Y) 0), .int .u64 (lim (Y) 1), .int .u64 (lim (Y) 2), .int .u64 (lim (Y) 3), .bool i] 28)).alloc (.cells #[.int .u64 0, .int .u64 0, .int .u64 0, .int .u64 0, .int .u64 0, .int .u64 0, .int .u64 0, .int .u64 0, .bool false, .int .u64 0, .int .u64 0, .int .u64 0, .int .u64 0] 99)) := ⟨_, rfl⟩
  have Ap : Arr W0 (w.heap.size) 9 (px (X) (Y) i) := by subst hW0; refine Arr.mk9p ?_ ?_ ?_ ?_ ?_ ?_ ?_ ?_ ?_ ?_ <;> simp [go_sem, px, sx, zx]
  have Az : Arr W0 (w.heap.size + 1) 13 (zx 8) := by subst hW0; refine Arr.mk13 ?_ ?_ ?_ ?_ ?_ ?_ ?_ ?_ ?_ ?_ ?_ ?_ ?_ ?_ <;> simp [go_sem, px, sx, zx]
  have hB : Below w.heap.size w W0 := by subst hW0; go_grown
  subst hW0
  obtain ⟨cp_0, cp_1, cp_2, cp_3, cp_4, cp_5, cp_6, cp_7, cp_8⟩ := Arr.c_px Ap
  have hS := hB.size
  obtain ⟨cz_0, cz_1, cz_2, cz_3, cz_4, cz_5, cz_6, cz_7, cz_8, cz_9, cz_10, cz_11, cz_12⟩ := Arr.c_zs Az
  have zz := Az.z
  go_wp2_with fail
  refine bodyPost_ret (v := jv X Y i 1) (by simp [results, Tryz.results83, go_sem, cz_0, cz_1, cz_2, cz_3, cz_4, cz_5, cz_6, cz_7, cz_8, cz_9, cz_10, cz_11, cz_12, l10, l11, l12, l13]) rfl ⟨rfl, ?_⟩
  go_grown
def dr (X Y Z : Int) : Int := fa (fa (fm (fs X (fm Z Z)) (fa X (fm Z Z))) (fm (fs X (fm Z Z)) (fa X (fm Z Z)))) (fm (fs X (fm Z Z)) (fa X (fm Z Z)))
def ds (X Y Z : Int) : Int := fa (fa (fm X (fm Y Y)) (fm X (fm Y Y))) (fa (fm X (fm Y Y)) (fm X (fm Y Y)))
def dx (X Y Z : Int) : Int := fs (fm (dr X Y Z) (dr X Y Z)) (fa (ds X Y Z) (ds X Y Z))
def dq (Y : Int) : Int := fa (fm (fa (fm Y Y) (fm Y Y)) (fa (fm Y Y) (fm Y Y))) (fm (fa (fm Y Y) (fm Y Y)) (fa (fm Y Y) (fm Y Y)))
def dy (X Y Z : Int) : Int := fs (fm (dr X Y Z) (fs (ds X Y Z) (dx X Y Z))) (dq Y)
def dz (Y Z : Int) : Int := fa (fm Y Z) (fm Y Z)
theorem inn_dr (X Y Z : Int) : Inn (dr X Y Z) := inn_fa _ _
theorem inn_ds (X Y Z : Int) : Inn (ds X Y Z) := inn_fa _ _
theorem inn_dx (X Y Z : Int) : Inn (dx X Y Z) := inn_fs _ _
theorem inn_dq (Y : Int) : Inn (dq Y) := inn_fa _ _
set_option maxHeartbeats 8000000 in
theorem dbl_none (X Y Z : Int) (w : World) : Calls Tryz.prog 86 #[jv X Y true Z] w fun e w' => e = .returned (jv X Y true Z) ∧ Below w.heap.size w w' := by
  go_enter Tryz.func86, Tryz.ntmps86
  obtain ⟨W0, hW0⟩ : ∃ W0, W0 = ((w.alloc (.cells #[.int .u64 (lim (X) 0), .int .u64 (lim (X) 1), .int .u64 (lim (X) 2), .int .u64 (lim (X) 3), .int .u64 (lim (Y) 0), .int .u64 (lim (Y) 1), .int .u64 (lim (Y) 2), .int .u64 (lim (Y) 3), .bool true, .int .u64 (lim (Z) 0), .int .u64 (lim (Z) 1), .int .u64 (lim (Z) 2), .int .u64 (lim (Z) 3)] 99)).alloc (.cells #[.int .u64 0, .int .u64 0, .int .u64 0, .int .u64 0, .int .u64 0, .int .u64 0, .int .u64 0, .int .u64 0, .bool false, .int .u64 0, .int .u64 0, .int .u64 0, .int .u64 0] 99)) := ⟨_, rfl⟩
  have Ap : Arr W0 (w.heap.size) 13 (sx (X) (Y) true (Z)) := by subst hW0; refine Arr.mk13 ?_ ?_ ?_ ?_ ?_ ?_ ?_ ?_ ?_ ?_ ?_ ?_ ?_ ?_ <;> simp [go_sem, px, sx, zx]
  have Az : Arr W0 (w.heap.size + 1) 13 (zx 8) := by subst hW0; refine Arr.mk13 ?_ ?_ ?_ ?_ ?_ ?_ ?_ ?_ ?_ ?_ ?_ ?_ ?_ ?_ <;> simp [go_sem, px, sx, zx]
  have hB : Below w.heap.size w W0 := by subst hW0; go_grown
  subst hW0
  obtain ⟨cp_0, cp_1, cp_2, cp_3, cp_4, cp_5, cp_6, cp_7, cp_8, cp_9, cp_10, cp_11, cp_12⟩ := Arr.c_sx Ap
  have hS := hB.size
  obtain ⟨cz_0, cz_1, cz_2, cz_3, cz_4, cz_5, cz_6, cz_7, cz_8, cz_9, cz_10, cz_11, cz_12⟩ := Arr.c_zs Az
  have zz := Az.z
  go_wp2_with fail
  refine bodyPost_ret (v := jv X Y true Z) (by simp [results, Tryz.results86, go_sem, cz_0, cz_1, cz_2, cz_3, cz_4, cz_5, cz_6, cz_7, cz_8, cz_9, cz_10, cz_11, cz_12]) rfl ⟨rfl, ?_⟩
  go_grown
set_option maxHeartbeats 8000000 in
theorem dbl_core (X Y Z z2 y2 a1 a2 a3 r b1 b2 s c1 c2 x d1 d2 e1 e2 e3 y g1 z : Int) (w : World)
    (C1 : ∀ W, Calls Tryz.prog 104 #[nv Z] W fun e w' => e = .returned (nv z2) ∧ Below W.heap.size W w')
    (C2 : ∀ W, Calls Tryz.prog 104 #[nv Y] W fun e w' => e = .returned (nv y2) ∧ Below W.heap.size W w')
    (C3 : ∀ W, Calls Tryz.prog 112 #[nv X, nv z2] W fun e w' => e = .returned (nv a1) ∧ Below W.heap.size W w')
    (C4 : ∀ W, Calls Tryz.prog 113 #[nv X, nv z2] W fun e w' => e = .returned (nv a2) ∧ Below W.heap.size W w')
    (C5 : ∀ W, Calls Tryz.prog 111 #[nv a1, nv a2] W fun e w' => e = .returned (nv a3) ∧ Below W.heap.size W w')
    (C6 : ∀ W, Calls Tryz.prog 110 #[nv a3] W fun e w' => e = .returned (nv r) ∧ Below W.heap.size W w')
    (C7 : ∀ W, Calls Tryz.prog 111 #[nv X, nv y2] W fun e w' => e = .returned (nv b1) ∧ Below W.heap.size W w')
    (C8 : ∀ W, Calls Tryz.prog 114 #[nv b1] W fun e w' => e = .returned (nv b2) ∧ Below W.heap.size W w')
    (C9 : ∀ W, Calls Tryz.prog 114 #[nv b2] W fun e w' => e = .returned (nv s) ∧ Below W.heap.size W w')
    (C10 : ∀ W, Calls Tryz.prog 104 #[nv r] W fun e w' => e = .returned (nv c1) ∧ Below W.heap.size W w')
    (C11 : ∀ W, Calls Tryz.prog 114 #[nv s] W fun e w' => e = .returned (nv c2) ∧ Below W.heap.size W w')
    (C12 : ∀ W, Calls Tryz.prog 112 #[nv c1, nv c2] W fun e w' => e = .returned (nv x) ∧ Below W.heap.size W w')
    (C13 : ∀ W, Calls Tryz.prog 112 #[nv s, nv x] W fun e w' => e = .returned (nv d1) ∧ Below W.heap.size W w')
    (C14 : ∀ W, Calls Tryz.prog 111 #[nv r, nv d1] W fun e w' => e = .returned (nv d2) ∧ Below W.heap.size W w')
    (C15 : ∀ W, Calls Tryz.prog 114 #[nv y2] W fun e w' => e = .returned (nv e1) ∧ Below W.heap.size W w')
    (C16 : ∀ W, Calls Tryz.prog 104 #[nv e1] W fun e w' => e = .returned (nv e2) ∧ Below W.heap.size W w')
    (C17 : ∀ W, Calls Tryz.prog 114 #[nv e2] W fun e w' => e = .returned (nv e3) ∧ Below W.heap.size W w')
    (C18 : ∀ W, Calls Tryz.prog 112 #[nv d2, nv e3] W fun e w' => e = .returned (nv y) ∧ Below W.heap.size W w')
    (C19 : ∀ W, Calls Tryz.prog 111 #[nv Y, nv Z] W fun e w' => e = .returned (nv g1) ∧ Below W.heap.size W w')
    (C20 : ∀ W, Calls Tryz.prog 114 #[nv g1] W fun e w' => e = .returned (nv z) ∧ Below W.heap.size W w') :
    Calls Tryz.prog 86 #[jv X Y false Z] w fun e w' => e = .returned (jv x y false z) ∧ Below w.heap.size w w' := by
  go_enter Tryz.func86, Tryz.ntmps86
  go_wp2_with fail
  obtain ⟨W0, hW0⟩ : ∃ W0, W0 = ((w.alloc (.cells #[.int .u64 (lim (X) 0), .int .u64 (lim (X) 1), .int .u64 (lim (X) 2), .int .u64 (lim (X) 3), .int .u64 (lim (Y) 0), .int .u64 (lim (Y) 1), .int .u64 (lim (Y) 2), .int .u64 (lim (Y) 3), .bool false, .int .u64 (lim (Z) 0), .int .u64 (lim (Z) 1), .int .u64 (lim (Z) 2), .int .u64 (lim (Z) 3)] 99)).alloc (.cells #[.int .u64 0, .int .u64 0, .int .u64 0, .int .u64 0, .int .u64 0, .int .u64 0, .int .u64 0, .int .u64 0, .bool false, .int .u64 0, .int .u64 0, .int .u64 0, .int .u64 0] 99)) := ⟨_, rfl⟩
  have Ap : Arr W0 (w.heap.size) 13 (sx (X) (Y) false (Z)) := by subst hW0; refine Arr.mk13 ?_ ?_ ?_ ?_ ?_ ?_ ?_ ?_ ?_ ?_ ?_ ?_ ?_ ?_ <;> simp [go_sem, px, sx, zx]
  have Ao : Arr W0 (w.heap.size + 1) 13 (zx 8) := by subst hW0; refine Arr.mk13 ?_ ?_ ?_ ?_ ?_ ?_ ?_ ?_ ?_ ?_ ?_ ?_ ?_ ?_ <;> simp [go_sem, px, sx, zx]
  have hB : Below w.heap.size w W0 := by subst hW0; go_grown
  subst hW0
  apply wp_region_alloc2_tail 7 (by kernel_rfl) (by kernel_rfl) (by kernel_rfl) (.cells #[.int .u64 0, .int .u64 0, .int .u64 0, .int .u64 0] 24) (.cells #[.int .u64 0, .int .u64 0, .int .u64 0, .int .u64 0] 24) _ _ rfl rfl (fun _ _ => by simp [go_sem]) (fun _ _ => by simp [go_sem])
  · intro W hW
    obtain ⟨rp0, rp1, rp2, rp3, rp4, rp5, rp6, rp7, rp8, rp9, rp10, rp11, rp12⟩ := Arr.g_sx (Arr.to' Ap hW)
    simp only [List.take_succ_cons, List.take_zero]
    repeat (go_big_quiet_step (first | (go_at_call 104; with_reducible first | exact Calls.regrown_of (C1 _) | exact Calls.regrown_of (C2 _) | exact Calls.regrown_of (C10 _) | exact Calls.regrown_of (C16 _)) | (go_at_call 112; with_reducible first | exact Calls.regrown_of (C3 _) | exact Calls.regrown_of (C12 _) | exact Calls.regrown_of (C13 _) | exact Calls.regrown_of (C18 _)) | (go_at_call 113; with_reducible first | exact Calls.regrown_of (C4 _)) | (go_at_call 111; with_reducible first | exact Calls.regrown_of (C5 _) | exact Calls.regrown_of (C7 _) | exact Calls.regrown_of (C14 _) | exact Calls.regrown_of (C19 _)) | (go_at_call 110; with_reducible first | exact Calls.regrown_of (C6 _)) | (go_at_call 114; with_reducible first | exact Calls.regrown_of (C8 _) | exact Calls.regrown_of (C9 _) | exact Calls.regrown_of (C11 _) | exact Calls.regrown_of (C15 _) | exact Calls.regrown_of (C17 _) | exact Calls.regrown_of (C20 _))))
    exact wpQuiet_nil rfl
  · intro u1 u2 u3 hb1 hb2 hb3
    simp only [List.drop_succ_cons, List.drop_zero, Act.put, List.setIfInBounds_toArray, List.set_cons_succ, List.set_cons_zero]
    have Ep := Arr.to' Ap hb1
    have lp_u1 := Ep.lt
    have Gp := Arr.to' (Arr.al' Ep _) hb2
    have lp_u2 := Gp.lt
    have Bp := Arr.to' (Arr.al' Gp _) hb3
    have Eo := Arr.to' Ao hb1
    have lo_u1 := Eo.lt
    have Go := Arr.to' (Arr.al' Eo _) hb2
    have lo_u2 := Go.lt
    have Bo := Arr.to' (Arr.al' Go _) hb3
    have Ff := (Arr.mk4 (w := (u1.alloc (.cells #[.int .u64 0, .int .u64 0, .int .u64 0, .int .u64 0] 24))) (f := fun _ => .int .u64 0) (b := u1.heap.size) (by simp [go_sem]) (by simp [go_sem]) (by simp [go_sem]) (by simp [go_sem]) (by simp [go_sem]) (by simp [go_sem]) (by simp [go_sem]) (by simp [go_sem])).below hb2 (by go_size)
    have lff := Ff.lt
    have Bf := Arr.to' (Arr.al' Ff _) hb3
    have Bs := (Arr.mk4 (w := (u2.alloc (.cells #[.int .u64 0, .int .u64 0, .int .u64 0, .int .u64 0] 24))) (f := fun _ => .int .u64 0) (b := u2.heap.size) (by simp [go_sem]) (by simp [go_sem]) (by simp [go_sem]) (by simp [go_sem]) (by simp [go_sem]) (by simp [go_sem]) (by simp [go_sem]) (by simp [go_sem])).below hb3 (by go_size)
    have lB_u1 := (Bel.call hB hb1).size
    have hB1 := Bel.call (Bel.al (Bel.call hB hb1) _) hb2
    have lB_u2 := hB1.size
    have hB' := Bel.call (Bel.al hB1 _) hb3
    clear hb1 hb2 hb3 hB1 Ff Ep Eo Gp Go Ap Ao hB
    have Ap := Bp
    have Ao := Bo
    have As := Bf
    have Au := Bs
    have hB := hB'
    clear Bp Bo Bf Bs hB'
    have cs := As.c
    have zs := As.z
    have cu := Au.c
    have zu := Au.z
    have Bp := Arr.st4o (b' := u1.heap.size) Ap (by have := Ap.lt; have := As.lt; omega) (z2)
    have Bo := Arr.st4o (b' := u1.heap.size) Ao (by have := Ao.lt; have := As.lt; omega) (z2)
    have Bs := Arr.st4 As (z2)
    have Bu := Arr.st4o (b' := u1.heap.size) Au (by have := Au.lt; have := As.lt; omega) (z2)
    have hB' := Bel.st4 hB (b := u1.heap.size) (by have := hB.size; omega) (z2)
    clear Ap Ao As Au hB
    have Ap := Bp
    have Ao := Bo
    have As := Bs
    have Au := Bu
    have hB := hB'
    clear Bp Bo Bs Bu hB'
    have Bp := Arr.st4o (b' := u2.heap.size) Ap (by have := Ap.lt; have := Au.lt; omega) (y2)
    have Bo := Arr.st4o (b' := u2.heap.size) Ao (by have := Ao.lt; have := Au.lt; omega) (y2)
    have Bs := Arr.st4o (b' := u2.heap.size) As (by have := As.lt; have := Au.lt; omega) (y2)
    have Bu := Arr.st4 Au (y2)
    have hB' := Bel.st4 hB (b := u2.heap.size) (by have := hB.size; omega) (y2)
    clear Ap Ao As Au hB
    have Ap := Bp
    have Ao := Bo
    have As := Bs
    have Au := Bu
    have hB := hB'
    clear Bp Bo Bs Bu hB'
    go_wp2_with fail
    apply wp_region_alloc_tail 12 (by kernel_rfl) (by kernel_rfl) (by kernel_rfl) (.cells #[.int .u64 0, .int .u64 0, .int .u64 0, .int .u64 0] 24) _ rfl (fun _ _ => by simp [go_sem])
    · intro W hW
      obtain ⟨rp0, rp1, rp2, rp3, rp4, rp5, rp6, rp7, rp8, rp9, rp10, rp11, rp12⟩ := Arr.g_sx (Arr.to' Ap hW)
      obtain ⟨rs0, rs1, rs2, rs3⟩ := Arr.g4 (Arr.to' As hW)
      simp only [List.take_succ_cons, List.take_zero]
      repeat (go_big_quiet_step (first | (go_at_call 104; with_reducible first | exact Calls.regrown_of (C1 _) | exact Calls.regrown_of (C2 _) | exact Calls.regrown_of (C10 _) | exact Calls.regrown_of (C16 _)) | (go_at_call 112; with_reducible first | exact Calls.regrown_of (C3 _) | exact Calls.regrown_of (C12 _) | exact Calls.regrown_of (C13 _) | exact Calls.regrown_of (C18 _)) | (go_at_call 113; with_reducible first | exact Calls.regrown_of (C4 _)) | (go_at_call 111; with_reducible first | exact Calls.regrown_of (C5 _) | exact Calls.regrown_of (C7 _) | exact Calls.regrown_of (C14 _) | exact Calls.regrown_of (C19 _)) | (go_at_call 110; with_reducible first | exact Calls.regrown_of (C6 _)) | (go_at_call 114; with_reducible first | exact Calls.regrown_of (C8 _) | exact Calls.regrown_of (C9 _) | exact Calls.regrown_of (C11 _) | exact Calls.regrown_of (C15 _) | exact Calls.regrown_of (C17 _) | exact Calls.regrown_of (C20 _))))
      exact wpQuiet_nil rfl
    intro v2 w12 hb1 hb2
    simp only [List.drop_succ_cons, List.drop_zero, Act.put, List.setIfInBounds_toArray, List.set_cons_succ, List.set_cons_zero]
    have Ep := Arr.to' Ap hb1
    have lp_v2 := Ep.lt
    have Bp := Arr.to' (Arr.al' Ep _) hb2
    have Eo := Arr.to' Ao hb1
    have lo_v2 := Eo.lt
    have Bo := Arr.to' (Arr.al' Eo _) hb2
    have Es := Arr.to' As hb1
    have ls_v2 := Es.lt
    have Bs := Arr.to' (Arr.al' Es _) hb2
    have Eu := Arr.to' Au hb1
    have lu_v2 := Eu.lt
    have Bu := Arr.to' (Arr.al' Eu _) hb2
    have Br := (Arr.mk4 (w := (v2.alloc (.cells #[.int .u64 0, .int .u64 0, .int .u64 0, .int .u64 0] 24))) (f := fun _ => .int .u64 0) (b := v2.heap.size) (by simp [go_sem]) (by simp [go_sem]) (by simp [go_sem]) (by simp [go_sem]) (by simp [go_sem]) (by simp [go_sem]) (by simp [go_sem]) (by simp [go_sem])).below hb2 (by go_size)
    have lB_v2 := (Bel.call hB hb1).size
    have hB' := Bel.call (Bel.al (Bel.call hB hb1) _) hb2
    clear hb1 hb2 Ep Eo Es Eu Ap Ao As Au hB
    have Ap := Bp
    have Ao := Bo
    have As := Bs
    have Au := Bu
    have Ar := Br
    have hB := hB'
    clear Bp Bo Bs Bu Br hB'
    have cr := Ar.c
    have zr := Ar.z
    have Bp := Arr.st4o (b' := v2.heap.size) Ap (by have := Ap.lt; have := Ar.lt; omega) (r)
    have Bo := Arr.st4o (b' := v2.heap.size) Ao (by have := Ao.lt; have := Ar.lt; omega) (r)
    have Bs := Arr.st4o (b' := v2.heap.size) As (by have := As.lt; have := Ar.lt; omega) (r)
    have Bu := Arr.st4o (b' := v2.heap.size) Au (by have := Au.lt; have := Ar.lt; omega) (r)
    have Br := Arr.st4 Ar (r)
    have hB' := Bel.st4 hB (b := v2.heap.size) (by have := hB.size; omega) (r)
    clear Ap Ao As Au Ar hB
    have Ap := Bp
    have Ao := Bo
    have As := Bs
    have Au := Bu
    have Ar := Br
    have hB := hB'
    clear Bp Bo Bs Bu Br hB'
    obtain ⟨cp_0, cp_1, cp_2, cp_3, cp_4, cp_5, cp_6, cp_7, cp_8, cp_9, cp_10, cp_11, cp_12⟩ := Arr.c_sx Ap
    have cu := Au.c
    go_wp2_with fail
    refine (C7 _).mono ?_
    rintro e w13 ⟨rfl, hb⟩
    replace Ap := Arr.to' Ap hb
    replace Ao := Arr.to' Ao hb
    replace As := Arr.to' As hb
    replace Au := Arr.to' Au hb
    replace Ar := Arr.to' Ar hb
    replace hB := Bel.call hB hb
    clear hb cr zr cp_0 cp_1 cp_2 cp_3 cp_4 cp_5 cp_6 cp_7 cp_8 cp_9 cp_10 cp_11 cp_12 cu
    go_wp2_with fail
    refine (C8 _).mono ?_
    rintro e w14 ⟨rfl, hb⟩
    replace Ap := Arr.to' Ap hb
    replace Ao := Arr.to' Ao hb
    replace As := Arr.to' As hb
    replace Au := Arr.to' Au hb
    replace Ar := Arr.to' Ar hb
    replace hB := Bel.call hB hb
    clear hb
    go_wp2_with fail
    refine (C9 _).mono ?_
    rintro e w15 ⟨rfl, hb⟩
    replace Ap := Arr.to' Ap hb
    replace Ao := Arr.to' Ao hb
    replace As := Arr.to' As hb
    replace Au := Arr.to' Au hb
    replace Ar := Arr.to' Ar hb
    replace hB := Bel.call hB hb
    clear hb
    have lp_2 := Ap.lt
    have lo_2 := Ao.lt
    have ls_2 := As.lt
    have lu_2 := Au.lt
    have lr_2 := Ar.lt
    have lB_2 := hB.size
    replace Ap := (Arr.al' Ap (.cells #[.int .u64 (lim (s) 0), .int .u64 (lim (s) 1), .int .u64 (lim (s) 2), .int .u64 (lim (s) 3)] 24))
    replace Ao := (Arr.al' Ao (.cells #[.int .u64 (lim (s) 0), .int .u64 (lim (s) 1), .int .u64 (lim (s) 2), .int .u64 (lim (s) 3)] 24))
    replace As := (Arr.al' As (.cells #[.int .u64 (lim (s) 0), .int .u64 (lim (s) 1), .int .u64 (lim (s) 2), .int .u64 (lim (s) 3)] 24))
    replace Au := (Arr.al' Au (.cells #[.int .u64 (lim (s) 0), .int .u64 (lim (s) 1), .int .u64 (lim (s) 2), .int .u64 (lim (s) 3)] 24))
    replace Ar := (Arr.al' Ar (.cells #[.int .u64 (lim (s) 0), .int .u64 (lim (s) 1), .int .u64 (lim (s) 2), .int .u64 (lim (s) 3)] 24))
    have At : Arr ((w15.alloc (.cells #[.int .u64 (lim (s) 0), .int .u64 (lim (s) 1), .int .u64 (lim (s) 2), .int .u64 (lim (s) 3)] 24))) (w15.heap.size) 4 (fun j => .int .u64 (lim (s) j)) := by refine Arr.mk4 ?_ ?_ ?_ ?_ ?_ ?_ ?_ ?_ <;> simp [go_sem]
    replace hB := (Bel.al hB (.cells #[.int .u64 (lim (s) 0), .int .u64 (lim (s) 1), .int .u64 (lim (s) 2), .int .u64 (lim (s) 3)] 24))
    go_wp2_with fail
    apply wp_region_alloc_tail 5 (by kernel_rfl) (by kernel_rfl) (by kernel_rfl) (.cells #[.int .u64 0, .int .u64 0, .int .u64 0, .int .u64 0] 24) _ rfl (fun _ _ => by simp [go_sem])
    · intro W hW
      obtain ⟨rr0, rr1, rr2, rr3⟩ := Arr.g4 (Arr.to' Ar hW)
      obtain ⟨rt0, rt1, rt2, rt3⟩ := Arr.g4 (Arr.to' At hW)
      simp only [List.take_succ_cons, List.take_zero]
      repeat (go_big_quiet_step (first | (go_at_call 104; with_reducible first | exact Calls.regrown_of (C1 _) | exact Calls.regrown_of (C2 _) | exact Calls.regrown_of (C10 _) | exact Calls.regrown_of (C16 _)) | (go_at_call 112; with_reducible first | exact Calls.regrown_of (C3 _) | exact Calls.regrown_of (C12 _) | exact Calls.regrown_of (C13 _) | exact Calls.regrown_of (C18 _)) | (go_at_call 113; with_reducible first | exact Calls.regrown_of (C4 _)) | (go_at_call 111; with_reducible first | exact Calls.regrown_of (C5 _) | exact Calls.regrown_of (C7 _) | exact Calls.regrown_of (C14 _) | exact Calls.regrown_of (C19 _)) | (go_at_call 110; with_reducible first | exact Calls.regrown_of (C6 _)) | (go_at_call 114; with_reducible first | exact Calls.regrown_of (C8 _) | exact Calls.regrown_of (C9 _) | exact Calls.regrown_of (C11 _) | exact Calls.regrown_of (C15 _) | exact Calls.regrown_of (C17 _) | exact Calls.regrown_of (C20 _))))
      exact wpQuiet_nil rfl
    intro v6 w16 hb1 hb2
    simp only [List.drop_succ_cons, List.drop_zero, Act.put, List.setIfInBounds_toArray, List.set_cons_succ, List.set_cons_zero]
    have Ep := Arr.to' Ap hb1
    have lp_v6 := Ep.lt
    have Bp := Arr.to' (Arr.al' Ep _) hb2
    have Eo := Arr.to' Ao hb1
    have lo_v6 := Eo.lt
    have Bo := Arr.to' (Arr.al' Eo _) hb2
    have Es := Arr.to' As hb1
    have ls_v6 := Es.lt
    have Bs := Arr.to' (Arr.al' Es _) hb2
    have Eu := Arr.to' Au hb1
    have lu_v6 := Eu.lt
    have Bu := Arr.to' (Arr.al' Eu _) hb2
    have Er := Arr.to' Ar hb1
    have lr_v6 := Er.lt
    have Br := Arr.to' (Arr.al' Er _) hb2
    have Et := Arr.to' At hb1
    have lt_v6 := Et.lt
    have Bt := Arr.to' (Arr.al' Et _) hb2
    have Bx := (Arr.mk4 (w := (v6.alloc (.cells #[.int .u64 0, .int .u64 0, .int .u64 0, .int .u64 0] 24))) (f := fun _ => .int .u64 0) (b := v6.heap.size) (by simp [go_sem]) (by simp [go_sem]) (by simp [go_sem]) (by simp [go_sem]) (by simp [go_sem]) (by simp [go_sem]) (by simp [go_sem]) (by simp [go_sem])).below hb2 (by go_size)
    have lB_v6 := (Bel.call hB hb1).size
    have hB' := Bel.call (Bel.al (Bel.call hB hb1) _) hb2
    clear hb1 hb2 Ep Eo Es Eu Er Et Ap Ao As Au Ar At hB
    have Ap := Bp
    have Ao := Bo
    have As := Bs
    have Au := Bu
    have Ar := Br
    have At := Bt
    have Ax := Bx
    have hB := hB'
    clear Bp Bo Bs Bu Br Bt Bx hB'
    have cx := Ax.c
    have zx := Ax.z
    have Bp := Arr.st4o (b' := v6.heap.size) Ap (by have := Ap.lt; have := Ax.lt; omega) (x)
    have Bo := Arr.st4o (b' := v6.heap.size) Ao (by have := Ao.lt; have := Ax.lt; omega) (x)
    have Bs := Arr.st4o (b' := v6.heap.size) As (by have := As.lt; have := Ax.lt; omega) (x)
    have Bu := Arr.st4o (b' := v6.heap.size) Au (by have := Au.lt; have := Ax.lt; omega) (x)
    have Br := Arr.st4o (b' := v6.heap.size) Ar (by have := Ar.lt; have := Ax.lt; omega) (x)
    have Bt := Arr.st4o (b' := v6.heap.size) At (by have := At.lt; have := Ax.lt; omega) (x)
    have Bx := Arr.st4 Ax (x)
    have hB' := Bel.st4 hB (b := v6.heap.size) (by have := hB.size; omega) (x)
    clear Ap Ao As Au Ar At Ax hB
    have Ap := Bp
    have Ao := Bo
    have As := Bs
    have Au := Bu
    have Ar := Br
    have At := Bt
    have Ax := Bx
    have hB := hB'
    clear Bp Bo Bs Bu Br Bt Bx hB'
    go_wp2_with fail
    apply wp_region_alloc_tail 10 (by kernel_rfl) (by kernel_rfl) (by kernel_rfl) (.cells #[.int .u64 0, .int .u64 0, .int .u64 0, .int .u64 0] 24) _ rfl (fun _ _ => by simp [go_sem])
    · intro W hW
      obtain ⟨rr0, rr1, rr2, rr3⟩ := Arr.g4 (Arr.to' Ar hW)
      obtain ⟨rt0, rt1, rt2, rt3⟩ := Arr.g4 (Arr.to' At hW)
      obtain ⟨rx0, rx1, rx2, rx3⟩ := Arr.g4 (Arr.to' Ax hW)
      obtain ⟨ru0, ru1, ru2, ru3⟩ := Arr.g4 (Arr.to' Au hW)
      simp only [List.take_succ_cons, List.take_zero]
      repeat (go_big_quiet_step (first | (go_at_call 104; with_reducible first | exact Calls.regrown_of (C1 _) | exact Calls.regrown_of (C2 _) | exact Calls.regrown_of (C10 _) | exact Calls.regrown_of (C16 _)) | (go_at_call 112; with_reducible first | exact Calls.regrown_of (C3 _) | exact Calls.regrown_of (C12 _) | exact Calls.regrown_of (C13 _) | exact Calls.regrown_of (C18 _)) | (go_at_call 113; with_reducible first | exact Calls.regrown_of (C4 _)) | (go_at_call 111; with_reducible first | exact Calls.regrown_of (C5 _) | exact Calls.regrown_of (C7 _) | exact Calls.regrown_of (C14 _) | exact Calls.regrown_of (C19 _)) | (go_at_call 110; with_reducible first | exact Calls.regrown_of (C6 _)) | (go_at_call 114; with_reducible first | exact Calls.regrown_of (C8 _) | exact Calls.regrown_of (C9 _) | exact Calls.regrown_of (C11 _) | exact Calls.regrown_of (C15 _) | exact Calls.regrown_of (C17 _) | exact Calls.regrown_of (C20 _))))
      exact wpQuiet_nil rfl
    intro v7 w17 hb1 hb2
    simp only [List.drop_succ_cons, List.drop_zero, Act.put, List.setIfInBounds_toArray, List.set_cons_succ, List.set_cons_zero]
    have Ep := Arr.to' Ap hb1
    have lp_v7 := Ep.lt
    have Bp := Arr.to' (Arr.al' Ep _) hb2
    have Eo := Arr.to' Ao hb1
    have lo_v7 := Eo.lt
    have Bo := Arr.to' (Arr.al' Eo _) hb2
    have Es := Arr.to' As hb1
    have ls_v7 := Es.lt
    have Bs := Arr.to' (Arr.al' Es _) hb2
    have Eu := Arr.to' Au hb1
    have lu_v7 := Eu.lt
    have Bu := Arr.to' (Arr.al' Eu _) hb2
    have Er := Arr.to' Ar hb1
    have lr_v7 := Er.lt
    have Br := Arr.to' (Arr.al' Er _) hb2
    have Et := Arr.to' At hb1
    have lt_v7 := Et.lt
    have Bt := Arr.to' (Arr.al' Et _) hb2
    have Ex := Arr.to' Ax hb1
    have lx_v7 := Ex.lt
    have Bx := Arr.to' (Arr.al' Ex _) hb2
    have By := (Arr.mk4 (w := (v7.alloc (.cells #[.int .u64 0, .int .u64 0, .int .u64 0, .int .u64 0] 24))) (f := fun _ => .int .u64 0) (b := v7.heap.size) (by simp [go_sem]) (by simp [go_sem]) (by simp [go_sem]) (by simp [go_sem]) (by simp [go_sem]) (by simp [go_sem]) (by simp [go_sem]) (by simp [go_sem])).below hb2 (by go_size)
    have lB_v7 := (Bel.call hB hb1).size
    have hB' := Bel.call (Bel.al (Bel.call hB hb1) _) hb2
    clear hb1 hb2 Ep Eo Es Eu Er Et Ex Ap Ao As Au Ar At Ax hB
    have Ap := Bp
    have Ao := Bo
    have As := Bs
    have Au := Bu
    have Ar := Br
    have At := Bt
    have Ax := Bx
    have Ay := By
    have hB := hB'
    clear Bp Bo Bs Bu Br Bt Bx By hB'
    have cy := Ay.c
    have zy := Ay.z
    have Bp := Arr.st4o (b' := v7.heap.size) Ap (by have := Ap.lt; have := Ay.lt; omega) (y)
    have Bo := Arr.st4o (b' := v7.heap.size) Ao (by have := Ao.lt; have := Ay.lt; omega) (y)
    have Bs := Arr.st4o (b' := v7.heap.size) As (by have := As.lt; have := Ay.lt; omega) (y)
    have Bu := Arr.st4o (b' := v7.heap.size) Au (by have := Au.lt; have := Ay.lt; omega) (y)
    have Br := Arr.st4o (b' := v7.heap.size) Ar (by have := Ar.lt; have := Ay.lt; omega) (y)
    have Bt := Arr.st4o (b' := v7.heap.size) At (by have := At.lt; have := Ay.lt; omega) (y)
    have Bx := Arr.st4o (b' := v7.heap.size) Ax (by have := Ax.lt; have := Ay.lt; omega) (y)
    have By := Arr.st4 Ay (y)
    have hB' := Bel.st4 hB (b := v7.heap.size) (by have := hB.size; omega) (y)
    clear Ap Ao As Au Ar At Ax Ay hB
    have Ap := Bp
    have Ao := Bo
    have As := Bs
    have Au := Bu
    have Ar := Br
    have At := Bt
    have Ax := Bx
    have Ay := By
    have hB := hB'
    clear Bp Bo Bs Bu Br Bt Bx By hB'
    obtain ⟨rp0, rp1, rp2, rp3, rp4, rp5, rp6, rp7, rp8, rp9, rp10, rp11, rp12⟩ := Arr.g_sx Ap
    obtain ⟨rx0, rx1, rx2, rx3⟩ := Arr.g4 Ax
    obtain ⟨ry0, ry1, ry2, ry3⟩ := Arr.g4 Ay
    go_wp2_with fail
    refine wp_region_below_tail 11 (by kernel_rfl) (by kernel_rfl) ?_
    simp only [List.take_succ_cons, List.take_zero, List.drop_succ_cons, List.drop_zero]
    repeat (go_big_quiet_step (first | (go_at_call 104; with_reducible first | exact Calls.regrown_of (C1 _) | exact Calls.regrown_of (C2 _) | exact Calls.regrown_of (C10 _) | exact Calls.regrown_of (C16 _)) | (go_at_call 112; with_reducible first | exact Calls.regrown_of (C3 _) | exact Calls.regrown_of (C12 _) | exact Calls.regrown_of (C13 _) | exact Calls.regrown_of (C18 _)) | (go_at_call 113; with_reducible first | exact Calls.regrown_of (C4 _)) | (go_at_call 111; with_reducible first | exact Calls.regrown_of (C5 _) | exact Calls.regrown_of (C7 _) | exact Calls.regrown_of (C14 _) | exact Calls.regrown_of (C19 _)) | (go_at_call 110; with_reducible first | exact Calls.regrown_of (C6 _)) | (go_at_call 114; with_reducible first | exact Calls.regrown_of (C8 _) | exact Calls.regrown_of (C9 _) | exact Calls.regrown_of (C11 _) | exact Calls.regrown_of (C15 _) | exact Calls.regrown_of (C17 _) | exact Calls.regrown_of (C20 _))))
    refine wpQuiet_nil ?_
    intro w8 hw'
    obtain ⟨⟨dq, osq⟩, hw''⟩ := hw'
    have hb := below_of hw''
    clear hw''
    replace Ao := Arr.to' Ao hb
    replace hB := Bel.call hB hb
    clear hb cy zy rp0 rp1 rp2 rp3 rp4 rp5 rp6 rp7 rp8 rp9 rp10 rp11 rp12 rx0 rx1 rx2 rx3 ry0 ry1 ry2 ry3 Ap As Au Ar At Ax Ay
    have hS := hB.size
    obtain ⟨co_0, co_1, co_2, co_3, co_4, co_5, co_6, co_7, co_8, co_9, co_10, co_11, co_12⟩ := Arr.c_zs Ao
    have zo := Ao.z
    go_wp2_with fail
    refine bodyPost_ret (v := jv x y false z) (by simp [results, Tryz.results86, go_sem, co_0, co_1, co_2, co_3, co_4, co_5, co_6, co_7, co_8, co_9, co_10, co_11, co_12]) rfl ⟨rfl, ?_⟩
    go_grown
  · intro u1 u2 u3 hb1 hb2 hb3
    simp only [List.drop_succ_cons, List.drop_zero, Act.put, List.setIfInBounds_toArray, List.set_cons_succ, List.set_cons_zero]
    have Ep := Arr.to' Ap hb1
    have lp_u1 := Ep.lt
    have Gp := Arr.to' (Arr.al' Ep _) hb2
    have lp_u2 := Gp.lt
    have Bp := Arr.to' (Arr.al' Gp _) hb3
    have Eo := Arr.to' Ao hb1
    have lo_u1 := Eo.lt
    have Go := Arr.to' (Arr.al' Eo _) hb2
    have lo_u2 := Go.lt
    have Bo := Arr.to' (Arr.al' Go _) hb3
    have Ff := (Arr.mk4 (w := (u1.alloc (.cells #[.int .u64 0, .int .u64 0, .int .u64 0, .int .u64 0] 24))) (f := fun _ => .int .u64 0) (b := u1.heap.size) (by simp [go_sem]) (by simp [go_sem]) (by simp [go_sem]) (by simp [go_sem]) (by simp [go_sem]) (by simp [go_sem]) (by simp [go_sem]) (by simp [go_sem])).below hb2 (by go_size)
    have lff := Ff.lt
    have Bf := Arr.to' (Arr.al' Ff _) hb3
    have Bs := (Arr.mk4 (w := (u2.alloc (.cells #[.int .u64 0, .int .u64 0, .int .u64 0, .int .u64 0] 24))) (f := fun _ => .int .u64 0) (b := u2.heap.size) (by simp [go_sem]) (by simp [go_sem]) (by simp [go_sem]) (by simp [go_sem]) (by simp [go_sem]) (by simp [go_sem]) (by simp [go_sem]) (by simp [go_sem])).below hb3 (by go_size)
    have lB_u1 := (Bel.call hB hb1).size
    have hB1 := Bel.call (Bel.al (Bel.call hB hb1) _) hb2
    have lB_u2 := hB1.size
    have hB' := Bel.call (Bel.al hB1 _) hb3
    clear hb1 hb2 hb3 hB1 Ff Ep Eo Gp Go Ap Ao hB
    have Ap := Bp
    have Ao := Bo
    have As := Bs
    have Au := Bf
    have hB := hB'
    clear Bp Bo Bf Bs hB'
    have cs := As.c
    have zs := As.z
    have cu := Au.c
    have zu := Au.z
    have Bp := Arr.st4o (b' := u2.heap.size) Ap (by have := Ap.lt; have := As.lt; omega) (z2)
    have Bo := Arr.st4o (b' := u2.heap.size) Ao (by have := Ao.lt; have := As.lt; omega) (z2)
    have Bs := Arr.st4 As (z2)
    have Bu := Arr.st4o (b' := u2.heap.size) Au (by have := Au.lt; have := As.lt; omega) (z2)
    have hB' := Bel.st4 hB (b := u2.heap.size) (by have := hB.size; omega) (z2)
    clear Ap Ao As Au hB
    have Ap := Bp
    have Ao := Bo
    have As := Bs
    have Au := Bu
    have hB := hB'
    clear Bp Bo Bs Bu hB'
    have Bp := Arr.st4o (b' := u1.heap.size) Ap (by have := Ap.lt; have := Au.lt; omega) (y2)
    have Bo := Arr.st4o (b' := u1.heap.size) Ao (by have := Ao.lt; have := Au.lt; omega) (y2)
    have Bs := Arr.st4o (b' := u1.heap.size) As (by have := As.lt; have := Au.lt; omega) (y2)
    have Bu := Arr.st4 Au (y2)
    have hB' := Bel.st4 hB (b := u1.heap.size) (by have := hB.size; omega) (y2)
    clear Ap Ao As Au hB
    have Ap := Bp
    have Ao := Bo
    have As := Bs
    have Au := Bu
    have hB := hB'
    clear Bp Bo Bs Bu hB'
    go_wp2_with fail
    apply wp_region_alloc_tail 12 (by kernel_rfl) (by kernel_rfl) (by kernel_rfl) (.cells #[.int .u64 0, .int .u64 0, .int .u64 0, .int .u64 0] 24) _ rfl (fun _ _ => by simp [go_sem])
    · intro W hW
      obtain ⟨rp0, rp1, rp2, rp3, rp4, rp5, rp6, rp7, rp8, rp9, rp10, rp11, rp12⟩ := Arr.g_sx (Arr.to' Ap hW)
      obtain ⟨rs0, rs1, rs2, rs3⟩ := Arr.g4 (Arr.to' As hW)
      simp only [List.take_succ_cons, List.take_zero]
      repeat (go_big_quiet_step (first | (go_at_call 104; with_reducible first | exact Calls.regrown_of (C1 _) | exact Calls.regrown_of (C2 _) | exact Calls.regrown_of (C10 _) | exact Calls.regrown_of (C16 _)) | (go_at_call 112; with_reducible first | exact Calls.regrown_of (C3 _) | exact Calls.regrown_of (C12 _) | exact Calls.regrown_of (C13 _) | exact Calls.regrown_of (C18 _)) | (go_at_call 113; with_reducible first | exact Calls.regrown_of (C4 _)) | (go_at_call 111; with_reducible first | exact Calls.regrown_of (C5 _) | exact Calls.regrown_of (C7 _) | exact Calls.regrown_of (C14 _) | exact Calls.regrown_of (C19 _)) | (go_at_call 110; with_reducible first | exact Calls.regrown_of (C6 _)) | (go_at_call 114; with_reducible first | exact Calls.regrown_of (C8 _) | exact Calls.regrown_of (C9 _) | exact Calls.regrown_of (C11 _) | exact Calls.regrown_of (C15 _) | exact Calls.regrown_of (C17 _) | exact Calls.regrown_of (C20 _))))
      exact wpQuiet_nil rfl
    intro v2 w12 hb1 hb2
    simp only [List.drop_succ_cons, List.drop_zero, Act.put, List.setIfInBounds_toArray, List.set_cons_succ, List.set_cons_zero]
    have Ep := Arr.to' Ap hb1
    have lp_v2 := Ep.lt
    have Bp := Arr.to' (Arr.al' Ep _) hb2
    have Eo := Arr.to' Ao hb1
    have lo_v2 := Eo.lt
    have Bo := Arr.to' (Arr.al' Eo _) hb2
    have Es := Arr.to' As hb1
    have ls_v2 := Es.lt
    have Bs := Arr.to' (Arr.al' Es _) hb2
    have Eu := Arr.to' Au hb1
    have lu_v2 := Eu.lt
    have Bu := Arr.to' (Arr.al' Eu _) hb2
    have Br := (Arr.mk4 (w := (v2.alloc (.cells #[.int .u64 0, .int .u64 0, .int .u64 0, .int .u64 0] 24))) (f := fun _ => .int .u64 0) (b := v2.heap.size) (by simp [go_sem]) (by simp [go_sem]) (by simp [go_sem]) (by simp [go_sem]) (by simp [go_sem]) (by simp [go_sem]) (by simp [go_sem]) (by simp [go_sem])).below hb2 (by go_size)
    have lB_v2 := (Bel.call hB hb1).size
    have hB' := Bel.call (Bel.al (Bel.call hB hb1) _) hb2
    clear hb1 hb2 Ep Eo Es Eu Ap Ao As Au hB
    have Ap := Bp
    have Ao := Bo
    have As := Bs
    have Au := Bu
    have Ar := Br
    have hB := hB'
    clear Bp Bo Bs Bu Br hB'
    have cr := Ar.c
    have zr := Ar.z
    have Bp := Arr.st4o (b' := v2.heap.size) Ap (by have := Ap.lt; have := Ar.lt; omega) (r)
    have Bo := Arr.st4o (b' := v2.heap.size) Ao (by have := Ao.lt; have := Ar.lt; omega) (r)
    have Bs := Arr.st4o (b' := v2.heap.size) As (by have := As.lt; have := Ar.lt; omega) (r)
    have Bu := Arr.st4o (b' := v2.heap.size) Au (by have := Au.lt; have := Ar.lt; omega) (r)
    have Br := Arr.st4 Ar (r)
    have hB' := Bel.st4 hB (b := v2.heap.size) (by have := hB.size; omega) (r)
    clear Ap Ao As Au Ar hB
    have Ap := Bp
    have Ao := Bo
    have As := Bs
    have Au := Bu
    have Ar := Br
    have hB := hB'
    clear Bp Bo Bs Bu Br hB'
    obtain ⟨cp_0, cp_1, cp_2, cp_3, cp_4, cp_5, cp_6, cp_7, cp_8, cp_9, cp_10, cp_11, cp_12⟩ := Arr.c_sx Ap
    have cu := Au.c
    go_wp2_with fail
    refine (C7 _).mono ?_
    rintro e w13 ⟨rfl, hb⟩
    replace Ap := Arr.to' Ap hb
    replace Ao := Arr.to' Ao hb
    replace As := Arr.to' As hb
    replace Au := Arr.to' Au hb
    replace Ar := Arr.to' Ar hb
    replace hB := Bel.call hB hb
    clear hb cr zr cp_0 cp_1 cp_2 cp_3 cp_4 cp_5 cp_6 cp_7 cp_8 cp_9 cp_10 cp_11 cp_12 cu
    go_wp2_with fail
    refine (C8 _).mono ?_
    rintro e w14 ⟨rfl, hb⟩
    replace Ap := Arr.to' Ap hb
    replace Ao := Arr.to' Ao hb
    replace As := Arr.to' As hb
    replace Au := Arr.to' Au hb
    replace Ar := Arr.to' Ar hb
    replace hB := Bel.call hB hb
    clear hb
    go_wp2_with fail
    refine (C9 _).mono ?_
    rintro e w15 ⟨rfl, hb⟩
    replace Ap := Arr.to' Ap hb
    replace Ao := Arr.to' Ao hb
    replace As := Arr.to' As hb
    replace Au := Arr.to' Au hb
    replace Ar := Arr.to' Ar hb
    replace hB := Bel.call hB hb
    clear hb
    have lp_2 := Ap.lt
    have lo_2 := Ao.lt
    have ls_2 := As.lt
    have lu_2 := Au.lt
    have lr_2 := Ar.lt
    have lB_2 := hB.size
    replace Ap := (Arr.al' Ap (.cells #[.int .u64 (lim (s) 0), .int .u64 (lim (s) 1), .int .u64 (lim (s) 2), .int .u64 (lim (s) 3)] 24))
    replace Ao := (Arr.al' Ao (.cells #[.int .u64 (lim (s) 0), .int .u64 (lim (s) 1), .int .u64 (lim (s) 2), .int .u64 (lim (s) 3)] 24))
    replace As := (Arr.al' As (.cells #[.int .u64 (lim (s) 0), .int .u64 (lim (s) 1), .int .u64 (lim (s) 2), .int .u64 (lim (s) 3)] 24))
    replace Au := (Arr.al' Au (.cells #[.int .u64 (lim (s) 0), .int .u64 (lim (s) 1), .int .u64 (lim (s) 2), .int .u64 (lim (s) 3)] 24))
    replace Ar := (Arr.al' Ar (.cells #[.int .u64 (lim (s) 0), .int .u64 (lim (s) 1), .int .u64 (lim (s) 2), .int .u64 (lim (s) 3)] 24))
    have At : Arr ((w15.alloc (.cells #[.int .u64 (lim (s) 0), .int .u64 (lim (s) 1), .int .u64 (lim (s) 2), .int .u64 (lim (s) 3)] 24))) (w15.heap.size) 4 (fun j => .int .u64 (lim (s) j)) := by refine Arr.mk4 ?_ ?_ ?_ ?_ ?_ ?_ ?_ ?_ <;> simp [go_sem]
    replace hB := (Bel.al hB (.cells #[.int .u64 (lim (s) 0), .int .u64 (lim (s) 1), .int .u64 (lim (s) 2), .int .u64 (lim (s) 3)] 24))
    go_wp2_with fail
    apply wp_region_alloc_tail 5 (by kernel_rfl) (by kernel_rfl) (by kernel_rfl) (.cells #[.int .u64 0, .int .u64 0, .int .u64 0, .int .u64 0] 24) _ rfl (fun _ _ => by simp [go_sem])
    · intro W hW
      obtain ⟨rr0, rr1, rr2, rr3⟩ := Arr.g4 (Arr.to' Ar hW)
      obtain ⟨rt0, rt1, rt2, rt3⟩ := Arr.g4 (Arr.to' At hW)
      simp only [List.take_succ_cons, List.take_zero]
      repeat (go_big_quiet_step (first | (go_at_call 104; with_reducible first | exact Calls.regrown_of (C1 _) | exact Calls.regrown_of (C2 _) | exact Calls.regrown_of (C10 _) | exact Calls.regrown_of (C16 _)) | (go_at_call 112; with_reducible first | exact Calls.regrown_of (C3 _) | exact Calls.regrown_of (C12 _) | exact Calls.regrown_of (C13 _) | exact Calls.regrown_of (C18 _)) | (go_at_call 113; with_reducible first | exact Calls.regrown_of (C4 _)) | (go_at_call 111; with_reducible first | exact Calls.regrown_of (C5 _) | exact Calls.regrown_of (C7 _) | exact Calls.regrown_of (C14 _) | exact Calls.regrown_of (C19 _)) | (go_at_call 110; with_reducible first | exact Calls.regrown_of (C6 _)) | (go_at_call 114; with_reducible first | exact Calls.regrown_of (C8 _) | exact Calls.regrown_of (C9 _) | exact Calls.regrown_of (C11 _) | exact Calls.regrown_of (C15 _) | exact Calls.regrown_of (C17 _) | exact Calls.regrown_of (C20 _))))
      exact wpQuiet_nil rfl
    intro v6 w16 hb1 hb2
    simp only [List.drop_succ_cons, List.drop_zero, Act.put, List.setIfInBounds_toArray, List.set_cons_succ, List.set_cons_zero]
    have Ep := Arr.to' Ap hb1
    have lp_v6 := Ep.lt
    have Bp := Arr.to' (Arr.al' Ep _) hb2
    have Eo := Arr.to' Ao hb1
    have lo_v6 := Eo.lt
    have Bo := Arr.to' (Arr.al' Eo _) hb2
    have Es := Arr.to' As hb1
    have ls_v6 := Es.lt
    have Bs := Arr.to' (Arr.al' Es _) hb2
    have Eu := Arr.to' Au hb1
    have lu_v6 := Eu.lt
    have Bu := Arr.to' (Arr.al' Eu _) hb2
    have Er := Arr.to' Ar hb1
    have lr_v6 := Er.lt
    have Br := Arr.to' (Arr.al' Er _) hb2
    have Et := Arr.to' At hb1
    have lt_v6 := Et.lt
    have Bt := Arr.to' (Arr.al' Et _) hb2
    have Bx := (Arr.mk4 (w := (v6.alloc (.cells #[.int .u64 0, .int .u64 0, .int .u64 0, .int .u64 0] 24))) (f := fun _ => .int .u64 0) (b := v6.heap.size) (by simp [go_sem]) (by simp [go_sem]) (by simp [go_sem]) (by simp [go_sem]) (by simp [go_sem]) (by simp [go_sem]) (by simp [go_sem]) (by simp [go_sem])).below hb2 (by go_size)
    have lB_v6 := (Bel.call hB hb1).size
    have hB' := Bel.call (Bel.al (Bel.call hB hb1) _) hb2
    clear hb1 hb2 Ep Eo Es Eu Er Et Ap Ao As Au Ar At hB
    have Ap := Bp
    have Ao := Bo
    have As := Bs
    have Au := Bu
    have Ar := Br
    have At := Bt
    have Ax := Bx
    have hB := hB'
    clear Bp Bo Bs Bu Br Bt Bx hB'
    have cx := Ax.c
    have zx := Ax.z
    have Bp := Arr.st4o (b' := v6.heap.size) Ap (by have := Ap.lt; have := Ax.lt; omega) (x)
    have Bo := Arr.st4o (b' := v6.heap.size) Ao (by have := Ao.lt; have := Ax.lt; omega) (x)
    have Bs := Arr.st4o (b' := v6.heap.size) As (by have := As.lt; have := Ax.lt; omega) (x)
    have Bu := Arr.st4o (b' := v6.heap.size) Au (by have := Au.lt; have := Ax.lt; omega) (x)
    have Br := Arr.st4o (b' := v6.heap.size) Ar (by have := Ar.lt; have := Ax.lt; omega) (x)
    have Bt := Arr.st4o (b' := v6.heap.size) At (by have := At.lt; have := Ax.lt; omega) (x)
    have Bx := Arr.st4 Ax (x)
    have hB' := Bel.st4 hB (b := v6.heap.size) (by have := hB.size; omega) (x)
    clear Ap Ao As Au Ar At Ax hB
    have Ap := Bp
    have Ao := Bo
    have As := Bs
    have Au := Bu
    have Ar := Br
    have At := Bt
    have Ax := Bx
    have hB := hB'
    clear Bp Bo Bs Bu Br Bt Bx hB'
    go_wp2_with fail
    apply wp_region_alloc_tail 10 (by kernel_rfl) (by kernel_rfl) (by kernel_rfl) (.cells #[.int .u64 0, .int .u64 0, .int .u64 0, .int .u64 0] 24) _ rfl (fun _ _ => by simp [go_sem])
    · intro W hW
      obtain ⟨rr0, rr1, rr2, rr3⟩ := Arr.g4 (Arr.to' Ar hW)
      obtain ⟨rt0, rt1, rt2, rt3⟩ := Arr.g4 (Arr.to' At hW)
      obtain ⟨rx0, rx1, rx2, rx3⟩ := Arr.g4 (Arr.to' Ax hW)
      obtain ⟨ru0, ru1, ru2, ru3⟩ := Arr.g4 (Arr.to' Au hW)
      simp only [List.take_succ_cons, List.take_zero]
      repeat (go_big_quiet_step (first | (go_at_call 104; with_reducible first | exact Calls.regrown_of (C1 _) | exact Calls.regrown_of (C2 _) | exact Calls.regrown_of (C10 _) | exact Calls.regrown_of (C16 _)) | (go_at_call 112; with_reducible first | exact Calls.regrown_of (C3 _) | exact Calls.regrown_of (C12 _) | exact Calls.regrown_of (C13 _) | exact Calls.regrown_of (C18 _)) | (go_at_call 113; with_reducible first | exact Calls.regrown_of (C4 _)) | (go_at_call 111; with_reducible first | exact Calls.regrown_of (C5 _) | exact Calls.regrown_of (C7 _) | exact Calls.regrown_of (C14 _) | exact Calls.regrown_of (C19 _)) | (go_at_call 110; with_reducible first | exact Calls.regrown_of (C6 _)) | (go_at_call 114; with_reducible first | exact Calls.regrown_of (C8 _) | exact Calls.regrown_of (C9 _) | exact Calls.regrown_of (C11 _) | exact Calls.regrown_of (C15 _) | exact Calls.regrown_of (C17 _) | exact Calls.regrown_of (C20 _))))
      exact wpQuiet_nil rfl
    intro v7 w17 hb1 hb2
    simp only [List.drop_succ_cons, List.drop_zero, Act.put, List.setIfInBounds_toArray, List.set_cons_succ, List.set_cons_zero]
    have Ep := Arr.to' Ap hb1
    have lp_v7 := Ep.lt
    have Bp := Arr.to' (Arr.al' Ep _) hb2
    have Eo := Arr.to' Ao hb1
    have lo_v7 := Eo.lt
    have Bo := Arr.to' (Arr.al' Eo _) hb2
    have Es := Arr.to' As hb1
    have ls_v7 := Es.lt
    have Bs := Arr.to' (Arr.al' Es _) hb2
    have Eu := Arr.to' Au hb1
    have lu_v7 := Eu.lt
    have Bu := Arr.to' (Arr.al' Eu _) hb2
    have Er := Arr.to' Ar hb1
    have lr_v7 := Er.lt
    have Br := Arr.to' (Arr.al' Er _) hb2
    have Et := Arr.to' At hb1
    have lt_v7 := Et.lt
    have Bt := Arr.to' (Arr.al' Et _) hb2
    have Ex := Arr.to' Ax hb1
    have lx_v7 := Ex.lt
    have Bx := Arr.to' (Arr.al' Ex _) hb2
    have By := (Arr.mk4 (w := (v7.alloc (.cells #[.int .u64 0, .int .u64 0, .int .u64 0, .int .u64 0] 24))) (f := fun _ => .int .u64 0) (b := v7.heap.size) (by simp [go_sem]) (by simp [go_sem]) (by simp [go_sem]) (by simp [go_sem]) (by simp [go_sem]) (by simp [go_sem]) (by simp [go_sem]) (by simp [go_sem])).below hb2 (by go_size)
    have lB_v7 := (Bel.call hB hb1).size
    have hB' := Bel.call (Bel.al (Bel.call hB hb1) _) hb2
    clear hb1 hb2 Ep Eo Es Eu Er Et Ex Ap Ao As Au Ar At Ax hB
    have Ap := Bp
    have Ao := Bo
    have As := Bs
    have Au := Bu
    have Ar := Br
    have At := Bt
    have Ax := Bx
    have Ay := By
    have hB := hB'
    clear Bp Bo Bs Bu Br Bt Bx By hB'
    have cy := Ay.c
    have zy := Ay.z
    have Bp := Arr.st4o (b' := v7.heap.size) Ap (by have := Ap.lt; have := Ay.lt; omega) (y)
    have Bo := Arr.st4o (b' := v7.heap.size) Ao (by have := Ao.lt; have := Ay.lt; omega) (y)
    have Bs := Arr.st4o (b' := v7.heap.size) As (by have := As.lt; have := Ay.lt; omega) (y)
    have Bu := Arr.st4o (b' := v7.heap.size) Au (by have := Au.lt; have := Ay.lt; omega) (y)
    have Br := Arr.st4o (b' := v7.heap.size) Ar (by have := Ar.lt; have := Ay.lt; omega) (y)
    have Bt := Arr.st4o (b' := v7.heap.size) At (by have := At.lt; have := Ay.lt; omega) (y)
    have Bx := Arr.st4o (b' := v7.heap.size) Ax (by have := Ax.lt; have := Ay.lt; omega) (y)
    have By := Arr.st4 Ay (y)
    have hB' := Bel.st4 hB (b := v7.heap.size) (by have := hB.size; omega) (y)
    clear Ap Ao As Au Ar At Ax Ay hB
    have Ap := Bp
    have Ao := Bo
    have As := Bs
    have Au := Bu
    have Ar := Br
    have At := Bt
    have Ax := Bx
    have Ay := By
    have hB := hB'
    clear Bp Bo Bs Bu Br Bt Bx By hB'
    obtain ⟨rp0, rp1, rp2, rp3, rp4, rp5, rp6, rp7, rp8, rp9, rp10, rp11, rp12⟩ := Arr.g_sx Ap
    obtain ⟨rx0, rx1, rx2, rx3⟩ := Arr.g4 Ax
    obtain ⟨ry0, ry1, ry2, ry3⟩ := Arr.g4 Ay
    go_wp2_with fail
    refine wp_region_below_tail 11 (by kernel_rfl) (by kernel_rfl) ?_
    simp only [List.take_succ_cons, List.take_zero, List.drop_succ_cons, List.drop_zero]
    repeat (go_big_quiet_step (first | (go_at_call 104; with_reducible first | exact Calls.regrown_of (C1 _) | exact Calls.regrown_of (C2 _) | exact Calls.regrown_of (C10 _) | exact Calls.regrown_of (C16 _)) | (go_at_call 112; with_reducible first | exact Calls.regrown_of (C3 _) | exact Calls.regrown_of (C12 _) | exact Calls.regrown_of (C13 _) | exact Calls.regrown_of (C18 _)) | (go_at_call 113; with_reducible first | exact Calls.regrown_of (C4 _)) | (go_at_call 111; with_reducible first | exact Calls.regrown_of (C5 _) | exact Calls.regrown_of (C7 _) | exact Calls.regrown_of (C14 _) | exact Calls.regrown_of (C19 _)) | (go_at_call 110; with_reducible first | exact Calls.regrown_of (C6 _)) | (go_at_call 114; with_reducible first | exact Calls.regrown_of (C8 _) | exact Calls.regrown_of (C9 _) | exact Calls.regrown_of (C11 _) | exact Calls.regrown_of (C15 _) | exact Calls.regrown_of (C17 _) | exact Calls.regrown_of (C20 _))))
    refine wpQuiet_nil ?_
    intro w8 hw'
    obtain ⟨⟨dq, osq⟩, hw''⟩ := hw'
    have hb := below_of hw''
    clear hw''
    replace Ao := Arr.to' Ao hb
    replace hB := Bel.call hB hb
    clear hb cy zy rp0 rp1 rp2 rp3 rp4 rp5 rp6 rp7 rp8 rp9 rp10 rp11 rp12 rx0 rx1 rx2 rx3 ry0 ry1 ry2 ry3 Ap As Au Ar At Ax Ay
    have hS := hB.size
    obtain ⟨co_0, co_1, co_2, co_3, co_4, co_5, co_6, co_7, co_8, co_9, co_10, co_11, co_12⟩ := Arr.c_zs Ao
    have zo := Ao.z
    go_wp2_with fail
    refine bodyPost_ret (v := jv x y false z) (by simp [results, Tryz.results86, go_sem, co_0, co_1, co_2, co_3, co_4, co_5, co_6, co_7, co_8, co_9, co_10, co_11, co_12]) rfl ⟨rfl, ?_⟩
    go_grown
end Go.Proofs.YtoolbnbfbegjaaaGreat
