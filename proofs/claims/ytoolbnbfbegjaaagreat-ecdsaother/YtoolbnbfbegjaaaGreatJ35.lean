/- Points with a third coordinate: along, the plain one. -/
import Derived.Test.YtoolbnbfbegjaaaGreatJ21
set_option linter.all false
set_option maxRecDepth 100000
namespace Go.Proofs.YtoolbnbfbegjaaaGreat
open Go.RowKit Go.Sort
set_option maxHeartbeats 8000000 in
theorem along_core (X Y Z M N r2 r3 s c1 c2 c3 x d1 d2 d3 y z : Int) (w : World)
    (C1 : ∀ W, Calls Tryz.prog 104 #[nv M] W fun e w' => e = .returned (nv r2) ∧ Below W.heap.size W w')
    (C2 : ∀ W, Calls Tryz.prog 111 #[nv M, nv r2] W fun e w' => e = .returned (nv r3) ∧ Below W.heap.size W w')
    (C3 : ∀ W, Calls Tryz.prog 111 #[nv X, nv r2] W fun e w' => e = .returned (nv s) ∧ Below W.heap.size W w')
    (C4 : ∀ W, Calls Tryz.prog 104 #[nv N] W fun e w' => e = .returned (nv c1) ∧ Below W.heap.size W w')
    (C5 : ∀ W, Calls Tryz.prog 112 #[nv c1, nv r3] W fun e w' => e = .returned (nv c2) ∧ Below W.heap.size W w')
    (C6 : ∀ W, Calls Tryz.prog 114 #[nv s] W fun e w' => e = .returned (nv c3) ∧ Below W.heap.size W w')
    (C7 : ∀ W, Calls Tryz.prog 112 #[nv c2, nv c3] W fun e w' => e = .returned (nv x) ∧ Below W.heap.size W w')
    (C8 : ∀ W, Calls Tryz.prog 112 #[nv s, nv x] W fun e w' => e = .returned (nv d1) ∧ Below W.heap.size W w')
    (C9 : ∀ W, Calls Tryz.prog 111 #[nv N, nv d1] W fun e w' => e = .returned (nv d2) ∧ Below W.heap.size W w')
    (C10 : ∀ W, Calls Tryz.prog 111 #[nv Y, nv r3] W fun e w' => e = .returned (nv d3) ∧ Below W.heap.size W w')
    (C11 : ∀ W, Calls Tryz.prog 112 #[nv d2, nv d3] W fun e w' => e = .returned (nv y) ∧ Below W.heap.size W w')
    (C12 : ∀ W, Calls Tryz.prog 111 #[nv Z, nv M] W fun e w' => e = .returned (nv z) ∧ Below W.heap.size W w') :
    Calls Tryz.prog 115 #[jv X Y false Z, nv M, nv N] w fun e w' => e = .returned (jv x y false z) ∧ Below w.heap.size w w' := by
  go_enter Tryz.func115, Tryz.ntmps115
  obtain ⟨W0, hW0⟩ : ∃ W0, W0 = ((((w.alloc (.cells #[.int .u64 (lim (X) 0), .int .u64 (lim (X) 1), .int .u64 (lim (X) 2), .int .u64 (lim (X) 3), .int .u64 (lim (Y) 0), .int .u64 (lim (Y) 1), .int .u64 (lim (Y) 2), .int .u64 (lim (Y) 3), .bool false, .int .u64 (lim (Z) 0), .int .u64 (lim (Z) 1), .int .u64 (lim (Z) 2), .int .u64 (lim (Z) 3)] 99)).alloc (.cells #[.int .u64 (lim (M) 0), .int .u64 (lim (M) 1), .int .u64 (lim (M) 2), .int .u64 (lim (M) 3)] 24)).alloc (.cells #[.int .u64 (lim (N) 0), .int .u64 (lim (N) 1), .int .u64 (lim (N) 2), .int .u64 (lim (N) 3)] 24)).alloc (.cells #[.int .u64 0, .int .u64 0, .int .u64 0, .int .u64 0, .int .u64 0, .int .u64 0, .int .u64 0, .int .u64 0, .bool false, .int .u64 0, .int .u64 0, .int .u64 0, .int .u64 0] 99)) := ⟨_, rfl⟩
  have Ap : Arr W0 (w.heap.size) 13 (sx (X) (Y) false (Z)) := by subst hW0; refine Arr.mk13 ?_ ?_ ?_ ?_ ?_ ?_ ?_ ?_ ?_ ?_ ?_ ?_ ?_ ?_ <;> simp [go_sem, px, sx, zx]
  have Am : Arr W0 (w.heap.size + 1) 4 (fun j => .int .u64 (lim (M) j)) := by subst hW0; refine Arr.mk4 ?_ ?_ ?_ ?_ ?_ ?_ ?_ ?_ <;> simp [go_sem]
  have An : Arr W0 (w.heap.size + 1 + 1) 4 (fun j => .int .u64 (lim (N) j)) := by subst hW0; refine Arr.mk4 ?_ ?_ ?_ ?_ ?_ ?_ ?_ ?_ <;> simp [go_sem]
  have Ao : Arr W0 (w.heap.size + 1 + 1 + 1) 13 (zx 8) := by subst hW0; refine Arr.mk13 ?_ ?_ ?_ ?_ ?_ ?_ ?_ ?_ ?_ ?_ ?_ ?_ ?_ ?_ <;> simp [go_sem, px, sx, zx]
  have hB : Below w.heap.size w W0 := by subst hW0; go_grown
  subst hW0
  have cm := Am.c
  go_wp2_with fail
  refine (C1 _).mono ?_
  rintro e w1 ⟨rfl, hb⟩
  replace Ap := Arr.to' Ap hb
  replace Am := Arr.to' Am hb
  replace An := Arr.to' An hb
  replace Ao := Arr.to' Ao hb
  replace hB := Bel.call hB hb
  clear hb cm
  have lp_2 := Ap.lt
  have lm_2 := Am.lt
  have ln_2 := An.lt
  have lo_2 := Ao.lt
  have lB_2 := hB.size
  replace Ap := (Arr.al' Ap (.cells #[.int .u64 (lim (r2) 0), .int .u64 (lim (r2) 1), .int .u64 (lim (r2) 2), .int .u64 (lim (r2) 3)] 24))
  replace Am := (Arr.al' Am (.cells #[.int .u64 (lim (r2) 0), .int .u64 (lim (r2) 1), .int .u64 (lim (r2) 2), .int .u64 (lim (r2) 3)] 24))
  replace An := (Arr.al' An (.cells #[.int .u64 (lim (r2) 0), .int .u64 (lim (r2) 1), .int .u64 (lim (r2) 2), .int .u64 (lim (r2) 3)] 24))
  replace Ao := (Arr.al' Ao (.cells #[.int .u64 (lim (r2) 0), .int .u64 (lim (r2) 1), .int .u64 (lim (r2) 2), .int .u64 (lim (r2) 3)] 24))
  have Aq : Arr ((w1.alloc (.cells #[.int .u64 (lim (r2) 0), .int .u64 (lim (r2) 1), .int .u64 (lim (r2) 2), .int .u64 (lim (r2) 3)] 24))) (w1.heap.size) 4 (fun j => .int .u64 (lim (r2) j)) := by refine Arr.mk4 ?_ ?_ ?_ ?_ ?_ ?_ ?_ ?_ <;> simp [go_sem]
  replace hB := (Bel.al hB (.cells #[.int .u64 (lim (r2) 0), .int .u64 (lim (r2) 1), .int .u64 (lim (r2) 2), .int .u64 (lim (r2) 3)] 24))
  have cm := Am.c
  have cq := Aq.c
  go_wp2_with fail
  refine (C2 _).mono ?_
  rintro e w2 ⟨rfl, hb⟩
  replace Ap := Arr.to' Ap hb
  replace Am := Arr.to' Am hb
  replace An := Arr.to' An hb
  replace Ao := Arr.to' Ao hb
  replace Aq := Arr.to' Aq hb
  replace hB := Bel.call hB hb
  clear hb cm cq
  have lp_3 := Ap.lt
  have lm_3 := Am.lt
  have ln_3 := An.lt
  have lo_3 := Ao.lt
  have lq_3 := Aq.lt
  have lB_3 := hB.size
  replace Ap := (Arr.al' Ap (.cells #[.int .u64 (lim (r3) 0), .int .u64 (lim (r3) 1), .int .u64 (lim (r3) 2), .int .u64 (lim (r3) 3)] 24))
  replace Am := (Arr.al' Am (.cells #[.int .u64 (lim (r3) 0), .int .u64 (lim (r3) 1), .int .u64 (lim (r3) 2), .int .u64 (lim (r3) 3)] 24))
  replace An := (Arr.al' An (.cells #[.int .u64 (lim (r3) 0), .int .u64 (lim (r3) 1), .int .u64 (lim (r3) 2), .int .u64 (lim (r3) 3)] 24))
  replace Ao := (Arr.al' Ao (.cells #[.int .u64 (lim (r3) 0), .int .u64 (lim (r3) 1), .int .u64 (lim (r3) 2), .int .u64 (lim (r3) 3)] 24))
  replace Aq := (Arr.al' Aq (.cells #[.int .u64 (lim (r3) 0), .int .u64 (lim (r3) 1), .int .u64 (lim (r3) 2), .int .u64 (lim (r3) 3)] 24))
  have Ac : Arr ((w2.alloc (.cells #[.int .u64 (lim (r3) 0), .int .u64 (lim (r3) 1), .int .u64 (lim (r3) 2), .int .u64 (lim (r3) 3)] 24))) (w2.heap.size) 4 (fun j => .int .u64 (lim (r3) j)) := by refine Arr.mk4 ?_ ?_ ?_ ?_ ?_ ?_ ?_ ?_ <;> simp [go_sem]
  replace hB := (Bel.al hB (.cells #[.int .u64 (lim (r3) 0), .int .u64 (lim (r3) 1), .int .u64 (lim (r3) 2), .int .u64 (lim (r3) 3)] 24))
  obtain ⟨cp_0, cp_1, cp_2, cp_3, cp_4, cp_5, cp_6, cp_7, cp_8, cp_9, cp_10, cp_11, cp_12⟩ := Arr.c_sx Ap
  have cq := Aq.c
  go_wp2_with fail
  refine (C3 _).mono ?_
  rintro e w3 ⟨rfl, hb⟩
  replace Ap := Arr.to' Ap hb
  replace Am := Arr.to' Am hb
  replace An := Arr.to' An hb
  replace Ao := Arr.to' Ao hb
  replace Aq := Arr.to' Aq hb
  replace Ac := Arr.to' Ac hb
  replace hB := Bel.call hB hb
  clear hb cp_0 cp_1 cp_2 cp_3 cp_4 cp_5 cp_6 cp_7 cp_8 cp_9 cp_10 cp_11 cp_12 cq
  have lp_4 := Ap.lt
  have lm_4 := Am.lt
  have ln_4 := An.lt
  have lo_4 := Ao.lt
  have lq_4 := Aq.lt
  have lc_4 := Ac.lt
  have lB_4 := hB.size
  replace Ap := (Arr.al' Ap (.cells #[.int .u64 (lim (s) 0), .int .u64 (lim (s) 1), .int .u64 (lim (s) 2), .int .u64 (lim (s) 3)] 24))
  replace Am := (Arr.al' Am (.cells #[.int .u64 (lim (s) 0), .int .u64 (lim (s) 1), .int .u64 (lim (s) 2), .int .u64 (lim (s) 3)] 24))
  replace An := (Arr.al' An (.cells #[.int .u64 (lim (s) 0), .int .u64 (lim (s) 1), .int .u64 (lim (s) 2), .int .u64 (lim (s) 3)] 24))
  replace Ao := (Arr.al' Ao (.cells #[.int .u64 (lim (s) 0), .int .u64 (lim (s) 1), .int .u64 (lim (s) 2), .int .u64 (lim (s) 3)] 24))
  replace Aq := (Arr.al' Aq (.cells #[.int .u64 (lim (s) 0), .int .u64 (lim (s) 1), .int .u64 (lim (s) 2), .int .u64 (lim (s) 3)] 24))
  replace Ac := (Arr.al' Ac (.cells #[.int .u64 (lim (s) 0), .int .u64 (lim (s) 1), .int .u64 (lim (s) 2), .int .u64 (lim (s) 3)] 24))
  have As : Arr ((w3.alloc (.cells #[.int .u64 (lim (s) 0), .int .u64 (lim (s) 1), .int .u64 (lim (s) 2), .int .u64 (lim (s) 3)] 24))) (w3.heap.size) 4 (fun j => .int .u64 (lim (s) j)) := by refine Arr.mk4 ?_ ?_ ?_ ?_ ?_ ?_ ?_ ?_ <;> simp [go_sem]
  replace hB := (Bel.al hB (.cells #[.int .u64 (lim (s) 0), .int .u64 (lim (s) 1), .int .u64 (lim (s) 2), .int .u64 (lim (s) 3)] 24))
  go_wp2_with fail
  apply wp_region_alloc_tail 7 (by kernel_rfl) (by kernel_rfl) (by kernel_rfl) (.cells #[.int .u64 0, .int .u64 0, .int .u64 0, .int .u64 0] 24) _ rfl (fun _ _ => by simp [go_sem])
  · intro W hW
    obtain ⟨rn0, rn1, rn2, rn3⟩ := Arr.g4 (Arr.to' An hW)
    obtain ⟨rc0, rc1, rc2, rc3⟩ := Arr.g4 (Arr.to' Ac hW)
    obtain ⟨rs0, rs1, rs2, rs3⟩ := Arr.g4 (Arr.to' As hW)
    simp only [List.take_succ_cons, List.take_zero]
    repeat (go_big_quiet_step (first | (go_at_call 104; with_reducible first | exact Calls.regrown_of (C1 _) | exact Calls.regrown_of (C4 _)) | (go_at_call 111; with_reducible first | exact Calls.regrown_of (C2 _) | exact Calls.regrown_of (C3 _) | exact Calls.regrown_of (C9 _) | exact Calls.regrown_of (C10 _) | exact Calls.regrown_of (C12 _)) | (go_at_call 112; with_reducible first | exact Calls.regrown_of (C5 _) | exact Calls.regrown_of (C7 _) | exact Calls.regrown_of (C8 _) | exact Calls.regrown_of (C11 _)) | (go_at_call 114; with_reducible first | exact Calls.regrown_of (C6 _))))
    exact wpQuiet_nil rfl
  intro v4 w14 hb1 hb2
  simp only [List.drop_succ_cons, List.drop_zero, Act.put, List.setIfInBounds_toArray, List.set_cons_succ, List.set_cons_zero]
  have Ep := Arr.to' Ap hb1
  have lp_v4 := Ep.lt
  have Bp := Arr.to' (Arr.al' Ep _) hb2
  have Em := Arr.to' Am hb1
  have lm_v4 := Em.lt
  have Bm := Arr.to' (Arr.al' Em _) hb2
  have En := Arr.to' An hb1
  have ln_v4 := En.lt
  have Bn := Arr.to' (Arr.al' En _) hb2
  have Eo := Arr.to' Ao hb1
  have lo_v4 := Eo.lt
  have Bo := Arr.to' (Arr.al' Eo _) hb2
  have Eq := Arr.to' Aq hb1
  have lq_v4 := Eq.lt
  have Bq := Arr.to' (Arr.al' Eq _) hb2
  have Ec := Arr.to' Ac hb1
  have lc_v4 := Ec.lt
  have Bc := Arr.to' (Arr.al' Ec _) hb2
  have Es := Arr.to' As hb1
  have ls_v4 := Es.lt
  have Bs := Arr.to' (Arr.al' Es _) hb2
  have Bx := (Arr.mk4 (w := (v4.alloc (.cells #[.int .u64 0, .int .u64 0, .int .u64 0, .int .u64 0] 24))) (f := fun _ => .int .u64 0) (b := v4.heap.size) (by simp [go_sem]) (by simp [go_sem]) (by simp [go_sem]) (by simp [go_sem]) (by simp [go_sem]) (by simp [go_sem]) (by simp [go_sem]) (by simp [go_sem])).below hb2 (by go_size)
  have lB_v4 := (Bel.call hB hb1).size
  have hB' := Bel.call (Bel.al (Bel.call hB hb1) _) hb2
  clear hb1 hb2 Ep Em En Eo Eq Ec Es Ap Am An Ao Aq Ac As hB
  have Ap := Bp
  have Am := Bm
  have An := Bn
  have Ao := Bo
  have Aq := Bq
  have Ac := Bc
  have As := Bs
  have Ax := Bx
  have hB := hB'
  clear Bp Bm Bn Bo Bq Bc Bs Bx hB'
  have cx := Ax.c
  have zx := Ax.z
  have Bp := Arr.st4o (b' := v4.heap.size) Ap (by have := Ap.lt; have := Ax.lt; omega) (x)
  have Bm := Arr.st4o (b' := v4.heap.size) Am (by have := Am.lt; have := Ax.lt; omega) (x)
  have Bn := Arr.st4o (b' := v4.heap.size) An (by have := An.lt; have := Ax.lt; omega) (x)
  have Bo := Arr.st4o (b' := v4.heap.size) Ao (by have := Ao.lt; have := Ax.lt; omega) (x)
  have Bq := Arr.st4o (b' := v4.heap.size) Aq (by have := Aq.lt; have := Ax.lt; omega) (x)
  have Bc := Arr.st4o (b' := v4.heap.size) Ac (by have := Ac.lt; have := Ax.lt; omega) (x)
  have Bs := Arr.st4o (b' := v4.heap.size) As (by have := As.lt; have := Ax.lt; omega) (x)
  have Bx := Arr.st4 Ax (x)
  have hB' := Bel.st4 hB (b := v4.heap.size) (by have := hB.size; omega) (x)
  clear Ap Am An Ao Aq Ac As Ax hB
  have Ap := Bp
  have Am := Bm
  have An := Bn
  have Ao := Bo
  have Aq := Bq
  have Ac := Bc
  have As := Bs
  have Ax := Bx
  have hB := hB'
  clear Bp Bm Bn Bo Bq Bc Bs Bx hB'
  go_wp2_with fail
  apply wp_region_alloc_tail 11 (by kernel_rfl) (by kernel_rfl) (by kernel_rfl) (.cells #[.int .u64 0, .int .u64 0, .int .u64 0, .int .u64 0] 24) _ rfl (fun _ _ => by simp [go_sem])
  · intro W hW
    obtain ⟨rn0, rn1, rn2, rn3⟩ := Arr.g4 (Arr.to' An hW)
    obtain ⟨rs0, rs1, rs2, rs3⟩ := Arr.g4 (Arr.to' As hW)
    obtain ⟨rx0, rx1, rx2, rx3⟩ := Arr.g4 (Arr.to' Ax hW)
    obtain ⟨rp0, rp1, rp2, rp3, rp4, rp5, rp6, rp7, rp8, rp9, rp10, rp11, rp12⟩ := Arr.g_sx (Arr.to' Ap hW)
    obtain ⟨rc0, rc1, rc2, rc3⟩ := Arr.g4 (Arr.to' Ac hW)
    simp only [List.take_succ_cons, List.take_zero]
    repeat (go_big_quiet_step (first | (go_at_call 104; with_reducible first | exact Calls.regrown_of (C1 _) | exact Calls.regrown_of (C4 _)) | (go_at_call 111; with_reducible first | exact Calls.regrown_of (C2 _) | exact Calls.regrown_of (C3 _) | exact Calls.regrown_of (C9 _) | exact Calls.regrown_of (C10 _) | exact Calls.regrown_of (C12 _)) | (go_at_call 112; with_reducible first | exact Calls.regrown_of (C5 _) | exact Calls.regrown_of (C7 _) | exact Calls.regrown_of (C8 _) | exact Calls.regrown_of (C11 _)) | (go_at_call 114; with_reducible first | exact Calls.regrown_of (C6 _))))
    exact wpQuiet_nil rfl
  intro v5 w15 hb1 hb2
  simp only [List.drop_succ_cons, List.drop_zero, Act.put, List.setIfInBounds_toArray, List.set_cons_succ, List.set_cons_zero]
  have Ep := Arr.to' Ap hb1
  have lp_v5 := Ep.lt
  have Bp := Arr.to' (Arr.al' Ep _) hb2
  have Em := Arr.to' Am hb1
  have lm_v5 := Em.lt
  have Bm := Arr.to' (Arr.al' Em _) hb2
  have En := Arr.to' An hb1
  have ln_v5 := En.lt
  have Bn := Arr.to' (Arr.al' En _) hb2
  have Eo := Arr.to' Ao hb1
  have lo_v5 := Eo.lt
  have Bo := Arr.to' (Arr.al' Eo _) hb2
  have Eq := Arr.to' Aq hb1
  have lq_v5 := Eq.lt
  have Bq := Arr.to' (Arr.al' Eq _) hb2
  have Ec := Arr.to' Ac hb1
  have lc_v5 := Ec.lt
  have Bc := Arr.to' (Arr.al' Ec _) hb2
  have Es := Arr.to' As hb1
  have ls_v5 := Es.lt
  have Bs := Arr.to' (Arr.al' Es _) hb2
  have Ex := Arr.to' Ax hb1
  have lx_v5 := Ex.lt
  have Bx := Arr.to' (Arr.al' Ex _) hb2
  have By := (Arr.mk4 (w := (v5.alloc (.cells #[.int .u64 0, .int .u64 0, .int .u64 0, .int .u64 0] 24))) (f := fun _ => .int .u64 0) (b := v5.heap.size) (by simp [go_sem]) (by simp [go_sem]) (by simp [go_sem]) (by simp [go_sem]) (by simp [go_sem]) (by simp [go_sem]) (by simp [go_sem]) (by simp [go_sem])).below hb2 (by go_size)
  have lB_v5 := (Bel.call hB hb1).size
  have hB' := Bel.call (Bel.al (Bel.call hB hb1) _) hb2
  clear hb1 hb2 Ep Em En Eo Eq Ec Es Ex Ap Am An Ao Aq Ac As Ax hB
  have Ap := Bp
  have Am := Bm
  have An := Bn
  have Ao := Bo
  have Aq := Bq
  have Ac := Bc
  have As := Bs
  have Ax := Bx
  have Ay := By
  have hB := hB'
  clear Bp Bm Bn Bo Bq Bc Bs Bx By hB'
  have cy := Ay.c
  have zy := Ay.z
  have Bp := Arr.st4o (b' := v5.heap.size) Ap (by have := Ap.lt; have := Ay.lt; omega) (y)
  have Bm := Arr.st4o (b' := v5.heap.size) Am (by have := Am.lt; have := Ay.lt; omega) (y)
  have Bn := Arr.st4o (b' := v5.heap.size) An (by have := An.lt; have := Ay.lt; omega) (y)
  have Bo := Arr.st4o (b' := v5.heap.size) Ao (by have := Ao.lt; have := Ay.lt; omega) (y)
  have Bq := Arr.st4o (b' := v5.heap.size) Aq (by have := Aq.lt; have := Ay.lt; omega) (y)
  have Bc := Arr.st4o (b' := v5.heap.size) Ac (by have := Ac.lt; have := Ay.lt; omega) (y)
  have Bs := Arr.st4o (b' := v5.heap.size) As (by have := As.lt; have := Ay.lt; omega) (y)
  have Bx := Arr.st4o (b' := v5.heap.size) Ax (by have := Ax.lt; have := Ay.lt; omega) (y)
  have By := Arr.st4 Ay (y)
  have hB' := Bel.st4 hB (b := v5.heap.size) (by have := hB.size; omega) (y)
  clear Ap Am An Ao Aq Ac As Ax Ay hB
  have Ap := Bp
  have Am := Bm
  have An := Bn
  have Ao := Bo
  have Aq := Bq
  have Ac := Bc
  have As := Bs
  have Ax := Bx
  have Ay := By
  have hB := hB'
  clear Bp Bm Bn Bo Bq Bc Bs Bx By hB'
  obtain ⟨rx0, rx1, rx2, rx3⟩ := Arr.g4 Ax
  obtain ⟨ry0, ry1, ry2, ry3⟩ := Arr.g4 Ay
  obtain ⟨rp0, rp1, rp2, rp3, rp4, rp5, rp6, rp7, rp8, rp9, rp10, rp11, rp12⟩ := Arr.g_sx Ap
  obtain ⟨rm0, rm1, rm2, rm3⟩ := Arr.g4 Am
  go_wp2_with fail
  refine wp_region_below_tail 8 (by kernel_rfl) (by kernel_rfl) ?_
  simp only [List.take_succ_cons, List.take_zero, List.drop_succ_cons, List.drop_zero]
  repeat (go_big_quiet_step (first | (go_at_call 104; with_reducible first | exact Calls.regrown_of (C1 _) | exact Calls.regrown_of (C4 _)) | (go_at_call 111; with_reducible first | exact Calls.regrown_of (C2 _) | exact Calls.regrown_of (C3 _) | exact Calls.regrown_of (C9 _) | exact Calls.regrown_of (C10 _) | exact Calls.regrown_of (C12 _)) | (go_at_call 112; with_reducible first | exact Calls.regrown_of (C5 _) | exact Calls.regrown_of (C7 _) | exact Calls.regrown_of (C8 _) | exact Calls.regrown_of (C11 _)) | (go_at_call 114; with_reducible first | exact Calls.regrown_of (C6 _))))
  refine wpQuiet_nil ?_
  intro w6 hw'
  obtain ⟨⟨dq, osq⟩, hw''⟩ := hw'
  have hb := below_of hw''
  clear hw''
  replace Ao := Arr.to' Ao hb
  replace hB := Bel.call hB hb
  clear hb cy zy rx0 rx1 rx2 rx3 ry0 ry1 ry2 ry3 rp0 rp1 rp2 rp3 rp4 rp5 rp6 rp7 rp8 rp9 rp10 rp11 rp12 rm0 rm1 rm2 rm3 Ap Am An Aq Ac As Ax Ay
  have hS := hB.size
  obtain ⟨co_0, co_1, co_2, co_3, co_4, co_5, co_6, co_7, co_8, co_9, co_10, co_11, co_12⟩ := Arr.c_zs Ao
  have zo := Ao.z
  go_wp2_with fail
  refine bodyPost_ret (v := jv x y false z) (by simp [results, Tryz.results115, go_sem, co_0, co_1, co_2, co_3, co_4, co_5, co_6, co_7, co_8, co_9, co_10, co_11, co_12]) rfl ⟨rfl, ?_⟩
  go_grown
set_option maxHeartbeats 8000000 in
theorem plain_none (X Y Z : Int) (w : World)
    (C1 : ∀ W, Calls Tryz.prog 84 #[] W fun e w' => e = .returned (pv 0 0 true) ∧ Below W.heap.size W w') :
    Calls Tryz.prog 88 #[jv X Y true Z] w fun e w' => e = .returned (pv 0 0 true) ∧ Below w.heap.size w w' := by
  go_enter Tryz.func88, Tryz.ntmps88
  obtain ⟨W0, hW0⟩ : ∃ W0, W0 = ((w.alloc (.cells #[.int .u64 (lim (X) 0), .int .u64 (lim (X) 1), .int .u64 (lim (X) 2), .int .u64 (lim (X) 3), .int .u64 (lim (Y) 0), .int .u64 (lim (Y) 1), .int .u64 (lim (Y) 2), .int .u64 (lim (Y) 3), .bool true, .int .u64 (lim (Z) 0), .int .u64 (lim (Z) 1), .int .u64 (lim (Z) 2), .int .u64 (lim (Z) 3)] 99)).alloc (.cells #[.int .u64 0, .int .u64 0, .int .u64 0, .int .u64 0, .int .u64 0, .int .u64 0, .int .u64 0, .int .u64 0, .bool false] 28)) := ⟨_, rfl⟩
  have Ap : Arr W0 (w.heap.size) 13 (sx (X) (Y) true (Z)) := by subst hW0; refine Arr.mk13 ?_ ?_ ?_ ?_ ?_ ?_ ?_ ?_ ?_ ?_ ?_ ?_ ?_ ?_ <;> simp [go_sem, px, sx, zx]
  have Ao : Arr W0 (w.heap.size + 1) 9 (zx 8) := by subst hW0; refine Arr.mk9p ?_ ?_ ?_ ?_ ?_ ?_ ?_ ?_ ?_ ?_ <;> simp [go_sem, px, sx, zx]
  have hB : Below w.heap.size w W0 := by subst hW0; go_grown
  subst hW0
  obtain ⟨cp_0, cp_1, cp_2, cp_3, cp_4, cp_5, cp_6, cp_7, cp_8, cp_9, cp_10, cp_11, cp_12⟩ := Arr.c_sx Ap
  go_wp2_with fail
  refine (C1 _).mono ?_
  rintro e w11 ⟨rfl, hb⟩
  replace Ao := Arr.to' Ao hb
  replace hB := Bel.call hB hb
  clear hb cp_0 cp_1 cp_2 cp_3 cp_4 cp_5 cp_6 cp_7 cp_8 cp_9 cp_10 cp_11 cp_12 Ap
  have hS := hB.size
  obtain ⟨co_0, co_1, co_2, co_3, co_4, co_5, co_6, co_7, co_8⟩ := Arr.c_zp Ao
  have zo := Ao.z
  go_wp2_with fail
  refine bodyPost_ret (v := pv 0 0 true) (by simp [results, Tryz.results88, go_sem, co_0, co_1, co_2, co_3, co_4, co_5, co_6, co_7, co_8]) rfl ⟨rfl, ?_⟩
  go_grown
set_option maxHeartbeats 8000000 in
theorem plain_core (X Y Z I i2 x i3 y : Int) (ok : Bool) (w : World)
    (C1 : ∀ W, Calls Tryz.prog 116 #[] W fun e w' => e = .returned (nv pp) ∧ Below W.heap.size W w')
    (C2 : ∀ W, Calls Tryz.prog 95 #[nv Z, nv pp] W fun e w' => e = .returned (.tuple #[nv I, .bool ok]) ∧ Below W.heap.size W w')
    (C3 : ∀ W, Calls Tryz.prog 104 #[nv I] W fun e w' => e = .returned (nv i2) ∧ Below W.heap.size W w')
    (C4 : ∀ W, Calls Tryz.prog 111 #[nv X, nv i2] W fun e w' => e = .returned (nv x) ∧ Below W.heap.size W w')
    (C5 : ∀ W, Calls Tryz.prog 111 #[nv I, nv i2] W fun e w' => e = .returned (nv i3) ∧ Below W.heap.size W w')
    (C6 : ∀ W, Calls Tryz.prog 111 #[nv Y, nv i3] W fun e w' => e = .returned (nv y) ∧ Below W.heap.size W w') :
    Calls Tryz.prog 88 #[jv X Y false Z] w fun e w' => e = .returned (pv x y false) ∧ Below w.heap.size w w' := by
  go_enter Tryz.func88, Tryz.ntmps88
  go_wp2_with fail
  obtain ⟨W0, hW0⟩ : ∃ W0, W0 = ((w.alloc (.cells #[.int .u64 (lim (X) 0), .int .u64 (lim (X) 1), .int .u64 (lim (X) 2), .int .u64 (lim (X) 3), .int .u64 (lim (Y) 0), .int .u64 (lim (Y) 1), .int .u64 (lim (Y) 2), .int .u64 (lim (Y) 3), .bool false, .int .u64 (lim (Z) 0), .int .u64 (lim (Z) 1), .int .u64 (lim (Z) 2), .int .u64 (lim (Z) 3)] 99)).alloc (.cells #[.int .u64 0, .int .u64 0, .int .u64 0, .int .u64 0, .int .u64 0, .int .u64 0, .int .u64 0, .int .u64 0, .bool false] 28)) := ⟨_, rfl⟩
  have Ap : Arr W0 (w.heap.size) 13 (sx (X) (Y) false (Z)) := by subst hW0; refine Arr.mk13 ?_ ?_ ?_ ?_ ?_ ?_ ?_ ?_ ?_ ?_ ?_ ?_ ?_ ?_ <;> simp [go_sem, px, sx, zx]
  have Ao : Arr W0 (w.heap.size + 1) 9 (zx 8) := by subst hW0; refine Arr.mk9p ?_ ?_ ?_ ?_ ?_ ?_ ?_ ?_ ?_ ?_ <;> simp [go_sem, px, sx, zx]
  have hB : Below w.heap.size w W0 := by subst hW0; go_grown
  subst hW0
  apply wp_region_pure_tail 4 3 #[true, true, true, true, false, false, false, true, false, false] #[true, true, true, true, true, true, true, false, false, false] (by kernel_rfl) (by intro c d v a w h; cases d <;> exact h) (by kernel_rfl) (by kernel_rfl) (.cells #[.int .u64 0, .int .u64 0, .int .u64 0, .int .u64 0] 24) _ rfl (fun _ _ => by simp [go_sem])
  · intro W hW
    obtain ⟨rp0, rp1, rp2, rp3, rp4, rp5, rp6, rp7, rp8, rp9, rp10, rp11, rp12⟩ := Arr.g_sx (Arr.to' Ap hW)
    simp only [List.take_succ_cons, List.take_zero]
    repeat (go_big_quiet_step (first | (go_at_call 116; with_reducible first | exact Calls.regrown_of (C1 _)) | (go_at_call 95; with_reducible first | exact Calls.regrown_of (C2 _)) | (go_at_call 104; with_reducible first | exact Calls.regrown_of (C3 _)) | (go_at_call 111; with_reducible first | exact Calls.regrown_of (C4 _) | exact Calls.regrown_of (C5 _) | exact Calls.regrown_of (C6 _))))
    exact wpQuiet_nil rfl
  · exact ⟨_, Or.inl ⟨rfl, fun _ => rfl⟩, ⟨_, Or.inl ⟨rfl, fun _ => rfl⟩, ⟨_, Or.inl ⟨rfl, fun _ => rfl⟩, rfl⟩⟩⟩
  · intro v; exact ⟨_, Or.inl ⟨rfl, fun _ => rfl⟩, ⟨_, Or.inl ⟨rfl, fun _ => rfl⟩, ⟨_, Or.inl ⟨rfl, fun _ => rfl⟩, rfl⟩⟩⟩
  intro v1 w11 hb1 hb2
  simp only [List.drop_succ_cons, List.drop_zero, Act.put, List.setIfInBounds_toArray, List.set_cons_succ, List.set_cons_zero]
  have Ep := Arr.to' Ap hb1
  have lp_v1 := Ep.lt
  have Bp := Arr.to' (Arr.al' Ep _) hb2
  have Eo := Arr.to' Ao hb1
  have lo_v1 := Eo.lt
  have Bo := Arr.to' (Arr.al' Eo _) hb2
  have Bi := (Arr.mk4 (w := (v1.alloc (.cells #[.int .u64 0, .int .u64 0, .int .u64 0, .int .u64 0] 24))) (f := fun _ => .int .u64 0) (b := v1.heap.size) (by simp [go_sem]) (by simp [go_sem]) (by simp [go_sem]) (by simp [go_sem]) (by simp [go_sem]) (by simp [go_sem]) (by simp [go_sem]) (by simp [go_sem])).below hb2 (by go_size)
  have lB_v1 := (Bel.call hB hb1).size
  have hB' := Bel.call (Bel.al (Bel.call hB hb1) _) hb2
  clear hb1 hb2 Ep Eo Ap Ao hB
  have Ap := Bp
  have Ao := Bo
  have Ai := Bi
  have hB := hB'
  clear Bp Bo Bi hB'
  have ci := Ai.c
  have zi := Ai.z
  have Bp := Arr.st4o (b' := v1.heap.size) Ap (by have := Ap.lt; have := Ai.lt; omega) (I)
  have Bo := Arr.st4o (b' := v1.heap.size) Ao (by have := Ao.lt; have := Ai.lt; omega) (I)
  have Bi := Arr.st4 Ai (I)
  have hB' := Bel.st4 hB (b := v1.heap.size) (by have := hB.size; omega) (I)
  clear Ap Ao Ai hB
  have Ap := Bp
  have Ao := Bo
  have Ai := Bi
  have hB := hB'
  clear Bp Bo Bi hB'
  have ci := Ai.c
  go_wp2_with fail
  refine (C3 _).mono ?_
  rintro e w12 ⟨rfl, hb⟩
  replace Ap := Arr.to' Ap hb
  replace Ao := Arr.to' Ao hb
  replace Ai := Arr.to' Ai hb
  replace hB := Bel.call hB hb
  clear hb ci zi
  have lp_2 := Ap.lt
  have lo_2 := Ao.lt
  have li_2 := Ai.lt
  have lB_2 := hB.size
  replace Ap := (Arr.al' Ap (.cells #[.int .u64 (lim (i2) 0), .int .u64 (lim (i2) 1), .int .u64 (lim (i2) 2), .int .u64 (lim (i2) 3)] 24))
  replace Ao := (Arr.al' Ao (.cells #[.int .u64 (lim (i2) 0), .int .u64 (lim (i2) 1), .int .u64 (lim (i2) 2), .int .u64 (lim (i2) 3)] 24))
  replace Ai := (Arr.al' Ai (.cells #[.int .u64 (lim (i2) 0), .int .u64 (lim (i2) 1), .int .u64 (lim (i2) 2), .int .u64 (lim (i2) 3)] 24))
  have Aq : Arr ((w12.alloc (.cells #[.int .u64 (lim (i2) 0), .int .u64 (lim (i2) 1), .int .u64 (lim (i2) 2), .int .u64 (lim (i2) 3)] 24))) (w12.heap.size) 4 (fun j => .int .u64 (lim (i2) j)) := by refine Arr.mk4 ?_ ?_ ?_ ?_ ?_ ?_ ?_ ?_ <;> simp [go_sem]
  replace hB := (Bel.al hB (.cells #[.int .u64 (lim (i2) 0), .int .u64 (lim (i2) 1), .int .u64 (lim (i2) 2), .int .u64 (lim (i2) 3)] 24))
  obtain ⟨rp0, rp1, rp2, rp3, rp4, rp5, rp6, rp7, rp8, rp9, rp10, rp11, rp12⟩ := Arr.g_sx Ap
  obtain ⟨rq0, rq1, rq2, rq3⟩ := Arr.g4 Aq
  obtain ⟨ri0, ri1, ri2, ri3⟩ := Arr.g4 Ai
  go_wp2_with fail
  refine wp_region_below_tail 13 (by kernel_rfl) (by kernel_rfl) ?_
  simp only [List.take_succ_cons, List.take_zero, List.drop_succ_cons, List.drop_zero]
  repeat (go_big_quiet_step (first | (go_at_call 116; with_reducible first | exact Calls.regrown_of (C1 _)) | (go_at_call 95; with_reducible first | exact Calls.regrown_of (C2 _)) | (go_at_call 104; with_reducible first | exact Calls.regrown_of (C3 _)) | (go_at_call 111; with_reducible first | exact Calls.regrown_of (C4 _) | exact Calls.regrown_of (C5 _) | exact Calls.regrown_of (C6 _))))
  refine wpQuiet_nil ?_
  intro w3 hw'
  obtain ⟨⟨dq, osq⟩, hw''⟩ := hw'
  have hb := below_of hw''
  clear hw''
  replace Ao := Arr.to' Ao hb
  replace hB := Bel.call hB hb
  clear hb rp0 rp1 rp2 rp3 rp4 rp5 rp6 rp7 rp8 rp9 rp10 rp11 rp12 rq0 rq1 rq2 rq3 ri0 ri1 ri2 ri3 Ap Ai Aq
  have hS := hB.size
  obtain ⟨co_0, co_1, co_2, co_3, co_4, co_5, co_6, co_7, co_8⟩ := Arr.c_zp Ao
  have zo := Ao.z
  go_wp2_with fail
  refine bodyPost_ret (v := pv x y false) (by simp [results, Tryz.results88, go_sem, co_0, co_1, co_2, co_3, co_4, co_5, co_6, co_7, co_8]) rfl ⟨rfl, ?_⟩
  go_grown
end Go.Proofs.YtoolbnbfbegjaaaGreat
