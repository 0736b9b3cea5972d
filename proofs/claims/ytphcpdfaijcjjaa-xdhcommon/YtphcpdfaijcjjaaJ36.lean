/- What height, isSquare and On of xdh answer, and Public. -/
import Derived.Test.YtphcpdfaijcjjaaJ35
import Derived.Test.YtphcpdfaijcjjaaJ21
import Derived.Test.YtphcpdfaijcjjaaJ1
import Derived.Test.YtphcpdfaijcjjaaJ14
set_option linter.all false
set_option maxRecDepth 100000
namespace Go.Proofs.Ytphcpdfaijcjjaa
open Go.RowKit Go.Sort
theorem xaddc (B : Int) (iB : Inn B) (w : World) : Calls Try.prog 26 #[nv B, .agg #[.int .u64 486662, .int .u64 0, .int .u64 0, .int .u64 0]] w fun e w' => e = .returned (nv (fa B 486662)) ∧ Below w.heap.size w w' := by
  rw [← nv_low 486662 (by decide) (by decide)]; exact xadd B 486662 iB ⟨by decide, by decide⟩ w
theorem xadd1 (B : Int) (iB : Inn B) (w : World) : Calls Try.prog 26 #[nv B, .agg #[.int .u64 1, .int .u64 0, .int .u64 0, .int .u64 0]] w fun e w' => e = .returned (nv (fa B 1)) ∧ Below w.heap.size w w' := by
  rw [← nv_low 1 (by decide) (by decide)]; exact xadd B 1 iB ⟨by decide, by decide⟩ w
/-- x^3 + 486662 x^2 + x. -/
def hh (X : Int) : Int := fm X (fa (fm X (fa X 486662)) 1)
set_option maxHeartbeats 4000000 in
theorem height_any (X : Int) (iX : Inn X) (w : World) : Calls Try.prog 14 #[nv X] w fun e w' => e = .returned (nv (hh X)) ∧ Below w.heap.size w w' := by
  unfold hh
  go_enter Try.func14, Try.ntmps14
  go_wp2_with fail
  have Bx : Arr (((w.alloc (.cells #[.int .u64 (lim (X) 0), .int .u64 (lim (X) 1), .int .u64 (lim (X) 2), .int .u64 (lim (X) 3)] 32)).alloc (.cells #[.int .u64 0, .int .u64 0, .int .u64 0, .int .u64 0] 32))) (w.heap.size) 4 (fun j => .int .u64 (lim (X) j)) := by refine Arr.mk4 ?_ ?_ ?_ ?_ ?_ ?_ ?_ ?_ <;> simp [go_sem]
  have Bz : Arr (((w.alloc (.cells #[.int .u64 (lim (X) 0), .int .u64 (lim (X) 1), .int .u64 (lim (X) 2), .int .u64 (lim (X) 3)] 32)).alloc (.cells #[.int .u64 0, .int .u64 0, .int .u64 0, .int .u64 0] 32))) (w.heap.size + 1) 4 (fun _ => .int .u64 0) := by refine Arr.mk4 ?_ ?_ ?_ ?_ ?_ ?_ ?_ ?_ <;> simp [go_sem]
  have hB' : Below w.heap.size w ((w.alloc (.cells #[.int .u64 (lim (X) 0), .int .u64 (lim (X) 1), .int .u64 (lim (X) 2), .int .u64 (lim (X) 3)] 32)).alloc (.cells #[.int .u64 0, .int .u64 0, .int .u64 0, .int .u64 0] 32)) := by go_grown
  have Ax := Bx
  have Az := Bz
  have hB := hB'
  clear Bx Bz hB'
  apply wp_region_alloc_tail 7 (by kernel_rfl) (by kernel_rfl) (by kernel_rfl) (.cells #[.int .u64 0, .int .u64 0, .int .u64 0, .int .u64 0] 32) _ rfl (fun _ _ => by simp [go_sem])
  · intro W hW
    have rx0 := fun ds os => cell_regrown ((Arr.to' Ax hW).c 0 (by omega)) ds os
    have rx1 := fun ds os => cell_regrown ((Arr.to' Ax hW).c 1 (by omega)) ds os
    have rx2 := fun ds os => cell_regrown ((Arr.to' Ax hW).c 2 (by omega)) ds os
    have rx3 := fun ds os => cell_regrown ((Arr.to' Ax hW).c 3 (by omega)) ds os
    simp only [List.take_succ_cons, List.take_zero]
    repeat (go_big_quiet_step (first | (go_at_call 27; with_reducible exact Calls.regrown_of (xmul _ _ (by first | exact inn_fm _ _ | exact inn_fa _ _ | exact inn_fs _ _ | assumption) (by first | exact inn_fm _ _ | exact inn_fa _ _ | exact inn_fs _ _ | assumption) _)) | (go_at_call 26; with_reducible exact Calls.regrown_of (xaddc _ iX _)) | (go_at_call 26; with_reducible exact Calls.regrown_of (xadd1 _ (inn_fm _ _) _))))
    exact wpQuiet_nil rfl
  intro u1 w11 hb1 hb2
  simp only [List.drop_succ_cons, List.drop_zero, Act.put, List.setIfInBounds_toArray, List.set_cons_succ, List.set_cons_zero]
  have Ex := Arr.to' Ax hb1
  have lx_u1 := Ex.lt
  have Bx := Arr.to' (Arr.al' Ex (.cells #[.int .u64 0, .int .u64 0, .int .u64 0, .int .u64 0] 32)) hb2
  have Ez := Arr.to' Az hb1
  have lz_u1 := Ez.lt
  have Bz := Arr.to' (Arr.al' Ez (.cells #[.int .u64 0, .int .u64 0, .int .u64 0, .int .u64 0] 32)) hb2
  have Bi := (Arr.mk4 (w := (u1.alloc (.cells #[.int .u64 0, .int .u64 0, .int .u64 0, .int .u64 0] 32))) (f := fun _ => .int .u64 0) (b := u1.heap.size) (by simp [go_sem]) (by simp [go_sem]) (by simp [go_sem]) (by simp [go_sem]) (by simp [go_sem]) (by simp [go_sem]) (by simp [go_sem]) (by simp [go_sem])).below hb2 (by go_size)
  have lB_u1 := (Bel.call hB hb1).size
  have hB' := Bel.call (Bel.al (Bel.call hB hb1) (.cells #[.int .u64 0, .int .u64 0, .int .u64 0, .int .u64 0] 32)) hb2
  clear hb1 hb2 Ex Ez Ax Az hB
  have Ax := Bx
  have Az := Bz
  have Ai := Bi
  have hB := hB'
  clear Bx Bz Bi hB'
  have ci := Ai.c
  have zi := Ai.z
  have Bx := Arr.st4o (b' := u1.heap.size) Ax (by have := Ax.lt; have := Ai.lt; omega) (fa (fm X (fa X 486662)) 1)
  have Bz := Arr.st4o (b' := u1.heap.size) Az (by have := Az.lt; have := Ai.lt; omega) (fa (fm X (fa X 486662)) 1)
  have Bi := Arr.st4 Ai (fa (fm X (fa X 486662)) 1)
  have hB' := Bel.st4 hB (b := u1.heap.size) (by have := hB.size; omega) (fa (fm X (fa X 486662)) 1)
  clear Ax Az Ai hB
  have Ax := Bx
  have Az := Bz
  have Ai := Bi
  have hB := hB'
  clear Bx Bz Bi hB'
  have cx := Ax.c
  have cz := Az.c
  have zz := Az.z
  go_wp2_with fail
  refine (xmul X (fa (fm X (fa X 486662)) 1) iX (inn_fa _ _) _).mono ?_
  rintro e w12 ⟨rfl, hb⟩
  have Bz := Arr.to' Az hb
  have hB' := Bel.call hB hb
  clear hb ci zi cx cz zz Ax Az Ai hB
  have Az := Bz
  have hB := hB'
  clear Bz hB'
  have hS := hB.size
  have cz := Az.c
  have zz := Az.z
  go_wp2_with fail
  refine bodyPost_ret (v := nv (fm X (fa (fm X (fa X 486662)) 1))) (by simp [results, Try.results14, go_sem, cz]) rfl ⟨rfl, ?_⟩
  go_grown
/-- A number is 0, part by part. -/
def z4 (N : Int) : Bool := lim N 0 == 0 && (lim N 1 == 0 && (lim N 2 == 0 && lim N 3 == 0))
/-- A number is 1, part by part. -/
def o4 (N : Int) : Bool := lim N 0 == 1 && (lim N 1 == 0 && (lim N 2 == 0 && lim N 3 == 0))
section
attribute [local go_sem] eq24
set_option maxHeartbeats 4000000 in
theorem isSquare_0 (H Q P1 R1 er Y : Int) (hz : (lim H 0 == 0 && (lim H 1 == 0 && (lim H 2 == 0 && lim H 3 == 0))) = true) (w : World)
    (CD : ∀ W, Calls Try.prog 24 #[nv pp, .agg #[.int .u64 0, .int .u64 0, .int .u64 0, .int .u64 0], .agg #[.int .u64 2, .int .u64 0, .int .u64 0, .int .u64 0]] W fun e w' => e = .returned (.tuple #[nv Q, nv P1, nv R1, .int .i64 er]) ∧ Below W.heap.size W w')
    (CP : ∀ W, Calls Try.prog 25 #[nv H, nv Q, nv pp] W fun e w' => e = .returned (nv Y) ∧ Below W.heap.size W w') :
    Calls Try.prog 13 #[nv H] w fun e w' => e = .returned (.bool true) ∧ Below w.heap.size w w' := by
  go_enter Try.func13, Try.ntmps13
  have Bn : Arr ((w.alloc (.cells #[.int .u64 (lim (H) 0), .int .u64 (lim (H) 1), .int .u64 (lim (H) 2), .int .u64 (lim (H) 3)] 32))) (w.heap.size) 4 (fun j => .int .u64 (lim (H) j)) := by refine Arr.mk4 ?_ ?_ ?_ ?_ ?_ ?_ ?_ ?_ <;> simp [go_sem]
  have hB' : Below w.heap.size w (w.alloc (.cells #[.int .u64 (lim (H) 0), .int .u64 (lim (H) 1), .int .u64 (lim (H) 2), .int .u64 (lim (H) 3)] 32)) := by go_grown
  have An := Bn
  have hB := hB'
  clear Bn hB'
  go_wp2_with fail
  refine (p21 _).mono ?_
  rintro e w1 ⟨rfl, hb⟩
  have Bn := Arr.to' An hb
  have hB' := Bel.call hB hb
  clear hb An hB
  have An := Bn
  have hB := hB'
  clear Bn hB'
  go_wp2_with fail
  refine (CD _).mono ?_
  rintro e w12 ⟨rfl, hb⟩
  have Bn := Arr.to' An hb
  have hB' := Bel.call hB hb
  clear hb An hB CD
  have An := Bn
  have hB := hB'
  clear Bn hB'
  have ln_2 := An.lt
  have lB_2 := hB.size
  have Bn := (Arr.al' (Arr.al' (Arr.al' An (.cells #[.int .u64 (lim (Q) 0), .int .u64 (lim (Q) 1), .int .u64 (lim (Q) 2), .int .u64 (lim (Q) 3)] 32)) (.cells #[.int .u64 (lim (P1) 0), .int .u64 (lim (P1) 1), .int .u64 (lim (P1) 2), .int .u64 (lim (P1) 3)] 32)) (.cells #[.int .u64 (lim (R1) 0), .int .u64 (lim (R1) 1), .int .u64 (lim (R1) 2), .int .u64 (lim (R1) 3)] 32))
  have Bq : Arr ((((w12.alloc (.cells #[.int .u64 (lim (Q) 0), .int .u64 (lim (Q) 1), .int .u64 (lim (Q) 2), .int .u64 (lim (Q) 3)] 32)).alloc (.cells #[.int .u64 (lim (P1) 0), .int .u64 (lim (P1) 1), .int .u64 (lim (P1) 2), .int .u64 (lim (P1) 3)] 32)).alloc (.cells #[.int .u64 (lim (R1) 0), .int .u64 (lim (R1) 1), .int .u64 (lim (R1) 2), .int .u64 (lim (R1) 3)] 32))) (w12.heap.size) 4 (fun j => .int .u64 (lim (Q) j)) := by refine Arr.mk4 ?_ ?_ ?_ ?_ ?_ ?_ ?_ ?_ <;> simp [go_sem]
  have hB' := (Bel.al (Bel.al (Bel.al hB (.cells #[.int .u64 (lim (Q) 0), .int .u64 (lim (Q) 1), .int .u64 (lim (Q) 2), .int .u64 (lim (Q) 3)] 32)) (.cells #[.int .u64 (lim (P1) 0), .int .u64 (lim (P1) 1), .int .u64 (lim (P1) 2), .int .u64 (lim (P1) 3)] 32)) (.cells #[.int .u64 (lim (R1) 0), .int .u64 (lim (R1) 1), .int .u64 (lim (R1) 2), .int .u64 (lim (R1) 3)] 32))
  clear An hB
  have An := Bn
  have Aq := Bq
  have hB := hB'
  clear Bn Bq hB'
  have rn0 := fun ds os => cell_regrown (An.c 0 (by omega)) ds os
  have rn1 := fun ds os => cell_regrown (An.c 1 (by omega)) ds os
  have rn2 := fun ds os => cell_regrown (An.c 2 (by omega)) ds os
  have rn3 := fun ds os => cell_regrown (An.c 3 (by omega)) ds os
  have rq0 := fun ds os => cell_regrown (Aq.c 0 (by omega)) ds os
  have rq1 := fun ds os => cell_regrown (Aq.c 1 (by omega)) ds os
  have rq2 := fun ds os => cell_regrown (Aq.c 2 (by omega)) ds os
  have rq3 := fun ds os => cell_regrown (Aq.c 3 (by omega)) ds os
  go_wp2_with fail
  refine wp_region_quiet_below (by kernel_rfl) (by kernel_rfl) ?_
  repeat (go_big_quiet_step (first | (go_at_call 23; with_reducible exact Calls.regrown_of (p21 _)) | (go_at_call 25; with_reducible exact Calls.regrown_of (CP _))))
  refine wpQuiet_nil ?_
  intro w3 hw'
  obtain ⟨⟨dq, osq⟩, hw''⟩ := hw'
  have hb := below_of hw''
  clear hw''
  have hB' := Bel.call hB hb
  clear hb rn0 rn1 rn2 rn3 rq0 rq1 rq2 rq3 An Aq hB
  have hB := hB'
  clear hB'
  go_wp2_with fail
  go_ret
  exact ⟨rfl, hB⟩
set_option maxHeartbeats 4000000 in
theorem isSquare_1 (H Q P1 R1 er Y : Int) (hz : (lim H 0 == 0 && (lim H 1 == 0 && (lim H 2 == 0 && lim H 3 == 0))) = false) (w : World)
    (CD : ∀ W, Calls Try.prog 24 #[nv pp, .agg #[.int .u64 0, .int .u64 0, .int .u64 0, .int .u64 0], .agg #[.int .u64 2, .int .u64 0, .int .u64 0, .int .u64 0]] W fun e w' => e = .returned (.tuple #[nv Q, nv P1, nv R1, .int .i64 er]) ∧ Below W.heap.size W w')
    (CP : ∀ W, Calls Try.prog 25 #[nv H, nv Q, nv pp] W fun e w' => e = .returned (nv Y) ∧ Below W.heap.size W w') :
    Calls Try.prog 13 #[nv H] w fun e w' => e = .returned (.bool (lim Y 0 == 1 && (lim Y 1 == 0 && (lim Y 2 == 0 && lim Y 3 == 0)))) ∧ Below w.heap.size w w' := by
  go_enter Try.func13, Try.ntmps13
  have Bn : Arr ((w.alloc (.cells #[.int .u64 (lim (H) 0), .int .u64 (lim (H) 1), .int .u64 (lim (H) 2), .int .u64 (lim (H) 3)] 32))) (w.heap.size) 4 (fun j => .int .u64 (lim (H) j)) := by refine Arr.mk4 ?_ ?_ ?_ ?_ ?_ ?_ ?_ ?_ <;> simp [go_sem]
  have hB' : Below w.heap.size w (w.alloc (.cells #[.int .u64 (lim (H) 0), .int .u64 (lim (H) 1), .int .u64 (lim (H) 2), .int .u64 (lim (H) 3)] 32)) := by go_grown
  have An := Bn
  have hB := hB'
  clear Bn hB'
  go_wp2_with fail
  refine (p21 _).mono ?_
  rintro e w1 ⟨rfl, hb⟩
  have Bn := Arr.to' An hb
  have hB' := Bel.call hB hb
  clear hb An hB
  have An := Bn
  have hB := hB'
  clear Bn hB'
  go_wp2_with fail
  refine (CD _).mono ?_
  rintro e w12 ⟨rfl, hb⟩
  have Bn := Arr.to' An hb
  have hB' := Bel.call hB hb
  clear hb An hB CD
  have An := Bn
  have hB := hB'
  clear Bn hB'
  have ln_2 := An.lt
  have lB_2 := hB.size
  have Bn := (Arr.al' (Arr.al' (Arr.al' An (.cells #[.int .u64 (lim (Q) 0), .int .u64 (lim (Q) 1), .int .u64 (lim (Q) 2), .int .u64 (lim (Q) 3)] 32)) (.cells #[.int .u64 (lim (P1) 0), .int .u64 (lim (P1) 1), .int .u64 (lim (P1) 2), .int .u64 (lim (P1) 3)] 32)) (.cells #[.int .u64 (lim (R1) 0), .int .u64 (lim (R1) 1), .int .u64 (lim (R1) 2), .int .u64 (lim (R1) 3)] 32))
  have Bq : Arr ((((w12.alloc (.cells #[.int .u64 (lim (Q) 0), .int .u64 (lim (Q) 1), .int .u64 (lim (Q) 2), .int .u64 (lim (Q) 3)] 32)).alloc (.cells #[.int .u64 (lim (P1) 0), .int .u64 (lim (P1) 1), .int .u64 (lim (P1) 2), .int .u64 (lim (P1) 3)] 32)).alloc (.cells #[.int .u64 (lim (R1) 0), .int .u64 (lim (R1) 1), .int .u64 (lim (R1) 2), .int .u64 (lim (R1) 3)] 32))) (w12.heap.size) 4 (fun j => .int .u64 (lim (Q) j)) := by refine Arr.mk4 ?_ ?_ ?_ ?_ ?_ ?_ ?_ ?_ <;> simp [go_sem]
  have hB' := (Bel.al (Bel.al (Bel.al hB (.cells #[.int .u64 (lim (Q) 0), .int .u64 (lim (Q) 1), .int .u64 (lim (Q) 2), .int .u64 (lim (Q) 3)] 32)) (.cells #[.int .u64 (lim (P1) 0), .int .u64 (lim (P1) 1), .int .u64 (lim (P1) 2), .int .u64 (lim (P1) 3)] 32)) (.cells #[.int .u64 (lim (R1) 0), .int .u64 (lim (R1) 1), .int .u64 (lim (R1) 2), .int .u64 (lim (R1) 3)] 32))
  clear An hB
  have An := Bn
  have Aq := Bq
  have hB := hB'
  clear Bn Bq hB'
  have rn0 := fun ds os => cell_regrown (An.c 0 (by omega)) ds os
  have rn1 := fun ds os => cell_regrown (An.c 1 (by omega)) ds os
  have rn2 := fun ds os => cell_regrown (An.c 2 (by omega)) ds os
  have rn3 := fun ds os => cell_regrown (An.c 3 (by omega)) ds os
  have rq0 := fun ds os => cell_regrown (Aq.c 0 (by omega)) ds os
  have rq1 := fun ds os => cell_regrown (Aq.c 1 (by omega)) ds os
  have rq2 := fun ds os => cell_regrown (Aq.c 2 (by omega)) ds os
  have rq3 := fun ds os => cell_regrown (Aq.c 3 (by omega)) ds os
  go_wp2_with fail
  refine wp_region_quiet_below (by kernel_rfl) (by kernel_rfl) ?_
  repeat (go_big_quiet_step (first | (go_at_call 23; with_reducible exact Calls.regrown_of (p21 _)) | (go_at_call 25; with_reducible exact Calls.regrown_of (CP _))))
  refine wpQuiet_nil ?_
  intro w3 hw'
  obtain ⟨⟨dq, osq⟩, hw''⟩ := hw'
  have hb := below_of hw''
  clear hw''
  have hB' := Bel.call hB hb
  clear hb rn0 rn1 rn2 rn3 rq0 rq1 rq2 rq3 An Aq hB
  have hB := hB'
  clear hB'
  go_wp2_with fail
  go_ret
  exact ⟨rfl, hB⟩
end
/-- A number is 0, or a square. -/
def sqB (H : Int) : Bool := z4 H || o4 (H ^ (pp / 2).toNat % pp)
theorem inn_half : Inn (pp / 2) := ⟨by decide, by decide⟩
theorem isSquare_any (H : Int) (iH : Inn H) (w : World) : Calls Try.prog 13 #[nv H] w fun e w' => e = .returned (.bool (sqB H)) ∧ Below w.heap.size w w' := by
  have cd : ∀ W, Calls Try.prog 24 #[nv pp, .agg #[.int .u64 0, .int .u64 0, .int .u64 0, .int .u64 0], .agg #[.int .u64 2, .int .u64 0, .int .u64 0, .int .u64 0]] W fun e w' => e = .returned (.tuple #[nv (pp / 2), nv (pp / 2 / top256), nv (pp % 2), .int .i64 0]) ∧ Below W.heap.size W w' := fun W => by
    have := div_any pp 0 2 inn_pp.1 inn_pp.2 (by omega) (by decide) (by omega) (by decide) W
    rw [nv_zero, nv_low 2 (by decide) (by decide), Int.zero_mul, Int.add_zero] at this
    exact this
  have cp : ∀ W, Calls Try.prog 25 #[nv H, nv (pp / 2), nv pp] W fun e w' => e = .returned (nv (H ^ (pp / 2).toNat % pp)) ∧ Below W.heap.size W w' := fun W => by
    have := pow_any H (pp / 2) pp iH.1 iH.2 inn_half.1 inn_half.2 inn_pp.1 inn_pp.2 W
    rw [md_pos _ pp_pos] at this
    exact this
  unfold sqB
  cases hz : z4 H
  · rw [Bool.false_or]
    exact isSquare_1 H _ _ _ _ _ hz w cd cp
  · rw [Bool.true_or]
    exact isSquare_0 H _ _ _ _ _ hz w cd cp
set_option maxHeartbeats 2000000 in
theorem on_no (u : ByteArray) (X E : Int) (hE : ¬ E = 0) (w : World)
    (CC : ∀ W, Calls Try.prog 12 #[.string u] W fun e w' => e = .returned (.tuple #[nv X, .int .i64 E]) ∧ Below W.heap.size W w') :
    Calls Try.prog 7 #[.string u] w fun e w' => e = .returned (.bool false) ∧ Below w.heap.size w w' := by
  have hE' : (E == 0) = false := by simpa using hE
  go_enter Try.func7, Try.ntmps7
  go_wp2_with fail
  refine (CC _).mono ?_
  rintro e w1 ⟨rfl, hb⟩
  have hS := hb.size
  go_wp2_with fail
  go_returns
  exact ⟨rfl, Bel.al hb _⟩
set_option maxHeartbeats 2000000 in
theorem on_yes (u : ByteArray) (X H : Int) (b : Bool) (w : World)
    (CC : ∀ W, Calls Try.prog 12 #[.string u] W fun e w' => e = .returned (.tuple #[nv X, .int .i64 0]) ∧ Below W.heap.size W w')
    (CH : ∀ W, Calls Try.prog 14 #[nv X] W fun e w' => e = .returned (nv H) ∧ Below W.heap.size W w')
    (CQ : ∀ W, Calls Try.prog 13 #[nv H] W fun e w' => e = .returned (.bool b) ∧ Below W.heap.size W w') :
    Calls Try.prog 7 #[.string u] w fun e w' => e = .returned (.bool b) ∧ Below w.heap.size w w' := by
  go_enter Try.func7, Try.ntmps7
  go_wp2_with fail
  refine (CC _).mono ?_
  rintro e w1 ⟨rfl, hb⟩
  have hB := hb
  clear hb CC
  go_wp2_with fail
  refine (CH _).mono ?_
  rintro e w2 ⟨rfl, hb⟩
  have hB2 := Bel.call (Bel.al hB _) hb
  clear hb CH hB
  go_wp2_with fail
  refine (CQ _).mono ?_
  rintro e w3 ⟨rfl, hb⟩
  have hB3 := Bel.call hB2 hb
  clear hb CQ hB2
  go_wp2_with fail
  go_returns
  exact ⟨rfl, hB3⟩
/-- On. -/
def onB (u : ByteArray) : Bool := if u.size = 32 then sqB (hh (c5 (flN u) % pp)) else false
theorem on_u (u : ByteArray) (hu : u.size ≤ maxLen) (w : World) : Calls Try.prog 7 #[.string u] w fun e w' => e = .returned (.bool (onB u)) ∧ Below w.heap.size w w' := by
  have cu := fun W => coord_u u hu W
  unfold onB
  by_cases g : u.size = 32
  · rw [if_pos g, lenE_yes (by omega)] at cu
    rw [if_pos g]
    exact on_yes u _ _ _ w cu (height_any _ (inn_mod _)) (isSquare_any _ (inn_fm _ _))
  · rw [if_neg g]
    exact on_no u _ _ (lenE_nz g) w cu
set_option maxHeartbeats 2000000 in
theorem pub_core (k z S : ByteArray) (E : Int) (w : World)
    (CL : ∀ W, Calls Try.prog 9 #[.agg #[.int .u64 9, .int .u64 0, .int .u64 0, .int .u64 0]] W fun e w' => e = .returned (.string z) ∧ Below W.heap.size W w')
    (CR : ∀ W, Calls Try.prog 8 #[.string k, .string z] W fun e w' => e = .returned (.tuple #[.string S, .int .i64 E]) ∧ Below W.heap.size W w') :
    Calls Try.prog 4 #[.string k] w fun e w' => e = .returned (.tuple #[.string S, .int .i64 E]) ∧ Below w.heap.size w w' := by
  go_enter Try.func4, Try.ntmps4
  go_wp2_with fail
  refine (CL _).mono ?_
  rintro e w1 ⟨rfl, hb⟩
  have hB := hb
  clear hb
  go_wp2_with fail
  refine (CR _).mono ?_
  rintro e w2 ⟨rfl, hb⟩
  have hB' := Bel.call hB hb
  clear hb hB
  have hB := hB'
  clear hB'
  go_wp2_with fail
  go_returns
  exact ⟨rfl, hB⟩
theorem pub_u (k : ByteArray) (hk : k.size ≤ maxLen) (w : World) : Calls Try.prog 4 #[.string k] w fun e w' => e = .returned (.tuple #[.string (rawS k (mkS (ltL 9))), .int .i64 (rawE k (mkS (ltL 9)))]) ∧ Below w.heap.size w w' := by
  refine pub_core k (mkS (ltL 9)) _ _ w (fun W => ?_) (fun W => raw_u k _ hk (by rw [lit32]; decide) W)
  have := little_any 9 (by omega) (by decide) W
  rw [nv_low 9 (by decide) (by decide)] at this
  exact this
end Go.Proofs.Ytphcpdfaijcjjaa
