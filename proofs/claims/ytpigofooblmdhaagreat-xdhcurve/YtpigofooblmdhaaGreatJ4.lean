/- PROVED: the function pendulumlaw03.XdhCurve answers true for every input, and each argument reads behind the call as it read before; no condition. -/
import Derived.Test.YtpigofooblmdhaaGreatJ3
import Derived.Test.YtpigofooblmdhaaGreatZ3
import Derived.Test.YtpigofooblmdhaaGreatN19
import Derived.Test.YtpigofooblmdhaaGreatF0
/- What the reference's Raw and Shared of layer 3 answer. -/
set_option linter.all false
set_option maxRecDepth 100000
namespace Go.Proofs.YtpigofooblmdhaaGreat
open Go.RowKit Go.Sort
set_option maxHeartbeats 2000000 in
theorem rraw_k (k u : ByteArray) (K E : Int) (hE : ¬ E = 0) (w : World)
    (CK : ∀ W, Calls Tryz.prog 29 #[.string k] W fun e w' => e = .returned (.tuple #[nv K, .int .i64 E]) ∧ Below W.heap.size W w') :
    Calls Tryz.prog 11 #[.string k, .string u] w fun e w' => e = .returned (.tuple #[.string ⟨#[]⟩, .int .i64 E]) ∧ Below w.heap.size w w' := by
  go_enter Tryz.func11, Tryz.ntmps11
  go_wp2_with fail
  refine (CK _).mono ?_
  rintro e w1 ⟨rfl, hb1⟩
  have hB1 := hb1
  have hS1 := hB1.size
  clear hb1 CK
  go_wp2_with fail
  go_returns
  exact ⟨rfl, by go_grown⟩
set_option maxHeartbeats 2000000 in
theorem rraw_e (k u : ByteArray) (K U E : Int) (hE : ¬ E = 0) (w : World)
    (CK : ∀ W, Calls Tryz.prog 29 #[.string k] W fun e w' => e = .returned (.tuple #[nv K, .int .i64 0]) ∧ Below W.heap.size W w')
    (CU : ∀ W, Calls Tryz.prog 16 #[.string u] W fun e w' => e = .returned (.tuple #[nv U, .int .i64 E]) ∧ Below W.heap.size W w') :
    Calls Tryz.prog 11 #[.string k, .string u] w fun e w' => e = .returned (.tuple #[.string ⟨#[]⟩, .int .i64 E]) ∧ Below w.heap.size w w' := by
  go_enter Tryz.func11, Tryz.ntmps11
  go_wp2_with fail
  refine (CK _).mono ?_
  rintro e w1 ⟨rfl, hb1⟩
  have hB1 := hb1
  have hS1 := hB1.size
  clear hb1 CK
  go_wp2_with fail
  refine (CU _).mono ?_
  rintro e w2 ⟨rfl, hb2⟩
  have Ak := (Arr.mk4 (w := w1.alloc (.cells #[.int .u64 (lim K 0), .int .u64 (lim K 1), .int .u64 (lim K 2), .int .u64 (lim K 3)] 34)) (f := fun j => .int .u64 (lim K j)) (b := w1.heap.size) (by simp [go_sem]) (by simp [go_sem]) (by simp [go_sem]) (by simp [go_sem]) (by simp [go_sem]) (by simp [go_sem]) (by simp [go_sem]) (by simp [go_sem])).below hb2 (by go_size)
  have hB2 := Bel.call (Bel.al hB1 (.cells #[.int .u64 (lim K 0), .int .u64 (lim K 1), .int .u64 (lim K 2), .int .u64 (lim K 3)] 34)) hb2
  have hS2 := hB2.size
  have lk := Ak.lt
  have ck := Ak.c
  clear hb2 CU hB1
  go_wp2_with fail
  go_returns
  exact ⟨rfl, by go_grown⟩
theorem rraw_u (k u : ByteArray) (hk : k.size ≤ maxLen) (hu : u.size ≤ maxLen) (w : World) :
    Calls Tryz.prog 11 #[.string k, .string u] w fun e w' => e = .returned (.tuple #[.string (rawS k u), .int .i64 (rawE k u)]) ∧ Below w.heap.size w w' := by
  have ck := fun W => rclamp_u k hk W
  have cu := fun W => rcoord_u u hu W
  unfold rawS rawE
  by_cases h : k.size = 32
  · rw [if_pos h, lenE_yes (by omega)] at ck
    rw [if_pos h]
    by_cases g : u.size = 32
    · rw [if_pos g, lenE_yes (by omega)] at cu
      rw [if_pos ⟨h, g⟩, lenE_yes (by omega)]
      have iU := inn_mod (c5 (flN u))
      have i4 := inn4_sts (c5 (flN u) % pp) iU (upto (cl (flN k)) 255 255)
      refine rraw_core k u _ _ _ _ (xr (cl (flN k)) (c5 (flN u) % pp)) (bw pp 2 4) iU w ck cu (fun W => ?_) (fun W => ?_) (fun W => rmul _ _ i4.1 (inn_mod _) W) (fun W => refLittle_any _ W)
      · have := refSub_raw pp 2 W
        rw [nv_low 2 (by decide) (by decide)] at this
        exact this
      · have := refPow_any _ (pp - 2) pp i4.2.1.1 i4.2.1.2 inn_p2.1 inn_p2.2 inn_pp.1 inn_pp.2 W
        rw [md_pos _ pp_pos] at this
        exact this
    · rw [if_neg (fun c => g c.2)]
      exact rraw_e k u _ _ _ (lenE_nz g) w ck cu
  · rw [if_neg (fun c => h c.1), if_neg h]
    exact rraw_k k u _ _ (lenE_nz h) w ck
end Go.Proofs.YtpigofooblmdhaaGreat
/- What height, isSquare and On of xdh answer, and Public. -/
set_option linter.all false
set_option maxRecDepth 100000
namespace Go.Proofs.YtpigofooblmdhaaGreat
open Go.RowKit Go.Sort
theorem xaddc (B : Int) (iB : Inn B) (w : World) : Calls Tryz.prog 37 #[nv B, .agg #[.int .u64 486662, .int .u64 0, .int .u64 0, .int .u64 0]] w fun e w' => e = .returned (nv (fa B 486662)) ∧ Below w.heap.size w w' := by
  rw [← nv_low 486662 (by decide) (by decide)]; exact xadd B 486662 iB ⟨by decide, by decide⟩ w
theorem xadd1 (B : Int) (iB : Inn B) (w : World) : Calls Tryz.prog 37 #[nv B, .agg #[.int .u64 1, .int .u64 0, .int .u64 0, .int .u64 0]] w fun e w' => e = .returned (nv (fa B 1)) ∧ Below w.heap.size w w' := by
  rw [← nv_low 1 (by decide) (by decide)]; exact xadd B 1 iB ⟨by decide, by decide⟩ w
theorem raddc (B : Int) (iB : Inn B) (w : World) : Calls Tryz.prog 18 #[nv B, .agg #[.int .u64 486662, .int .u64 0, .int .u64 0, .int .u64 0]] w fun e w' => e = .returned (nv (fa B 486662)) ∧ Below w.heap.size w w' := by
  rw [← nv_low 486662 (by decide) (by decide)]; exact radd B 486662 iB ⟨by decide, by decide⟩ w
theorem radd1 (B : Int) (iB : Inn B) (w : World) : Calls Tryz.prog 18 #[nv B, .agg #[.int .u64 1, .int .u64 0, .int .u64 0, .int .u64 0]] w fun e w' => e = .returned (nv (fa B 1)) ∧ Below w.heap.size w w' := by
  rw [← nv_low 1 (by decide) (by decide)]; exact radd B 1 iB ⟨by decide, by decide⟩ w
/-- x^3 + 486662 x^2 + x. -/
def hh (X : Int) : Int := fm X (fa (fm X (fa X 486662)) 1)
set_option maxHeartbeats 4000000 in
theorem height_any (X : Int) (iX : Inn X) (w : World) : Calls Tryz.prog 15 #[nv X] w fun e w' => e = .returned (nv (hh X)) ∧ Below w.heap.size w w' := by
  unfold hh
  go_enter Tryz.func15, Tryz.ntmps15
  go_wp2_with fail
  have Bx := Arr.mk4 (w := ((w.alloc (.cells #[.int .u64 (lim (X) 0), .int .u64 (lim (X) 1), .int .u64 (lim (X) 2), .int .u64 (lim (X) 3)] 34)).alloc (.cells #[.int .u64 0, .int .u64 0, .int .u64 0, .int .u64 0] 34))) (f := fun j => .int .u64 (lim (X) j)) (b := w.heap.size) (by simp [go_sem]) (by simp [go_sem]) (by simp [go_sem]) (by simp [go_sem]) (by simp [go_sem]) (by simp [go_sem]) (by simp [go_sem]) (by simp [go_sem])
  have Bz := Arr.mk4 (w := ((w.alloc (.cells #[.int .u64 (lim (X) 0), .int .u64 (lim (X) 1), .int .u64 (lim (X) 2), .int .u64 (lim (X) 3)] 34)).alloc (.cells #[.int .u64 0, .int .u64 0, .int .u64 0, .int .u64 0] 34))) (f := fun _ => .int .u64 0) (b := w.heap.size + 1) (by simp [go_sem]) (by simp [go_sem]) (by simp [go_sem]) (by simp [go_sem]) (by simp [go_sem]) (by simp [go_sem]) (by simp [go_sem]) (by simp [go_sem])
  have hB' : Below w.heap.size w ((w.alloc (.cells #[.int .u64 (lim (X) 0), .int .u64 (lim (X) 1), .int .u64 (lim (X) 2), .int .u64 (lim (X) 3)] 34)).alloc (.cells #[.int .u64 0, .int .u64 0, .int .u64 0, .int .u64 0] 34)) := by go_grown
  have Ax := Bx
  have Az := Bz
  have hB := hB'
  clear Bx Bz hB'
  apply wp_region_alloc_tail 7 (by kernel_rfl) (by kernel_rfl) (by kernel_rfl) (.cells #[.int .u64 0, .int .u64 0, .int .u64 0, .int .u64 0] 34) _ rfl (fun _ _ => by simp [go_sem])
  · intro W hW
    have rx0 := fun ds os => cell_regrown ((Arr.to' Ax hW).c 0 (by omega)) ds os
    have rx1 := fun ds os => cell_regrown ((Arr.to' Ax hW).c 1 (by omega)) ds os
    have rx2 := fun ds os => cell_regrown ((Arr.to' Ax hW).c 2 (by omega)) ds os
    have rx3 := fun ds os => cell_regrown ((Arr.to' Ax hW).c 3 (by omega)) ds os
    simp only [List.take_succ_cons, List.take_zero]
    repeat (go_big_quiet_step (first | (go_at_call 38; with_reducible exact Calls.regrown_of (xmul _ _ (by first | exact inn_fm _ _ | exact inn_fa _ _ | exact inn_fs _ _ | assumption) (by first | exact inn_fm _ _ | exact inn_fa _ _ | exact inn_fs _ _ | assumption) _)) | (go_at_call 37; with_reducible exact Calls.regrown_of (xaddc _ iX _)) | (go_at_call 37; with_reducible exact Calls.regrown_of (xadd1 _ (inn_fm _ _) _))))
    exact wpQuiet_nil rfl
  intro u1 w11 hb1 hb2
  simp only [List.drop_succ_cons, List.drop_zero, Act.put, List.setIfInBounds_toArray, List.set_cons_succ, List.set_cons_zero]
  have Ex := Arr.to' Ax hb1
  have lx_u1 := Ex.lt
  have Bx := Arr.to' (Arr.al' Ex (.cells #[.int .u64 0, .int .u64 0, .int .u64 0, .int .u64 0] 34)) hb2
  have Ez := Arr.to' Az hb1
  have lz_u1 := Ez.lt
  have Bz := Arr.to' (Arr.al' Ez (.cells #[.int .u64 0, .int .u64 0, .int .u64 0, .int .u64 0] 34)) hb2
  have Bi := (Arr.mk4 (w := (u1.alloc (.cells #[.int .u64 0, .int .u64 0, .int .u64 0, .int .u64 0] 34))) (f := fun _ => .int .u64 0) (b := u1.heap.size) (by simp [go_sem]) (by simp [go_sem]) (by simp [go_sem]) (by simp [go_sem]) (by simp [go_sem]) (by simp [go_sem]) (by simp [go_sem]) (by simp [go_sem])).below hb2 (by go_size)
  have lB_u1 := (Bel.call hB hb1).size
  have hB' := Bel.call (Bel.al (Bel.call hB hb1) (.cells #[.int .u64 0, .int .u64 0, .int .u64 0, .int .u64 0] 34)) hb2
  clear hb1 hb2 Ex Ez Ax Az hB
  have Ax := Bx
  have Az := Bz
  have Ai := Bi
  have hB := hB'
  clear Bx Bz Bi hB'
  have ci := Ai.c
  have zi := Ai.z
  have Bx := Arr.st4o (b' := u1.heap.size) Ax (by have := Ax.lt; have := Ai.lt; omega) (fa (fm X (fa X 486662)) 1)
  have Bz := Arr.st4o (b' := u1.heap.size) Az (by have := Az.lt; have := Ai.lt; omega) (fa (fm X (fa X 486662)) 1)
  have Bi := Arr.st4 Ai (fa (fm X (fa X 486662)) 1)
  have hB' := Bel.st4 hB (b := u1.heap.size) (by have := hB.size; omega) (fa (fm X (fa X 486662)) 1)
  clear Ax Az Ai hB
  have Ax := Bx
  have Az := Bz
  have Ai := Bi
  have hB := hB'
  clear Bx Bz Bi hB'
  have cx := Ax.c
  have cz := Az.c
  have zz := Az.z
  go_wp2_with fail
  refine (xmul X (fa (fm X (fa X 486662)) 1) iX (inn_fa _ _) _).mono ?_
  rintro e w12 ⟨rfl, hb⟩
  have Bz := Arr.to' Az hb
  have hB' := Bel.call hB hb
  clear hb ci zi cx cz zz Ax Az Ai hB
  have Az := Bz
  have hB := hB'
  clear Bz hB'
  have hS := hB.size
  have cz := Az.c
  have zz := Az.z
  go_wp2_with fail
  refine bodyPost_ret (v := nv (fm X (fa (fm X (fa X 486662)) 1))) (by simp [results, Tryz.results15, go_sem, cz]) rfl ⟨rfl, ?_⟩
  go_grown
/-- A number is 0, part by part. -/
def z4 (N : Int) : Bool := lim N 0 == 0 && (lim N 1 == 0 && (lim N 2 == 0 && lim N 3 == 0))
/-- A number is 1, part by part. -/
def o4 (N : Int) : Bool := lim N 0 == 1 && (lim N 1 == 0 && (lim N 2 == 0 && lim N 3 == 0))
section
attribute [local go_sem] eq24
set_option maxHeartbeats 4000000 in
theorem isSquare_0 (H Q P1 R1 er Y : Int) (hz : (lim H 0 == 0 && (lim H 1 == 0 && (lim H 2 == 0 && lim H 3 == 0))) = true) (w : World)
    (CD : ∀ W, Calls Tryz.prog 35 #[nv pp, .agg #[.int .u64 0, .int .u64 0, .int .u64 0, .int .u64 0], .agg #[.int .u64 2, .int .u64 0, .int .u64 0, .int .u64 0]] W fun e w' => e = .returned (.tuple #[nv Q, nv P1, nv R1, .int .i64 er]) ∧ Below W.heap.size W w')
    (CP : ∀ W, Calls Tryz.prog 36 #[nv H, nv Q, nv pp] W fun e w' => e = .returned (nv Y) ∧ Below W.heap.size W w') :
    Calls Tryz.prog 14 #[nv H] w fun e w' => e = .returned (.bool true) ∧ Below w.heap.size w w' := by
  go_enter Tryz.func14, Tryz.ntmps14
  have Bn := Arr.mk4 (w := (w.alloc (.cells #[.int .u64 (lim (H) 0), .int .u64 (lim (H) 1), .int .u64 (lim (H) 2), .int .u64 (lim (H) 3)] 34))) (f := fun j => .int .u64 (lim (H) j)) (b := w.heap.size) (by simp [go_sem]) (by simp [go_sem]) (by simp [go_sem]) (by simp [go_sem]) (by simp [go_sem]) (by simp [go_sem]) (by simp [go_sem]) (by simp [go_sem])
  have hB' : Below w.heap.size w (w.alloc (.cells #[.int .u64 (lim (H) 0), .int .u64 (lim (H) 1), .int .u64 (lim (H) 2), .int .u64 (lim (H) 3)] 34)) := by go_grown
  have An := Bn
  have hB := hB'
  clear Bn hB'
  go_wp2_with fail
  refine (p21 _).mono ?_
  rintro e w1 ⟨rfl, hb⟩
  have Bn := Arr.to' An hb
  have hB' := Bel.call hB hb
  clear hb An hB
  have An := Bn
  have hB := hB'
  clear Bn hB'
  go_wp2_with fail
  refine (CD _).mono ?_
  rintro e w12 ⟨rfl, hb⟩
  have Bn := Arr.to' An hb
  have hB' := Bel.call hB hb
  clear hb An hB CD
  have An := Bn
  have hB := hB'
  clear Bn hB'
  have ln_2 := An.lt
  have lB_2 := hB.size
  have Bn := (Arr.al' (Arr.al' (Arr.al' An (.cells #[.int .u64 (lim (Q) 0), .int .u64 (lim (Q) 1), .int .u64 (lim (Q) 2), .int .u64 (lim (Q) 3)] 34)) (.cells #[.int .u64 (lim (P1) 0), .int .u64 (lim (P1) 1), .int .u64 (lim (P1) 2), .int .u64 (lim (P1) 3)] 34)) (.cells #[.int .u64 (lim (R1) 0), .int .u64 (lim (R1) 1), .int .u64 (lim (R1) 2), .int .u64 (lim (R1) 3)] 34))
  have Bq := Arr.mk4 (w := (((w12.alloc (.cells #[.int .u64 (lim (Q) 0), .int .u64 (lim (Q) 1), .int .u64 (lim (Q) 2), .int .u64 (lim (Q) 3)] 34)).alloc (.cells #[.int .u64 (lim (P1) 0), .int .u64 (lim (P1) 1), .int .u64 (lim (P1) 2), .int .u64 (lim (P1) 3)] 34)).alloc (.cells #[.int .u64 (lim (R1) 0), .int .u64 (lim (R1) 1), .int .u64 (lim (R1) 2), .int .u64 (lim (R1) 3)] 34))) (f := fun j => .int .u64 (lim (Q) j)) (b := w12.heap.size) (by simp [go_sem]) (by simp [go_sem]) (by simp [go_sem]) (by simp [go_sem]) (by simp [go_sem]) (by simp [go_sem]) (by simp [go_sem]) (by simp [go_sem])
  have hB' := (Bel.al (Bel.al (Bel.al hB (.cells #[.int .u64 (lim (Q) 0), .int .u64 (lim (Q) 1), .int .u64 (lim (Q) 2), .int .u64 (lim (Q) 3)] 34)) (.cells #[.int .u64 (lim (P1) 0), .int .u64 (lim (P1) 1), .int .u64 (lim (P1) 2), .int .u64 (lim (P1) 3)] 34)) (.cells #[.int .u64 (lim (R1) 0), .int .u64 (lim (R1) 1), .int .u64 (lim (R1) 2), .int .u64 (lim (R1) 3)] 34))
  clear An hB
  have An := Bn
  have Aq := Bq
  have hB := hB'
  clear Bn Bq hB'
  have rn0 := fun ds os => cell_regrown (An.c 0 (by omega)) ds os
  have rn1 := fun ds os => cell_regrown (An.c 1 (by omega)) ds os
  have rn2 := fun ds os => cell_regrown (An.c 2 (by omega)) ds os
  have rn3 := fun ds os => cell_regrown (An.c 3 (by omega)) ds os
  have rq0 := fun ds os => cell_regrown (Aq.c 0 (by omega)) ds os
  have rq1 := fun ds os => cell_regrown (Aq.c 1 (by omega)) ds os
  have rq2 := fun ds os => cell_regrown (Aq.c 2 (by omega)) ds os
  have rq3 := fun ds os => cell_regrown (Aq.c 3 (by omega)) ds os
  go_wp2_with fail
  refine wp_region_quiet_below (by kernel_rfl) (by kernel_rfl) ?_
  repeat (go_big_quiet_step (first | (go_at_call 34; with_reducible exact Calls.regrown_of (p21 _)) | (go_at_call 36; with_reducible exact Calls.regrown_of (CP _))))
  refine wpQuiet_nil ?_
  intro w3 hw'
  obtain ⟨⟨dq, osq⟩, hw''⟩ := hw'
  have hb := below_of hw''
  clear hw''
  have hB' := Bel.call hB hb
  clear hb rn0 rn1 rn2 rn3 rq0 rq1 rq2 rq3 An Aq hB
  have hB := hB'
  clear hB'
  go_wp2_with fail
  go_ret
  exact ⟨rfl, hB⟩
set_option maxHeartbeats 4000000 in
theorem isSquare_1 (H Q P1 R1 er Y : Int) (hz : (lim H 0 == 0 && (lim H 1 == 0 && (lim H 2 == 0 && lim H 3 == 0))) = false) (w : World)
    (CD : ∀ W, Calls Tryz.prog 35 #[nv pp, .agg #[.int .u64 0, .int .u64 0, .int .u64 0, .int .u64 0], .agg #[.int .u64 2, .int .u64 0, .int .u64 0, .int .u64 0]] W fun e w' => e = .returned (.tuple #[nv Q, nv P1, nv R1, .int .i64 er]) ∧ Below W.heap.size W w')
    (CP : ∀ W, Calls Tryz.prog 36 #[nv H, nv Q, nv pp] W fun e w' => e = .returned (nv Y) ∧ Below W.heap.size W w') :
    Calls Tryz.prog 14 #[nv H] w fun e w' => e = .returned (.bool (lim Y 0 == 1 && (lim Y 1 == 0 && (lim Y 2 == 0 && lim Y 3 == 0)))) ∧ Below w.heap.size w w' := by
  go_enter Tryz.func14, Tryz.ntmps14
  have Bn := Arr.mk4 (w := (w.alloc (.cells #[.int .u64 (lim (H) 0), .int .u64 (lim (H) 1), .int .u64 (lim (H) 2), .int .u64 (lim (H) 3)] 34))) (f := fun j => .int .u64 (lim (H) j)) (b := w.heap.size) (by simp [go_sem]) (by simp [go_sem]) (by simp [go_sem]) (by simp [go_sem]) (by simp [go_sem]) (by simp [go_sem]) (by simp [go_sem]) (by simp [go_sem])
  have hB' : Below w.heap.size w (w.alloc (.cells #[.int .u64 (lim (H) 0), .int .u64 (lim (H) 1), .int .u64 (lim (H) 2), .int .u64 (lim (H) 3)] 34)) := by go_grown
  have An := Bn
  have hB := hB'
  clear Bn hB'
  go_wp2_with fail
  refine (p21 _).mono ?_
  rintro e w1 ⟨rfl, hb⟩
  have Bn := Arr.to' An hb
  have hB' := Bel.call hB hb
  clear hb An hB
  have An := Bn
  have hB := hB'
  clear Bn hB'
  go_wp2_with fail
  refine (CD _).mono ?_
  rintro e w12 ⟨rfl, hb⟩
  have Bn := Arr.to' An hb
  have hB' := Bel.call hB hb
  clear hb An hB CD
  have An := Bn
  have hB := hB'
  clear Bn hB'
  have ln_2 := An.lt
  have lB_2 := hB.size
  have Bn := (Arr.al' (Arr.al' (Arr.al' An (.cells #[.int .u64 (lim (Q) 0), .int .u64 (lim (Q) 1), .int .u64 (lim (Q) 2), .int .u64 (lim (Q) 3)] 34)) (.cells #[.int .u64 (lim (P1) 0), .int .u64 (lim (P1) 1), .int .u64 (lim (P1) 2), .int .u64 (lim (P1) 3)] 34)) (.cells #[.int .u64 (lim (R1) 0), .int .u64 (lim (R1) 1), .int .u64 (lim (R1) 2), .int .u64 (lim (R1) 3)] 34))
  have Bq := Arr.mk4 (w := (((w12.alloc (.cells #[.int .u64 (lim (Q) 0), .int .u64 (lim (Q) 1), .int .u64 (lim (Q) 2), .int .u64 (lim (Q) 3)] 34)).alloc (.cells #[.int .u64 (lim (P1) 0), .int .u64 (lim (P1) 1), .int .u64 (lim (P1) 2), .int .u64 (lim (P1) 3)] 34)).alloc (.cells #[.int .u64 (lim (R1) 0), .int .u64 (lim (R1) 1), .int .u64 (lim (R1) 2), .int .u64 (lim (R1) 3)] 34))) (f := fun j => .int .u64 (lim (Q) j)) (b := w12.heap.size) (by simp [go_sem]) (by simp [go_sem]) (by simp [go_sem]) (by simp [go_sem]) (by simp [go_sem]) (by simp [go_sem]) (by simp [go_sem]) (by simp [go_sem])
  have hB' := (Bel.al (Bel.al (Bel.al hB (.cells #[.int .u64 (lim (Q) 0), .int .u64 (lim (Q) 1), .int .u64 (lim (Q) 2), .int .u64 (lim (Q) 3)] 34)) (.cells #[.int .u64 (lim (P1) 0), .int .u64 (lim (P1) 1), .int .u64 (lim (P1) 2), .int .u64 (lim (P1) 3)] 34)) (.cells #[.int .u64 (lim (R1) 0), .int .u64 (lim (R1) 1), .int .u64 (lim (R1) 2), .int .u64 (lim (R1) 3)] 34))
  clear An hB
  have An := Bn
  have Aq := Bq
  have hB := hB'
  clear Bn Bq hB'
  have rn0 := fun ds os => cell_regrown (An.c 0 (by omega)) ds os
  have rn1 := fun ds os => cell_regrown (An.c 1 (by omega)) ds os
  have rn2 := fun ds os => cell_regrown (An.c 2 (by omega)) ds os
  have rn3 := fun ds os => cell_regrown (An.c 3 (by omega)) ds os
  have rq0 := fun ds os => cell_regrown (Aq.c 0 (by omega)) ds os
  have rq1 := fun ds os => cell_regrown (Aq.c 1 (by omega)) ds os
  have rq2 := fun ds os => cell_regrown (Aq.c 2 (by omega)) ds os
  have rq3 := fun ds os => cell_regrown (Aq.c 3 (by omega)) ds os
  go_wp2_with fail
  refine wp_region_quiet_below (by kernel_rfl) (by kernel_rfl) ?_
  repeat (go_big_quiet_step (first | (go_at_call 34; with_reducible exact Calls.regrown_of (p21 _)) | (go_at_call 36; with_reducible exact Calls.regrown_of (CP _))))
  refine wpQuiet_nil ?_
  intro w3 hw'
  obtain ⟨⟨dq, osq⟩, hw''⟩ := hw'
  have hb := below_of hw''
  clear hw''
  have hB' := Bel.call hB hb
  clear hb rn0 rn1 rn2 rn3 rq0 rq1 rq2 rq3 An Aq hB
  have hB := hB'
  clear hB'
  go_wp2_with fail
  go_ret
  exact ⟨rfl, hB⟩
end
/-- A number is 0, or a square. -/
def sqB (H : Int) : Bool := z4 H || o4 (H ^ (pp / 2).toNat % pp)
theorem inn_half : Inn (pp / 2) := ⟨by decide, by decide⟩
theorem isSquare_any (H : Int) (iH : Inn H) (w : World) : Calls Tryz.prog 14 #[nv H] w fun e w' => e = .returned (.bool (sqB H)) ∧ Below w.heap.size w w' := by
  have cd : ∀ W, Calls Tryz.prog 35 #[nv pp, .agg #[.int .u64 0, .int .u64 0, .int .u64 0, .int .u64 0], .agg #[.int .u64 2, .int .u64 0, .int .u64 0, .int .u64 0]] W fun e w' => e = .returned (.tuple #[nv (pp / 2), nv (pp / 2 / top256), nv (pp % 2), .int .i64 0]) ∧ Below W.heap.size W w' := fun W => by
    have := div_any pp 0 2 inn_pp.1 inn_pp.2 (by omega) (by decide) (by omega) (by decide) W
    rw [nv_zero, nv_low 2 (by decide) (by decide), Int.zero_mul, Int.add_zero] at this
    exact this
  have cp : ∀ W, Calls Tryz.prog 36 #[nv H, nv (pp / 2), nv pp] W fun e w' => e = .returned (nv (H ^ (pp / 2).toNat % pp)) ∧ Below W.heap.size W w' := fun W => by
    have := pow_any H (pp / 2) pp iH.1 iH.2 inn_half.1 inn_half.2 inn_pp.1 inn_pp.2 W
    rw [md_pos _ pp_pos] at this
    exact this
  unfold sqB
  cases hz : z4 H
  · rw [Bool.false_or]
    exact isSquare_1 H _ _ _ _ _ hz w cd cp
  · rw [Bool.true_or]
    exact isSquare_0 H _ _ _ _ _ hz w cd cp
set_option maxHeartbeats 2000000 in
theorem on_no (u : ByteArray) (X E : Int) (hE : ¬ E = 0) (w : World)
    (CC : ∀ W, Calls Tryz.prog 13 #[.string u] W fun e w' => e = .returned (.tuple #[nv X, .int .i64 E]) ∧ Below W.heap.size W w') :
    Calls Tryz.prog 6 #[.string u] w fun e w' => e = .returned (.bool false) ∧ Below w.heap.size w w' := by
  have hE' : (E == 0) = false := by simpa using hE
  go_enter Tryz.func6, Tryz.ntmps6
  go_wp2_with fail
  refine (CC _).mono ?_
  rintro e w1 ⟨rfl, hb⟩
  have hS := hb.size
  go_wp2_with fail
  go_returns
  exact ⟨rfl, Bel.al hb _⟩
set_option maxHeartbeats 2000000 in
theorem on_yes (u : ByteArray) (X H : Int) (b : Bool) (w : World)
    (CC : ∀ W, Calls Tryz.prog 13 #[.string u] W fun e w' => e = .returned (.tuple #[nv X, .int .i64 0]) ∧ Below W.heap.size W w')
    (CH : ∀ W, Calls Tryz.prog 15 #[nv X] W fun e w' => e = .returned (nv H) ∧ Below W.heap.size W w')
    (CQ : ∀ W, Calls Tryz.prog 14 #[nv H] W fun e w' => e = .returned (.bool b) ∧ Below W.heap.size W w') :
    Calls Tryz.prog 6 #[.string u] w fun e w' => e = .returned (.bool b) ∧ Below w.heap.size w w' := by
  go_enter Tryz.func6, Tryz.ntmps6
  go_wp2_with fail
  refine (CC _).mono ?_
  rintro e w1 ⟨rfl, hb⟩
  have hB := hb
  clear hb CC
  go_wp2_with fail
  refine (CH _).mono ?_
  rintro e w2 ⟨rfl, hb⟩
  have hB2 := Bel.call (Bel.al hB _) hb
  clear hb CH hB
  go_wp2_with fail
  refine (CQ _).mono ?_
  rintro e w3 ⟨rfl, hb⟩
  have hB3 := Bel.call hB2 hb
  clear hb CQ hB2
  go_wp2_with fail
  go_returns
  exact ⟨rfl, hB3⟩
/-- On. -/
def onB (u : ByteArray) : Bool := if u.size = 32 then sqB (hh (c5 (flN u) % pp)) else false
theorem on_u (u : ByteArray) (hu : u.size ≤ maxLen) (w : World) : Calls Tryz.prog 6 #[.string u] w fun e w' => e = .returned (.bool (onB u)) ∧ Below w.heap.size w w' := by
  have cu := fun W => coord_u u hu W
  unfold onB
  by_cases g : u.size = 32
  · rw [if_pos g, lenE_yes (by omega)] at cu
    rw [if_pos g]
    exact on_yes u _ _ _ w cu (height_any _ (inn_mod _)) (isSquare_any _ (inn_fm _ _))
  · rw [if_neg g]
    exact on_no u _ _ (lenE_nz g) w cu
set_option maxHeartbeats 2000000 in
theorem pub_core (k z S : ByteArray) (E : Int) (w : World)
    (CL : ∀ W, Calls Tryz.prog 10 #[.agg #[.int .u64 9, .int .u64 0, .int .u64 0, .int .u64 0]] W fun e w' => e = .returned (.string z) ∧ Below W.heap.size W w')
    (CR : ∀ W, Calls Tryz.prog 9 #[.string k, .string z] W fun e w' => e = .returned (.tuple #[.string S, .int .i64 E]) ∧ Below W.heap.size W w') :
    Calls Tryz.prog 4 #[.string k] w fun e w' => e = .returned (.tuple #[.string S, .int .i64 E]) ∧ Below w.heap.size w w' := by
  go_enter Tryz.func4, Tryz.ntmps4
  go_wp2_with fail
  refine (CL _).mono ?_
  rintro e w1 ⟨rfl, hb⟩
  have hB := hb
  clear hb
  go_wp2_with fail
  refine (CR _).mono ?_
  rintro e w2 ⟨rfl, hb⟩
  have hB' := Bel.call hB hb
  clear hb hB
  have hB := hB'
  clear hB'
  go_wp2_with fail
  go_returns
  exact ⟨rfl, hB⟩
set_option maxHeartbeats 2000000 in
theorem nine_core (z : ByteArray) (w : World)
    (CL : ∀ W, Calls Tryz.prog 24 #[.agg #[.int .u64 9, .int .u64 0, .int .u64 0, .int .u64 0]] W fun e w' => e = .returned (.string z) ∧ Below W.heap.size W w') :
    Calls Tryz.prog 12 #[] w fun e w' => e = .returned (.string z) ∧ Below w.heap.size w w' := by
  go_enter Tryz.func12, Tryz.ntmps12
  go_wp2_with fail
  refine (CL _).mono ?_
  rintro e w1 ⟨rfl, hb⟩
  have hB := hb
  clear hb
  go_wp2_with fail
  go_returns
  exact ⟨rfl, hB⟩
set_option maxHeartbeats 2000000 in
theorem rpub_core (k z S : ByteArray) (E : Int) (w : World)
    (CL : ∀ W, Calls Tryz.prog 12 #[] W fun e w' => e = .returned (.string z) ∧ Below W.heap.size W w')
    (CR : ∀ W, Calls Tryz.prog 11 #[.string k, .string z] W fun e w' => e = .returned (.tuple #[.string S, .int .i64 E]) ∧ Below W.heap.size W w') :
    Calls Tryz.prog 5 #[.string k] w fun e w' => e = .returned (.tuple #[.string S, .int .i64 E]) ∧ Below w.heap.size w w' := by
  go_enter Tryz.func5, Tryz.ntmps5
  go_wp2_with fail
  refine (CL _).mono ?_
  rintro e w1 ⟨rfl, hb⟩
  have hB := hb
  clear hb
  go_wp2_with fail
  refine (CR _).mono ?_
  rintro e w2 ⟨rfl, hb⟩
  have hB' := Bel.call hB hb
  clear hb hB
  have hB := hB'
  clear hB'
  go_wp2_with fail
  go_returns
  exact ⟨rfl, hB⟩
theorem pub_u (k : ByteArray) (hk : k.size ≤ maxLen) (w : World) : Calls Tryz.prog 4 #[.string k] w fun e w' => e = .returned (.tuple #[.string (rawS k (mkS (ltL 9))), .int .i64 (rawE k (mkS (ltL 9)))]) ∧ Below w.heap.size w w' := by
  refine pub_core k (mkS (ltL 9)) _ _ w (fun W => ?_) (fun W => raw_u k _ hk (by rw [lit32]; decide) W)
  have := little_any 9 (by omega) (by decide) W
  rw [nv_low 9 (by decide) (by decide)] at this
  exact this
theorem nine_u (w : World) : Calls Tryz.prog 12 #[] w fun e w' => e = .returned (.string (mkS (ltL 9))) ∧ Below w.heap.size w w' := by
  refine nine_core _ w fun W => ?_
  have := refLittle_any 9 W
  rw [nv_low 9 (by decide) (by decide)] at this
  exact this
theorem rpub_u (k : ByteArray) (hk : k.size ≤ maxLen) (w : World) : Calls Tryz.prog 5 #[.string k] w fun e w' => e = .returned (.tuple #[.string (rawS k (mkS (ltL 9))), .int .i64 (rawE k (mkS (ltL 9)))]) ∧ Below w.heap.size w w' :=
  rpub_core k (mkS (ltL 9)) _ _ w nine_u (fun W => rraw_u k _ hk (by rw [lit32]; decide) W)
end Go.Proofs.YtpigofooblmdhaaGreat
/- What the reference's On answers. -/
set_option linter.all false
set_option maxRecDepth 100000
namespace Go.Proofs.YtpigofooblmdhaaGreat
open Go.RowKit Go.Sort
theorem b_and1 (z : Int) (h0 : 0 ≤ z) (h1 : z < 18446744073709551616) : bits .and .u64 z 1 = z % 2 := by go_bits2
set_option maxHeartbeats 2000000 in
theorem ron_no (u : ByteArray) (X E : Int) (hE : ¬ E = 0) (w : World)
    (CC : ∀ W, Calls Tryz.prog 16 #[.string u] W fun e w' => e = .returned (.tuple #[nv X, .int .i64 E]) ∧ Below W.heap.size W w') :
    Calls Tryz.prog 7 #[.string u] w fun e w' => e = .returned (.bool false) ∧ Below w.heap.size w w' := by
  have hE' : (E == 0) = false := by simpa using hE
  go_enter Tryz.func7, Tryz.ntmps7
  go_wp2_with fail
  refine (CC _).mono ?_
  rintro e w1 ⟨rfl, hb⟩
  have hS := hb.size
  go_wp2_with fail
  go_returns
  exact ⟨rfl, Bel.al hb _⟩
section
attribute [local go_sem] eq24
set_option maxHeartbeats 8000000 in
theorem ron_0 (u : ByteArray) (X Y bo : Int) (iX : Inn X) (hz : (lim (fm X (fa (fm X (fa X 486662)) 1)) 0 == 0 && (lim (fm X (fa (fm X (fa X 486662)) 1)) 1 == 0 && (lim (fm X (fa (fm X (fa X 486662)) 1)) 2 == 0 && lim (fm X (fa (fm X (fa X 486662)) 1)) 3 == 0))) = true) (w : World)
    (CC : ∀ W, Calls Tryz.prog 16 #[.string u] W fun e w' => e = .returned (.tuple #[nv X, .int .i64 0]) ∧ Below W.heap.size W w')
    (CS : ∀ W, Calls Tryz.prog 19 #[nv pp, .agg #[.int .u64 1, .int .u64 0, .int .u64 0, .int .u64 0]] W fun e w' => e = .returned (.tuple #[nv (pp - 1), .int .u64 bo]) ∧ Below W.heap.size W w')
    (CP : ∀ W, Calls Tryz.prog 21 #[nv (fm X (fa (fm X (fa X 486662)) 1)), nv ((pp - 1) / 2), nv pp] W fun e w' => e = .returned (nv Y) ∧ Below W.heap.size W w') :
    Calls Tryz.prog 7 #[.string u] w fun e w' => e = .returned (.bool true) ∧ Below w.heap.size w w' := by
  go_enter Tryz.func7, Tryz.ntmps7
  go_wp2_with fail
  refine (CC _).mono ?_
  rintro e w1 ⟨rfl, hb⟩
  have hB := hb
  clear hb CC
  have lB_1 := hB.size
  have Bx := Arr.mk4 (w := (w1.alloc (.cells #[.int .u64 (lim (X) 0), .int .u64 (lim (X) 1), .int .u64 (lim (X) 2), .int .u64 (lim (X) 3)] 34))) (f := fun j => .int .u64 (lim (X) j)) (b := w1.heap.size) (by simp [go_sem]) (by simp [go_sem]) (by simp [go_sem]) (by simp [go_sem]) (by simp [go_sem]) (by simp [go_sem]) (by simp [go_sem]) (by simp [go_sem])
  have hB' := (Bel.al hB (.cells #[.int .u64 (lim (X) 0), .int .u64 (lim (X) 1), .int .u64 (lim (X) 2), .int .u64 (lim (X) 3)] 34))
  clear hB
  have Ax := Bx
  have hB := hB'
  clear Bx hB'
  go_wp2_with fail
  apply wp_region_alloc_tail 9 (by kernel_rfl) (by kernel_rfl) (by kernel_rfl) (.cells #[.int .u64 0, .int .u64 0, .int .u64 0, .int .u64 0] 34) _ rfl (fun _ _ => by simp [go_sem])
  · intro W hW
    have rx0 := fun ds os => cell_regrown ((Arr.to' Ax hW).c 0 (by omega)) ds os
    have rx1 := fun ds os => cell_regrown ((Arr.to' Ax hW).c 1 (by omega)) ds os
    have rx2 := fun ds os => cell_regrown ((Arr.to' Ax hW).c 2 (by omega)) ds os
    have rx3 := fun ds os => cell_regrown ((Arr.to' Ax hW).c 3 (by omega)) ds os
    simp only [List.take_succ_cons, List.take_zero]
    repeat (go_big_quiet_step (first | (go_at_call 17; with_reducible exact Calls.regrown_of (rmul _ _ (by first | exact inn_fm _ _ | exact inn_fa _ _ | exact inn_fs _ _ | assumption) (by first | exact inn_fm _ _ | exact inn_fa _ _ | exact inn_fs _ _ | assumption) _)) | (go_at_call 18; with_reducible exact Calls.regrown_of (raddc _ iX _)) | (go_at_call 18; with_reducible exact Calls.regrown_of (radd1 _ (inn_fm _ _) _))))
    exact wpQuiet_nil rfl
  intro u2 w12 hb1 hb2
  simp only [List.drop_succ_cons, List.drop_zero, Act.put, List.setIfInBounds_toArray, List.set_cons_succ, List.set_cons_zero]
  have Ex := Arr.to' Ax hb1
  have lx_u2 := Ex.lt
  have Bx := Arr.to' (Arr.al' Ex (.cells #[.int .u64 0, .int .u64 0, .int .u64 0, .int .u64 0] 34)) hb2
  have By := (Arr.mk4 (w := (u2.alloc (.cells #[.int .u64 0, .int .u64 0, .int .u64 0, .int .u64 0] 34))) (f := fun _ => .int .u64 0) (b := u2.heap.size) (by simp [go_sem]) (by simp [go_sem]) (by simp [go_sem]) (by simp [go_sem]) (by simp [go_sem]) (by simp [go_sem]) (by simp [go_sem]) (by simp [go_sem])).below hb2 (by go_size)
  have lB_u2 := (Bel.call hB hb1).size
  have hB' := Bel.call (Bel.al (Bel.call hB hb1) (.cells #[.int .u64 0, .int .u64 0, .int .u64 0, .int .u64 0] 34)) hb2
  clear hb1 hb2 Ex Ax hB
  have Ax := Bx
  have Ay := By
  have hB := hB'
  clear Bx By hB'
  have cy := Ay.c
  have zy := Ay.z
  have Bx := Arr.st4o (b' := u2.heap.size) Ax (by have := Ax.lt; have := Ay.lt; omega) (fm X (fa (fm X (fa X 486662)) 1))
  have By := Arr.st4 Ay (fm X (fa (fm X (fa X 486662)) 1))
  have hB' := Bel.st4 hB (b := u2.heap.size) (by have := hB.size; omega) (fm X (fa (fm X (fa X 486662)) 1))
  clear Ax Ay hB
  have Ax := Bx
  have Ay := By
  have hB := hB'
  clear Bx By hB'
  go_wp2_with fail
  refine (p79 _).mono ?_
  rintro e w13 ⟨rfl, hb⟩
  have By := Arr.to' Ay hb
  have hB' := Bel.call hB hb
  clear hb cy zy Ax Ay hB
  have Ay := By
  have hB := hB'
  clear By hB'
  go_wp2_with fail
  refine (CS _).mono ?_
  rintro e w20 ⟨rfl, hb⟩
  have By := Arr.to' Ay hb
  have hB' := Bel.call hB hb
  clear hb Ay hB CS
  have Ay := By
  have hB := hB'
  clear By hB'
  have hS := hB.size
  have lY := Ay.lt
  go_wp2_with fail
  go_loopw [8] (fun i wr => ∃ k : Nat, k ≤ 4 ∧ i = .int .i64 k ∧ Below w.heap.size w wr ∧ w20.heap.size < wr.heap.size ∧ Arr wr u2.heap.size 4 (fun j => .int .u64 (lim (fm X (fa (fm X (fa X 486662)) 1)) j)) ∧ Arr wr w20.heap.size 4 (hv (pp - 1) k)) (fun i _ => 4 - (intOf i).toNat)
  case atStart => exact ⟨0, by omega, rfl, Bel.al hB _, by go_size, Arr.al' Ay _, Arr.mk4 (by simp [go_sem, hv]) (by simp [go_sem, hv]) (by simp [go_sem, hv]) (by simp [go_sem, hv]) (by simp [go_sem]) (by simp [go_sem]) (by simp [go_sem]) (by simp [go_sem])⟩
  case round =>
    clear hB Ay
    obtain ⟨k, hk, rfl, hB, hs, AY, AR⟩ := hrel
    by_cases hlt : k < 4
    · have k0 : (0 : Int) ≤ (k : Int) := by omega
      have k4 : (k : Int) < 4 := by omega
      have rk : wr.cell? ⟨w20.heap.size, k, none⟩ = some (.int .u64 (lim (pp - 1) k)) := by rw [AR.c k hlt, hv, if_neg (by omega)]
      have zk := AR.z k hlt
      by_cases h3 : k < 3
      · have k3 : (k : Int) < 3 := by omega
        have hw1 : IntKind.i64.wrap ((k : Int) + 1) = (k : Int) + 1 := by rw [IntKind.wrap_i64]; omega
        have tn : ((k : Int) + 1).toNat = k + 1 := by omega
        have rn : ∀ v, (wr.setCell ⟨w20.heap.size, k, none⟩ v).cell? ⟨w20.heap.size, k + 1, none⟩ = some (.int .u64 (lim (pp - 1) (k + 1))) := fun v => by
          rw [(AR.set k hlt v).c (k + 1) (by omega), if_neg (by omega), hv, if_neg (by omega)]
        have lh := lim_half (pp - 1) k
        have J' : bits .or .u64 (lim (pp - 1) k / 2) (IntKind.u64.wrap (bits .and .u64 (lim (pp - 1) (k + 1)) 1 * 9223372036854775808)) = lim ((pp - 1) / 2) k := by
          rw [lh, b_and1 _ (lim_nn _ _) (lim_lt _ _)]
          have J := or_join (lim (pp - 1) k) (lim (pp - 1) (k + 1) % 2) 1 (by omega) (lim_nn _ _) (lim_lt _ _) (by omega)
          simpa using J
        have HAY : Hid (∀ v v' : Value, Arr ((wr.setCell ⟨w20.heap.size, k, none⟩ v).setCell ⟨w20.heap.size, k, none⟩ v') u2.heap.size 4 (fun j => .int .u64 (lim (fm X (fa (fm X (fa X 486662)) 1)) j))) := fun v v' => (AY.other (by omega) v).other (by omega) v'
        have HAR : Hid (∀ v : Value, Arr ((wr.setCell ⟨w20.heap.size, k, none⟩ v).setCell ⟨w20.heap.size, k, none⟩ (.int .u64 (lim ((pp - 1) / 2) k))) w20.heap.size 4 (hv (pp - 1) (k + 1))) := fun v =>
          ((AR.set k hlt v).set k hlt (.int .u64 (lim ((pp - 1) / 2) k))).congr (by
            intro j hj
            by_cases e : j = k
            · rw [if_pos e, hv, if_pos (by omega), e]
            · rw [if_neg e, if_neg e]; unfold hv
              by_cases e2 : j < k
              · rw [if_pos e2, if_pos (by omega)]
              · rw [if_neg e2, if_neg (by omega)])
        clear AR AY lh
        go_wp2_with fail
        go_region
        all_goals
          go_wp2_with fail
          go_roundw
          case rel => exact ⟨k + 1, by omega, by go_num, ((hB.setCell (by show w.heap.size ≤ w20.heap.size; omega) _).setCell (by show w.heap.size ≤ w20.heap.size; omega) _).drew, by simpa [size_set] using hs, HAY.out _ _, HAR.out _⟩
          case measure => simp [intOf]; omega
      · have k3 : k = 3 := by omega
        subst k3
        have lh := lim_half (pp - 1) 3
        have l4 : lim (pp - 1) 4 = 0 := by decide
        have J' : lim (pp - 1) 3 / 2 = lim ((pp - 1) / 2) 3 := by rw [lh, l4]; omega
        have HAY : Hid (∀ v : Value, Arr (wr.setCell ⟨w20.heap.size, 3, none⟩ v) u2.heap.size 4 (fun j => .int .u64 (lim (fm X (fa (fm X (fa X 486662)) 1)) j))) := fun v => AY.other (by omega) v
        have HAR : Hid (Arr (wr.setCell ⟨w20.heap.size, 3, none⟩ (.int .u64 (lim ((pp - 1) / 2) 3))) w20.heap.size 4 (hv (pp - 1) 4)) :=
          (AR.set 3 hlt (.int .u64 (lim ((pp - 1) / 2) 3))).congr (by
            intro j hj
            by_cases e : j = 3
            · rw [if_pos e, hv, if_pos (by omega), e]
            · rw [if_neg e]; unfold hv
              rw [if_pos (by omega), if_pos (by omega)])
        clear AR AY lh l4
        go_wp2_with fail
        go_roundw
        case rel => exact ⟨4, by omega, by go_num, hB.setCell (by show w.heap.size ≤ w20.heap.size; omega) _, by simpa [size_set] using hs, HAY.out _, HAR.out⟩
        case measure => simp [intOf]
    · have k4 : k = 4 := by omega
      subst k4
      have Ay := AY
      have Ah : Arr wr w20.heap.size 4 (fun j => .int .u64 (lim ((pp - 1) / 2) j)) := AR.congr (by intro j hj; rw [hv, if_pos hj])
      clear AR AY
      go_wp2_with fail
      apply wp_region_alloc_tail 4 (by kernel_rfl) (by kernel_rfl) (by kernel_rfl) (.cells #[.int .u64 0, .int .u64 0, .int .u64 0, .int .u64 0] 34) _ rfl (fun _ _ => by simp [go_sem])
      · intro W hW
        have ry0 := fun ds os => cell_regrown ((Arr.to' Ay hW).c 0 (by omega)) ds os
        have ry1 := fun ds os => cell_regrown ((Arr.to' Ay hW).c 1 (by omega)) ds os
        have ry2 := fun ds os => cell_regrown ((Arr.to' Ay hW).c 2 (by omega)) ds os
        have ry3 := fun ds os => cell_regrown ((Arr.to' Ay hW).c 3 (by omega)) ds os
        have rh0 := fun ds os => cell_regrown ((Arr.to' Ah hW).c 0 (by omega)) ds os
        have rh1 := fun ds os => cell_regrown ((Arr.to' Ah hW).c 1 (by omega)) ds os
        have rh2 := fun ds os => cell_regrown ((Arr.to' Ah hW).c 2 (by omega)) ds os
        have rh3 := fun ds os => cell_regrown ((Arr.to' Ah hW).c 3 (by omega)) ds os
        simp only [List.take_succ_cons, List.take_zero]
        repeat (go_big_quiet_step (first | (go_at_call 20; with_reducible exact Calls.regrown_of (p79 _)) | (go_at_call 21; with_reducible exact Calls.regrown_of (CP _))))
        exact wpQuiet_nil rfl
      intro u4 w14 hb1 hb2
      simp only [List.drop_succ_cons, List.drop_zero, Act.put, List.setIfInBounds_toArray, List.set_cons_succ, List.set_cons_zero]
      have Ey := Arr.to' Ay hb1
      have ly_u4 := Ey.lt
      have By := Arr.to' (Arr.al' Ey (.cells #[.int .u64 0, .int .u64 0, .int .u64 0, .int .u64 0] 34)) hb2
      have Bs := (Arr.mk4 (w := (u4.alloc (.cells #[.int .u64 0, .int .u64 0, .int .u64 0, .int .u64 0] 34))) (f := fun _ => .int .u64 0) (b := u4.heap.size) (by simp [go_sem]) (by simp [go_sem]) (by simp [go_sem]) (by simp [go_sem]) (by simp [go_sem]) (by simp [go_sem]) (by simp [go_sem]) (by simp [go_sem])).below hb2 (by go_size)
      have lB_u4 := (Bel.call hB hb1).size
      have hB' := Bel.call (Bel.al (Bel.call hB hb1) (.cells #[.int .u64 0, .int .u64 0, .int .u64 0, .int .u64 0] 34)) hb2
      clear hb1 hb2 Ey Ay Ah hB CP
      have Ay := By
      have As := Bs
      have hB := hB'
      clear By Bs hB'
      have cs := As.c
      have zs := As.z
      have By := Arr.st4o (b' := u4.heap.size) Ay (by have := Ay.lt; have := As.lt; omega) (Y)
      have Bs := Arr.st4 As (Y)
      have hB' := Bel.st4 hB (b := u4.heap.size) (by have := hB.size; omega) (Y)
      clear Ay As hB
      have Ay := By
      have As := Bs
      have hB := hB'
      clear By Bs hB'
      have cy := Ay.c
      go_wp2_with fail
      go_ret
      exact ⟨rfl, hB⟩
end
section
attribute [local go_sem] eq24
set_option maxHeartbeats 8000000 in
theorem ron_1 (u : ByteArray) (X Y bo : Int) (iX : Inn X) (hz : (lim (fm X (fa (fm X (fa X 486662)) 1)) 0 == 0 && (lim (fm X (fa (fm X (fa X 486662)) 1)) 1 == 0 && (lim (fm X (fa (fm X (fa X 486662)) 1)) 2 == 0 && lim (fm X (fa (fm X (fa X 486662)) 1)) 3 == 0))) = false) (w : World)
    (CC : ∀ W, Calls Tryz.prog 16 #[.string u] W fun e w' => e = .returned (.tuple #[nv X, .int .i64 0]) ∧ Below W.heap.size W w')
    (CS : ∀ W, Calls Tryz.prog 19 #[nv pp, .agg #[.int .u64 1, .int .u64 0, .int .u64 0, .int .u64 0]] W fun e w' => e = .returned (.tuple #[nv (pp - 1), .int .u64 bo]) ∧ Below W.heap.size W w')
    (CP : ∀ W, Calls Tryz.prog 21 #[nv (fm X (fa (fm X (fa X 486662)) 1)), nv ((pp - 1) / 2), nv pp] W fun e w' => e = .returned (nv Y) ∧ Below W.heap.size W w') :
    Calls Tryz.prog 7 #[.string u] w fun e w' => e = .returned (.bool (lim Y 0 == 1 && (lim Y 1 == 0 && (lim Y 2 == 0 && lim Y 3 == 0)))) ∧ Below w.heap.size w w' := by
  go_enter Tryz.func7, Tryz.ntmps7
  go_wp2_with fail
  refine (CC _).mono ?_
  rintro e w1 ⟨rfl, hb⟩
  have hB := hb
  clear hb CC
  have lB_1 := hB.size
  have Bx := Arr.mk4 (w := (w1.alloc (.cells #[.int .u64 (lim (X) 0), .int .u64 (lim (X) 1), .int .u64 (lim (X) 2), .int .u64 (lim (X) 3)] 34))) (f := fun j => .int .u64 (lim (X) j)) (b := w1.heap.size) (by simp [go_sem]) (by simp [go_sem]) (by simp [go_sem]) (by simp [go_sem]) (by simp [go_sem]) (by simp [go_sem]) (by simp [go_sem]) (by simp [go_sem])
  have hB' := (Bel.al hB (.cells #[.int .u64 (lim (X) 0), .int .u64 (lim (X) 1), .int .u64 (lim (X) 2), .int .u64 (lim (X) 3)] 34))
  clear hB
  have Ax := Bx
  have hB := hB'
  clear Bx hB'
  go_wp2_with fail
  apply wp_region_alloc_tail 9 (by kernel_rfl) (by kernel_rfl) (by kernel_rfl) (.cells #[.int .u64 0, .int .u64 0, .int .u64 0, .int .u64 0] 34) _ rfl (fun _ _ => by simp [go_sem])
  · intro W hW
    have rx0 := fun ds os => cell_regrown ((Arr.to' Ax hW).c 0 (by omega)) ds os
    have rx1 := fun ds os => cell_regrown ((Arr.to' Ax hW).c 1 (by omega)) ds os
    have rx2 := fun ds os => cell_regrown ((Arr.to' Ax hW).c 2 (by omega)) ds os
    have rx3 := fun ds os => cell_regrown ((Arr.to' Ax hW).c 3 (by omega)) ds os
    simp only [List.take_succ_cons, List.take_zero]
    repeat (go_big_quiet_step (first | (go_at_call 17; with_reducible exact Calls.regrown_of (rmul _ _ (by first | exact inn_fm _ _ | exact inn_fa _ _ | exact inn_fs _ _ | assumption) (by first | exact inn_fm _ _ | exact inn_fa _ _ | exact inn_fs _ _ | assumption) _)) | (go_at_call 18; with_reducible exact Calls.regrown_of (raddc _ iX _)) | (go_at_call 18; with_reducible exact Calls.regrown_of (radd1 _ (inn_fm _ _) _))))
    exact wpQuiet_nil rfl
  intro u2 w12 hb1 hb2
  simp only [List.drop_succ_cons, List.drop_zero, Act.put, List.setIfInBounds_toArray, List.set_cons_succ, List.set_cons_zero]
  have Ex := Arr.to' Ax hb1
  have lx_u2 := Ex.lt
  have Bx := Arr.to' (Arr.al' Ex (.cells #[.int .u64 0, .int .u64 0, .int .u64 0, .int .u64 0] 34)) hb2
  have By := (Arr.mk4 (w := (u2.alloc (.cells #[.int .u64 0, .int .u64 0, .int .u64 0, .int .u64 0] 34))) (f := fun _ => .int .u64 0) (b := u2.heap.size) (by simp [go_sem]) (by simp [go_sem]) (by simp [go_sem]) (by simp [go_sem]) (by simp [go_sem]) (by simp [go_sem]) (by simp [go_sem]) (by simp [go_sem])).below hb2 (by go_size)
  have lB_u2 := (Bel.call hB hb1).size
  have hB' := Bel.call (Bel.al (Bel.call hB hb1) (.cells #[.int .u64 0, .int .u64 0, .int .u64 0, .int .u64 0] 34)) hb2
  clear hb1 hb2 Ex Ax hB
  have Ax := Bx
  have Ay := By
  have hB := hB'
  clear Bx By hB'
  have cy := Ay.c
  have zy := Ay.z
  have Bx := Arr.st4o (b' := u2.heap.size) Ax (by have := Ax.lt; have := Ay.lt; omega) (fm X (fa (fm X (fa X 486662)) 1))
  have By := Arr.st4 Ay (fm X (fa (fm X (fa X 486662)) 1))
  have hB' := Bel.st4 hB (b := u2.heap.size) (by have := hB.size; omega) (fm X (fa (fm X (fa X 486662)) 1))
  clear Ax Ay hB
  have Ax := Bx
  have Ay := By
  have hB := hB'
  clear Bx By hB'
  go_wp2_with fail
  refine (p79 _).mono ?_
  rintro e w13 ⟨rfl, hb⟩
  have By := Arr.to' Ay hb
  have hB' := Bel.call hB hb
  clear hb cy zy Ax Ay hB
  have Ay := By
  have hB := hB'
  clear By hB'
  go_wp2_with fail
  refine (CS _).mono ?_
  rintro e w20 ⟨rfl, hb⟩
  have By := Arr.to' Ay hb
  have hB' := Bel.call hB hb
  clear hb Ay hB CS
  have Ay := By
  have hB := hB'
  clear By hB'
  have hS := hB.size
  have lY := Ay.lt
  go_wp2_with fail
  go_loopw [8] (fun i wr => ∃ k : Nat, k ≤ 4 ∧ i = .int .i64 k ∧ Below w.heap.size w wr ∧ w20.heap.size < wr.heap.size ∧ Arr wr u2.heap.size 4 (fun j => .int .u64 (lim (fm X (fa (fm X (fa X 486662)) 1)) j)) ∧ Arr wr w20.heap.size 4 (hv (pp - 1) k)) (fun i _ => 4 - (intOf i).toNat)
  case atStart => exact ⟨0, by omega, rfl, Bel.al hB _, by go_size, Arr.al' Ay _, Arr.mk4 (by simp [go_sem, hv]) (by simp [go_sem, hv]) (by simp [go_sem, hv]) (by simp [go_sem, hv]) (by simp [go_sem]) (by simp [go_sem]) (by simp [go_sem]) (by simp [go_sem])⟩
  case round =>
    clear hB Ay
    obtain ⟨k, hk, rfl, hB, hs, AY, AR⟩ := hrel
    by_cases hlt : k < 4
    · have k0 : (0 : Int) ≤ (k : Int) := by omega
      have k4 : (k : Int) < 4 := by omega
      have rk : wr.cell? ⟨w20.heap.size, k, none⟩ = some (.int .u64 (lim (pp - 1) k)) := by rw [AR.c k hlt, hv, if_neg (by omega)]
      have zk := AR.z k hlt
      by_cases h3 : k < 3
      · have k3 : (k : Int) < 3 := by omega
        have hw1 : IntKind.i64.wrap ((k : Int) + 1) = (k : Int) + 1 := by rw [IntKind.wrap_i64]; omega
        have tn : ((k : Int) + 1).toNat = k + 1 := by omega
        have rn : ∀ v, (wr.setCell ⟨w20.heap.size, k, none⟩ v).cell? ⟨w20.heap.size, k + 1, none⟩ = some (.int .u64 (lim (pp - 1) (k + 1))) := fun v => by
          rw [(AR.set k hlt v).c (k + 1) (by omega), if_neg (by omega), hv, if_neg (by omega)]
        have lh := lim_half (pp - 1) k
        have J' : bits .or .u64 (lim (pp - 1) k / 2) (IntKind.u64.wrap (bits .and .u64 (lim (pp - 1) (k + 1)) 1 * 9223372036854775808)) = lim ((pp - 1) / 2) k := by
          rw [lh, b_and1 _ (lim_nn _ _) (lim_lt _ _)]
          have J := or_join (lim (pp - 1) k) (lim (pp - 1) (k + 1) % 2) 1 (by omega) (lim_nn _ _) (lim_lt _ _) (by omega)
          simpa using J
        have HAY : Hid (∀ v v' : Value, Arr ((wr.setCell ⟨w20.heap.size, k, none⟩ v).setCell ⟨w20.heap.size, k, none⟩ v') u2.heap.size 4 (fun j => .int .u64 (lim (fm X (fa (fm X (fa X 486662)) 1)) j))) := fun v v' => (AY.other (by omega) v).other (by omega) v'
        have HAR : Hid (∀ v : Value, Arr ((wr.setCell ⟨w20.heap.size, k, none⟩ v).setCell ⟨w20.heap.size, k, none⟩ (.int .u64 (lim ((pp - 1) / 2) k))) w20.heap.size 4 (hv (pp - 1) (k + 1))) := fun v =>
          ((AR.set k hlt v).set k hlt (.int .u64 (lim ((pp - 1) / 2) k))).congr (by
            intro j hj
            by_cases e : j = k
            · rw [if_pos e, hv, if_pos (by omega), e]
            · rw [if_neg e, if_neg e]; unfold hv
              by_cases e2 : j < k
              · rw [if_pos e2, if_pos (by omega)]
              · rw [if_neg e2, if_neg (by omega)])
        clear AR AY lh
        go_wp2_with fail
        go_region
        all_goals
          go_wp2_with fail
          go_roundw
          case rel => exact ⟨k + 1, by omega, by go_num, ((hB.setCell (by show w.heap.size ≤ w20.heap.size; omega) _).setCell (by show w.heap.size ≤ w20.heap.size; omega) _).drew, by simpa [size_set] using hs, HAY.out _ _, HAR.out _⟩
          case measure => simp [intOf]; omega
      · have k3 : k = 3 := by omega
        subst k3
        have lh := lim_half (pp - 1) 3
        have l4 : lim (pp - 1) 4 = 0 := by decide
        have J' : lim (pp - 1) 3 / 2 = lim ((pp - 1) / 2) 3 := by rw [lh, l4]; omega
        have HAY : Hid (∀ v : Value, Arr (wr.setCell ⟨w20.heap.size, 3, none⟩ v) u2.heap.size 4 (fun j => .int .u64 (lim (fm X (fa (fm X (fa X 486662)) 1)) j))) := fun v => AY.other (by omega) v
        have HAR : Hid (Arr (wr.setCell ⟨w20.heap.size, 3, none⟩ (.int .u64 (lim ((pp - 1) / 2) 3))) w20.heap.size 4 (hv (pp - 1) 4)) :=
          (AR.set 3 hlt (.int .u64 (lim ((pp - 1) / 2) 3))).congr (by
            intro j hj
            by_cases e : j = 3
            · rw [if_pos e, hv, if_pos (by omega), e]
            · rw [if_neg e]; unfold hv
              rw [if_pos (by omega), if_pos (by omega)])
        clear AR AY lh l4
        go_wp2_with fail
        go_roundw
        case rel => exact ⟨4, by omega, by go_num, hB.setCell (by show w.heap.size ≤ w20.heap.size; omega) _, by simpa [size_set] using hs, HAY.out _, HAR.out⟩
        case measure => simp [intOf]
    · have k4 : k = 4 := by omega
      subst k4
      have Ay := AY
      have Ah : Arr wr w20.heap.size 4 (fun j => .int .u64 (lim ((pp - 1) / 2) j)) := AR.congr (by intro j hj; rw [hv, if_pos hj])
      clear AR AY
      go_wp2_with fail
      apply wp_region_alloc_tail 4 (by kernel_rfl) (by kernel_rfl) (by kernel_rfl) (.cells #[.int .u64 0, .int .u64 0, .int .u64 0, .int .u64 0] 34) _ rfl (fun _ _ => by simp [go_sem])
      · intro W hW
        have ry0 := fun ds os => cell_regrown ((Arr.to' Ay hW).c 0 (by omega)) ds os
        have ry1 := fun ds os => cell_regrown ((Arr.to' Ay hW).c 1 (by omega)) ds os
        have ry2 := fun ds os => cell_regrown ((Arr.to' Ay hW).c 2 (by omega)) ds os
        have ry3 := fun ds os => cell_regrown ((Arr.to' Ay hW).c 3 (by omega)) ds os
        have rh0 := fun ds os => cell_regrown ((Arr.to' Ah hW).c 0 (by omega)) ds os
        have rh1 := fun ds os => cell_regrown ((Arr.to' Ah hW).c 1 (by omega)) ds os
        have rh2 := fun ds os => cell_regrown ((Arr.to' Ah hW).c 2 (by omega)) ds os
        have rh3 := fun ds os => cell_regrown ((Arr.to' Ah hW).c 3 (by omega)) ds os
        simp only [List.take_succ_cons, List.take_zero]
        repeat (go_big_quiet_step (first | (go_at_call 20; with_reducible exact Calls.regrown_of (p79 _)) | (go_at_call 21; with_reducible exact Calls.regrown_of (CP _))))
        exact wpQuiet_nil rfl
      intro u4 w14 hb1 hb2
      simp only [List.drop_succ_cons, List.drop_zero, Act.put, List.setIfInBounds_toArray, List.set_cons_succ, List.set_cons_zero]
      have Ey := Arr.to' Ay hb1
      have ly_u4 := Ey.lt
      have By := Arr.to' (Arr.al' Ey (.cells #[.int .u64 0, .int .u64 0, .int .u64 0, .int .u64 0] 34)) hb2
      have Bs := (Arr.mk4 (w := (u4.alloc (.cells #[.int .u64 0, .int .u64 0, .int .u64 0, .int .u64 0] 34))) (f := fun _ => .int .u64 0) (b := u4.heap.size) (by simp [go_sem]) (by simp [go_sem]) (by simp [go_sem]) (by simp [go_sem]) (by simp [go_sem]) (by simp [go_sem]) (by simp [go_sem]) (by simp [go_sem])).below hb2 (by go_size)
      have lB_u4 := (Bel.call hB hb1).size
      have hB' := Bel.call (Bel.al (Bel.call hB hb1) (.cells #[.int .u64 0, .int .u64 0, .int .u64 0, .int .u64 0] 34)) hb2
      clear hb1 hb2 Ey Ay Ah hB CP
      have Ay := By
      have As := Bs
      have hB := hB'
      clear By Bs hB'
      have cs := As.c
      have zs := As.z
      have By := Arr.st4o (b' := u4.heap.size) Ay (by have := Ay.lt; have := As.lt; omega) (Y)
      have Bs := Arr.st4 As (Y)
      have hB' := Bel.st4 hB (b := u4.heap.size) (by have := hB.size; omega) (Y)
      clear Ay As hB
      have Ay := By
      have As := Bs
      have hB := hB'
      clear By Bs hB'
      have cy := Ay.c
      go_wp2_with fail
      go_ret
      exact ⟨rfl, hB⟩
end
theorem ron_u (u : ByteArray) (hu : u.size ≤ maxLen) (w : World) : Calls Tryz.prog 7 #[.string u] w fun e w' => e = .returned (.bool (onB u)) ∧ Below w.heap.size w w' := by
  have cu := fun W => rcoord_u u hu W
  unfold onB
  by_cases g : u.size = 32
  · rw [if_pos g, lenE_yes (by omega)] at cu
    rw [if_pos g]
    have cs : ∀ W, Calls Tryz.prog 19 #[nv pp, .agg #[.int .u64 1, .int .u64 0, .int .u64 0, .int .u64 0]] W fun e w' => e = .returned (.tuple #[nv (pp - 1), .int .u64 (bw pp 1 4)]) ∧ Below W.heap.size W w' := fun W => by
      have := refSub_raw pp 1 W
      rw [nv_low 1 (by decide) (by decide)] at this
      exact this
    have iH : Inn (hh (c5 (flN u) % pp)) := inn_fm _ _
    have cp : ∀ W, Calls Tryz.prog 21 #[nv (hh (c5 (flN u) % pp)), nv ((pp - 1) / 2), nv pp] W fun e w' => e = .returned (nv (hh (c5 (flN u) % pp) ^ (pp / 2).toNat % pp)) ∧ Below W.heap.size W w' := fun W => by
      have := refPow_any (hh (c5 (flN u) % pp)) (pp / 2) pp iH.1 iH.2 inn_half.1 inn_half.2 inn_pp.1 inn_pp.2 W
      rw [md_pos _ pp_pos] at this
      have e : (pp - 1) / 2 = pp / 2 := by decide
      rw [e]
      exact this
    unfold sqB
    cases hz : z4 (hh (c5 (flN u) % pp))
    · rw [Bool.false_or]
      exact ron_1 u _ _ _ (inn_mod _) hz w cu cs cp
    · rw [Bool.true_or]
      exact ron_0 u _ _ _ (inn_mod _) hz w cu cs cp
  · rw [if_neg g]
    exact ron_no u _ _ (lenE_nz g) w cu
end Go.Proofs.YtpigofooblmdhaaGreat
set_option linter.all false
set_option maxRecDepth 100000
namespace Go.Proofs.YtpigofooblmdhaaGreat
open Go.ChangeShapes Go.WideShapes Go.ChangeAt Go.RowKit
open Go.ChangeMaps (open_string shut_string)
set_option maxHeartbeats 4000000 in
theorem curve_core (k u S : ByteArray) (E : Int) (b : Bool) (w : World)
    (C4 : ∀ W, Calls Tryz.prog 4 #[.string k] W fun e w' => e = .returned (.tuple #[.string S, .int .i64 E]) ∧ Below W.heap.size W w')
    (C5 : ∀ W, Calls Tryz.prog 5 #[.string k] W fun e w' => e = .returned (.tuple #[.string S, .int .i64 E]) ∧ Below W.heap.size W w')
    (C6 : ∀ W, Calls Tryz.prog 6 #[.string u] W fun e w' => e = .returned (.bool b) ∧ Below W.heap.size W w')
    (C7 : ∀ W, Calls Tryz.prog 7 #[.string u] W fun e w' => e = .returned (.bool b) ∧ Below W.heap.size W w')
    (C8 : ∀ W, Calls Tryz.prog 8 #[] W fun e w' => e = .returned (.bool true) ∧ Below W.heap.size W w') :
    Calls Tryz.prog 3 #[.string k, .string u] w fun e w' => e = .returned (.bool true) ∧ Below w.heap.size w w' := by
  go_enter Tryz.func3, Tryz.ntmps3
  go_wp2_with fail
  refine (C4 _).mono ?_
  rintro e w1 ⟨rfl, hb⟩
  have hB := hb
  clear hb
  go_wp2_with fail
  refine (C5 _).mono ?_
  rintro e w2 ⟨rfl, hb⟩
  have hB' := Bel.call hB hb
  clear hb hB
  have hB := hB'
  clear hB'
  go_wp2_with fail
  refine (C6 _).mono ?_
  rintro e w3 ⟨rfl, hb⟩
  have hB' := Bel.call hB hb
  clear hb hB
  have hB := hB'
  clear hB'
  go_wp2_with fail
  refine (C7 _).mono ?_
  rintro e w4 ⟨rfl, hb⟩
  have hB' := Bel.call hB hb
  clear hb hB
  have hB := hB'
  clear hB'
  go_wp2_with fail
  refine (C8 _).mono ?_
  rintro e w5 ⟨rfl, hb⟩
  have hB' := Bel.call hB hb
  clear hb hB
  have hB := hB'
  clear hB'
  go_wp2_with fail
  go_returns
  exact ⟨rfl, hB⟩
theorem curve_any (k u : ByteArray) (hk : k.size ≤ maxLen) (hu : u.size ≤ maxLen) (w : World) :
    Calls Tryz.prog 3 #[.string k, .string u] w fun e w' => e = .returned (.bool true) ∧ Below w.heap.size w w' :=
  curve_core k u _ _ _ w (pub_u k hk) (rpub_u k hk) (on_u u hu) (ron_u u hu) awake3
set_option maxRecDepth 100000 in
theorem lifted3 (os : Os) (started : os.Started) (H : Type) (enc : TypeId × Value → H) :
    ReturnsInHanded {} Tryz.checked os 3 .any (Rows.xdhCurveSpec.pre6 enc Tryz.prog Tryz.f3 Rows.xdhCurveRow.domain false) (Rows.xdhCurveSpec.post enc Tryz.prog Tryz.f3 false true false false) := by
  refine returnsInHanded_of_change (C := Tryz.checked) own started (by kernel_rfl) Tryz.func3
    (ChangeSpec.witness6 (enc := enc) (C := Tryz.checked) false ⟨#[], #[.string ⟨#[]⟩, .string ⟨#[]⟩], []⟩ 8 (by kernel_rfl) (by kernel_rfl) (by kernel_rfl) (by kernel_rfl)) ?_
  intro W base args ds gs before hval0 hW hcnd _
  have hval : ∀ (j : Nat) t v, Tryz.f3.params[j]? = some t → args[j]? = some v → Value.okWide Tryz.prog W .any base t v := hval0
  have hW' := hW
  obtain ⟨p, q, hA0, hV, rfl, hfz, hnd⟩ := hW
  have hA : DataW.TrodAll enc Tryz.prog W 0 (fun _ => true) true Tryz.f3.params.toList args.toList ds p := hA0
  rw [Tryz.params3] at hA hval
  obtain ⟨v0, vs0, d0, ds0, p0, q0, hargs, rfl, rfl, h0, r0⟩ := trodAll_cons hA
  obtain ⟨v1, vs1, d1, ds1, p1, q1, rfl, rfl, rfl, h1, r1⟩ := trodAll_cons r0
  obtain ⟨rfl, rfl, rfl⟩ := trodAll_nil r1
  obtain rfl : args = #[v0, v1] := by cases args; simp_all
  obtain ⟨rfl, rfl⟩ := trodVars_none hV
  have k0 := h0
  have k1 := h1
  have lt0 : ∀ x ∈ p0, x.block < W.heap.size := by obtain ⟨m, hm⟩ := k0; exact DataW.trod_lt m _ _ _ hm
  have lt1 : ∀ x ∈ p1, x.block < W.heap.size := by obtain ⟨m, hm⟩ := k1; exact DataW.trod_lt m _ _ _ hm
  obtain ⟨S0, rfl, rfl, rfl, hs0⟩ := open_string Tryz.underlying9 (hval 0 9 v0 rfl rfl) h0
  obtain ⟨S1, rfl, rfl, rfl, hs1⟩ := open_string Tryz.underlying9 (hval 1 9 v1 rfl rfl) h1
  clear hA0 hval0
  refine (curve_any S0 S1 hs0 hs1 W).mono fun e W' ⟨he, bel⟩ => ?_
  subst he
  exact ⟨_, rfl, _, _, _, [], _, [], hW', trodAll_mk1 (shut_bool Tryz.underlying4 _), (trodAll_cons_mk (Below.trod laidOut (by kernel_rfl) (of_decide_eq_true (by kernel_rfl)) k0 bel lt0) (trodAll_cons_mk (Below.trod laidOut (by kernel_rfl) (of_decide_eq_true (by kernel_rfl)) k1 bel lt1) trodAll_mk0)), rfl, bel.frame _, fun h => by cases h⟩
theorem xdhCurve_holds : Rows.XdhCurveSaid :=
  OpenClaim.holds_of_wide 3 Tryz.f3 rfl rfl rfl rfl rfl rfl rfl ⟨rfl, rfl, rfl, rfl, rfl⟩ rfl rfl rfl rfl rfl (by kernel_rfl) Tryz.func3 (by kernel_rfl)
    (of_decide_eq_true (by kernel_rfl)) (by unfold Func.isWrapper; rw [if_neg (of_decide_eq_false (by kernel_rfl))]; exact ⟨rfl, rfl⟩)
    (fun os started H enc _ => lifted3 os started H enc)
#print axioms xdhCurve_holds
end Go.Proofs.YtpigofooblmdhaaGreat
