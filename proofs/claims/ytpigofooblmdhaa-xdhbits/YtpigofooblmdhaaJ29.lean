/- The field of X25519: sums, differences, products and squares, in xdh and in the reference. -/
import Derived.Test.YtpigofooblmdhaaJ1
import Derived.Test.YtpigofooblmdhaaJ28
set_option linter.all false
set_option maxRecDepth 100000
namespace Go.Proofs.Ytpigofooblmdhaa
open Go.RowKit Go.Sort
def pp : Int := 57896044618658097711785492504343953926634992332820282019728792003956564819949
theorem nv_pp : nv pp = .agg #[.int .u64 18446744073709551597, .int .u64 18446744073709551615, .int .u64 18446744073709551615, .int .u64 9223372036854775807] := by
  have h0 : lim pp 0 = 18446744073709551597 := by decide
  have h1 : lim pp 1 = 18446744073709551615 := by decide
  have h2 : lim pp 2 = 18446744073709551615 := by decide
  have h3 : lim pp 3 = 9223372036854775807 := by decide
  simp only [nv, h0, h1, h2, h3]
def Inn (N : Int) : Prop := 0 ≤ N ∧ N < top256
theorem inn_pp : Inn pp := ⟨by decide, by decide⟩
theorem pp_pos : 0 < pp := by decide
def fa (A B : Int) : Int := (A + B) % pp
def fs (A B : Int) : Int := (A - B) % pp
def fm (A B : Int) : Int := A * B % pp
theorem inn_mod (N : Int) : Inn (N % pp) := ⟨Int.emod_nonneg _ (by decide), Int.lt_trans (Int.emod_lt_of_pos _ pp_pos) (by decide)⟩
theorem inn_fa (A B : Int) : Inn (fa A B) := inn_mod _
theorem inn_fs (A B : Int) : Inn (fs A B) := inn_mod _
theorem inn_fm (A B : Int) : Inn (fm A B) := inn_mod _
theorem p21 (w : World) : Calls Try.prog 21 #[] w fun e w' => e = .returned (nv pp) ∧ Below w.heap.size w w' := by rw [nv_pp]; exact k21 w
theorem p22 (w : World) : Calls Try.prog 22 #[] w fun e w' => e = .returned (nv pp) ∧ Below w.heap.size w w' := by rw [nv_pp]; exact k22 w
theorem below_of {w w' : World} {d : Nat} {os : Array Obj} (h : w' = grow (redrawn w d) os) : Below w.heap.size w w' := by rw [h]; exact below_regrown _ _ _
theorem Arr.mk16 {w : World} {b : Nat} {f : Nat → Value} (h0 : w.cell? ⟨b, 0, none⟩ = some (f 0)) (h1 : w.cell? ⟨b, 1, none⟩ = some (f 1)) (h2 : w.cell? ⟨b, 2, none⟩ = some (f 2)) (h3 : w.cell? ⟨b, 3, none⟩ = some (f 3))
    (h4 : w.cell? ⟨b, 4, none⟩ = some (f 4)) (h5 : w.cell? ⟨b, 5, none⟩ = some (f 5)) (h6 : w.cell? ⟨b, 6, none⟩ = some (f 6)) (h7 : w.cell? ⟨b, 7, none⟩ = some (f 7))
    (h8 : w.cell? ⟨b, 8, none⟩ = some (f 8)) (h9 : w.cell? ⟨b, 9, none⟩ = some (f 9)) (h10 : w.cell? ⟨b, 10, none⟩ = some (f 10)) (h11 : w.cell? ⟨b, 11, none⟩ = some (f 11))
    (h12 : w.cell? ⟨b, 12, none⟩ = some (f 12)) (h13 : w.cell? ⟨b, 13, none⟩ = some (f 13)) (h14 : w.cell? ⟨b, 14, none⟩ = some (f 14)) (h15 : w.cell? ⟨b, 15, none⟩ = some (f 15)) (z : ∀ j, j < 16 → w.frozen? ⟨b, j, none⟩ = false) : Arr w b 16 f := by
  intro j hj
  refine ⟨?_, z j hj⟩
  have h : j = 0 ∨ j = 1 ∨ j = 2 ∨ j = 3 ∨ j = 4 ∨ j = 5 ∨ j = 6 ∨ j = 7 ∨ j = 8 ∨ j = 9 ∨ j = 10 ∨ j = 11 ∨ j = 12 ∨ j = 13 ∨ j = 14 ∨ j = 15 := by omega
  rcases h with h | h | h | h | h | h | h | h | h | h | h | h | h | h | h | h <;> subst h <;> assumption
def lx (vs : List Int) (j : Nat) : Int := lim (vs.getD (j / 4) 0) (j % 4)
abbrev nv2 (A C : Int) : Value := .agg #[.int .u64 (lim A 0), .int .u64 (lim A 1), .int .u64 (lim A 2), .int .u64 (lim A 3), .int .u64 (lim C 0), .int .u64 (lim C 1), .int .u64 (lim C 2), .int .u64 (lim C 3)]
abbrev nv4 (A C B D : Int) : Value := .agg #[.int .u64 (lim A 0), .int .u64 (lim A 1), .int .u64 (lim A 2), .int .u64 (lim A 3), .int .u64 (lim C 0), .int .u64 (lim C 1), .int .u64 (lim C 2), .int .u64 (lim C 3), .int .u64 (lim B 0), .int .u64 (lim B 1), .int .u64 (lim B 2), .int .u64 (lim B 3), .int .u64 (lim D 0), .int .u64 (lim D 1), .int .u64 (lim D 2), .int .u64 (lim D 3)]
set_option maxHeartbeats 2000000 in
theorem xadd_core (A B R : Int) (w : World)
    (D : ∀ W, Calls Try.prog 29 #[nv A, nv B, nv pp] W fun e w' => e = .returned (nv R) ∧ Below W.heap.size W w') :
    Calls Try.prog 118 #[nv A, nv B] w fun e w' => e = .returned (nv R) ∧ Below w.heap.size w w' := by
  go_enter Try.func118, Try.ntmps118
  go_wp2_with fail
  obtain ⟨W0, hW0⟩ : ∃ W0, W0 = (((w.alloc (.cells #[.int .u64 (lim (A) 0), .int .u64 (lim (A) 1), .int .u64 (lim (A) 2), .int .u64 (lim (A) 3)] 24)).alloc (.cells #[.int .u64 (lim (B) 0), .int .u64 (lim (B) 1), .int .u64 (lim (B) 2), .int .u64 (lim (B) 3)] 24)).alloc (.cells #[.int .u64 0, .int .u64 0, .int .u64 0, .int .u64 0] 24)) := ⟨_, rfl⟩
  have Aa : Arr W0 (w.heap.size) 4 (fun j => .int .u64 (lim (A) j)) := by subst hW0; refine Arr.mk4 ?_ ?_ ?_ ?_ ?_ ?_ ?_ ?_ <;> simp [go_sem]
  have Ab : Arr W0 (w.heap.size + 1) 4 (fun j => .int .u64 (lim (B) j)) := by subst hW0; refine Arr.mk4 ?_ ?_ ?_ ?_ ?_ ?_ ?_ ?_ <;> simp [go_sem]
  have Az : Arr W0 (w.heap.size + 1 + 1) 4 (fun _ => .int .u64 0) := by subst hW0; refine Arr.mk4 ?_ ?_ ?_ ?_ ?_ ?_ ?_ ?_ <;> simp [go_sem]
  have hB : Below w.heap.size w W0 := by subst hW0; go_grown
  subst hW0
  have ra0 := fun ds os => cell_regrown (Aa.c 0 (by omega)) ds os
  have ra1 := fun ds os => cell_regrown (Aa.c 1 (by omega)) ds os
  have ra2 := fun ds os => cell_regrown (Aa.c 2 (by omega)) ds os
  have ra3 := fun ds os => cell_regrown (Aa.c 3 (by omega)) ds os
  have rb0 := fun ds os => cell_regrown (Ab.c 0 (by omega)) ds os
  have rb1 := fun ds os => cell_regrown (Ab.c 1 (by omega)) ds os
  have rb2 := fun ds os => cell_regrown (Ab.c 2 (by omega)) ds os
  have rb3 := fun ds os => cell_regrown (Ab.c 3 (by omega)) ds os
  refine wp_region_below_tail 4 (by kernel_rfl) (by kernel_rfl) ?_
  simp only [List.take_succ_cons, List.take_zero, List.drop_succ_cons, List.drop_zero]
  repeat (go_big_quiet_step (first | (go_at_call 21; exact Calls.regrown_of (p21 _)) | (go_at_call 29; exact Calls.regrown_of (D _))))
  refine wpQuiet_nil ?_
  intro w1 hw'
  obtain ⟨⟨dq, osq⟩, hw''⟩ := hw'
  have hb := below_of hw''
  clear hw''
  replace Az := Arr.to' Az hb
  replace hB := Bel.call hB hb
  clear hb ra0 ra1 ra2 ra3 rb0 rb1 rb2 rb3 Aa Ab D
  have hS := hB.size
  have cz := Az.c
  have zz := Az.z
  go_wp2_with fail
  refine bodyPost_ret (v := nv R) (by simp [results, Try.results118, go_sem, cz]) rfl ⟨rfl, ?_⟩
  go_grown
theorem xadd (A B : Int) (iA : Inn A) (iB : Inn B) (w : World) : Calls Try.prog 118 #[nv A, nv B] w fun e w' => e = .returned (nv (fa A B)) ∧ Below w.heap.size w w' := by
  refine xadd_core A B _ w fun W => ?_
  have := madd_any A B pp iA.1 iA.2 iB.1 iB.2 inn_pp.1 inn_pp.2 W
  rw [md_pos _ pp_pos] at this
  exact this
set_option maxHeartbeats 2000000 in
theorem xsub_core (A B R : Int) (w : World)
    (D : ∀ W, Calls Try.prog 31 #[nv A, nv B, nv pp] W fun e w' => e = .returned (nv R) ∧ Below W.heap.size W w') :
    Calls Try.prog 119 #[nv A, nv B] w fun e w' => e = .returned (nv R) ∧ Below w.heap.size w w' := by
  go_enter Try.func119, Try.ntmps119
  go_wp2_with fail
  obtain ⟨W0, hW0⟩ : ∃ W0, W0 = (((w.alloc (.cells #[.int .u64 (lim (A) 0), .int .u64 (lim (A) 1), .int .u64 (lim (A) 2), .int .u64 (lim (A) 3)] 24)).alloc (.cells #[.int .u64 (lim (B) 0), .int .u64 (lim (B) 1), .int .u64 (lim (B) 2), .int .u64 (lim (B) 3)] 24)).alloc (.cells #[.int .u64 0, .int .u64 0, .int .u64 0, .int .u64 0] 24)) := ⟨_, rfl⟩
  have Aa : Arr W0 (w.heap.size) 4 (fun j => .int .u64 (lim (A) j)) := by subst hW0; refine Arr.mk4 ?_ ?_ ?_ ?_ ?_ ?_ ?_ ?_ <;> simp [go_sem]
  have Ab : Arr W0 (w.heap.size + 1) 4 (fun j => .int .u64 (lim (B) j)) := by subst hW0; refine Arr.mk4 ?_ ?_ ?_ ?_ ?_ ?_ ?_ ?_ <;> simp [go_sem]
  have Az : Arr W0 (w.heap.size + 1 + 1) 4 (fun _ => .int .u64 0) := by subst hW0; refine Arr.mk4 ?_ ?_ ?_ ?_ ?_ ?_ ?_ ?_ <;> simp [go_sem]
  have hB : Below w.heap.size w W0 := by subst hW0; go_grown
  subst hW0
  have ra0 := fun ds os => cell_regrown (Aa.c 0 (by omega)) ds os
  have ra1 := fun ds os => cell_regrown (Aa.c 1 (by omega)) ds os
  have ra2 := fun ds os => cell_regrown (Aa.c 2 (by omega)) ds os
  have ra3 := fun ds os => cell_regrown (Aa.c 3 (by omega)) ds os
  have rb0 := fun ds os => cell_regrown (Ab.c 0 (by omega)) ds os
  have rb1 := fun ds os => cell_regrown (Ab.c 1 (by omega)) ds os
  have rb2 := fun ds os => cell_regrown (Ab.c 2 (by omega)) ds os
  have rb3 := fun ds os => cell_regrown (Ab.c 3 (by omega)) ds os
  refine wp_region_below_tail 4 (by kernel_rfl) (by kernel_rfl) ?_
  simp only [List.take_succ_cons, List.take_zero, List.drop_succ_cons, List.drop_zero]
  repeat (go_big_quiet_step (first | (go_at_call 21; exact Calls.regrown_of (p21 _)) | (go_at_call 31; exact Calls.regrown_of (D _))))
  refine wpQuiet_nil ?_
  intro w1 hw'
  obtain ⟨⟨dq, osq⟩, hw''⟩ := hw'
  have hb := below_of hw''
  clear hw''
  replace Az := Arr.to' Az hb
  replace hB := Bel.call hB hb
  clear hb ra0 ra1 ra2 ra3 rb0 rb1 rb2 rb3 Aa Ab D
  have hS := hB.size
  have cz := Az.c
  have zz := Az.z
  go_wp2_with fail
  refine bodyPost_ret (v := nv R) (by simp [results, Try.results119, go_sem, cz]) rfl ⟨rfl, ?_⟩
  go_grown
theorem xsub (A B : Int) (iA : Inn A) (iB : Inn B) (w : World) : Calls Try.prog 119 #[nv A, nv B] w fun e w' => e = .returned (nv (fs A B)) ∧ Below w.heap.size w w' := by
  refine xsub_core A B _ w fun W => ?_
  have := msub_any A B pp iA.1 iA.2 iB.1 iB.2 inn_pp.1 inn_pp.2 W
  rw [md_pos _ pp_pos] at this
  exact this
set_option maxHeartbeats 2000000 in
theorem xmul_core (A B R : Int) (w : World)
    (D : ∀ W, Calls Try.prog 33 #[nv A, nv B, nv pp] W fun e w' => e = .returned (nv R) ∧ Below W.heap.size W w') :
    Calls Try.prog 116 #[nv A, nv B] w fun e w' => e = .returned (nv R) ∧ Below w.heap.size w w' := by
  go_enter Try.func116, Try.ntmps116
  go_wp2_with fail
  obtain ⟨W0, hW0⟩ : ∃ W0, W0 = (((w.alloc (.cells #[.int .u64 (lim (A) 0), .int .u64 (lim (A) 1), .int .u64 (lim (A) 2), .int .u64 (lim (A) 3)] 24)).alloc (.cells #[.int .u64 (lim (B) 0), .int .u64 (lim (B) 1), .int .u64 (lim (B) 2), .int .u64 (lim (B) 3)] 24)).alloc (.cells #[.int .u64 0, .int .u64 0, .int .u64 0, .int .u64 0] 24)) := ⟨_, rfl⟩
  have Aa : Arr W0 (w.heap.size) 4 (fun j => .int .u64 (lim (A) j)) := by subst hW0; refine Arr.mk4 ?_ ?_ ?_ ?_ ?_ ?_ ?_ ?_ <;> simp [go_sem]
  have Ab : Arr W0 (w.heap.size + 1) 4 (fun j => .int .u64 (lim (B) j)) := by subst hW0; refine Arr.mk4 ?_ ?_ ?_ ?_ ?_ ?_ ?_ ?_ <;> simp [go_sem]
  have Az : Arr W0 (w.heap.size + 1 + 1) 4 (fun _ => .int .u64 0) := by subst hW0; refine Arr.mk4 ?_ ?_ ?_ ?_ ?_ ?_ ?_ ?_ <;> simp [go_sem]
  have hB : Below w.heap.size w W0 := by subst hW0; go_grown
  subst hW0
  have ra0 := fun ds os => cell_regrown (Aa.c 0 (by omega)) ds os
  have ra1 := fun ds os => cell_regrown (Aa.c 1 (by omega)) ds os
  have ra2 := fun ds os => cell_regrown (Aa.c 2 (by omega)) ds os
  have ra3 := fun ds os => cell_regrown (Aa.c 3 (by omega)) ds os
  have rb0 := fun ds os => cell_regrown (Ab.c 0 (by omega)) ds os
  have rb1 := fun ds os => cell_regrown (Ab.c 1 (by omega)) ds os
  have rb2 := fun ds os => cell_regrown (Ab.c 2 (by omega)) ds os
  have rb3 := fun ds os => cell_regrown (Ab.c 3 (by omega)) ds os
  refine wp_region_below_tail 4 (by kernel_rfl) (by kernel_rfl) ?_
  simp only [List.take_succ_cons, List.take_zero, List.drop_succ_cons, List.drop_zero]
  repeat (go_big_quiet_step (first | (go_at_call 21; exact Calls.regrown_of (p21 _)) | (go_at_call 33; exact Calls.regrown_of (D _))))
  refine wpQuiet_nil ?_
  intro w1 hw'
  obtain ⟨⟨dq, osq⟩, hw''⟩ := hw'
  have hb := below_of hw''
  clear hw''
  replace Az := Arr.to' Az hb
  replace hB := Bel.call hB hb
  clear hb ra0 ra1 ra2 ra3 rb0 rb1 rb2 rb3 Aa Ab D
  have hS := hB.size
  have cz := Az.c
  have zz := Az.z
  go_wp2_with fail
  refine bodyPost_ret (v := nv R) (by simp [results, Try.results116, go_sem, cz]) rfl ⟨rfl, ?_⟩
  go_grown
theorem xmul (A B : Int) (iA : Inn A) (iB : Inn B) (w : World) : Calls Try.prog 116 #[nv A, nv B] w fun e w' => e = .returned (nv (fm A B)) ∧ Below w.heap.size w w' := by
  refine xmul_core A B _ w fun W => ?_
  have := mmul_any A B pp iA.1 iA.2 iB.1 iB.2 inn_pp.1 inn_pp.2 W
  rw [md_pos _ pp_pos] at this
  exact this
set_option maxHeartbeats 2000000 in
theorem p79 (w : World) : Calls Try.prog 79 #[] w fun e w' => e = .returned (nv pp) ∧ Below w.heap.size w w' := by
  go_enter Try.func79, Try.ntmps79
  obtain ⟨W0, hW0⟩ : ∃ W0, W0 = (w.alloc (.cells #[.int .u64 0, .int .u64 0, .int .u64 0, .int .u64 0] 24)) := ⟨_, rfl⟩
  have Az : Arr W0 (w.heap.size) 4 (fun _ => .int .u64 0) := by subst hW0; refine Arr.mk4 ?_ ?_ ?_ ?_ ?_ ?_ ?_ ?_ <;> simp [go_sem]
  have hB : Below w.heap.size w W0 := by subst hW0; go_grown
  subst hW0
  go_wp2_with fail
  refine (p22 _).mono ?_
  rintro e w1 ⟨rfl, hb⟩
  replace Az := Arr.to' Az hb
  replace hB := Bel.call hB hb
  clear hb
  have hS := hB.size
  have cz := Az.c
  have zz := Az.z
  go_wp2_with fail
  refine bodyPost_ret (v := nv pp) (by simp [results, Try.results79, go_sem, cz]) rfl ⟨rfl, ?_⟩
  go_grown
set_option maxHeartbeats 2000000 in
theorem radd_core (A B R : Int) (w : World)
    (D : ∀ W, Calls Try.prog 30 #[nv A, nv B, nv pp] W fun e w' => e = .returned (nv R) ∧ Below W.heap.size W w') :
    Calls Try.prog 76 #[nv A, nv B] w fun e w' => e = .returned (nv R) ∧ Below w.heap.size w w' := by
  go_enter Try.func76, Try.ntmps76
  go_wp2_with fail
  obtain ⟨W0, hW0⟩ : ∃ W0, W0 = (((w.alloc (.cells #[.int .u64 (lim (A) 0), .int .u64 (lim (A) 1), .int .u64 (lim (A) 2), .int .u64 (lim (A) 3)] 24)).alloc (.cells #[.int .u64 (lim (B) 0), .int .u64 (lim (B) 1), .int .u64 (lim (B) 2), .int .u64 (lim (B) 3)] 24)).alloc (.cells #[.int .u64 0, .int .u64 0, .int .u64 0, .int .u64 0] 24)) := ⟨_, rfl⟩
  have Aa : Arr W0 (w.heap.size) 4 (fun j => .int .u64 (lim (A) j)) := by subst hW0; refine Arr.mk4 ?_ ?_ ?_ ?_ ?_ ?_ ?_ ?_ <;> simp [go_sem]
  have Ab : Arr W0 (w.heap.size + 1) 4 (fun j => .int .u64 (lim (B) j)) := by subst hW0; refine Arr.mk4 ?_ ?_ ?_ ?_ ?_ ?_ ?_ ?_ <;> simp [go_sem]
  have Az : Arr W0 (w.heap.size + 1 + 1) 4 (fun _ => .int .u64 0) := by subst hW0; refine Arr.mk4 ?_ ?_ ?_ ?_ ?_ ?_ ?_ ?_ <;> simp [go_sem]
  have hB : Below w.heap.size w W0 := by subst hW0; go_grown
  subst hW0
  have ra0 := fun ds os => cell_regrown (Aa.c 0 (by omega)) ds os
  have ra1 := fun ds os => cell_regrown (Aa.c 1 (by omega)) ds os
  have ra2 := fun ds os => cell_regrown (Aa.c 2 (by omega)) ds os
  have ra3 := fun ds os => cell_regrown (Aa.c 3 (by omega)) ds os
  have rb0 := fun ds os => cell_regrown (Ab.c 0 (by omega)) ds os
  have rb1 := fun ds os => cell_regrown (Ab.c 1 (by omega)) ds os
  have rb2 := fun ds os => cell_regrown (Ab.c 2 (by omega)) ds os
  have rb3 := fun ds os => cell_regrown (Ab.c 3 (by omega)) ds os
  refine wp_region_below_tail 4 (by kernel_rfl) (by kernel_rfl) ?_
  simp only [List.take_succ_cons, List.take_zero, List.drop_succ_cons, List.drop_zero]
  repeat (go_big_quiet_step (first | (go_at_call 79; exact Calls.regrown_of (p79 _)) | (go_at_call 30; exact Calls.regrown_of (D _))))
  refine wpQuiet_nil ?_
  intro w1 hw'
  obtain ⟨⟨dq, osq⟩, hw''⟩ := hw'
  have hb := below_of hw''
  clear hw''
  replace Az := Arr.to' Az hb
  replace hB := Bel.call hB hb
  clear hb ra0 ra1 ra2 ra3 rb0 rb1 rb2 rb3 Aa Ab D
  have hS := hB.size
  have cz := Az.c
  have zz := Az.z
  go_wp2_with fail
  refine bodyPost_ret (v := nv R) (by simp [results, Try.results76, go_sem, cz]) rfl ⟨rfl, ?_⟩
  go_grown
theorem radd (A B : Int) (iA : Inn A) (iB : Inn B) (w : World) : Calls Try.prog 76 #[nv A, nv B] w fun e w' => e = .returned (nv (fa A B)) ∧ Below w.heap.size w w' := by
  refine radd_core A B _ w fun W => ?_
  have := ref2Add_any A B pp iA.1 iA.2 iB.1 iB.2 inn_pp.1 inn_pp.2 W
  rw [md_pos _ pp_pos] at this
  exact this
set_option maxHeartbeats 2000000 in
theorem rsub_core (A B R : Int) (w : World)
    (D : ∀ W, Calls Try.prog 32 #[nv A, nv B, nv pp] W fun e w' => e = .returned (nv R) ∧ Below W.heap.size W w') :
    Calls Try.prog 77 #[nv A, nv B] w fun e w' => e = .returned (nv R) ∧ Below w.heap.size w w' := by
  go_enter Try.func77, Try.ntmps77
  go_wp2_with fail
  obtain ⟨W0, hW0⟩ : ∃ W0, W0 = (((w.alloc (.cells #[.int .u64 (lim (A) 0), .int .u64 (lim (A) 1), .int .u64 (lim (A) 2), .int .u64 (lim (A) 3)] 24)).alloc (.cells #[.int .u64 (lim (B) 0), .int .u64 (lim (B) 1), .int .u64 (lim (B) 2), .int .u64 (lim (B) 3)] 24)).alloc (.cells #[.int .u64 0, .int .u64 0, .int .u64 0, .int .u64 0] 24)) := ⟨_, rfl⟩
  have Aa : Arr W0 (w.heap.size) 4 (fun j => .int .u64 (lim (A) j)) := by subst hW0; refine Arr.mk4 ?_ ?_ ?_ ?_ ?_ ?_ ?_ ?_ <;> simp [go_sem]
  have Ab : Arr W0 (w.heap.size + 1) 4 (fun j => .int .u64 (lim (B) j)) := by subst hW0; refine Arr.mk4 ?_ ?_ ?_ ?_ ?_ ?_ ?_ ?_ <;> simp [go_sem]
  have Az : Arr W0 (w.heap.size + 1 + 1) 4 (fun _ => .int .u64 0) := by subst hW0; refine Arr.mk4 ?_ ?_ ?_ ?_ ?_ ?_ ?_ ?_ <;> simp [go_sem]
  have hB : Below w.heap.size w W0 := by subst hW0; go_grown
  subst hW0
  have ra0 := fun ds os => cell_regrown (Aa.c 0 (by omega)) ds os
  have ra1 := fun ds os => cell_regrown (Aa.c 1 (by omega)) ds os
  have ra2 := fun ds os => cell_regrown (Aa.c 2 (by omega)) ds os
  have ra3 := fun ds os => cell_regrown (Aa.c 3 (by omega)) ds os
  have rb0 := fun ds os => cell_regrown (Ab.c 0 (by omega)) ds os
  have rb1 := fun ds os => cell_regrown (Ab.c 1 (by omega)) ds os
  have rb2 := fun ds os => cell_regrown (Ab.c 2 (by omega)) ds os
  have rb3 := fun ds os => cell_regrown (Ab.c 3 (by omega)) ds os
  refine wp_region_below_tail 4 (by kernel_rfl) (by kernel_rfl) ?_
  simp only [List.take_succ_cons, List.take_zero, List.drop_succ_cons, List.drop_zero]
  repeat (go_big_quiet_step (first | (go_at_call 79; exact Calls.regrown_of (p79 _)) | (go_at_call 32; exact Calls.regrown_of (D _))))
  refine wpQuiet_nil ?_
  intro w1 hw'
  obtain ⟨⟨dq, osq⟩, hw''⟩ := hw'
  have hb := below_of hw''
  clear hw''
  replace Az := Arr.to' Az hb
  replace hB := Bel.call hB hb
  clear hb ra0 ra1 ra2 ra3 rb0 rb1 rb2 rb3 Aa Ab D
  have hS := hB.size
  have cz := Az.c
  have zz := Az.z
  go_wp2_with fail
  refine bodyPost_ret (v := nv R) (by simp [results, Try.results77, go_sem, cz]) rfl ⟨rfl, ?_⟩
  go_grown
theorem rsub (A B : Int) (iA : Inn A) (iB : Inn B) (w : World) : Calls Try.prog 77 #[nv A, nv B] w fun e w' => e = .returned (nv (fs A B)) ∧ Below w.heap.size w w' := by
  refine rsub_core A B _ w fun W => ?_
  have := ref2Sub_any A B pp iA.1 iA.2 iB.1 iB.2 inn_pp.1 inn_pp.2 W
  rw [md_pos _ pp_pos] at this
  exact this
set_option maxHeartbeats 2000000 in
theorem rmul_core (A B R : Int) (w : World)
    (D : ∀ W, Calls Try.prog 34 #[nv A, nv B, nv pp] W fun e w' => e = .returned (nv R) ∧ Below W.heap.size W w') :
    Calls Try.prog 78 #[nv A, nv B] w fun e w' => e = .returned (nv R) ∧ Below w.heap.size w w' := by
  go_enter Try.func78, Try.ntmps78
  go_wp2_with fail
  obtain ⟨W0, hW0⟩ : ∃ W0, W0 = (((w.alloc (.cells #[.int .u64 (lim (A) 0), .int .u64 (lim (A) 1), .int .u64 (lim (A) 2), .int .u64 (lim (A) 3)] 24)).alloc (.cells #[.int .u64 (lim (B) 0), .int .u64 (lim (B) 1), .int .u64 (lim (B) 2), .int .u64 (lim (B) 3)] 24)).alloc (.cells #[.int .u64 0, .int .u64 0, .int .u64 0, .int .u64 0] 24)) := ⟨_, rfl⟩
  have Aa : Arr W0 (w.heap.size) 4 (fun j => .int .u64 (lim (A) j)) := by subst hW0; refine Arr.mk4 ?_ ?_ ?_ ?_ ?_ ?_ ?_ ?_ <;> simp [go_sem]
  have Ab : Arr W0 (w.heap.size + 1) 4 (fun j => .int .u64 (lim (B) j)) := by subst hW0; refine Arr.mk4 ?_ ?_ ?_ ?_ ?_ ?_ ?_ ?_ <;> simp [go_sem]
  have Az : Arr W0 (w.heap.size + 1 + 1) 4 (fun _ => .int .u64 0) := by subst hW0; refine Arr.mk4 ?_ ?_ ?_ ?_ ?_ ?_ ?_ ?_ <;> simp [go_sem]
  have hB : Below w.heap.size w W0 := by subst hW0; go_grown
  subst hW0
  have ra0 := fun ds os => cell_regrown (Aa.c 0 (by omega)) ds os
  have ra1 := fun ds os => cell_regrown (Aa.c 1 (by omega)) ds os
  have ra2 := fun ds os => cell_regrown (Aa.c 2 (by omega)) ds os
  have ra3 := fun ds os => cell_regrown (Aa.c 3 (by omega)) ds os
  have rb0 := fun ds os => cell_regrown (Ab.c 0 (by omega)) ds os
  have rb1 := fun ds os => cell_regrown (Ab.c 1 (by omega)) ds os
  have rb2 := fun ds os => cell_regrown (Ab.c 2 (by omega)) ds os
  have rb3 := fun ds os => cell_regrown (Ab.c 3 (by omega)) ds os
  refine wp_region_below_tail 4 (by kernel_rfl) (by kernel_rfl) ?_
  simp only [List.take_succ_cons, List.take_zero, List.drop_succ_cons, List.drop_zero]
  repeat (go_big_quiet_step (first | (go_at_call 79; exact Calls.regrown_of (p79 _)) | (go_at_call 34; exact Calls.regrown_of (D _))))
  refine wpQuiet_nil ?_
  intro w1 hw'
  obtain ⟨⟨dq, osq⟩, hw''⟩ := hw'
  have hb := below_of hw''
  clear hw''
  replace Az := Arr.to' Az hb
  replace hB := Bel.call hB hb
  clear hb ra0 ra1 ra2 ra3 rb0 rb1 rb2 rb3 Aa Ab D
  have hS := hB.size
  have cz := Az.c
  have zz := Az.z
  go_wp2_with fail
  refine bodyPost_ret (v := nv R) (by simp [results, Try.results78, go_sem, cz]) rfl ⟨rfl, ?_⟩
  go_grown
theorem rmul (A B : Int) (iA : Inn A) (iB : Inn B) (w : World) : Calls Try.prog 78 #[nv A, nv B] w fun e w' => e = .returned (nv (fm A B)) ∧ Below w.heap.size w w' := by
  refine rmul_core A B _ w fun W => ?_
  have := refMul_any A B pp iA.1 iA.2 iB.1 iB.2 inn_pp.1 inn_pp.2 W
  rw [md_pos _ pp_pos] at this
  exact this
set_option maxHeartbeats 2000000 in
theorem xsq (A : Int) (iA : Inn A) (w : World) : Calls Try.prog 120 #[nv A] w fun e w' => e = .returned (nv (fm A A)) ∧ Below w.heap.size w w' := by
  go_enter Try.func120, Try.ntmps120
  obtain ⟨W0, hW0⟩ : ∃ W0, W0 = ((w.alloc (.cells #[.int .u64 (lim (A) 0), .int .u64 (lim (A) 1), .int .u64 (lim (A) 2), .int .u64 (lim (A) 3)] 24)).alloc (.cells #[.int .u64 0, .int .u64 0, .int .u64 0, .int .u64 0] 24)) := ⟨_, rfl⟩
  have Aa : Arr W0 (w.heap.size) 4 (fun j => .int .u64 (lim (A) j)) := by subst hW0; refine Arr.mk4 ?_ ?_ ?_ ?_ ?_ ?_ ?_ ?_ <;> simp [go_sem]
  have Az : Arr W0 (w.heap.size + 1) 4 (fun _ => .int .u64 0) := by subst hW0; refine Arr.mk4 ?_ ?_ ?_ ?_ ?_ ?_ ?_ ?_ <;> simp [go_sem]
  have hB : Below w.heap.size w W0 := by subst hW0; go_grown
  subst hW0
  go_wp2_with fail
  refine (xmul A A iA iA _).mono ?_
  rintro e w1 ⟨rfl, hb⟩
  replace Az := Arr.to' Az hb
  replace hB := Bel.call hB hb
  clear hb Aa
  have hS := hB.size
  have cz := Az.c
  have zz := Az.z
  go_wp2_with fail
  refine bodyPost_ret (v := nv (fm A A)) (by simp [results, Try.results120, go_sem, cz]) rfl ⟨rfl, ?_⟩
  go_grown
end Go.Proofs.Ytpigofooblmdhaa
