/- Layer 5's small functions: sums, differences, products and inverses modulo the order, numbers of digests, first coordinates. -/
import Derived.Deep.Cut
import Derived.Test.YtoolbnbfbegjaaaGreatJ21
import Derived.Test.YtoolbnbfbegjaaaGreatJ23
set_option linter.all false
set_option maxRecDepth 100000
namespace Go.Proofs.YtoolbnbfbegjaaaGreat
open Go.RowKit Go.Sort
def nn : Int := 115792089210356248762697446949407573529996955224135760342422259061068512044369
theorem nv_nn : nv nn = .agg #[.int .u64 17562291160714782033, .int .u64 13611842547513532036, .int .u64 18446744073709551615, .int .u64 18446744069414584320] := by
  have h0 : lim nn 0 = 17562291160714782033 := by decide
  have h1 : lim nn 1 = 13611842547513532036 := by decide
  have h2 : lim nn 2 = 18446744073709551615 := by decide
  have h3 : lim nn 3 = 18446744069414584320 := by decide
  simp only [nv, h0, h1, h2, h3]
theorem inn_nn : Inn nn := ⟨by decide, by decide⟩
theorem nn_pos : 0 < nn := by decide
def na (A B : Int) : Int := (A + B) % nn
def ns (A B : Int) : Int := (A - B) % nn
def nm (A B : Int) : Int := A * B % nn
def nr (A : Int) : Int := A % nn
theorem inn_n (N : Int) : Inn (N % nn) := ⟨Int.emod_nonneg _ (by decide), Int.lt_trans (Int.emod_lt_of_pos _ nn_pos) (by decide)⟩
theorem n63 (w : World) : Calls Tryz.prog 63 #[] w fun e w' => e = .returned (nv nn) ∧ Below w.heap.size w w' := by
  rw [nv_nn]
  go_enter Tryz.func63, Tryz.ntmps63
  go_wp2
  go_returns
  exact ⟨rfl, by go_grown⟩
theorem n19 (w : World) : Calls Tryz.prog 19 #[] w fun e w' => e = .returned (nv nn) ∧ Below w.heap.size w w' := by rw [nv_nn]; exact k26 w
def sgx (R S : Int) : Nat → Value
  | 0 => .int .u64 (lim R 0)
  | 1 => .int .u64 (lim R 1)
  | 2 => .int .u64 (lim R 2)
  | 3 => .int .u64 (lim R 3)
  | 4 => .int .u64 (lim S 0)
  | 5 => .int .u64 (lim S 1)
  | 6 => .int .u64 (lim S 2)
  | _ => .int .u64 (lim S 3)
def zg : Nat → Value := fun _ => .int .u64 0
abbrev gv (R S : Int) : Value := .agg #[.int .u64 (lim (R) 0), .int .u64 (lim (R) 1), .int .u64 (lim (R) 2), .int .u64 (lim (R) 3), .int .u64 (lim (S) 0), .int .u64 (lim (S) 1), .int .u64 (lim (S) 2), .int .u64 (lim (S) 3)]
theorem Arr.g_sgx {w : World} {b : Nat} {X Y : Int} (h : Arr w b 8 (sgx X Y)) : (∀ (d : Nat) (os : Array Obj), (grow (redrawn w d) os).cell? ⟨b, 0, none⟩ = some (.int .u64 (lim X 0))) ∧ (∀ (d : Nat) (os : Array Obj), (grow (redrawn w d) os).cell? ⟨b, 1, none⟩ = some (.int .u64 (lim X 1))) ∧ (∀ (d : Nat) (os : Array Obj), (grow (redrawn w d) os).cell? ⟨b, 2, none⟩ = some (.int .u64 (lim X 2))) ∧ (∀ (d : Nat) (os : Array Obj), (grow (redrawn w d) os).cell? ⟨b, 3, none⟩ = some (.int .u64 (lim X 3))) ∧ (∀ (d : Nat) (os : Array Obj), (grow (redrawn w d) os).cell? ⟨b, 4, none⟩ = some (.int .u64 (lim Y 0))) ∧ (∀ (d : Nat) (os : Array Obj), (grow (redrawn w d) os).cell? ⟨b, 5, none⟩ = some (.int .u64 (lim Y 1))) ∧ (∀ (d : Nat) (os : Array Obj), (grow (redrawn w d) os).cell? ⟨b, 6, none⟩ = some (.int .u64 (lim Y 2))) ∧ (∀ (d : Nat) (os : Array Obj), (grow (redrawn w d) os).cell? ⟨b, 7, none⟩ = some (.int .u64 (lim Y 3))) := ⟨fun d os => cell_regrown (h.c 0 (by omega)) d os, fun d os => cell_regrown (h.c 1 (by omega)) d os, fun d os => cell_regrown (h.c 2 (by omega)) d os, fun d os => cell_regrown (h.c 3 (by omega)) d os, fun d os => cell_regrown (h.c 4 (by omega)) d os, fun d os => cell_regrown (h.c 5 (by omega)) d os, fun d os => cell_regrown (h.c 6 (by omega)) d os, fun d os => cell_regrown (h.c 7 (by omega)) d os⟩
theorem Arr.c_sgx {w : World} {b : Nat} {X Y : Int} (h : Arr w b 8 (sgx X Y)) : w.cell? ⟨b, 0, none⟩ = some (.int .u64 (lim X 0)) ∧ w.cell? ⟨b, 1, none⟩ = some (.int .u64 (lim X 1)) ∧ w.cell? ⟨b, 2, none⟩ = some (.int .u64 (lim X 2)) ∧ w.cell? ⟨b, 3, none⟩ = some (.int .u64 (lim X 3)) ∧ w.cell? ⟨b, 4, none⟩ = some (.int .u64 (lim Y 0)) ∧ w.cell? ⟨b, 5, none⟩ = some (.int .u64 (lim Y 1)) ∧ w.cell? ⟨b, 6, none⟩ = some (.int .u64 (lim Y 2)) ∧ w.cell? ⟨b, 7, none⟩ = some (.int .u64 (lim Y 3)) := ⟨h.c 0 (by omega), h.c 1 (by omega), h.c 2 (by omega), h.c 3 (by omega), h.c 4 (by omega), h.c 5 (by omega), h.c 6 (by omega), h.c 7 (by omega)⟩
theorem Arr.g_zg {w : World} {b : Nat}  (h : Arr w b 8 (zg)) : (∀ (d : Nat) (os : Array Obj), (grow (redrawn w d) os).cell? ⟨b, 0, none⟩ = some (.int .u64 0)) ∧ (∀ (d : Nat) (os : Array Obj), (grow (redrawn w d) os).cell? ⟨b, 1, none⟩ = some (.int .u64 0)) ∧ (∀ (d : Nat) (os : Array Obj), (grow (redrawn w d) os).cell? ⟨b, 2, none⟩ = some (.int .u64 0)) ∧ (∀ (d : Nat) (os : Array Obj), (grow (redrawn w d) os).cell? ⟨b, 3, none⟩ = some (.int .u64 0)) ∧ (∀ (d : Nat) (os : Array Obj), (grow (redrawn w d) os).cell? ⟨b, 4, none⟩ = some (.int .u64 0)) ∧ (∀ (d : Nat) (os : Array Obj), (grow (redrawn w d) os).cell? ⟨b, 5, none⟩ = some (.int .u64 0)) ∧ (∀ (d : Nat) (os : Array Obj), (grow (redrawn w d) os).cell? ⟨b, 6, none⟩ = some (.int .u64 0)) ∧ (∀ (d : Nat) (os : Array Obj), (grow (redrawn w d) os).cell? ⟨b, 7, none⟩ = some (.int .u64 0)) := ⟨fun d os => cell_regrown (h.c 0 (by omega)) d os, fun d os => cell_regrown (h.c 1 (by omega)) d os, fun d os => cell_regrown (h.c 2 (by omega)) d os, fun d os => cell_regrown (h.c 3 (by omega)) d os, fun d os => cell_regrown (h.c 4 (by omega)) d os, fun d os => cell_regrown (h.c 5 (by omega)) d os, fun d os => cell_regrown (h.c 6 (by omega)) d os, fun d os => cell_regrown (h.c 7 (by omega)) d os⟩
theorem Arr.c_zg {w : World} {b : Nat}  (h : Arr w b 8 (zg)) : w.cell? ⟨b, 0, none⟩ = some (.int .u64 0) ∧ w.cell? ⟨b, 1, none⟩ = some (.int .u64 0) ∧ w.cell? ⟨b, 2, none⟩ = some (.int .u64 0) ∧ w.cell? ⟨b, 3, none⟩ = some (.int .u64 0) ∧ w.cell? ⟨b, 4, none⟩ = some (.int .u64 0) ∧ w.cell? ⟨b, 5, none⟩ = some (.int .u64 0) ∧ w.cell? ⟨b, 6, none⟩ = some (.int .u64 0) ∧ w.cell? ⟨b, 7, none⟩ = some (.int .u64 0) := ⟨h.c 0 (by omega), h.c 1 (by omega), h.c 2 (by omega), h.c 3 (by omega), h.c 4 (by omega), h.c 5 (by omega), h.c 6 (by omega), h.c 7 (by omega)⟩
set_option maxHeartbeats 8000000 in
theorem eadd_core (A B R : Int) (w : World)
    (C1 : ∀ W, Calls Tryz.prog 63 #[] W fun e w' => e = .returned (nv nn) ∧ Below W.heap.size W w')
    (C2 : ∀ W, Calls Tryz.prog 92 #[nv A, nv B, nv nn] W fun e w' => e = .returned (nv R) ∧ Below W.heap.size W w') :
    Calls Tryz.prog 58 #[nv A, nv B] w fun e w' => e = .returned (nv R) ∧ Below w.heap.size w w' := by
  go_enter Tryz.func58, Tryz.ntmps58
  go_wp2_with fail
  obtain ⟨W0, hW0⟩ : ∃ W0, W0 = (((w.alloc (.cells #[.int .u64 (lim (A) 0), .int .u64 (lim (A) 1), .int .u64 (lim (A) 2), .int .u64 (lim (A) 3)] 24)).alloc (.cells #[.int .u64 (lim (B) 0), .int .u64 (lim (B) 1), .int .u64 (lim (B) 2), .int .u64 (lim (B) 3)] 24)).alloc (.cells #[.int .u64 0, .int .u64 0, .int .u64 0, .int .u64 0] 24)) := ⟨_, rfl⟩
  have Aa : Arr W0 (w.heap.size) 4 (fun j => .int .u64 (lim (A) j)) := by subst hW0; refine Arr.mk4 ?_ ?_ ?_ ?_ ?_ ?_ ?_ ?_ <;> simp [go_sem]
  have Ab : Arr W0 (w.heap.size + 1) 4 (fun j => .int .u64 (lim (B) j)) := by subst hW0; refine Arr.mk4 ?_ ?_ ?_ ?_ ?_ ?_ ?_ ?_ <;> simp [go_sem]
  have Az : Arr W0 (w.heap.size + 1 + 1) 4 (fun _ => .int .u64 0) := by subst hW0; refine Arr.mk4 ?_ ?_ ?_ ?_ ?_ ?_ ?_ ?_ <;> simp [go_sem]
  have hB : Below w.heap.size w W0 := by subst hW0; go_grown
  subst hW0
  obtain ⟨ra0, ra1, ra2, ra3⟩ := Arr.g4 Aa
  obtain ⟨rb0, rb1, rb2, rb3⟩ := Arr.g4 Ab
  refine wp_region_below_tail 4 (by kernel_rfl) (by kernel_rfl) ?_
  simp only [List.take_succ_cons, List.take_zero, List.drop_succ_cons, List.drop_zero]
  repeat (go_big_quiet_step (first | (go_at_call 63; with_reducible first | exact Calls.regrown_of (C1 _)) | (go_at_call 92; with_reducible first | exact Calls.regrown_of (C2 _))))
  refine wpQuiet_nil ?_
  intro w1 hw'
  obtain ⟨⟨dq, osq⟩, hw''⟩ := hw'
  have hb := below_of hw''
  clear hw''
  replace Az := Arr.to' Az hb
  replace hB := Bel.call hB hb
  clear hb ra0 ra1 ra2 ra3 rb0 rb1 rb2 rb3 Aa Ab
  have hS := hB.size
  have cz := Az.c
  have zz := Az.z
  go_wp2_with fail
  refine bodyPost_ret (v := nv R) (by simp [results, Tryz.results58, go_sem, cz]) rfl ⟨rfl, ?_⟩
  go_grown
theorem eadd (A B : Int) (iA : Inn A) (iB : Inn B) (w : World) : Calls Tryz.prog 58 #[nv A, nv B] w fun e w' => e = .returned (nv (na A B)) ∧ Below w.heap.size w w' := by
  refine eadd_core A B _ w n63 fun W => ?_
  have := madd_any A B nn iA.1 iA.2 iB.1 iB.2 inn_nn.1 inn_nn.2 W
  rw [md_pos _ nn_pos] at this
  exact this
set_option maxHeartbeats 8000000 in
theorem esub_core (A B R : Int) (w : World)
    (C1 : ∀ W, Calls Tryz.prog 63 #[] W fun e w' => e = .returned (nv nn) ∧ Below W.heap.size W w')
    (C2 : ∀ W, Calls Tryz.prog 64 #[nv A, nv B, nv nn] W fun e w' => e = .returned (nv R) ∧ Below W.heap.size W w') :
    Calls Tryz.prog 37 #[nv A, nv B] w fun e w' => e = .returned (nv R) ∧ Below w.heap.size w w' := by
  go_enter Tryz.func37, Tryz.ntmps37
  go_wp2_with fail
  obtain ⟨W0, hW0⟩ : ∃ W0, W0 = (((w.alloc (.cells #[.int .u64 (lim (A) 0), .int .u64 (lim (A) 1), .int .u64 (lim (A) 2), .int .u64 (lim (A) 3)] 24)).alloc (.cells #[.int .u64 (lim (B) 0), .int .u64 (lim (B) 1), .int .u64 (lim (B) 2), .int .u64 (lim (B) 3)] 24)).alloc (.cells #[.int .u64 0, .int .u64 0, .int .u64 0, .int .u64 0] 24)) := ⟨_, rfl⟩
  have Aa : Arr W0 (w.heap.size) 4 (fun j => .int .u64 (lim (A) j)) := by subst hW0; refine Arr.mk4 ?_ ?_ ?_ ?_ ?_ ?_ ?_ ?_ <;> simp [go_sem]
  have Ab : Arr W0 (w.heap.size + 1) 4 (fun j => .int .u64 (lim (B) j)) := by subst hW0; refine Arr.mk4 ?_ ?_ ?_ ?_ ?_ ?_ ?_ ?_ <;> simp [go_sem]
  have Az : Arr W0 (w.heap.size + 1 + 1) 4 (fun _ => .int .u64 0) := by subst hW0; refine Arr.mk4 ?_ ?_ ?_ ?_ ?_ ?_ ?_ ?_ <;> simp [go_sem]
  have hB : Below w.heap.size w W0 := by subst hW0; go_grown
  subst hW0
  obtain ⟨ra0, ra1, ra2, ra3⟩ := Arr.g4 Aa
  obtain ⟨rb0, rb1, rb2, rb3⟩ := Arr.g4 Ab
  refine wp_region_below_tail 4 (by kernel_rfl) (by kernel_rfl) ?_
  simp only [List.take_succ_cons, List.take_zero, List.drop_succ_cons, List.drop_zero]
  repeat (go_big_quiet_step (first | (go_at_call 63; with_reducible first | exact Calls.regrown_of (C1 _)) | (go_at_call 64; with_reducible first | exact Calls.regrown_of (C2 _))))
  refine wpQuiet_nil ?_
  intro w1 hw'
  obtain ⟨⟨dq, osq⟩, hw''⟩ := hw'
  have hb := below_of hw''
  clear hw''
  replace Az := Arr.to' Az hb
  replace hB := Bel.call hB hb
  clear hb ra0 ra1 ra2 ra3 rb0 rb1 rb2 rb3 Aa Ab
  have hS := hB.size
  have cz := Az.c
  have zz := Az.z
  go_wp2_with fail
  refine bodyPost_ret (v := nv R) (by simp [results, Tryz.results37, go_sem, cz]) rfl ⟨rfl, ?_⟩
  go_grown
theorem esub (A B : Int) (iA : Inn A) (iB : Inn B) (w : World) : Calls Tryz.prog 37 #[nv A, nv B] w fun e w' => e = .returned (nv (ns A B)) ∧ Below w.heap.size w w' := by
  refine esub_core A B _ w n63 fun W => ?_
  have := msub_any A B nn iA.1 iA.2 iB.1 iB.2 inn_nn.1 inn_nn.2 W
  rw [md_pos _ nn_pos] at this
  exact this
set_option maxHeartbeats 8000000 in
theorem emul_core (A B R : Int) (w : World)
    (C1 : ∀ W, Calls Tryz.prog 63 #[] W fun e w' => e = .returned (nv nn) ∧ Below W.heap.size W w')
    (C2 : ∀ W, Calls Tryz.prog 94 #[nv A, nv B, nv nn] W fun e w' => e = .returned (nv R) ∧ Below W.heap.size W w') :
    Calls Tryz.prog 60 #[nv A, nv B] w fun e w' => e = .returned (nv R) ∧ Below w.heap.size w w' := by
  go_enter Tryz.func60, Tryz.ntmps60
  go_wp2_with fail
  obtain ⟨W0, hW0⟩ : ∃ W0, W0 = (((w.alloc (.cells #[.int .u64 (lim (A) 0), .int .u64 (lim (A) 1), .int .u64 (lim (A) 2), .int .u64 (lim (A) 3)] 24)).alloc (.cells #[.int .u64 (lim (B) 0), .int .u64 (lim (B) 1), .int .u64 (lim (B) 2), .int .u64 (lim (B) 3)] 24)).alloc (.cells #[.int .u64 0, .int .u64 0, .int .u64 0, .int .u64 0] 24)) := ⟨_, rfl⟩
  have Aa : Arr W0 (w.heap.size) 4 (fun j => .int .u64 (lim (A) j)) := by subst hW0; refine Arr.mk4 ?_ ?_ ?_ ?_ ?_ ?_ ?_ ?_ <;> simp [go_sem]
  have Ab : Arr W0 (w.heap.size + 1) 4 (fun j => .int .u64 (lim (B) j)) := by subst hW0; refine Arr.mk4 ?_ ?_ ?_ ?_ ?_ ?_ ?_ ?_ <;> simp [go_sem]
  have Az : Arr W0 (w.heap.size + 1 + 1) 4 (fun _ => .int .u64 0) := by subst hW0; refine Arr.mk4 ?_ ?_ ?_ ?_ ?_ ?_ ?_ ?_ <;> simp [go_sem]
  have hB : Below w.heap.size w W0 := by subst hW0; go_grown
  subst hW0
  obtain ⟨ra0, ra1, ra2, ra3⟩ := Arr.g4 Aa
  obtain ⟨rb0, rb1, rb2, rb3⟩ := Arr.g4 Ab
  refine wp_region_below_tail 4 (by kernel_rfl) (by kernel_rfl) ?_
  simp only [List.take_succ_cons, List.take_zero, List.drop_succ_cons, List.drop_zero]
  repeat (go_big_quiet_step (first | (go_at_call 63; with_reducible first | exact Calls.regrown_of (C1 _)) | (go_at_call 94; with_reducible first | exact Calls.regrown_of (C2 _))))
  refine wpQuiet_nil ?_
  intro w1 hw'
  obtain ⟨⟨dq, osq⟩, hw''⟩ := hw'
  have hb := below_of hw''
  clear hw''
  replace Az := Arr.to' Az hb
  replace hB := Bel.call hB hb
  clear hb ra0 ra1 ra2 ra3 rb0 rb1 rb2 rb3 Aa Ab
  have hS := hB.size
  have cz := Az.c
  have zz := Az.z
  go_wp2_with fail
  refine bodyPost_ret (v := nv R) (by simp [results, Tryz.results60, go_sem, cz]) rfl ⟨rfl, ?_⟩
  go_grown
theorem emul (A B : Int) (iA : Inn A) (iB : Inn B) (w : World) : Calls Tryz.prog 60 #[nv A, nv B] w fun e w' => e = .returned (nv (nm A B)) ∧ Below w.heap.size w w' := by
  refine emul_core A B _ w n63 fun W => ?_
  have := mmul_any A B nn iA.1 iA.2 iB.1 iB.2 inn_nn.1 inn_nn.2 W
  rw [md_pos _ nn_pos] at this
  exact this
set_option maxHeartbeats 8000000 in
theorem ermul_core (A B R : Int) (w : World)
    (C1 : ∀ W, Calls Tryz.prog 19 #[] W fun e w' => e = .returned (nv nn) ∧ Below W.heap.size W w')
    (C2 : ∀ W, Calls Tryz.prog 24 #[nv A, nv B, nv nn] W fun e w' => e = .returned (nv R) ∧ Below W.heap.size W w') :
    Calls Tryz.prog 35 #[nv A, nv B] w fun e w' => e = .returned (nv R) ∧ Below w.heap.size w w' := by
  go_enter Tryz.func35, Tryz.ntmps35
  go_wp2_with fail
  obtain ⟨W0, hW0⟩ : ∃ W0, W0 = (((w.alloc (.cells #[.int .u64 (lim (A) 0), .int .u64 (lim (A) 1), .int .u64 (lim (A) 2), .int .u64 (lim (A) 3)] 24)).alloc (.cells #[.int .u64 (lim (B) 0), .int .u64 (lim (B) 1), .int .u64 (lim (B) 2), .int .u64 (lim (B) 3)] 24)).alloc (.cells #[.int .u64 0, .int .u64 0, .int .u64 0, .int .u64 0] 24)) := ⟨_, rfl⟩
  have Aa : Arr W0 (w.heap.size) 4 (fun j => .int .u64 (lim (A) j)) := by subst hW0; refine Arr.mk4 ?_ ?_ ?_ ?_ ?_ ?_ ?_ ?_ <;> simp [go_sem]
  have Ab : Arr W0 (w.heap.size + 1) 4 (fun j => .int .u64 (lim (B) j)) := by subst hW0; refine Arr.mk4 ?_ ?_ ?_ ?_ ?_ ?_ ?_ ?_ <;> simp [go_sem]
  have Az : Arr W0 (w.heap.size + 1 + 1) 4 (fun _ => .int .u64 0) := by subst hW0; refine Arr.mk4 ?_ ?_ ?_ ?_ ?_ ?_ ?_ ?_ <;> simp [go_sem]
  have hB : Below w.heap.size w W0 := by subst hW0; go_grown
  subst hW0
  obtain ⟨ra0, ra1, ra2, ra3⟩ := Arr.g4 Aa
  obtain ⟨rb0, rb1, rb2, rb3⟩ := Arr.g4 Ab
  refine wp_region_below_tail 4 (by kernel_rfl) (by kernel_rfl) ?_
  simp only [List.take_succ_cons, List.take_zero, List.drop_succ_cons, List.drop_zero]
  repeat (go_big_quiet_step (first | (go_at_call 19; with_reducible first | exact Calls.regrown_of (C1 _)) | (go_at_call 24; with_reducible first | exact Calls.regrown_of (C2 _))))
  refine wpQuiet_nil ?_
  intro w1 hw'
  obtain ⟨⟨dq, osq⟩, hw''⟩ := hw'
  have hb := below_of hw''
  clear hw''
  replace Az := Arr.to' Az hb
  replace hB := Bel.call hB hb
  clear hb ra0 ra1 ra2 ra3 rb0 rb1 rb2 rb3 Aa Ab
  have hS := hB.size
  have cz := Az.c
  have zz := Az.z
  go_wp2_with fail
  refine bodyPost_ret (v := nv R) (by simp [results, Tryz.results35, go_sem, cz]) rfl ⟨rfl, ?_⟩
  go_grown
theorem ermul (A B : Int) (iA : Inn A) (iB : Inn B) (w : World) : Calls Tryz.prog 35 #[nv A, nv B] w fun e w' => e = .returned (nv (nm A B)) ∧ Below w.heap.size w w' := by
  refine ermul_core A B _ w n19 fun W => ?_
  have := refMul_any A B nn iA.1 iA.2 iB.1 iB.2 inn_nn.1 inn_nn.2 W
  rw [md_pos _ nn_pos] at this
  exact this
set_option maxHeartbeats 8000000 in
theorem ebel_core (A s : Int) (w : World)
    (C1 : ∀ W, Calls Tryz.prog 63 #[] W fun e w' => e = .returned (nv nn) ∧ Below W.heap.size W w')
    (C2 : ∀ W, Calls Tryz.prog 38 #[nv A, nv nn] W fun e w' => e = .returned (.int .i64 s) ∧ Below W.heap.size W w') :
    Calls Tryz.prog 36 #[nv A] w fun e w' => e = .returned (.bool (decide (s < 0))) ∧ Below w.heap.size w w' := by
  go_enter Tryz.func36, Tryz.ntmps36
  go_wp2_with fail
  obtain ⟨W0, hW0⟩ : ∃ W0, W0 = (w.alloc (.cells #[.int .u64 (lim (A) 0), .int .u64 (lim (A) 1), .int .u64 (lim (A) 2), .int .u64 (lim (A) 3)] 24)) := ⟨_, rfl⟩
  have Aa : Arr W0 (w.heap.size) 4 (fun j => .int .u64 (lim (A) j)) := by subst hW0; refine Arr.mk4 ?_ ?_ ?_ ?_ ?_ ?_ ?_ ?_ <;> simp [go_sem]
  have hB : Below w.heap.size w W0 := by subst hW0; go_grown
  subst hW0
  obtain ⟨ra0, ra1, ra2, ra3⟩ := Arr.g4 Aa
  refine wp_region_quiet_below (by kernel_rfl) (by kernel_rfl) ?_
  repeat (go_big_quiet_step (first | (go_at_call 63; with_reducible first | exact Calls.regrown_of (C1 _)) | (go_at_call 38; with_reducible first | exact Calls.regrown_of (C2 _))))
  refine wpQuiet_nil ?_
  intro w1 hw'
  obtain ⟨⟨dq, osq⟩, hw''⟩ := hw'
  have hb := below_of hw''
  clear hw''
  replace hB := Bel.call hB hb
  clear hb ra0 ra1 ra2 ra3 Aa
  go_wp2_with fail
  go_ret
  exact ⟨rfl, hB⟩
theorem sgd (A B : Int) : decide (sg A B < 0) = decide (A < B) := by unfold sg; split <;> rename_i h <;> simp [h]; split <;> omega
theorem ebel (A : Int) (hA : Inn A) (W : World) : Calls Tryz.prog 36 #[nv A] W fun e w' => e = .returned (.bool (decide (A < nn))) ∧ Below W.heap.size W w' := by
  have k := ebel_core A (sg A nn) W n63 (cmp_any A nn hA.1 hA.2 inn_nn.1 inn_nn.2)
  rw [sgd] at k
  exact k
set_option maxHeartbeats 8000000 in
theorem eabs_core (X Y R : Int) (i : Bool) (w : World)
    (C1 : ∀ W, Calls Tryz.prog 63 #[] W fun e w' => e = .returned (nv nn) ∧ Below W.heap.size W w')
    (C2 : ∀ W, Calls Tryz.prog 91 #[nv X, .agg #[.int .u64 0, .int .u64 0, .int .u64 0, .int .u64 0], nv nn] W fun e w' => e = .returned (nv R) ∧ Below W.heap.size W w') :
    Calls Tryz.prog 57 #[pv X Y i] w fun e w' => e = .returned (nv R) ∧ Below w.heap.size w w' := by
  go_enter Tryz.func57, Tryz.ntmps57
  go_wp2_with fail
  obtain ⟨W0, hW0⟩ : ∃ W0, W0 = ((w.alloc (.cells #[.int .u64 (lim (X) 0), .int .u64 (lim (X) 1), .int .u64 (lim (X) 2), .int .u64 (lim (X) 3), .int .u64 (lim (Y) 0), .int .u64 (lim (Y) 1), .int .u64 (lim (Y) 2), .int .u64 (lim (Y) 3), .bool i] 28)).alloc (.cells #[.int .u64 0, .int .u64 0, .int .u64 0, .int .u64 0] 24)) := ⟨_, rfl⟩
  have Ap : Arr W0 (w.heap.size) 9 (px (X) (Y) i) := by subst hW0; refine Arr.mk9p ?_ ?_ ?_ ?_ ?_ ?_ ?_ ?_ ?_ ?_ <;> simp [go_sem, px, sx, zx]
  have Az : Arr W0 (w.heap.size + 1) 4 (fun _ => .int .u64 0) := by subst hW0; refine Arr.mk4 ?_ ?_ ?_ ?_ ?_ ?_ ?_ ?_ <;> simp [go_sem]
  have hB : Below w.heap.size w W0 := by subst hW0; go_grown
  subst hW0
  obtain ⟨rp0, rp1, rp2, rp3, rp4, rp5, rp6, rp7, rp8⟩ := Arr.g_px Ap
  refine wp_region_below_tail 5 (by kernel_rfl) (by kernel_rfl) ?_
  simp only [List.take_succ_cons, List.take_zero, List.drop_succ_cons, List.drop_zero]
  repeat (go_big_quiet_step (first | (go_at_call 63; with_reducible first | exact Calls.regrown_of (C1 _)) | (go_at_call 91; with_reducible first | exact Calls.regrown_of (C2 _))))
  refine wpQuiet_nil ?_
  intro w1 hw'
  obtain ⟨⟨dq, osq⟩, hw''⟩ := hw'
  have hb := below_of hw''
  clear hw''
  replace Az := Arr.to' Az hb
  replace hB := Bel.call hB hb
  clear hb rp0 rp1 rp2 rp3 rp4 rp5 rp6 rp7 rp8 Ap
  have hS := hB.size
  have cz := Az.c
  have zz := Az.z
  go_wp2_with fail
  refine bodyPost_ret (v := nv R) (by simp [results, Tryz.results57, go_sem, cz]) rfl ⟨rfl, ?_⟩
  go_grown
set_option maxHeartbeats 8000000 in
theorem enum_core (N e1 : Int) (s : ByteArray) (w : World)
    (C1 : ∀ W, Calls Tryz.prog 93 #[.string s] W fun e w' => e = .returned (.tuple #[nv N, .int .i64 e1]) ∧ Below W.heap.size W w') :
    Calls Tryz.prog 59 #[.string s] w fun e w' => e = .returned (nv N) ∧ Below w.heap.size w w' := by
  go_enter Tryz.func59, Tryz.ntmps59
  obtain ⟨W0, hW0⟩ : ∃ W0, W0 = (w.alloc (.cells #[.int .u64 0, .int .u64 0, .int .u64 0, .int .u64 0] 24)) := ⟨_, rfl⟩
  have Az : Arr W0 (w.heap.size) 4 (fun _ => .int .u64 0) := by subst hW0; refine Arr.mk4 ?_ ?_ ?_ ?_ ?_ ?_ ?_ ?_ <;> simp [go_sem]
  have hB : Below w.heap.size w W0 := by subst hW0; go_grown
  subst hW0
  go_wp2_with fail
  refine (C1 _).mono ?_
  rintro e w11 ⟨rfl, hb⟩
  replace Az := Arr.to' Az hb
  replace hB := Bel.call hB hb
  clear hb
  have lz_2 := Az.lt
  have lB_2 := hB.size
  replace Az := (Arr.al' Az (.cells #[.int .u64 (lim (N) 0), .int .u64 (lim (N) 1), .int .u64 (lim (N) 2), .int .u64 (lim (N) 3)] 24))
  have Ax : Arr ((w11.alloc (.cells #[.int .u64 (lim (N) 0), .int .u64 (lim (N) 1), .int .u64 (lim (N) 2), .int .u64 (lim (N) 3)] 24))) (w11.heap.size) 4 (fun j => .int .u64 (lim (N) j)) := by refine Arr.mk4 ?_ ?_ ?_ ?_ ?_ ?_ ?_ ?_ <;> simp [go_sem]
  replace hB := (Bel.al hB (.cells #[.int .u64 (lim (N) 0), .int .u64 (lim (N) 1), .int .u64 (lim (N) 2), .int .u64 (lim (N) 3)] 24))
  go_upto_region 2 with fail
  generalize (w11.alloc (.cells #[.int .u64 (lim (N) 0), .int .u64 (lim (N) 1), .int .u64 (lim (N) 2), .int .u64 (lim (N) 3)] 24)) = w22 at *
  have cx := Ax.c
  have hS := hB.size
  have cz := Az.c
  have zz := Az.z
  go_wp2_with fail
  refine bodyPost_ret (v := nv N) (by simp [results, Tryz.results59, go_sem, cz]) rfl ⟨rfl, ?_⟩
  go_grown
set_option maxHeartbeats 8000000 in
theorem einv_core (A I : Int) (ok : Bool) (w : World)
    (C1 : ∀ W, Calls Tryz.prog 63 #[] W fun e w' => e = .returned (nv nn) ∧ Below W.heap.size W w')
    (C2 : ∀ W, Calls Tryz.prog 95 #[nv A, nv nn] W fun e w' => e = .returned (.tuple #[nv I, .bool ok]) ∧ Below W.heap.size W w') :
    Calls Tryz.prog 61 #[nv A] w fun e w' => e = .returned (nv I) ∧ Below w.heap.size w w' := by
  go_enter Tryz.func61, Tryz.ntmps61
  go_wp2_with fail
  obtain ⟨W0, hW0⟩ : ∃ W0, W0 = ((w.alloc (.cells #[.int .u64 (lim (A) 0), .int .u64 (lim (A) 1), .int .u64 (lim (A) 2), .int .u64 (lim (A) 3)] 24)).alloc (.cells #[.int .u64 0, .int .u64 0, .int .u64 0, .int .u64 0] 24)) := ⟨_, rfl⟩
  have Aa : Arr W0 (w.heap.size) 4 (fun j => .int .u64 (lim (A) j)) := by subst hW0; refine Arr.mk4 ?_ ?_ ?_ ?_ ?_ ?_ ?_ ?_ <;> simp [go_sem]
  have Az : Arr W0 (w.heap.size + 1) 4 (fun _ => .int .u64 0) := by subst hW0; refine Arr.mk4 ?_ ?_ ?_ ?_ ?_ ?_ ?_ ?_ <;> simp [go_sem]
  have hB : Below w.heap.size w W0 := by subst hW0; go_grown
  subst hW0
  apply wp_region_pure_tail 3 3 #[true, true, true, false, false, false, true, false, false] #[true, true, true, true, true, true, false, false, false] (by kernel_rfl) (by intro c d v a w h; cases d <;> exact h) (by kernel_rfl) (by kernel_rfl) (.cells #[.int .u64 0, .int .u64 0, .int .u64 0, .int .u64 0] 24) _ rfl (fun _ _ => by simp [go_sem])
  · intro W hW
    obtain ⟨ra0, ra1, ra2, ra3⟩ := Arr.g4 (Arr.to' Aa hW)
    simp only [List.take_succ_cons, List.take_zero]
    repeat (go_big_quiet_step (first | (go_at_call 63; with_reducible first | exact Calls.regrown_of (C1 _)) | (go_at_call 95; with_reducible first | exact Calls.regrown_of (C2 _))))
    exact wpQuiet_nil rfl
  · exact ⟨_, Or.inl ⟨rfl, fun _ => rfl⟩, ⟨_, Or.inl ⟨rfl, fun _ => rfl⟩, ⟨_, Or.inl ⟨rfl, fun _ => rfl⟩, rfl⟩⟩⟩
  · intro v; exact ⟨_, Or.inl ⟨rfl, fun _ => rfl⟩, ⟨_, Or.inl ⟨rfl, fun _ => rfl⟩, ⟨_, Or.inl ⟨rfl, fun _ => rfl⟩, rfl⟩⟩⟩
  intro v1 w11 hb1 hb2
  simp only [List.drop_succ_cons, List.drop_zero, Act.put, List.setIfInBounds_toArray, List.set_cons_succ, List.set_cons_zero]
  have Ea := Arr.to' Aa hb1
  have la_v1 := Ea.lt
  have Ba := Arr.to' (Arr.al' Ea _) hb2
  have Ez := Arr.to' Az hb1
  have lz_v1 := Ez.lt
  have Bz := Arr.to' (Arr.al' Ez _) hb2
  have Bi := (Arr.mk4 (w := (v1.alloc (.cells #[.int .u64 0, .int .u64 0, .int .u64 0, .int .u64 0] 24))) (f := fun _ => .int .u64 0) (b := v1.heap.size) (by simp [go_sem]) (by simp [go_sem]) (by simp [go_sem]) (by simp [go_sem]) (by simp [go_sem]) (by simp [go_sem]) (by simp [go_sem]) (by simp [go_sem])).below hb2 (by go_size)
  have lB_v1 := (Bel.call hB hb1).size
  have hB' := Bel.call (Bel.al (Bel.call hB hb1) _) hb2
  clear hb1 hb2 Ea Ez Aa Az hB
  have Aa := Ba
  have Az := Bz
  have Ai := Bi
  have hB := hB'
  clear Ba Bz Bi hB'
  have ci := Ai.c
  have zi := Ai.z
  have Ba := Arr.st4o (b' := v1.heap.size) Aa (by have := Aa.lt; have := Ai.lt; omega) (I)
  have Bz := Arr.st4o (b' := v1.heap.size) Az (by have := Az.lt; have := Ai.lt; omega) (I)
  have Bi := Arr.st4 Ai (I)
  have hB' := Bel.st4 hB (b := v1.heap.size) (by have := hB.size; omega) (I)
  clear Aa Az Ai hB
  have Aa := Ba
  have Az := Bz
  have Ai := Bi
  have hB := hB'
  clear Ba Bz Bi hB'
  have ci := Ai.c
  have cz := Az.c
  have zz := Az.z
  have hS := hB.size
  have cz := Az.c
  have zz := Az.z
  go_wp2_with fail
  refine bodyPost_ret (v := nv I) (by simp [results, Tryz.results61, go_sem, cz]) rfl ⟨rfl, ?_⟩
  go_grown
end Go.Proofs.YtoolbnbfbegjaaaGreat
