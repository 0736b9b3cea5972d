/- The field of P-256: sums, differences, products and squares, in point and in the reference. -/
import Derived.Test.YtgekafmojedlkaaGreatJ1
import Derived.Test.YtgekafmojedlkaaGreatJ23
set_option linter.all false
set_option maxRecDepth 100000
namespace Go.Proofs.YtgekafmojedlkaaGreat
open Go.RowKit Go.Sort
/-- The prime of P-256. -/
def pp : Int := 115792089210356248762697446949407573530086143415290314195533631308867097853951
theorem nv_pp : nv pp = .agg #[.int .u64 18446744073709551615, .int .u64 4294967295, .int .u64 0, .int .u64 18446744069414584321] := by
  have h0 : lim pp 0 = 18446744073709551615 := by decide
  have h1 : lim pp 1 = 4294967295 := by decide
  have h2 : lim pp 2 = 0 := by decide
  have h3 : lim pp 3 = 18446744069414584321 := by decide
  simp only [nv, h0, h1, h2, h3]
/-- A number below 2^256. -/
def Inn (N : Int) : Prop := 0 ≤ N ∧ N < top256
theorem inn_pp : Inn pp := ⟨by decide, by decide⟩
theorem pp_pos : 0 < pp := by decide
def fa (A B : Int) : Int := (A + B) % pp
def fs (A B : Int) : Int := (A - B) % pp
def fm (A B : Int) : Int := A * B % pp
theorem inn_mod (N : Int) : Inn (N % pp) := ⟨Int.emod_nonneg _ (by decide), Int.lt_trans (Int.emod_lt_of_pos _ pp_pos) (by decide)⟩
theorem inn_fa (A B : Int) : Inn (fa A B) := inn_mod _
theorem inn_fs (A B : Int) : Inn (fs A B) := inn_mod _
theorem inn_fm (A B : Int) : Inn (fm A B) := inn_mod _
theorem inn_lit (c : Int) (h0 : 0 ≤ c) (h1 : c < 18446744073709551616) : Inn c := ⟨h0, Int.lt_trans h1 (by decide)⟩
theorem p46 (w : World) : Calls Tryz.prog 49 #[] w fun e w' => e = .returned (nv pp) ∧ Below w.heap.size w w' := by rw [nv_pp]; exact k23 w
theorem p49 (w : World) : Calls Tryz.prog 35 #[] w fun e w' => e = .returned (nv pp) ∧ Below w.heap.size w w' := by rw [nv_pp]; exact k24 w
theorem below_of {w w' : World} {d : Nat} {os : Array Obj} (h : w' = grow (redrawn w d) os) : Below w.heap.size w w' := by rw [h]; exact below_regrown _ _ _
theorem Bel.st4 {w W : World} (h : Below w.heap.size w W) {b : Nat} (hle : w.heap.size ≤ b) (X : Int) : Below w.heap.size w (Go.Proofs.YtgekafmojedlkaaGreat.st4 W b X) := Bel.st (Bel.st (Bel.st (Bel.st h hle _) hle _) hle _) hle _
theorem Arr.cv {w : World} {b n : Nat} {f : Nat → Value} (h : Arr w b n f) (j : Nat) (hj : j < n) (v : Value) (hv : f j = v) : w.cell? ⟨b, j, none⟩ = some v := by rw [← hv]; exact h.c j hj
theorem Arr.cg {w : World} {b n : Nat} {f : Nat → Value} (h : Arr w b n f) (j : Nat) (hj : j < n) (v : Value) (hv : f j = v) : ∀ (d : Nat) (os : Array Obj), (grow (redrawn w d) os).cell? ⟨b, j, none⟩ = some v := fun d os => cell_regrown (h.cv j hj v hv) d os
/-- The nine cells of a point. -/
def px (X Y : Int) (i : Bool) : Nat → Value
  | 0 => .int .u64 (lim X 0)
  | 1 => .int .u64 (lim X 1)
  | 2 => .int .u64 (lim X 2)
  | 3 => .int .u64 (lim X 3)
  | 4 => .int .u64 (lim Y 0)
  | 5 => .int .u64 (lim Y 1)
  | 6 => .int .u64 (lim Y 2)
  | 7 => .int .u64 (lim Y 3)
  | _ => .bool i
/-- The thirteen cells of a point with a third coordinate. -/
def sx (X Y : Int) (i : Bool) (Z : Int) : Nat → Value
  | 0 => .int .u64 (lim X 0)
  | 1 => .int .u64 (lim X 1)
  | 2 => .int .u64 (lim X 2)
  | 3 => .int .u64 (lim X 3)
  | 4 => .int .u64 (lim Y 0)
  | 5 => .int .u64 (lim Y 1)
  | 6 => .int .u64 (lim Y 2)
  | 7 => .int .u64 (lim Y 3)
  | 8 => .bool i
  | 9 => .int .u64 (lim Z 0)
  | 10 => .int .u64 (lim Z 1)
  | 11 => .int .u64 (lim Z 2)
  | 12 => .int .u64 (lim Z 3)
  | _ => .bool i
/-- Zeros, and false in cell k. -/
def zx (k j : Nat) : Value := if j = k then .bool false else .int .u64 0
/-- A point as the translation holds it. -/
abbrev pv (X Y : Int) (i : Bool) : Value := .agg #[.int .u64 (lim (X) 0), .int .u64 (lim (X) 1), .int .u64 (lim (X) 2), .int .u64 (lim (X) 3), .int .u64 (lim (Y) 0), .int .u64 (lim (Y) 1), .int .u64 (lim (Y) 2), .int .u64 (lim (Y) 3), .bool i]
abbrev jv (X Y : Int) (i : Bool) (Z : Int) : Value := .agg #[.int .u64 (lim (X) 0), .int .u64 (lim (X) 1), .int .u64 (lim (X) 2), .int .u64 (lim (X) 3), .int .u64 (lim (Y) 0), .int .u64 (lim (Y) 1), .int .u64 (lim (Y) 2), .int .u64 (lim (Y) 3), .bool i, .int .u64 (lim (Z) 0), .int .u64 (lim (Z) 1), .int .u64 (lim (Z) 2), .int .u64 (lim (Z) 3)]
theorem Arr.mk9p {w : World} {b : Nat} {f : Nat → Value} (h0 : w.cell? ⟨b, 0, none⟩ = some (f 0)) (h1 : w.cell? ⟨b, 1, none⟩ = some (f 1)) (h2 : w.cell? ⟨b, 2, none⟩ = some (f 2)) (h3 : w.cell? ⟨b, 3, none⟩ = some (f 3)) (h4 : w.cell? ⟨b, 4, none⟩ = some (f 4)) (h5 : w.cell? ⟨b, 5, none⟩ = some (f 5)) (h6 : w.cell? ⟨b, 6, none⟩ = some (f 6)) (h7 : w.cell? ⟨b, 7, none⟩ = some (f 7)) (h8 : w.cell? ⟨b, 8, none⟩ = some (f 8)) (z : ∀ j, j < 9 → w.frozen? ⟨b, j, none⟩ = false) : Arr w b 9 f := by
  intro j hj
  refine ⟨?_, z j hj⟩
  have h : j = 0 ∨ j = 1 ∨ j = 2 ∨ j = 3 ∨ j = 4 ∨ j = 5 ∨ j = 6 ∨ j = 7 ∨ j = 8 := by omega
  rcases h with h | h | h | h | h | h | h | h | h <;> subst h <;> assumption
theorem Arr.mk13 {w : World} {b : Nat} {f : Nat → Value} (h0 : w.cell? ⟨b, 0, none⟩ = some (f 0)) (h1 : w.cell? ⟨b, 1, none⟩ = some (f 1)) (h2 : w.cell? ⟨b, 2, none⟩ = some (f 2)) (h3 : w.cell? ⟨b, 3, none⟩ = some (f 3)) (h4 : w.cell? ⟨b, 4, none⟩ = some (f 4)) (h5 : w.cell? ⟨b, 5, none⟩ = some (f 5)) (h6 : w.cell? ⟨b, 6, none⟩ = some (f 6)) (h7 : w.cell? ⟨b, 7, none⟩ = some (f 7)) (h8 : w.cell? ⟨b, 8, none⟩ = some (f 8)) (h9 : w.cell? ⟨b, 9, none⟩ = some (f 9)) (h10 : w.cell? ⟨b, 10, none⟩ = some (f 10)) (h11 : w.cell? ⟨b, 11, none⟩ = some (f 11)) (h12 : w.cell? ⟨b, 12, none⟩ = some (f 12)) (z : ∀ j, j < 13 → w.frozen? ⟨b, j, none⟩ = false) : Arr w b 13 f := by
  intro j hj
  refine ⟨?_, z j hj⟩
  have h : j = 0 ∨ j = 1 ∨ j = 2 ∨ j = 3 ∨ j = 4 ∨ j = 5 ∨ j = 6 ∨ j = 7 ∨ j = 8 ∨ j = 9 ∨ j = 10 ∨ j = 11 ∨ j = 12 := by omega
  rcases h with h | h | h | h | h | h | h | h | h | h | h | h | h <;> subst h <;> assumption
set_option maxHeartbeats 2000000 in
theorem xadd_core (A B R : Int) (w : World)
    (D : ∀ W, Calls Tryz.prog 76 #[nv A, nv B, nv pp] W fun e w' => e = .returned (nv R) ∧ Below W.heap.size W w') :
    Calls Tryz.prog 58 #[nv A, nv B] w fun e w' => e = .returned (nv R) ∧ Below w.heap.size w w' := by
  go_enter Tryz.func58, Tryz.ntmps58
  go_wp2_with fail
  have Ba : Arr ((((w.alloc (.cells #[.int .u64 (lim (A) 0), .int .u64 (lim (A) 1), .int .u64 (lim (A) 2), .int .u64 (lim (A) 3)] 24)).alloc (.cells #[.int .u64 (lim (B) 0), .int .u64 (lim (B) 1), .int .u64 (lim (B) 2), .int .u64 (lim (B) 3)] 24)).alloc (.cells #[.int .u64 0, .int .u64 0, .int .u64 0, .int .u64 0] 24))) (w.heap.size) 4 (fun j => .int .u64 (lim (A) j)) := by refine Arr.mk4 ?_ ?_ ?_ ?_ ?_ ?_ ?_ ?_ <;> simp [go_sem]
  have Bb : Arr ((((w.alloc (.cells #[.int .u64 (lim (A) 0), .int .u64 (lim (A) 1), .int .u64 (lim (A) 2), .int .u64 (lim (A) 3)] 24)).alloc (.cells #[.int .u64 (lim (B) 0), .int .u64 (lim (B) 1), .int .u64 (lim (B) 2), .int .u64 (lim (B) 3)] 24)).alloc (.cells #[.int .u64 0, .int .u64 0, .int .u64 0, .int .u64 0] 24))) (w.heap.size + 1) 4 (fun j => .int .u64 (lim (B) j)) := by refine Arr.mk4 ?_ ?_ ?_ ?_ ?_ ?_ ?_ ?_ <;> simp [go_sem]
  have Bz : Arr ((((w.alloc (.cells #[.int .u64 (lim (A) 0), .int .u64 (lim (A) 1), .int .u64 (lim (A) 2), .int .u64 (lim (A) 3)] 24)).alloc (.cells #[.int .u64 (lim (B) 0), .int .u64 (lim (B) 1), .int .u64 (lim (B) 2), .int .u64 (lim (B) 3)] 24)).alloc (.cells #[.int .u64 0, .int .u64 0, .int .u64 0, .int .u64 0] 24))) (w.heap.size + 1 + 1) 4 (fun _ => .int .u64 0) := by refine Arr.mk4 ?_ ?_ ?_ ?_ ?_ ?_ ?_ ?_ <;> simp [go_sem]
  have hB' : Below w.heap.size w (((w.alloc (.cells #[.int .u64 (lim (A) 0), .int .u64 (lim (A) 1), .int .u64 (lim (A) 2), .int .u64 (lim (A) 3)] 24)).alloc (.cells #[.int .u64 (lim (B) 0), .int .u64 (lim (B) 1), .int .u64 (lim (B) 2), .int .u64 (lim (B) 3)] 24)).alloc (.cells #[.int .u64 0, .int .u64 0, .int .u64 0, .int .u64 0] 24)) := by go_grown
  have Aa := Ba
  have Ab := Bb
  have Az := Bz
  have hB := hB'
  clear Ba Bb Bz hB'
  have ra0 := fun ds os => cell_regrown (Aa.c 0 (by omega)) ds os
  have ra1 := fun ds os => cell_regrown (Aa.c 1 (by omega)) ds os
  have ra2 := fun ds os => cell_regrown (Aa.c 2 (by omega)) ds os
  have ra3 := fun ds os => cell_regrown (Aa.c 3 (by omega)) ds os
  have rb0 := fun ds os => cell_regrown (Ab.c 0 (by omega)) ds os
  have rb1 := fun ds os => cell_regrown (Ab.c 1 (by omega)) ds os
  have rb2 := fun ds os => cell_regrown (Ab.c 2 (by omega)) ds os
  have rb3 := fun ds os => cell_regrown (Ab.c 3 (by omega)) ds os
  refine wp_region_below_tail 4 (by kernel_rfl) (by kernel_rfl) ?_
  simp only [List.take_succ_cons, List.take_zero, List.drop_succ_cons, List.drop_zero]
  repeat (go_big_quiet_step (first | (go_at_call 49; exact Calls.regrown_of (p46 _)) | (go_at_call 76; exact Calls.regrown_of (D _))))
  refine wpQuiet_nil ?_
  intro w1 hw'
  obtain ⟨⟨dq, osq⟩, hw''⟩ := hw'
  have hb := below_of hw''
  clear hw''
  have Bz := Arr.to' Az hb
  have hB' := Bel.call hB hb
  clear hb ra0 ra1 ra2 ra3 rb0 rb1 rb2 rb3 Aa Ab Az hB D
  have Az := Bz
  have hB := hB'
  clear Bz hB'
  have hS := hB.size
  have cz := Az.c
  have zz := Az.z
  go_wp2_with fail
  refine bodyPost_ret (v := nv R) (by simp [results, Tryz.results58, go_sem, cz]) rfl ⟨rfl, ?_⟩
  go_grown
theorem xadd (A B : Int) (iA : Inn A) (iB : Inn B) (w : World) : Calls Tryz.prog 58 #[nv A, nv B] w fun e w' => e = .returned (nv (fa A B)) ∧ Below w.heap.size w w' := by
  refine xadd_core A B _ w fun W => ?_
  have := madd_any A B pp iA.1 iA.2 iB.1 iB.2 inn_pp.1 inn_pp.2 W
  rw [md_pos _ pp_pos] at this
  exact this
set_option maxHeartbeats 2000000 in
theorem xsub_core (A B R : Int) (w : World)
    (D : ∀ W, Calls Tryz.prog 69 #[nv A, nv B, nv pp] W fun e w' => e = .returned (nv R) ∧ Below W.heap.size W w') :
    Calls Tryz.prog 45 #[nv A, nv B] w fun e w' => e = .returned (nv R) ∧ Below w.heap.size w w' := by
  go_enter Tryz.func45, Tryz.ntmps45
  go_wp2_with fail
  have Ba : Arr ((((w.alloc (.cells #[.int .u64 (lim (A) 0), .int .u64 (lim (A) 1), .int .u64 (lim (A) 2), .int .u64 (lim (A) 3)] 24)).alloc (.cells #[.int .u64 (lim (B) 0), .int .u64 (lim (B) 1), .int .u64 (lim (B) 2), .int .u64 (lim (B) 3)] 24)).alloc (.cells #[.int .u64 0, .int .u64 0, .int .u64 0, .int .u64 0] 24))) (w.heap.size) 4 (fun j => .int .u64 (lim (A) j)) := by refine Arr.mk4 ?_ ?_ ?_ ?_ ?_ ?_ ?_ ?_ <;> simp [go_sem]
  have Bb : Arr ((((w.alloc (.cells #[.int .u64 (lim (A) 0), .int .u64 (lim (A) 1), .int .u64 (lim (A) 2), .int .u64 (lim (A) 3)] 24)).alloc (.cells #[.int .u64 (lim (B) 0), .int .u64 (lim (B) 1), .int .u64 (lim (B) 2), .int .u64 (lim (B) 3)] 24)).alloc (.cells #[.int .u64 0, .int .u64 0, .int .u64 0, .int .u64 0] 24))) (w.heap.size + 1) 4 (fun j => .int .u64 (lim (B) j)) := by refine Arr.mk4 ?_ ?_ ?_ ?_ ?_ ?_ ?_ ?_ <;> simp [go_sem]
  have Bz : Arr ((((w.alloc (.cells #[.int .u64 (lim (A) 0), .int .u64 (lim (A) 1), .int .u64 (lim (A) 2), .int .u64 (lim (A) 3)] 24)).alloc (.cells #[.int .u64 (lim (B) 0), .int .u64 (lim (B) 1), .int .u64 (lim (B) 2), .int .u64 (lim (B) 3)] 24)).alloc (.cells #[.int .u64 0, .int .u64 0, .int .u64 0, .int .u64 0] 24))) (w.heap.size + 1 + 1) 4 (fun _ => .int .u64 0) := by refine Arr.mk4 ?_ ?_ ?_ ?_ ?_ ?_ ?_ ?_ <;> simp [go_sem]
  have hB' : Below w.heap.size w (((w.alloc (.cells #[.int .u64 (lim (A) 0), .int .u64 (lim (A) 1), .int .u64 (lim (A) 2), .int .u64 (lim (A) 3)] 24)).alloc (.cells #[.int .u64 (lim (B) 0), .int .u64 (lim (B) 1), .int .u64 (lim (B) 2), .int .u64 (lim (B) 3)] 24)).alloc (.cells #[.int .u64 0, .int .u64 0, .int .u64 0, .int .u64 0] 24)) := by go_grown
  have Aa := Ba
  have Ab := Bb
  have Az := Bz
  have hB := hB'
  clear Ba Bb Bz hB'
  have ra0 := fun ds os => cell_regrown (Aa.c 0 (by omega)) ds os
  have ra1 := fun ds os => cell_regrown (Aa.c 1 (by omega)) ds os
  have ra2 := fun ds os => cell_regrown (Aa.c 2 (by omega)) ds os
  have ra3 := fun ds os => cell_regrown (Aa.c 3 (by omega)) ds os
  have rb0 := fun ds os => cell_regrown (Ab.c 0 (by omega)) ds os
  have rb1 := fun ds os => cell_regrown (Ab.c 1 (by omega)) ds os
  have rb2 := fun ds os => cell_regrown (Ab.c 2 (by omega)) ds os
  have rb3 := fun ds os => cell_regrown (Ab.c 3 (by omega)) ds os
  refine wp_region_below_tail 4 (by kernel_rfl) (by kernel_rfl) ?_
  simp only [List.take_succ_cons, List.take_zero, List.drop_succ_cons, List.drop_zero]
  repeat (go_big_quiet_step (first | (go_at_call 49; exact Calls.regrown_of (p46 _)) | (go_at_call 69; exact Calls.regrown_of (D _))))
  refine wpQuiet_nil ?_
  intro w1 hw'
  obtain ⟨⟨dq, osq⟩, hw''⟩ := hw'
  have hb := below_of hw''
  clear hw''
  have Bz := Arr.to' Az hb
  have hB' := Bel.call hB hb
  clear hb ra0 ra1 ra2 ra3 rb0 rb1 rb2 rb3 Aa Ab Az hB D
  have Az := Bz
  have hB := hB'
  clear Bz hB'
  have hS := hB.size
  have cz := Az.c
  have zz := Az.z
  go_wp2_with fail
  refine bodyPost_ret (v := nv R) (by simp [results, Tryz.results45, go_sem, cz]) rfl ⟨rfl, ?_⟩
  go_grown
theorem xsub (A B : Int) (iA : Inn A) (iB : Inn B) (w : World) : Calls Tryz.prog 45 #[nv A, nv B] w fun e w' => e = .returned (nv (fs A B)) ∧ Below w.heap.size w w' := by
  refine xsub_core A B _ w fun W => ?_
  have := msub_any A B pp iA.1 iA.2 iB.1 iB.2 inn_pp.1 inn_pp.2 W
  rw [md_pos _ pp_pos] at this
  exact this
set_option maxHeartbeats 2000000 in
theorem xmul_core (A B R : Int) (w : World)
    (D : ∀ W, Calls Tryz.prog 70 #[nv A, nv B, nv pp] W fun e w' => e = .returned (nv R) ∧ Below W.heap.size W w') :
    Calls Tryz.prog 46 #[nv A, nv B] w fun e w' => e = .returned (nv R) ∧ Below w.heap.size w w' := by
  go_enter Tryz.func46, Tryz.ntmps46
  go_wp2_with fail
  have Ba : Arr ((((w.alloc (.cells #[.int .u64 (lim (A) 0), .int .u64 (lim (A) 1), .int .u64 (lim (A) 2), .int .u64 (lim (A) 3)] 24)).alloc (.cells #[.int .u64 (lim (B) 0), .int .u64 (lim (B) 1), .int .u64 (lim (B) 2), .int .u64 (lim (B) 3)] 24)).alloc (.cells #[.int .u64 0, .int .u64 0, .int .u64 0, .int .u64 0] 24))) (w.heap.size) 4 (fun j => .int .u64 (lim (A) j)) := by refine Arr.mk4 ?_ ?_ ?_ ?_ ?_ ?_ ?_ ?_ <;> simp [go_sem]
  have Bb : Arr ((((w.alloc (.cells #[.int .u64 (lim (A) 0), .int .u64 (lim (A) 1), .int .u64 (lim (A) 2), .int .u64 (lim (A) 3)] 24)).alloc (.cells #[.int .u64 (lim (B) 0), .int .u64 (lim (B) 1), .int .u64 (lim (B) 2), .int .u64 (lim (B) 3)] 24)).alloc (.cells #[.int .u64 0, .int .u64 0, .int .u64 0, .int .u64 0] 24))) (w.heap.size + 1) 4 (fun j => .int .u64 (lim (B) j)) := by refine Arr.mk4 ?_ ?_ ?_ ?_ ?_ ?_ ?_ ?_ <;> simp [go_sem]
  have Bz : Arr ((((w.alloc (.cells #[.int .u64 (lim (A) 0), .int .u64 (lim (A) 1), .int .u64 (lim (A) 2), .int .u64 (lim (A) 3)] 24)).alloc (.cells #[.int .u64 (lim (B) 0), .int .u64 (lim (B) 1), .int .u64 (lim (B) 2), .int .u64 (lim (B) 3)] 24)).alloc (.cells #[.int .u64 0, .int .u64 0, .int .u64 0, .int .u64 0] 24))) (w.heap.size + 1 + 1) 4 (fun _ => .int .u64 0) := by refine Arr.mk4 ?_ ?_ ?_ ?_ ?_ ?_ ?_ ?_ <;> simp [go_sem]
  have hB' : Below w.heap.size w (((w.alloc (.cells #[.int .u64 (lim (A) 0), .int .u64 (lim (A) 1), .int .u64 (lim (A) 2), .int .u64 (lim (A) 3)] 24)).alloc (.cells #[.int .u64 (lim (B) 0), .int .u64 (lim (B) 1), .int .u64 (lim (B) 2), .int .u64 (lim (B) 3)] 24)).alloc (.cells #[.int .u64 0, .int .u64 0, .int .u64 0, .int .u64 0] 24)) := by go_grown
  have Aa := Ba
  have Ab := Bb
  have Az := Bz
  have hB := hB'
  clear Ba Bb Bz hB'
  have ra0 := fun ds os => cell_regrown (Aa.c 0 (by omega)) ds os
  have ra1 := fun ds os => cell_regrown (Aa.c 1 (by omega)) ds os
  have ra2 := fun ds os => cell_regrown (Aa.c 2 (by omega)) ds os
  have ra3 := fun ds os => cell_regrown (Aa.c 3 (by omega)) ds os
  have rb0 := fun ds os => cell_regrown (Ab.c 0 (by omega)) ds os
  have rb1 := fun ds os => cell_regrown (Ab.c 1 (by omega)) ds os
  have rb2 := fun ds os => cell_regrown (Ab.c 2 (by omega)) ds os
  have rb3 := fun ds os => cell_regrown (Ab.c 3 (by omega)) ds os
  refine wp_region_below_tail 4 (by kernel_rfl) (by kernel_rfl) ?_
  simp only [List.take_succ_cons, List.take_zero, List.drop_succ_cons, List.drop_zero]
  repeat (go_big_quiet_step (first | (go_at_call 49; exact Calls.regrown_of (p46 _)) | (go_at_call 70; exact Calls.regrown_of (D _))))
  refine wpQuiet_nil ?_
  intro w1 hw'
  obtain ⟨⟨dq, osq⟩, hw''⟩ := hw'
  have hb := below_of hw''
  clear hw''
  have Bz := Arr.to' Az hb
  have hB' := Bel.call hB hb
  clear hb ra0 ra1 ra2 ra3 rb0 rb1 rb2 rb3 Aa Ab Az hB D
  have Az := Bz
  have hB := hB'
  clear Bz hB'
  have hS := hB.size
  have cz := Az.c
  have zz := Az.z
  go_wp2_with fail
  refine bodyPost_ret (v := nv R) (by simp [results, Tryz.results46, go_sem, cz]) rfl ⟨rfl, ?_⟩
  go_grown
theorem xmul (A B : Int) (iA : Inn A) (iB : Inn B) (w : World) : Calls Tryz.prog 46 #[nv A, nv B] w fun e w' => e = .returned (nv (fm A B)) ∧ Below w.heap.size w w' := by
  refine xmul_core A B _ w fun W => ?_
  have := mmul_any A B pp iA.1 iA.2 iB.1 iB.2 inn_pp.1 inn_pp.2 W
  rw [md_pos _ pp_pos] at this
  exact this
set_option maxHeartbeats 2000000 in
theorem p29 (w : World) : Calls Tryz.prog 13 #[] w fun e w' => e = .returned (nv pp) ∧ Below w.heap.size w w' := by
  go_enter Tryz.func13, Tryz.ntmps13
  have Bz : Arr ((w.alloc (.cells #[.int .u64 0, .int .u64 0, .int .u64 0, .int .u64 0] 24))) (w.heap.size) 4 (fun _ => .int .u64 0) := by refine Arr.mk4 ?_ ?_ ?_ ?_ ?_ ?_ ?_ ?_ <;> simp [go_sem]
  have hB' : Below w.heap.size w (w.alloc (.cells #[.int .u64 0, .int .u64 0, .int .u64 0, .int .u64 0] 24)) := by go_grown
  have Az := Bz
  have hB := hB'
  clear Bz hB'
  go_wp2_with fail
  refine (p49 _).mono ?_
  rintro e w1 ⟨rfl, hb⟩
  have Bz := Arr.to' Az hb
  have hB' := Bel.call hB hb
  clear hb Az hB
  have Az := Bz
  have hB := hB'
  clear Bz hB'
  have hS := hB.size
  have cz := Az.c
  have zz := Az.z
  go_wp2_with fail
  refine bodyPost_ret (v := nv pp) (by simp [results, Tryz.results13, go_sem, cz]) rfl ⟨rfl, ?_⟩
  go_grown
set_option maxHeartbeats 2000000 in
theorem radd_core (A B R : Int) (w : World)
    (D : ∀ W, Calls Tryz.prog 36 #[nv A, nv B, nv pp] W fun e w' => e = .returned (nv R) ∧ Below W.heap.size W w') :
    Calls Tryz.prog 14 #[nv A, nv B] w fun e w' => e = .returned (nv R) ∧ Below w.heap.size w w' := by
  go_enter Tryz.func14, Tryz.ntmps14
  go_wp2_with fail
  have Ba : Arr ((((w.alloc (.cells #[.int .u64 (lim (A) 0), .int .u64 (lim (A) 1), .int .u64 (lim (A) 2), .int .u64 (lim (A) 3)] 24)).alloc (.cells #[.int .u64 (lim (B) 0), .int .u64 (lim (B) 1), .int .u64 (lim (B) 2), .int .u64 (lim (B) 3)] 24)).alloc (.cells #[.int .u64 0, .int .u64 0, .int .u64 0, .int .u64 0] 24))) (w.heap.size) 4 (fun j => .int .u64 (lim (A) j)) := by refine Arr.mk4 ?_ ?_ ?_ ?_ ?_ ?_ ?_ ?_ <;> simp [go_sem]
  have Bb : Arr ((((w.alloc (.cells #[.int .u64 (lim (A) 0), .int .u64 (lim (A) 1), .int .u64 (lim (A) 2), .int .u64 (lim (A) 3)] 24)).alloc (.cells #[.int .u64 (lim (B) 0), .int .u64 (lim (B) 1), .int .u64 (lim (B) 2), .int .u64 (lim (B) 3)] 24)).alloc (.cells #[.int .u64 0, .int .u64 0, .int .u64 0, .int .u64 0] 24))) (w.heap.size + 1) 4 (fun j => .int .u64 (lim (B) j)) := by refine Arr.mk4 ?_ ?_ ?_ ?_ ?_ ?_ ?_ ?_ <;> simp [go_sem]
  have Bz : Arr ((((w.alloc (.cells #[.int .u64 (lim (A) 0), .int .u64 (lim (A) 1), .int .u64 (lim (A) 2), .int .u64 (lim (A) 3)] 24)).alloc (.cells #[.int .u64 (lim (B) 0), .int .u64 (lim (B) 1), .int .u64 (lim (B) 2), .int .u64 (lim (B) 3)] 24)).alloc (.cells #[.int .u64 0, .int .u64 0, .int .u64 0, .int .u64 0] 24))) (w.heap.size + 1 + 1) 4 (fun _ => .int .u64 0) := by refine Arr.mk4 ?_ ?_ ?_ ?_ ?_ ?_ ?_ ?_ <;> simp [go_sem]
  have hB' : Below w.heap.size w (((w.alloc (.cells #[.int .u64 (lim (A) 0), .int .u64 (lim (A) 1), .int .u64 (lim (A) 2), .int .u64 (lim (A) 3)] 24)).alloc (.cells #[.int .u64 (lim (B) 0), .int .u64 (lim (B) 1), .int .u64 (lim (B) 2), .int .u64 (lim (B) 3)] 24)).alloc (.cells #[.int .u64 0, .int .u64 0, .int .u64 0, .int .u64 0] 24)) := by go_grown
  have Aa := Ba
  have Ab := Bb
  have Az := Bz
  have hB := hB'
  clear Ba Bb Bz hB'
  have ra0 := fun ds os => cell_regrown (Aa.c 0 (by omega)) ds os
  have ra1 := fun ds os => cell_regrown (Aa.c 1 (by omega)) ds os
  have ra2 := fun ds os => cell_regrown (Aa.c 2 (by omega)) ds os
  have ra3 := fun ds os => cell_regrown (Aa.c 3 (by omega)) ds os
  have rb0 := fun ds os => cell_regrown (Ab.c 0 (by omega)) ds os
  have rb1 := fun ds os => cell_regrown (Ab.c 1 (by omega)) ds os
  have rb2 := fun ds os => cell_regrown (Ab.c 2 (by omega)) ds os
  have rb3 := fun ds os => cell_regrown (Ab.c 3 (by omega)) ds os
  refine wp_region_below_tail 4 (by kernel_rfl) (by kernel_rfl) ?_
  simp only [List.take_succ_cons, List.take_zero, List.drop_succ_cons, List.drop_zero]
  repeat (go_big_quiet_step (first | (go_at_call 13; exact Calls.regrown_of (p29 _)) | (go_at_call 36; exact Calls.regrown_of (D _))))
  refine wpQuiet_nil ?_
  intro w1 hw'
  obtain ⟨⟨dq, osq⟩, hw''⟩ := hw'
  have hb := below_of hw''
  clear hw''
  have Bz := Arr.to' Az hb
  have hB' := Bel.call hB hb
  clear hb ra0 ra1 ra2 ra3 rb0 rb1 rb2 rb3 Aa Ab Az hB D
  have Az := Bz
  have hB := hB'
  clear Bz hB'
  have hS := hB.size
  have cz := Az.c
  have zz := Az.z
  go_wp2_with fail
  refine bodyPost_ret (v := nv R) (by simp [results, Tryz.results14, go_sem, cz]) rfl ⟨rfl, ?_⟩
  go_grown
theorem radd (A B : Int) (iA : Inn A) (iB : Inn B) (w : World) : Calls Tryz.prog 14 #[nv A, nv B] w fun e w' => e = .returned (nv (fa A B)) ∧ Below w.heap.size w w' := by
  refine radd_core A B _ w fun W => ?_
  have := ref2Add_any A B pp iA.1 iA.2 iB.1 iB.2 inn_pp.1 inn_pp.2 W
  rw [md_pos _ pp_pos] at this
  exact this
set_option maxHeartbeats 2000000 in
theorem rsub_core (A B R : Int) (w : World)
    (D : ∀ W, Calls Tryz.prog 38 #[nv A, nv B, nv pp] W fun e w' => e = .returned (nv R) ∧ Below W.heap.size W w') :
    Calls Tryz.prog 16 #[nv A, nv B] w fun e w' => e = .returned (nv R) ∧ Below w.heap.size w w' := by
  go_enter Tryz.func16, Tryz.ntmps16
  go_wp2_with fail
  have Ba : Arr ((((w.alloc (.cells #[.int .u64 (lim (A) 0), .int .u64 (lim (A) 1), .int .u64 (lim (A) 2), .int .u64 (lim (A) 3)] 24)).alloc (.cells #[.int .u64 (lim (B) 0), .int .u64 (lim (B) 1), .int .u64 (lim (B) 2), .int .u64 (lim (B) 3)] 24)).alloc (.cells #[.int .u64 0, .int .u64 0, .int .u64 0, .int .u64 0] 24))) (w.heap.size) 4 (fun j => .int .u64 (lim (A) j)) := by refine Arr.mk4 ?_ ?_ ?_ ?_ ?_ ?_ ?_ ?_ <;> simp [go_sem]
  have Bb : Arr ((((w.alloc (.cells #[.int .u64 (lim (A) 0), .int .u64 (lim (A) 1), .int .u64 (lim (A) 2), .int .u64 (lim (A) 3)] 24)).alloc (.cells #[.int .u64 (lim (B) 0), .int .u64 (lim (B) 1), .int .u64 (lim (B) 2), .int .u64 (lim (B) 3)] 24)).alloc (.cells #[.int .u64 0, .int .u64 0, .int .u64 0, .int .u64 0] 24))) (w.heap.size + 1) 4 (fun j => .int .u64 (lim (B) j)) := by refine Arr.mk4 ?_ ?_ ?_ ?_ ?_ ?_ ?_ ?_ <;> simp [go_sem]
  have Bz : Arr ((((w.alloc (.cells #[.int .u64 (lim (A) 0), .int .u64 (lim (A) 1), .int .u64 (lim (A) 2), .int .u64 (lim (A) 3)] 24)).alloc (.cells #[.int .u64 (lim (B) 0), .int .u64 (lim (B) 1), .int .u64 (lim (B) 2), .int .u64 (lim (B) 3)] 24)).alloc (.cells #[.int .u64 0, .int .u64 0, .int .u64 0, .int .u64 0] 24))) (w.heap.size + 1 + 1) 4 (fun _ => .int .u64 0) := by refine Arr.mk4 ?_ ?_ ?_ ?_ ?_ ?_ ?_ ?_ <;> simp [go_sem]
  have hB' : Below w.heap.size w (((w.alloc (.cells #[.int .u64 (lim (A) 0), .int .u64 (lim (A) 1), .int .u64 (lim (A) 2), .int .u64 (lim (A) 3)] 24)).alloc (.cells #[.int .u64 (lim (B) 0), .int .u64 (lim (B) 1), .int .u64 (lim (B) 2), .int .u64 (lim (B) 3)] 24)).alloc (.cells #[.int .u64 0, .int .u64 0, .int .u64 0, .int .u64 0] 24)) := by go_grown
  have Aa := Ba
  have Ab := Bb
  have Az := Bz
  have hB := hB'
  clear Ba Bb Bz hB'
  have ra0 := fun ds os => cell_regrown (Aa.c 0 (by omega)) ds os
  have ra1 := fun ds os => cell_regrown (Aa.c 1 (by omega)) ds os
  have ra2 := fun ds os => cell_regrown (Aa.c 2 (by omega)) ds os
  have ra3 := fun ds os => cell_regrown (Aa.c 3 (by omega)) ds os
  have rb0 := fun ds os => cell_regrown (Ab.c 0 (by omega)) ds os
  have rb1 := fun ds os => cell_regrown (Ab.c 1 (by omega)) ds os
  have rb2 := fun ds os => cell_regrown (Ab.c 2 (by omega)) ds os
  have rb3 := fun ds os => cell_regrown (Ab.c 3 (by omega)) ds os
  refine wp_region_below_tail 4 (by kernel_rfl) (by kernel_rfl) ?_
  simp only [List.take_succ_cons, List.take_zero, List.drop_succ_cons, List.drop_zero]
  repeat (go_big_quiet_step (first | (go_at_call 13; exact Calls.regrown_of (p29 _)) | (go_at_call 38; exact Calls.regrown_of (D _))))
  refine wpQuiet_nil ?_
  intro w1 hw'
  obtain ⟨⟨dq, osq⟩, hw''⟩ := hw'
  have hb := below_of hw''
  clear hw''
  have Bz := Arr.to' Az hb
  have hB' := Bel.call hB hb
  clear hb ra0 ra1 ra2 ra3 rb0 rb1 rb2 rb3 Aa Ab Az hB D
  have Az := Bz
  have hB := hB'
  clear Bz hB'
  have hS := hB.size
  have cz := Az.c
  have zz := Az.z
  go_wp2_with fail
  refine bodyPost_ret (v := nv R) (by simp [results, Tryz.results16, go_sem, cz]) rfl ⟨rfl, ?_⟩
  go_grown
theorem rsub (A B : Int) (iA : Inn A) (iB : Inn B) (w : World) : Calls Tryz.prog 16 #[nv A, nv B] w fun e w' => e = .returned (nv (fs A B)) ∧ Below w.heap.size w w' := by
  refine rsub_core A B _ w fun W => ?_
  have := ref2Sub_any A B pp iA.1 iA.2 iB.1 iB.2 inn_pp.1 inn_pp.2 W
  rw [md_pos _ pp_pos] at this
  exact this
set_option maxHeartbeats 2000000 in
theorem rmul_core (A B R : Int) (w : World)
    (D : ∀ W, Calls Tryz.prog 37 #[nv A, nv B, nv pp] W fun e w' => e = .returned (nv R) ∧ Below W.heap.size W w') :
    Calls Tryz.prog 15 #[nv A, nv B] w fun e w' => e = .returned (nv R) ∧ Below w.heap.size w w' := by
  go_enter Tryz.func15, Tryz.ntmps15
  go_wp2_with fail
  have Ba : Arr ((((w.alloc (.cells #[.int .u64 (lim (A) 0), .int .u64 (lim (A) 1), .int .u64 (lim (A) 2), .int .u64 (lim (A) 3)] 24)).alloc (.cells #[.int .u64 (lim (B) 0), .int .u64 (lim (B) 1), .int .u64 (lim (B) 2), .int .u64 (lim (B) 3)] 24)).alloc (.cells #[.int .u64 0, .int .u64 0, .int .u64 0, .int .u64 0] 24))) (w.heap.size) 4 (fun j => .int .u64 (lim (A) j)) := by refine Arr.mk4 ?_ ?_ ?_ ?_ ?_ ?_ ?_ ?_ <;> simp [go_sem]
  have Bb : Arr ((((w.alloc (.cells #[.int .u64 (lim (A) 0), .int .u64 (lim (A) 1), .int .u64 (lim (A) 2), .int .u64 (lim (A) 3)] 24)).alloc (.cells #[.int .u64 (lim (B) 0), .int .u64 (lim (B) 1), .int .u64 (lim (B) 2), .int .u64 (lim (B) 3)] 24)).alloc (.cells #[.int .u64 0, .int .u64 0, .int .u64 0, .int .u64 0] 24))) (w.heap.size + 1) 4 (fun j => .int .u64 (lim (B) j)) := by refine Arr.mk4 ?_ ?_ ?_ ?_ ?_ ?_ ?_ ?_ <;> simp [go_sem]
  have Bz : Arr ((((w.alloc (.cells #[.int .u64 (lim (A) 0), .int .u64 (lim (A) 1), .int .u64 (lim (A) 2), .int .u64 (lim (A) 3)] 24)).alloc (.cells #[.int .u64 (lim (B) 0), .int .u64 (lim (B) 1), .int .u64 (lim (B) 2), .int .u64 (lim (B) 3)] 24)).alloc (.cells #[.int .u64 0, .int .u64 0, .int .u64 0, .int .u64 0] 24))) (w.heap.size + 1 + 1) 4 (fun _ => .int .u64 0) := by refine Arr.mk4 ?_ ?_ ?_ ?_ ?_ ?_ ?_ ?_ <;> simp [go_sem]
  have hB' : Below w.heap.size w (((w.alloc (.cells #[.int .u64 (lim (A) 0), .int .u64 (lim (A) 1), .int .u64 (lim (A) 2), .int .u64 (lim (A) 3)] 24)).alloc (.cells #[.int .u64 (lim (B) 0), .int .u64 (lim (B) 1), .int .u64 (lim (B) 2), .int .u64 (lim (B) 3)] 24)).alloc (.cells #[.int .u64 0, .int .u64 0, .int .u64 0, .int .u64 0] 24)) := by go_grown
  have Aa := Ba
  have Ab := Bb
  have Az := Bz
  have hB := hB'
  clear Ba Bb Bz hB'
  have ra0 := fun ds os => cell_regrown (Aa.c 0 (by omega)) ds os
  have ra1 := fun ds os => cell_regrown (Aa.c 1 (by omega)) ds os
  have ra2 := fun ds os => cell_regrown (Aa.c 2 (by omega)) ds os
  have ra3 := fun ds os => cell_regrown (Aa.c 3 (by omega)) ds os
  have rb0 := fun ds os => cell_regrown (Ab.c 0 (by omega)) ds os
  have rb1 := fun ds os => cell_regrown (Ab.c 1 (by omega)) ds os
  have rb2 := fun ds os => cell_regrown (Ab.c 2 (by omega)) ds os
  have rb3 := fun ds os => cell_regrown (Ab.c 3 (by omega)) ds os
  refine wp_region_below_tail 4 (by kernel_rfl) (by kernel_rfl) ?_
  simp only [List.take_succ_cons, List.take_zero, List.drop_succ_cons, List.drop_zero]
  repeat (go_big_quiet_step (first | (go_at_call 13; exact Calls.regrown_of (p29 _)) | (go_at_call 37; exact Calls.regrown_of (D _))))
  refine wpQuiet_nil ?_
  intro w1 hw'
  obtain ⟨⟨dq, osq⟩, hw''⟩ := hw'
  have hb := below_of hw''
  clear hw''
  have Bz := Arr.to' Az hb
  have hB' := Bel.call hB hb
  clear hb ra0 ra1 ra2 ra3 rb0 rb1 rb2 rb3 Aa Ab Az hB D
  have Az := Bz
  have hB := hB'
  clear Bz hB'
  have hS := hB.size
  have cz := Az.c
  have zz := Az.z
  go_wp2_with fail
  refine bodyPost_ret (v := nv R) (by simp [results, Tryz.results15, go_sem, cz]) rfl ⟨rfl, ?_⟩
  go_grown
theorem rmul (A B : Int) (iA : Inn A) (iB : Inn B) (w : World) : Calls Tryz.prog 15 #[nv A, nv B] w fun e w' => e = .returned (nv (fm A B)) ∧ Below w.heap.size w w' := by
  refine rmul_core A B _ w fun W => ?_
  have := refMul_any A B pp iA.1 iA.2 iB.1 iB.2 inn_pp.1 inn_pp.2 W
  rw [md_pos _ pp_pos] at this
  exact this
set_option maxHeartbeats 2000000 in
theorem xsq (A : Int) (iA : Inn A) (w : World) : Calls Tryz.prog 42 #[nv A] w fun e w' => e = .returned (nv (fm A A)) ∧ Below w.heap.size w w' := by
  go_enter Tryz.func42, Tryz.ntmps42
  have Ba : Arr (((w.alloc (.cells #[.int .u64 (lim (A) 0), .int .u64 (lim (A) 1), .int .u64 (lim (A) 2), .int .u64 (lim (A) 3)] 24)).alloc (.cells #[.int .u64 0, .int .u64 0, .int .u64 0, .int .u64 0] 24))) (w.heap.size) 4 (fun j => .int .u64 (lim (A) j)) := by refine Arr.mk4 ?_ ?_ ?_ ?_ ?_ ?_ ?_ ?_ <;> simp [go_sem]
  have Bz : Arr (((w.alloc (.cells #[.int .u64 (lim (A) 0), .int .u64 (lim (A) 1), .int .u64 (lim (A) 2), .int .u64 (lim (A) 3)] 24)).alloc (.cells #[.int .u64 0, .int .u64 0, .int .u64 0, .int .u64 0] 24))) (w.heap.size + 1) 4 (fun _ => .int .u64 0) := by refine Arr.mk4 ?_ ?_ ?_ ?_ ?_ ?_ ?_ ?_ <;> simp [go_sem]
  have hB' : Below w.heap.size w ((w.alloc (.cells #[.int .u64 (lim (A) 0), .int .u64 (lim (A) 1), .int .u64 (lim (A) 2), .int .u64 (lim (A) 3)] 24)).alloc (.cells #[.int .u64 0, .int .u64 0, .int .u64 0, .int .u64 0] 24)) := by go_grown
  have Aa := Ba
  have Az := Bz
  have hB := hB'
  clear Ba Bz hB'
  have ca := Aa.c
  go_wp2_with fail
  refine (xmul A A iA iA _).mono ?_
  rintro e w1 ⟨rfl, hb⟩
  have Bz := Arr.to' Az hb
  have hB' := Bel.call hB hb
  clear hb ca Aa Az hB
  have Az := Bz
  have hB := hB'
  clear Bz hB'
  have hS := hB.size
  have cz := Az.c
  have zz := Az.z
  go_wp2_with fail
  refine bodyPost_ret (v := nv (fm A A)) (by simp [results, Tryz.results42, go_sem, cz]) rfl ⟨rfl, ?_⟩
  go_grown
set_option maxHeartbeats 2000000 in
theorem xtw (A : Int) (iA : Inn A) (w : World) : Calls Tryz.prog 59 #[nv A] w fun e w' => e = .returned (nv (fa A A)) ∧ Below w.heap.size w w' := by
  go_enter Tryz.func59, Tryz.ntmps59
  have Ba : Arr (((w.alloc (.cells #[.int .u64 (lim (A) 0), .int .u64 (lim (A) 1), .int .u64 (lim (A) 2), .int .u64 (lim (A) 3)] 24)).alloc (.cells #[.int .u64 0, .int .u64 0, .int .u64 0, .int .u64 0] 24))) (w.heap.size) 4 (fun j => .int .u64 (lim (A) j)) := by refine Arr.mk4 ?_ ?_ ?_ ?_ ?_ ?_ ?_ ?_ <;> simp [go_sem]
  have Bz : Arr (((w.alloc (.cells #[.int .u64 (lim (A) 0), .int .u64 (lim (A) 1), .int .u64 (lim (A) 2), .int .u64 (lim (A) 3)] 24)).alloc (.cells #[.int .u64 0, .int .u64 0, .int .u64 0, .int .u64 0] 24))) (w.heap.size + 1) 4 (fun _ => .int .u64 0) := by refine Arr.mk4 ?_ ?_ ?_ ?_ ?_ ?_ ?_ ?_ <;> simp [go_sem]
  have hB' : Below w.heap.size w ((w.alloc (.cells #[.int .u64 (lim (A) 0), .int .u64 (lim (A) 1), .int .u64 (lim (A) 2), .int .u64 (lim (A) 3)] 24)).alloc (.cells #[.int .u64 0, .int .u64 0, .int .u64 0, .int .u64 0] 24)) := by go_grown
  have Aa := Ba
  have Az := Bz
  have hB := hB'
  clear Ba Bz hB'
  have ca := Aa.c
  go_wp2_with fail
  refine (xadd A A iA iA _).mono ?_
  rintro e w1 ⟨rfl, hb⟩
  have Bz := Arr.to' Az hb
  have hB' := Bel.call hB hb
  clear hb ca Aa Az hB
  have Az := Bz
  have hB := hB'
  clear Bz hB'
  have hS := hB.size
  have cz := Az.c
  have zz := Az.z
  go_wp2_with fail
  refine bodyPost_ret (v := nv (fa A A)) (by simp [results, Tryz.results59, go_sem, cz]) rfl ⟨rfl, ?_⟩
  go_grown
set_option maxHeartbeats 2000000 in
theorem xth (A : Int) (iA : Inn A) (w : World) : Calls Tryz.prog 57 #[nv A] w fun e w' => e = .returned (nv (fa (fa A A) A)) ∧ Below w.heap.size w w' := by
  go_enter Tryz.func57, Tryz.ntmps57
  go_wp2_with fail
  have Ba : Arr (((w.alloc (.cells #[.int .u64 (lim (A) 0), .int .u64 (lim (A) 1), .int .u64 (lim (A) 2), .int .u64 (lim (A) 3)] 24)).alloc (.cells #[.int .u64 0, .int .u64 0, .int .u64 0, .int .u64 0] 24))) (w.heap.size) 4 (fun j => .int .u64 (lim (A) j)) := by refine Arr.mk4 ?_ ?_ ?_ ?_ ?_ ?_ ?_ ?_ <;> simp [go_sem]
  have Bz : Arr (((w.alloc (.cells #[.int .u64 (lim (A) 0), .int .u64 (lim (A) 1), .int .u64 (lim (A) 2), .int .u64 (lim (A) 3)] 24)).alloc (.cells #[.int .u64 0, .int .u64 0, .int .u64 0, .int .u64 0] 24))) (w.heap.size + 1) 4 (fun _ => .int .u64 0) := by refine Arr.mk4 ?_ ?_ ?_ ?_ ?_ ?_ ?_ ?_ <;> simp [go_sem]
  have hB' : Below w.heap.size w ((w.alloc (.cells #[.int .u64 (lim (A) 0), .int .u64 (lim (A) 1), .int .u64 (lim (A) 2), .int .u64 (lim (A) 3)] 24)).alloc (.cells #[.int .u64 0, .int .u64 0, .int .u64 0, .int .u64 0] 24)) := by go_grown
  have Aa := Ba
  have Az := Bz
  have hB := hB'
  clear Ba Bz hB'
  have ra0 := fun ds os => cell_regrown (Aa.c 0 (by omega)) ds os
  have ra1 := fun ds os => cell_regrown (Aa.c 1 (by omega)) ds os
  have ra2 := fun ds os => cell_regrown (Aa.c 2 (by omega)) ds os
  have ra3 := fun ds os => cell_regrown (Aa.c 3 (by omega)) ds os
  refine wp_region_below_tail 4 (by kernel_rfl) (by kernel_rfl) ?_
  simp only [List.take_succ_cons, List.take_zero, List.drop_succ_cons, List.drop_zero]
  repeat (go_big_quiet_step (first | (go_at_call 59; exact Calls.regrown_of (xtw A iA _)) | (go_at_call 58; exact Calls.regrown_of (xadd (fa A A) A (inn_fa _ _) iA _))))
  refine wpQuiet_nil ?_
  intro w1 hw'
  obtain ⟨⟨dq, osq⟩, hw''⟩ := hw'
  have hb := below_of hw''
  clear hw''
  have Bz := Arr.to' Az hb
  have hB' := Bel.call hB hb
  clear hb ra0 ra1 ra2 ra3 Aa Az hB
  have Az := Bz
  have hB := hB'
  clear Bz hB'
  have hS := hB.size
  have cz := Az.c
  have zz := Az.z
  go_wp2_with fail
  refine bodyPost_ret (v := nv (fa (fa A A) A)) (by simp [results, Tryz.results57, go_sem, cz]) rfl ⟨rfl, ?_⟩
  go_grown
end Go.Proofs.YtgekafmojedlkaaGreat
