/- The steps of the ladder in xdh. -/
import Derived.Test.YtpigofooblmdhaaJ29
set_option linter.all false
set_option maxRecDepth 100000
namespace Go.Proofs.Ytpigofooblmdhaa
open Go.RowKit Go.Sort
theorem Bel.st4 {w W : World} (h : Below w.heap.size w W) {b : Nat} (hle : w.heap.size ≤ b) (X : Int) : Below w.heap.size w (Go.Proofs.Ytpigofooblmdhaa.st4 W b X) := Bel.st (Bel.st (Bel.st (Bel.st h hle _) hle _) hle _) hle _
theorem Arr.cv {w : World} {b n : Nat} {f : Nat → Value} (h : Arr w b n f) (j : Nat) (hj : j < n) (v : Value) (hv : f j = v) : w.cell? ⟨b, j, none⟩ = some v := by rw [← hv]; exact h.c j hj
theorem Arr.cg {w : World} {b n : Nat} {f : Nat → Value} (h : Arr w b n f) (j : Nat) (hj : j < n) (v : Value) (hv : f j = v) : ∀ (d : Nat) (os : Array Obj), (grow (redrawn w d) os).cell? ⟨b, j, none⟩ = some v := fun d os => cell_regrown (h.cv j hj v hv) d os
theorem nv_q : nv 121665 = .agg #[.int .u64 121665, .int .u64 0, .int .u64 0, .int .u64 0] := nv_low _ (by decide) (by decide)
theorem xmulq (B : Int) (iB : Inn B) (w : World) : Calls Try.prog 116 #[.agg #[.int .u64 121665, .int .u64 0, .int .u64 0, .int .u64 0], nv B] w fun e w' => e = .returned (nv (fm 121665 B)) ∧ Below w.heap.size w w' := by
  rw [← nv_q]; exact xmul 121665 B ⟨by decide, by decide⟩ iB w
set_option maxHeartbeats 4000000 in
theorem sumLess (A C : Int) (iA : Inn A) (iC : Inn C) (w : World) : Calls Try.prog 113 #[nv2 A C] w fun e w' => e = .returned (.tuple #[nv (fa A C), nv (fs A C)]) ∧ Below w.heap.size w w' := by
  go_enter Try.func113, Try.ntmps113
  go_wp2_with fail
  obtain ⟨W0, hW0⟩ : ∃ W0, W0 = (((w.alloc (.cells #[.int .u64 (lim (A) 0), .int .u64 (lim (A) 1), .int .u64 (lim (A) 2), .int .u64 (lim (A) 3), .int .u64 (lim (C) 0), .int .u64 (lim (C) 1), .int .u64 (lim (C) 2), .int .u64 (lim (C) 3)] 96)).alloc (.cells #[.int .u64 0, .int .u64 0, .int .u64 0, .int .u64 0] 24)).alloc (.cells #[.int .u64 0, .int .u64 0, .int .u64 0, .int .u64 0] 24)) := ⟨_, rfl⟩
  have Af : Arr W0 (w.heap.size) 8 (fun j => .int .u64 (lx [A, C] j)) := by subst hW0; refine Arr.mk8' ?_ ?_ ?_ ?_ ?_ ?_ ?_ ?_ ?_ <;> simp [go_sem, lx]
  have Ay : Arr W0 (w.heap.size + 1) 4 (fun _ => .int .u64 0) := by subst hW0; refine Arr.mk4 ?_ ?_ ?_ ?_ ?_ ?_ ?_ ?_ <;> simp [go_sem]
  have Az : Arr W0 (w.heap.size + 1 + 1) 4 (fun _ => .int .u64 0) := by subst hW0; refine Arr.mk4 ?_ ?_ ?_ ?_ ?_ ?_ ?_ ?_ <;> simp [go_sem]
  have hB : Below w.heap.size w W0 := by subst hW0; go_grown
  subst hW0
  have rf0 := Af.cg 0 (by omega) (.int .u64 (lim (A) 0)) rfl
  have rf1 := Af.cg 1 (by omega) (.int .u64 (lim (A) 1)) rfl
  have rf2 := Af.cg 2 (by omega) (.int .u64 (lim (A) 2)) rfl
  have rf3 := Af.cg 3 (by omega) (.int .u64 (lim (A) 3)) rfl
  have rf4 := Af.cg 4 (by omega) (.int .u64 (lim (C) 0)) rfl
  have rf5 := Af.cg 5 (by omega) (.int .u64 (lim (C) 1)) rfl
  have rf6 := Af.cg 6 (by omega) (.int .u64 (lim (C) 2)) rfl
  have rf7 := Af.cg 7 (by omega) (.int .u64 (lim (C) 3)) rfl
  refine wp_region_below_tail 10 (by kernel_rfl) (by kernel_rfl) ?_
  simp only [List.take_succ_cons, List.take_zero, List.drop_succ_cons, List.drop_zero]
  repeat (go_big_quiet_step (first | (go_at_call 118; exact Calls.regrown_of (xadd A C iA iC _)) | (go_at_call 119; exact Calls.regrown_of (xsub A C iA iC _))))
  refine wpQuiet_nil ?_
  intro w1 hw'
  obtain ⟨⟨dq, osq⟩, hw''⟩ := hw'
  have hb := below_of hw''
  clear hw''
  replace Ay := Arr.to' Ay hb
  replace Az := Arr.to' Az hb
  replace hB := Bel.call hB hb
  clear hb rf0 rf1 rf2 rf3 rf4 rf5 rf6 rf7 Af
  have hS := hB.size
  have cy := Ay.c
  have zy := Ay.z
  have cz := Az.c
  have zz := Az.z
  go_wp2_with fail
  refine bodyPost_ret (v := .tuple #[nv (fa A C), nv (fs A C)]) (by simp [results, Try.results113, go_sem, cy, cz]) rfl ⟨rfl, ?_⟩
  go_grown
set_option maxHeartbeats 4000000 in
theorem doubled_any (S L : Int) (iS : Inn S) (iL : Inn L) (w : World) : Calls Try.prog 114 #[nv S, nv L] w fun e w' => e = .returned (nv2 (fm (fm S S) (fm L L)) (fm (fs (fm S S) (fm L L)) (fa (fm S S) (fm 121665 (fs (fm S S) (fm L L)))))) ∧ Below w.heap.size w w' := by
  go_enter Try.func114, Try.ntmps114
  go_wp2_with fail
  obtain ⟨W0, hW0⟩ : ∃ W0, W0 = (((w.alloc (.cells #[.int .u64 (lim (S) 0), .int .u64 (lim (S) 1), .int .u64 (lim (S) 2), .int .u64 (lim (S) 3)] 24)).alloc (.cells #[.int .u64 (lim (L) 0), .int .u64 (lim (L) 1), .int .u64 (lim (L) 2), .int .u64 (lim (L) 3)] 24)).alloc (.cells #[.int .u64 0, .int .u64 0, .int .u64 0, .int .u64 0, .int .u64 0, .int .u64 0, .int .u64 0, .int .u64 0] 96)) := ⟨_, rfl⟩
  have As : Arr W0 (w.heap.size) 4 (fun j => .int .u64 (lim (S) j)) := by subst hW0; refine Arr.mk4 ?_ ?_ ?_ ?_ ?_ ?_ ?_ ?_ <;> simp [go_sem]
  have Al : Arr W0 (w.heap.size + 1) 4 (fun j => .int .u64 (lim (L) j)) := by subst hW0; refine Arr.mk4 ?_ ?_ ?_ ?_ ?_ ?_ ?_ ?_ <;> simp [go_sem]
  have Az : Arr W0 (w.heap.size + 1 + 1) 8 (fun _ => .int .u64 0) := by subst hW0; refine Arr.mk8' ?_ ?_ ?_ ?_ ?_ ?_ ?_ ?_ ?_ <;> simp [go_sem]
  have hB : Below w.heap.size w W0 := by subst hW0; go_grown
  subst hW0
  have rs0 := fun ds os => cell_regrown (As.c 0 (by omega)) ds os
  have rs1 := fun ds os => cell_regrown (As.c 1 (by omega)) ds os
  have rs2 := fun ds os => cell_regrown (As.c 2 (by omega)) ds os
  have rs3 := fun ds os => cell_regrown (As.c 3 (by omega)) ds os
  have rl0 := fun ds os => cell_regrown (Al.c 0 (by omega)) ds os
  have rl1 := fun ds os => cell_regrown (Al.c 1 (by omega)) ds os
  have rl2 := fun ds os => cell_regrown (Al.c 2 (by omega)) ds os
  have rl3 := fun ds os => cell_regrown (Al.c 3 (by omega)) ds os
  refine wp_region_below_tail 4 (by kernel_rfl) (by kernel_rfl) ?_
  simp only [List.take_succ_cons, List.take_zero, List.drop_succ_cons, List.drop_zero]
  repeat (go_big_quiet_step (first | (go_at_call 120; with_reducible exact Calls.regrown_of (xsq _ (by first | exact inn_fm _ _ | exact inn_fa _ _ | exact inn_fs _ _ | assumption) _))))
  refine wpQuiet_nil ?_
  intro w1 hw'
  obtain ⟨⟨dq, osq⟩, hw''⟩ := hw'
  have hb := below_of hw''
  clear hw''
  replace As := Arr.to' As hb
  replace Al := Arr.to' Al hb
  replace Az := Arr.to' Az hb
  replace hB := Bel.call hB hb
  clear hb rs0 rs1 rs2 rs3 rl0 rl1 rl2 rl3
  have cs := As.c
  have zs := As.z
  have cl := Al.c
  have zl := Al.z
  have Bs := Arr.st4 As (fm S S)
  have Bl := Arr.st4o (b' := w.heap.size) Al (by have := Al.lt; have := As.lt; omega) (fm S S)
  have Bz := Arr.st4o (b' := w.heap.size) Az (by have := Az.lt; have := As.lt; omega) (fm S S)
  have hB' := Bel.st4 hB (b := w.heap.size) (by have := hB.size; omega) (fm S S)
  clear As Al Az hB
  have As := Bs
  have Al := Bl
  have Az := Bz
  have hB := hB'
  clear Bs Bl Bz hB'
  have Bs := Arr.st4o (b' := w.heap.size + 1) As (by have := As.lt; have := Al.lt; omega) (fm L L)
  have Bl := Arr.st4 Al (fm L L)
  have Bz := Arr.st4o (b' := w.heap.size + 1) Az (by have := Az.lt; have := Al.lt; omega) (fm L L)
  have hB' := Bel.st4 hB (b := w.heap.size + 1) (by have := hB.size; omega) (fm L L)
  clear As Al Az hB
  have As := Bs
  have Al := Bl
  have Az := Bz
  have hB := hB'
  clear Bs Bl Bz hB'
  go_wp2_with fail
  refine (xsub _ _ (inn_fm _ _) (inn_fm _ _) _).mono ?_
  rintro e w9 ⟨rfl, hb⟩
  replace As := Arr.to' As hb
  replace Al := Arr.to' Al hb
  replace Az := Arr.to' Az hb
  replace hB := Bel.call hB hb
  clear hb cs zs cl zl
  have ls_2 := As.lt
  have ll_2 := Al.lt
  have lz_2 := Az.lt
  have lB_2 := hB.size
  replace As := (Arr.al' As (.cells #[.int .u64 (lim (fs (fm S S) (fm L L)) 0), .int .u64 (lim (fs (fm S S) (fm L L)) 1), .int .u64 (lim (fs (fm S S) (fm L L)) 2), .int .u64 (lim (fs (fm S S) (fm L L)) 3)] 24))
  replace Al := (Arr.al' Al (.cells #[.int .u64 (lim (fs (fm S S) (fm L L)) 0), .int .u64 (lim (fs (fm S S) (fm L L)) 1), .int .u64 (lim (fs (fm S S) (fm L L)) 2), .int .u64 (lim (fs (fm S S) (fm L L)) 3)] 24))
  replace Az := (Arr.al' Az (.cells #[.int .u64 (lim (fs (fm S S) (fm L L)) 0), .int .u64 (lim (fs (fm S S) (fm L L)) 1), .int .u64 (lim (fs (fm S S) (fm L L)) 2), .int .u64 (lim (fs (fm S S) (fm L L)) 3)] 24))
  have Ae : Arr ((w9.alloc (.cells #[.int .u64 (lim (fs (fm S S) (fm L L)) 0), .int .u64 (lim (fs (fm S S) (fm L L)) 1), .int .u64 (lim (fs (fm S S) (fm L L)) 2), .int .u64 (lim (fs (fm S S) (fm L L)) 3)] 24))) (w9.heap.size) 4 (fun j => .int .u64 (lim (fs (fm S S) (fm L L)) j)) := by refine Arr.mk4 ?_ ?_ ?_ ?_ ?_ ?_ ?_ ?_ <;> simp [go_sem]
  replace hB := (Bel.al hB (.cells #[.int .u64 (lim (fs (fm S S) (fm L L)) 0), .int .u64 (lim (fs (fm S S) (fm L L)) 1), .int .u64 (lim (fs (fm S S) (fm L L)) 2), .int .u64 (lim (fs (fm S S) (fm L L)) 3)] 24))
  have rs0 := fun ds os => cell_regrown (As.c 0 (by omega)) ds os
  have rs1 := fun ds os => cell_regrown (As.c 1 (by omega)) ds os
  have rs2 := fun ds os => cell_regrown (As.c 2 (by omega)) ds os
  have rs3 := fun ds os => cell_regrown (As.c 3 (by omega)) ds os
  have rl0 := fun ds os => cell_regrown (Al.c 0 (by omega)) ds os
  have rl1 := fun ds os => cell_regrown (Al.c 1 (by omega)) ds os
  have rl2 := fun ds os => cell_regrown (Al.c 2 (by omega)) ds os
  have rl3 := fun ds os => cell_regrown (Al.c 3 (by omega)) ds os
  have re0 := fun ds os => cell_regrown (Ae.c 0 (by omega)) ds os
  have re1 := fun ds os => cell_regrown (Ae.c 1 (by omega)) ds os
  have re2 := fun ds os => cell_regrown (Ae.c 2 (by omega)) ds os
  have re3 := fun ds os => cell_regrown (Ae.c 3 (by omega)) ds os
  go_wp2_with fail
  refine wp_region_below_tail 11 (by kernel_rfl) (by kernel_rfl) ?_
  simp only [List.take_succ_cons, List.take_zero, List.drop_succ_cons, List.drop_zero]
  repeat (go_big_quiet_step (first | (go_at_call 116; with_reducible exact Calls.regrown_of (xmul _ _ (by first | exact inn_fm _ _ | exact inn_fa _ _ | exact inn_fs _ _ | assumption) (by first | exact inn_fm _ _ | exact inn_fa _ _ | exact inn_fs _ _ | assumption) _)) | (go_at_call 118; with_reducible exact Calls.regrown_of (xadd _ _ (by first | exact inn_fm _ _ | exact inn_fa _ _ | exact inn_fs _ _ | assumption) (by first | exact inn_fm _ _ | exact inn_fa _ _ | exact inn_fs _ _ | assumption) _)) | (go_at_call 116; exact Calls.regrown_of (xmulq _ (inn_fs _ _) _))))
  refine wpQuiet_nil ?_
  intro w2 hw'
  obtain ⟨⟨dq, osq⟩, hw''⟩ := hw'
  have hb := below_of hw''
  clear hw''
  replace Az := Arr.to' Az hb
  replace hB := Bel.call hB hb
  clear hb rs0 rs1 rs2 rs3 rl0 rl1 rl2 rl3 re0 re1 re2 re3 As Al Ae
  have hS := hB.size
  have cz := Az.c
  have zz := Az.z
  go_wp2_with fail
  refine bodyPost_ret (v := nv2 (fm (fm S S) (fm L L)) (fm (fs (fm S S) (fm L L)) (fa (fm S S) (fm 121665 (fs (fm S S) (fm L L)))))) (by simp [results, Try.results114, go_sem, cz]) rfl ⟨rfl, ?_⟩
  go_grown
set_option maxHeartbeats 4000000 in
theorem added_any (X Y U : Int) (iX : Inn X) (iY : Inn Y) (iU : Inn U) (w : World) : Calls Try.prog 115 #[nv X, nv Y, nv U] w fun e w' => e = .returned (nv2 (fm (fa X Y) (fa X Y)) (fm U (fm (fs X Y) (fs X Y)))) ∧ Below w.heap.size w w' := by
  go_enter Try.func115, Try.ntmps115
  go_wp2_with fail
  obtain ⟨W0, hW0⟩ : ∃ W0, W0 = ((((w.alloc (.cells #[.int .u64 (lim (X) 0), .int .u64 (lim (X) 1), .int .u64 (lim (X) 2), .int .u64 (lim (X) 3)] 24)).alloc (.cells #[.int .u64 (lim (Y) 0), .int .u64 (lim (Y) 1), .int .u64 (lim (Y) 2), .int .u64 (lim (Y) 3)] 24)).alloc (.cells #[.int .u64 (lim (U) 0), .int .u64 (lim (U) 1), .int .u64 (lim (U) 2), .int .u64 (lim (U) 3)] 24)).alloc (.cells #[.int .u64 0, .int .u64 0, .int .u64 0, .int .u64 0, .int .u64 0, .int .u64 0, .int .u64 0, .int .u64 0] 96)) := ⟨_, rfl⟩
  have Ax : Arr W0 (w.heap.size) 4 (fun j => .int .u64 (lim (X) j)) := by subst hW0; refine Arr.mk4 ?_ ?_ ?_ ?_ ?_ ?_ ?_ ?_ <;> simp [go_sem]
  have Ay : Arr W0 (w.heap.size + 1) 4 (fun j => .int .u64 (lim (Y) j)) := by subst hW0; refine Arr.mk4 ?_ ?_ ?_ ?_ ?_ ?_ ?_ ?_ <;> simp [go_sem]
  have Au : Arr W0 (w.heap.size + 1 + 1) 4 (fun j => .int .u64 (lim (U) j)) := by subst hW0; refine Arr.mk4 ?_ ?_ ?_ ?_ ?_ ?_ ?_ ?_ <;> simp [go_sem]
  have Az : Arr W0 (w.heap.size + 1 + 1 + 1) 8 (fun _ => .int .u64 0) := by subst hW0; refine Arr.mk8' ?_ ?_ ?_ ?_ ?_ ?_ ?_ ?_ ?_ <;> simp [go_sem]
  have hB : Below w.heap.size w W0 := by subst hW0; go_grown
  subst hW0
  have rx0 := fun ds os => cell_regrown (Ax.c 0 (by omega)) ds os
  have rx1 := fun ds os => cell_regrown (Ax.c 1 (by omega)) ds os
  have rx2 := fun ds os => cell_regrown (Ax.c 2 (by omega)) ds os
  have rx3 := fun ds os => cell_regrown (Ax.c 3 (by omega)) ds os
  have ry0 := fun ds os => cell_regrown (Ay.c 0 (by omega)) ds os
  have ry1 := fun ds os => cell_regrown (Ay.c 1 (by omega)) ds os
  have ry2 := fun ds os => cell_regrown (Ay.c 2 (by omega)) ds os
  have ry3 := fun ds os => cell_regrown (Ay.c 3 (by omega)) ds os
  have ru0 := fun ds os => cell_regrown (Au.c 0 (by omega)) ds os
  have ru1 := fun ds os => cell_regrown (Au.c 1 (by omega)) ds os
  have ru2 := fun ds os => cell_regrown (Au.c 2 (by omega)) ds os
  have ru3 := fun ds os => cell_regrown (Au.c 3 (by omega)) ds os
  refine wp_region_below_tail 11 (by kernel_rfl) (by kernel_rfl) ?_
  simp only [List.take_succ_cons, List.take_zero, List.drop_succ_cons, List.drop_zero]
  repeat (go_big_quiet_step (first | (go_at_call 118; with_reducible exact Calls.regrown_of (xadd _ _ (by first | exact inn_fm _ _ | exact inn_fa _ _ | exact inn_fs _ _ | assumption) (by first | exact inn_fm _ _ | exact inn_fa _ _ | exact inn_fs _ _ | assumption) _)) | (go_at_call 119; with_reducible exact Calls.regrown_of (xsub _ _ (by first | exact inn_fm _ _ | exact inn_fa _ _ | exact inn_fs _ _ | assumption) (by first | exact inn_fm _ _ | exact inn_fa _ _ | exact inn_fs _ _ | assumption) _)) | (go_at_call 120; with_reducible exact Calls.regrown_of (xsq _ (by first | exact inn_fm _ _ | exact inn_fa _ _ | exact inn_fs _ _ | assumption) _)) | (go_at_call 116; with_reducible exact Calls.regrown_of (xmul _ _ (by first | exact inn_fm _ _ | exact inn_fa _ _ | exact inn_fs _ _ | assumption) (by first | exact inn_fm _ _ | exact inn_fa _ _ | exact inn_fs _ _ | assumption) _))))
  refine wpQuiet_nil ?_
  intro w1 hw'
  obtain ⟨⟨dq, osq⟩, hw''⟩ := hw'
  have hb := below_of hw''
  clear hw''
  replace Az := Arr.to' Az hb
  replace hB := Bel.call hB hb
  clear hb rx0 rx1 rx2 rx3 ry0 ry1 ry2 ry3 ru0 ru1 ru2 ru3 Ax Ay Au
  have hS := hB.size
  have cz := Az.c
  have zz := Az.z
  go_wp2_with fail
  refine bodyPost_ret (v := nv2 (fm (fa X Y) (fa X Y)) (fm U (fm (fs X Y) (fs X Y)))) (by simp [results, Try.results115, go_sem, cz]) rfl ⟨rfl, ?_⟩
  go_grown
end Go.Proofs.Ytpigofooblmdhaa
