/- The exchange, the step and the end of the ladder in xdh. -/
import Derived.Test.YtpigofooblmdhaaJ30
set_option linter.all false
set_option maxRecDepth 100000
namespace Go.Proofs.Ytpigofooblmdhaa
open Go.RowKit Go.Sort
set_option maxHeartbeats 4000000 in
theorem exch0 (A C B D : Int) (w : World) : Calls Try.prog 104 #[nv4 A C B D, .int .u64 0] w fun e w' => e = .returned (nv4 A C B D) ∧ Below w.heap.size w w' := by
  go_enter Try.func104, Try.ntmps104
  go_wp2_with fail
  obtain ⟨W0, hW0⟩ : ∃ W0, W0 = ((w.alloc (.cells #[.int .u64 (lim (A) 0), .int .u64 (lim (A) 1), .int .u64 (lim (A) 2), .int .u64 (lim (A) 3), .int .u64 (lim (C) 0), .int .u64 (lim (C) 1), .int .u64 (lim (C) 2), .int .u64 (lim (C) 3), .int .u64 (lim (B) 0), .int .u64 (lim (B) 1), .int .u64 (lim (B) 2), .int .u64 (lim (B) 3), .int .u64 (lim (D) 0), .int .u64 (lim (D) 1), .int .u64 (lim (D) 2), .int .u64 (lim (D) 3)] 97)).alloc (.cells #[.int .u64 0, .int .u64 0, .int .u64 0, .int .u64 0, .int .u64 0, .int .u64 0, .int .u64 0, .int .u64 0, .int .u64 0, .int .u64 0, .int .u64 0, .int .u64 0, .int .u64 0, .int .u64 0, .int .u64 0, .int .u64 0] 97)) := ⟨_, rfl⟩
  have Af : Arr W0 (w.heap.size) 16 (fun j => .int .u64 (lx [A, C, B, D] j)) := by subst hW0; refine Arr.mk16 ?_ ?_ ?_ ?_ ?_ ?_ ?_ ?_ ?_ ?_ ?_ ?_ ?_ ?_ ?_ ?_ ?_ <;> simp [go_sem, lx]
  have Az : Arr W0 (w.heap.size + 1) 16 (fun _ => .int .u64 0) := by subst hW0; refine Arr.mk16 ?_ ?_ ?_ ?_ ?_ ?_ ?_ ?_ ?_ ?_ ?_ ?_ ?_ ?_ ?_ ?_ ?_ <;> simp [go_sem]
  have hB : Below w.heap.size w W0 := by subst hW0; go_grown
  subst hW0
  have rf0 := Af.cg 0 (by omega) (.int .u64 (lim (A) 0)) rfl
  have rf1 := Af.cg 1 (by omega) (.int .u64 (lim (A) 1)) rfl
  have rf2 := Af.cg 2 (by omega) (.int .u64 (lim (A) 2)) rfl
  have rf3 := Af.cg 3 (by omega) (.int .u64 (lim (A) 3)) rfl
  have rf4 := Af.cg 4 (by omega) (.int .u64 (lim (C) 0)) rfl
  have rf5 := Af.cg 5 (by omega) (.int .u64 (lim (C) 1)) rfl
  have rf6 := Af.cg 6 (by omega) (.int .u64 (lim (C) 2)) rfl
  have rf7 := Af.cg 7 (by omega) (.int .u64 (lim (C) 3)) rfl
  have rf8 := Af.cg 8 (by omega) (.int .u64 (lim (B) 0)) rfl
  have rf9 := Af.cg 9 (by omega) (.int .u64 (lim (B) 1)) rfl
  have rf10 := Af.cg 10 (by omega) (.int .u64 (lim (B) 2)) rfl
  have rf11 := Af.cg 11 (by omega) (.int .u64 (lim (B) 3)) rfl
  have rf12 := Af.cg 12 (by omega) (.int .u64 (lim (D) 0)) rfl
  have rf13 := Af.cg 13 (by omega) (.int .u64 (lim (D) 1)) rfl
  have rf14 := Af.cg 14 (by omega) (.int .u64 (lim (D) 2)) rfl
  have rf15 := Af.cg 15 (by omega) (.int .u64 (lim (D) 3)) rfl
  refine wp_region_below_tail 8 (by kernel_rfl) (by kernel_rfl) ?_
  simp only [List.take_succ_cons, List.take_zero, List.drop_succ_cons, List.drop_zero]
  repeat (go_big_quiet_step (fail))
  refine wpQuiet_nil ?_
  intro w1 hw'
  obtain ⟨⟨dq, osq⟩, hw''⟩ := hw'
  have hb := below_of hw''
  clear hw''
  replace Az := Arr.to' Az hb
  replace hB := Bel.call hB hb
  clear hb rf0 rf1 rf2 rf3 rf4 rf5 rf6 rf7 rf8 rf9 rf10 rf11 rf12 rf13 rf14 rf15 Af
  have hS := hB.size
  have cz := Az.c
  have zz := Az.z
  go_wp2_with fail
  refine bodyPost_ret (v := nv4 A C B D) (by simp [results, Try.results104, go_sem, cz]) rfl ⟨rfl, ?_⟩
  go_grown
set_option maxHeartbeats 4000000 in
theorem exch1 (A C B D : Int) (w : World) : Calls Try.prog 104 #[nv4 A C B D, .int .u64 1] w fun e w' => e = .returned (nv4 B D A C) ∧ Below w.heap.size w w' := by
  go_enter Try.func104, Try.ntmps104
  go_wp2_with fail
  obtain ⟨W0, hW0⟩ : ∃ W0, W0 = ((w.alloc (.cells #[.int .u64 (lim (A) 0), .int .u64 (lim (A) 1), .int .u64 (lim (A) 2), .int .u64 (lim (A) 3), .int .u64 (lim (C) 0), .int .u64 (lim (C) 1), .int .u64 (lim (C) 2), .int .u64 (lim (C) 3), .int .u64 (lim (B) 0), .int .u64 (lim (B) 1), .int .u64 (lim (B) 2), .int .u64 (lim (B) 3), .int .u64 (lim (D) 0), .int .u64 (lim (D) 1), .int .u64 (lim (D) 2), .int .u64 (lim (D) 3)] 97)).alloc (.cells #[.int .u64 0, .int .u64 0, .int .u64 0, .int .u64 0, .int .u64 0, .int .u64 0, .int .u64 0, .int .u64 0, .int .u64 0, .int .u64 0, .int .u64 0, .int .u64 0, .int .u64 0, .int .u64 0, .int .u64 0, .int .u64 0] 97)) := ⟨_, rfl⟩
  have Af : Arr W0 (w.heap.size) 16 (fun j => .int .u64 (lx [A, C, B, D] j)) := by subst hW0; refine Arr.mk16 ?_ ?_ ?_ ?_ ?_ ?_ ?_ ?_ ?_ ?_ ?_ ?_ ?_ ?_ ?_ ?_ ?_ <;> simp [go_sem, lx]
  have Az : Arr W0 (w.heap.size + 1) 16 (fun _ => .int .u64 0) := by subst hW0; refine Arr.mk16 ?_ ?_ ?_ ?_ ?_ ?_ ?_ ?_ ?_ ?_ ?_ ?_ ?_ ?_ ?_ ?_ ?_ <;> simp [go_sem]
  have hB : Below w.heap.size w W0 := by subst hW0; go_grown
  subst hW0
  have rf0 := Af.cg 0 (by omega) (.int .u64 (lim (A) 0)) rfl
  have rf1 := Af.cg 1 (by omega) (.int .u64 (lim (A) 1)) rfl
  have rf2 := Af.cg 2 (by omega) (.int .u64 (lim (A) 2)) rfl
  have rf3 := Af.cg 3 (by omega) (.int .u64 (lim (A) 3)) rfl
  have rf4 := Af.cg 4 (by omega) (.int .u64 (lim (C) 0)) rfl
  have rf5 := Af.cg 5 (by omega) (.int .u64 (lim (C) 1)) rfl
  have rf6 := Af.cg 6 (by omega) (.int .u64 (lim (C) 2)) rfl
  have rf7 := Af.cg 7 (by omega) (.int .u64 (lim (C) 3)) rfl
  have rf8 := Af.cg 8 (by omega) (.int .u64 (lim (B) 0)) rfl
  have rf9 := Af.cg 9 (by omega) (.int .u64 (lim (B) 1)) rfl
  have rf10 := Af.cg 10 (by omega) (.int .u64 (lim (B) 2)) rfl
  have rf11 := Af.cg 11 (by omega) (.int .u64 (lim (B) 3)) rfl
  have rf12 := Af.cg 12 (by omega) (.int .u64 (lim (D) 0)) rfl
  have rf13 := Af.cg 13 (by omega) (.int .u64 (lim (D) 1)) rfl
  have rf14 := Af.cg 14 (by omega) (.int .u64 (lim (D) 2)) rfl
  have rf15 := Af.cg 15 (by omega) (.int .u64 (lim (D) 3)) rfl
  refine wp_region_below_tail 8 (by kernel_rfl) (by kernel_rfl) ?_
  simp only [List.take_succ_cons, List.take_zero, List.drop_succ_cons, List.drop_zero]
  repeat (go_big_quiet_step (fail))
  refine wpQuiet_nil ?_
  intro w1 hw'
  obtain ⟨⟨dq, osq⟩, hw''⟩ := hw'
  have hb := below_of hw''
  clear hw''
  replace Az := Arr.to' Az hb
  replace hB := Bel.call hB hb
  clear hb rf0 rf1 rf2 rf3 rf4 rf5 rf6 rf7 rf8 rf9 rf10 rf11 rf12 rf13 rf14 rf15 Af
  have hS := hB.size
  have cz := Az.c
  have zz := Az.z
  go_wp2_with fail
  refine bodyPost_ret (v := nv4 B D A C) (by simp [results, Try.results104, go_sem, cz]) rfl ⟨rfl, ?_⟩
  go_grown
def sa (A C : Int) : Int := fm (fm (fa A C) (fa A C)) (fm (fs A C) (fs A C))
def sc' (A C : Int) : Int := fm (fs (fm (fa A C) (fa A C)) (fm (fs A C) (fs A C))) (fa (fm (fa A C) (fa A C)) (fm 121665 (fs (fm (fa A C) (fa A C)) (fm (fs A C) (fs A C)))))
def sda (A C B D : Int) : Int := fm (fs B D) (fa A C)
def scb (A C B D : Int) : Int := fm (fa B D) (fs A C)
def sb (A C B D : Int) : Int := fm (fa (sda A C B D) (scb A C B D)) (fa (sda A C B D) (scb A C B D))
def sd (A C B D U : Int) : Int := fm U (fm (fs (sda A C B D) (scb A C B D)) (fs (sda A C B D) (scb A C B D)))
set_option maxHeartbeats 8000000 in
theorem step_any (A C B D U : Int) (iA : Inn A) (iC : Inn C) (iB : Inn B) (iD : Inn D) (iU : Inn U) (w : World) : Calls Try.prog 105 #[nv4 A C B D, nv U] w fun e w' => e = .returned (nv4 (sa A C) (sc' A C) (sb A C B D) (sd A C B D U)) ∧ Below w.heap.size w w' := by
  go_enter Try.func105, Try.ntmps105
  obtain ⟨W0, hW0⟩ : ∃ W0, W0 = (((w.alloc (.cells #[.int .u64 (lim (A) 0), .int .u64 (lim (A) 1), .int .u64 (lim (A) 2), .int .u64 (lim (A) 3), .int .u64 (lim (C) 0), .int .u64 (lim (C) 1), .int .u64 (lim (C) 2), .int .u64 (lim (C) 3), .int .u64 (lim (B) 0), .int .u64 (lim (B) 1), .int .u64 (lim (B) 2), .int .u64 (lim (B) 3), .int .u64 (lim (D) 0), .int .u64 (lim (D) 1), .int .u64 (lim (D) 2), .int .u64 (lim (D) 3)] 97)).alloc (.cells #[.int .u64 (lim (U) 0), .int .u64 (lim (U) 1), .int .u64 (lim (U) 2), .int .u64 (lim (U) 3)] 24)).alloc (.cells #[.int .u64 0, .int .u64 0, .int .u64 0, .int .u64 0, .int .u64 0, .int .u64 0, .int .u64 0, .int .u64 0, .int .u64 0, .int .u64 0, .int .u64 0, .int .u64 0, .int .u64 0, .int .u64 0, .int .u64 0, .int .u64 0] 97)) := ⟨_, rfl⟩
  have Af : Arr W0 (w.heap.size) 16 (fun j => .int .u64 (lx [A, C, B, D] j)) := by subst hW0; refine Arr.mk16 ?_ ?_ ?_ ?_ ?_ ?_ ?_ ?_ ?_ ?_ ?_ ?_ ?_ ?_ ?_ ?_ ?_ <;> simp [go_sem, lx]
  have Au : Arr W0 (w.heap.size + 1) 4 (fun j => .int .u64 (lim (U) j)) := by subst hW0; refine Arr.mk4 ?_ ?_ ?_ ?_ ?_ ?_ ?_ ?_ <;> simp [go_sem]
  have Az : Arr W0 (w.heap.size + 1 + 1) 16 (fun _ => .int .u64 0) := by subst hW0; refine Arr.mk16 ?_ ?_ ?_ ?_ ?_ ?_ ?_ ?_ ?_ ?_ ?_ ?_ ?_ ?_ ?_ ?_ ?_ <;> simp [go_sem]
  have hB : Below w.heap.size w W0 := by subst hW0; go_grown
  subst hW0
  go_wp2_with fail
  refine (sumLess A C iA iC _).mono ?_
  rintro e w1 ⟨rfl, hb⟩
  replace Af := Arr.to' Af hb
  replace Au := Arr.to' Au hb
  replace Az := Arr.to' Az hb
  replace hB := Bel.call hB hb
  clear hb
  have lf_2 := Af.lt
  have lu_2 := Au.lt
  have lz_2 := Az.lt
  have lB_2 := hB.size
  replace Af := (Arr.al' (Arr.al' Af (.cells #[.int .u64 (lim (fa A C) 0), .int .u64 (lim (fa A C) 1), .int .u64 (lim (fa A C) 2), .int .u64 (lim (fa A C) 3)] 24)) (.cells #[.int .u64 (lim (fs A C) 0), .int .u64 (lim (fs A C) 1), .int .u64 (lim (fs A C) 2), .int .u64 (lim (fs A C) 3)] 24))
  replace Au := (Arr.al' (Arr.al' Au (.cells #[.int .u64 (lim (fa A C) 0), .int .u64 (lim (fa A C) 1), .int .u64 (lim (fa A C) 2), .int .u64 (lim (fa A C) 3)] 24)) (.cells #[.int .u64 (lim (fs A C) 0), .int .u64 (lim (fs A C) 1), .int .u64 (lim (fs A C) 2), .int .u64 (lim (fs A C) 3)] 24))
  replace Az := (Arr.al' (Arr.al' Az (.cells #[.int .u64 (lim (fa A C) 0), .int .u64 (lim (fa A C) 1), .int .u64 (lim (fa A C) 2), .int .u64 (lim (fa A C) 3)] 24)) (.cells #[.int .u64 (lim (fs A C) 0), .int .u64 (lim (fs A C) 1), .int .u64 (lim (fs A C) 2), .int .u64 (lim (fs A C) 3)] 24))
  obtain ⟨W0, hW0⟩ : ∃ W0, W0 = ((w1.alloc (.cells #[.int .u64 (lim (fa A C) 0), .int .u64 (lim (fa A C) 1), .int .u64 (lim (fa A C) 2), .int .u64 (lim (fa A C) 3)] 24)).alloc (.cells #[.int .u64 (lim (fs A C) 0), .int .u64 (lim (fs A C) 1), .int .u64 (lim (fs A C) 2), .int .u64 (lim (fs A C) 3)] 24)) := ⟨_, rfl⟩
  have As : Arr W0 (w1.heap.size) 4 (fun j => .int .u64 (lim (fa A C) j)) := by subst hW0; refine Arr.mk4 ?_ ?_ ?_ ?_ ?_ ?_ ?_ ?_ <;> simp [go_sem]
  have Al : Arr W0 (w1.heap.size + 1) 4 (fun j => .int .u64 (lim (fs A C) j)) := by subst hW0; refine Arr.mk4 ?_ ?_ ?_ ?_ ?_ ?_ ?_ ?_ <;> simp [go_sem]
  subst hW0
  replace hB := (Bel.al (Bel.al hB (.cells #[.int .u64 (lim (fa A C) 0), .int .u64 (lim (fa A C) 1), .int .u64 (lim (fa A C) 2), .int .u64 (lim (fa A C) 3)] 24)) (.cells #[.int .u64 (lim (fs A C) 0), .int .u64 (lim (fs A C) 1), .int .u64 (lim (fs A C) 2), .int .u64 (lim (fs A C) 3)] 24))
  have cf_0 := Af.cv 0 (by omega) (.int .u64 (lim (A) 0)) rfl
  have cf_1 := Af.cv 1 (by omega) (.int .u64 (lim (A) 1)) rfl
  have cf_2 := Af.cv 2 (by omega) (.int .u64 (lim (A) 2)) rfl
  have cf_3 := Af.cv 3 (by omega) (.int .u64 (lim (A) 3)) rfl
  have cf_4 := Af.cv 4 (by omega) (.int .u64 (lim (C) 0)) rfl
  have cf_5 := Af.cv 5 (by omega) (.int .u64 (lim (C) 1)) rfl
  have cf_6 := Af.cv 6 (by omega) (.int .u64 (lim (C) 2)) rfl
  have cf_7 := Af.cv 7 (by omega) (.int .u64 (lim (C) 3)) rfl
  have cf_8 := Af.cv 8 (by omega) (.int .u64 (lim (B) 0)) rfl
  have cf_9 := Af.cv 9 (by omega) (.int .u64 (lim (B) 1)) rfl
  have cf_10 := Af.cv 10 (by omega) (.int .u64 (lim (B) 2)) rfl
  have cf_11 := Af.cv 11 (by omega) (.int .u64 (lim (B) 3)) rfl
  have cf_12 := Af.cv 12 (by omega) (.int .u64 (lim (D) 0)) rfl
  have cf_13 := Af.cv 13 (by omega) (.int .u64 (lim (D) 1)) rfl
  have cf_14 := Af.cv 14 (by omega) (.int .u64 (lim (D) 2)) rfl
  have cf_15 := Af.cv 15 (by omega) (.int .u64 (lim (D) 3)) rfl
  go_wp2_with fail
  refine (sumLess B D iB iD _).mono ?_
  rintro e w2 ⟨rfl, hb⟩
  replace Au := Arr.to' Au hb
  replace Az := Arr.to' Az hb
  replace As := Arr.to' As hb
  replace Al := Arr.to' Al hb
  replace hB := Bel.call hB hb
  clear hb cf_0 cf_1 cf_2 cf_3 cf_4 cf_5 cf_6 cf_7 cf_8 cf_9 cf_10 cf_11 cf_12 cf_13 cf_14 cf_15 Af
  have lu_3 := Au.lt
  have lz_3 := Az.lt
  have ls_3 := As.lt
  have ll_3 := Al.lt
  have lB_3 := hB.size
  replace Au := (Arr.al' (Arr.al' Au (.cells #[.int .u64 (lim (fa B D) 0), .int .u64 (lim (fa B D) 1), .int .u64 (lim (fa B D) 2), .int .u64 (lim (fa B D) 3)] 24)) (.cells #[.int .u64 (lim (fs B D) 0), .int .u64 (lim (fs B D) 1), .int .u64 (lim (fs B D) 2), .int .u64 (lim (fs B D) 3)] 24))
  replace Az := (Arr.al' (Arr.al' Az (.cells #[.int .u64 (lim (fa B D) 0), .int .u64 (lim (fa B D) 1), .int .u64 (lim (fa B D) 2), .int .u64 (lim (fa B D) 3)] 24)) (.cells #[.int .u64 (lim (fs B D) 0), .int .u64 (lim (fs B D) 1), .int .u64 (lim (fs B D) 2), .int .u64 (lim (fs B D) 3)] 24))
  replace As := (Arr.al' (Arr.al' As (.cells #[.int .u64 (lim (fa B D) 0), .int .u64 (lim (fa B D) 1), .int .u64 (lim (fa B D) 2), .int .u64 (lim (fa B D) 3)] 24)) (.cells #[.int .u64 (lim (fs B D) 0), .int .u64 (lim (fs B D) 1), .int .u64 (lim (fs B D) 2), .int .u64 (lim (fs B D) 3)] 24))
  replace Al := (Arr.al' (Arr.al' Al (.cells #[.int .u64 (lim (fa B D) 0), .int .u64 (lim (fa B D) 1), .int .u64 (lim (fa B D) 2), .int .u64 (lim (fa B D) 3)] 24)) (.cells #[.int .u64 (lim (fs B D) 0), .int .u64 (lim (fs B D) 1), .int .u64 (lim (fs B D) 2), .int .u64 (lim (fs B D) 3)] 24))
  obtain ⟨W0, hW0⟩ : ∃ W0, W0 = ((w2.alloc (.cells #[.int .u64 (lim (fa B D) 0), .int .u64 (lim (fa B D) 1), .int .u64 (lim (fa B D) 2), .int .u64 (lim (fa B D) 3)] 24)).alloc (.cells #[.int .u64 (lim (fs B D) 0), .int .u64 (lim (fs B D) 1), .int .u64 (lim (fs B D) 2), .int .u64 (lim (fs B D) 3)] 24)) := ⟨_, rfl⟩
  have Ap : Arr W0 (w2.heap.size) 4 (fun j => .int .u64 (lim (fa B D) j)) := by subst hW0; refine Arr.mk4 ?_ ?_ ?_ ?_ ?_ ?_ ?_ ?_ <;> simp [go_sem]
  have Aq : Arr W0 (w2.heap.size + 1) 4 (fun j => .int .u64 (lim (fs B D) j)) := by subst hW0; refine Arr.mk4 ?_ ?_ ?_ ?_ ?_ ?_ ?_ ?_ <;> simp [go_sem]
  subst hW0
  replace hB := (Bel.al (Bel.al hB (.cells #[.int .u64 (lim (fa B D) 0), .int .u64 (lim (fa B D) 1), .int .u64 (lim (fa B D) 2), .int .u64 (lim (fa B D) 3)] 24)) (.cells #[.int .u64 (lim (fs B D) 0), .int .u64 (lim (fs B D) 1), .int .u64 (lim (fs B D) 2), .int .u64 (lim (fs B D) 3)] 24))
  have rs0 := fun ds os => cell_regrown (As.c 0 (by omega)) ds os
  have rs1 := fun ds os => cell_regrown (As.c 1 (by omega)) ds os
  have rs2 := fun ds os => cell_regrown (As.c 2 (by omega)) ds os
  have rs3 := fun ds os => cell_regrown (As.c 3 (by omega)) ds os
  have rl0 := fun ds os => cell_regrown (Al.c 0 (by omega)) ds os
  have rl1 := fun ds os => cell_regrown (Al.c 1 (by omega)) ds os
  have rl2 := fun ds os => cell_regrown (Al.c 2 (by omega)) ds os
  have rl3 := fun ds os => cell_regrown (Al.c 3 (by omega)) ds os
  have rp0 := fun ds os => cell_regrown (Ap.c 0 (by omega)) ds os
  have rp1 := fun ds os => cell_regrown (Ap.c 1 (by omega)) ds os
  have rp2 := fun ds os => cell_regrown (Ap.c 2 (by omega)) ds os
  have rp3 := fun ds os => cell_regrown (Ap.c 3 (by omega)) ds os
  have rq0 := fun ds os => cell_regrown (Aq.c 0 (by omega)) ds os
  have rq1 := fun ds os => cell_regrown (Aq.c 1 (by omega)) ds os
  have rq2 := fun ds os => cell_regrown (Aq.c 2 (by omega)) ds os
  have rq3 := fun ds os => cell_regrown (Aq.c 3 (by omega)) ds os
  have ru0 := fun ds os => cell_regrown (Au.c 0 (by omega)) ds os
  have ru1 := fun ds os => cell_regrown (Au.c 1 (by omega)) ds os
  have ru2 := fun ds os => cell_regrown (Au.c 2 (by omega)) ds os
  have ru3 := fun ds os => cell_regrown (Au.c 3 (by omega)) ds os
  go_wp2_with fail
  refine wp_region_below_tail 12 (by kernel_rfl) (by kernel_rfl) ?_
  simp only [List.take_succ_cons, List.take_zero, List.drop_succ_cons, List.drop_zero]
  repeat (go_big_quiet_step (first | (go_at_call 114; with_reducible exact Calls.regrown_of (doubled_any _ _ (by first | exact inn_fm _ _ | exact inn_fa _ _ | exact inn_fs _ _ | assumption) (by first | exact inn_fm _ _ | exact inn_fa _ _ | exact inn_fs _ _ | assumption) _)) | (go_at_call 116; with_reducible exact Calls.regrown_of (xmul _ _ (by first | exact inn_fm _ _ | exact inn_fa _ _ | exact inn_fs _ _ | assumption) (by first | exact inn_fm _ _ | exact inn_fa _ _ | exact inn_fs _ _ | assumption) _)) | (go_at_call 115; with_reducible exact Calls.regrown_of (added_any _ _ _ (by first | exact inn_fm _ _ | exact inn_fa _ _ | exact inn_fs _ _ | assumption) (by first | exact inn_fm _ _ | exact inn_fa _ _ | exact inn_fs _ _ | assumption) (by first | exact inn_fm _ _ | exact inn_fa _ _ | exact inn_fs _ _ | assumption) _))))
  refine wpQuiet_nil ?_
  intro w3 hw'
  obtain ⟨⟨dq, osq⟩, hw''⟩ := hw'
  have hb := below_of hw''
  clear hw''
  replace Az := Arr.to' Az hb
  replace hB := Bel.call hB hb
  clear hb rs0 rs1 rs2 rs3 rl0 rl1 rl2 rl3 rp0 rp1 rp2 rp3 rq0 rq1 rq2 rq3 ru0 ru1 ru2 ru3 Au As Al Ap Aq
  have hS := hB.size
  have cz := Az.c
  have zz := Az.z
  go_wp2_with fail
  refine bodyPost_ret (v := nv4 (sa A C) (sc' A C) (sb A C B D) (sd A C B D U)) (by simp [results, Try.results105, go_sem, cz, sa, sc', sb, sd, sda, scb]) rfl ⟨rfl, ?_⟩
  go_grown
set_option maxHeartbeats 4000000 in
theorem value_core (A C Y R b : Int) (w : World)
    (C64 : ∀ W, Calls Try.prog 64 #[nv pp, .agg #[.int .u64 2, .int .u64 0, .int .u64 0, .int .u64 0]] W fun e w' => e = .returned (.tuple #[nv (pp - 2), .int .u64 b]) ∧ Below W.heap.size W w')
    (CP : ∀ W, Calls Try.prog 38 #[nv C, nv (pp - 2), nv pp] W fun e w' => e = .returned (nv Y) ∧ Below W.heap.size W w')
    (CM : ∀ W, Calls Try.prog 116 #[nv A, nv Y] W fun e w' => e = .returned (nv R) ∧ Below W.heap.size W w') :
    Calls Try.prog 106 #[nv2 A C] w fun e w' => e = .returned (nv R) ∧ Below w.heap.size w w' := by
  go_enter Try.func106, Try.ntmps106
  obtain ⟨W0, hW0⟩ : ∃ W0, W0 = ((w.alloc (.cells #[.int .u64 (lim (A) 0), .int .u64 (lim (A) 1), .int .u64 (lim (A) 2), .int .u64 (lim (A) 3), .int .u64 (lim (C) 0), .int .u64 (lim (C) 1), .int .u64 (lim (C) 2), .int .u64 (lim (C) 3)] 96)).alloc (.cells #[.int .u64 0, .int .u64 0, .int .u64 0, .int .u64 0] 24)) := ⟨_, rfl⟩
  have Af : Arr W0 (w.heap.size) 8 (fun j => .int .u64 (lx [A, C] j)) := by subst hW0; refine Arr.mk8' ?_ ?_ ?_ ?_ ?_ ?_ ?_ ?_ ?_ <;> simp [go_sem, lx]
  have Az : Arr W0 (w.heap.size + 1) 4 (fun _ => .int .u64 0) := by subst hW0; refine Arr.mk4 ?_ ?_ ?_ ?_ ?_ ?_ ?_ ?_ <;> simp [go_sem]
  have hB : Below w.heap.size w W0 := by subst hW0; go_grown
  subst hW0
  go_wp2_with fail
  refine (p21 _).mono ?_
  rintro e w1 ⟨rfl, hb⟩
  replace Af := Arr.to' Af hb
  replace Az := Arr.to' Az hb
  replace hB := Bel.call hB hb
  clear hb
  go_wp2_with fail
  refine (C64 _).mono ?_
  rintro e w2 ⟨rfl, hb⟩
  replace Af := Arr.to' Af hb
  replace Az := Arr.to' Az hb
  replace hB := Bel.call hB hb
  clear hb C64
  have lf_2 := Af.lt
  have lz_2 := Az.lt
  have lB_2 := hB.size
  replace Af := (Arr.al' Af (.cells #[.int .u64 (lim (pp - 2) 0), .int .u64 (lim (pp - 2) 1), .int .u64 (lim (pp - 2) 2), .int .u64 (lim (pp - 2) 3)] 24))
  replace Az := (Arr.al' Az (.cells #[.int .u64 (lim (pp - 2) 0), .int .u64 (lim (pp - 2) 1), .int .u64 (lim (pp - 2) 2), .int .u64 (lim (pp - 2) 3)] 24))
  have At : Arr ((w2.alloc (.cells #[.int .u64 (lim (pp - 2) 0), .int .u64 (lim (pp - 2) 1), .int .u64 (lim (pp - 2) 2), .int .u64 (lim (pp - 2) 3)] 24))) (w2.heap.size) 4 (fun j => .int .u64 (lim (pp - 2) j)) := by refine Arr.mk4 ?_ ?_ ?_ ?_ ?_ ?_ ?_ ?_ <;> simp [go_sem]
  replace hB := (Bel.al hB (.cells #[.int .u64 (lim (pp - 2) 0), .int .u64 (lim (pp - 2) 1), .int .u64 (lim (pp - 2) 2), .int .u64 (lim (pp - 2) 3)] 24))
  have rf0 := Af.cg 0 (by omega) (.int .u64 (lim (A) 0)) rfl
  have rf1 := Af.cg 1 (by omega) (.int .u64 (lim (A) 1)) rfl
  have rf2 := Af.cg 2 (by omega) (.int .u64 (lim (A) 2)) rfl
  have rf3 := Af.cg 3 (by omega) (.int .u64 (lim (A) 3)) rfl
  have rf4 := Af.cg 4 (by omega) (.int .u64 (lim (C) 0)) rfl
  have rf5 := Af.cg 5 (by omega) (.int .u64 (lim (C) 1)) rfl
  have rf6 := Af.cg 6 (by omega) (.int .u64 (lim (C) 2)) rfl
  have rf7 := Af.cg 7 (by omega) (.int .u64 (lim (C) 3)) rfl
  have rt0 := fun ds os => cell_regrown (At.c 0 (by omega)) ds os
  have rt1 := fun ds os => cell_regrown (At.c 1 (by omega)) ds os
  have rt2 := fun ds os => cell_regrown (At.c 2 (by omega)) ds os
  have rt3 := fun ds os => cell_regrown (At.c 3 (by omega)) ds os
  go_wp2_with fail
  refine wp_region_below_tail 8 (by kernel_rfl) (by kernel_rfl) ?_
  simp only [List.take_succ_cons, List.take_zero, List.drop_succ_cons, List.drop_zero]
  repeat (go_big_quiet_step (first | (go_at_call 21; exact Calls.regrown_of (p21 _)) | (go_at_call 38; exact Calls.regrown_of (CP _)) | (go_at_call 116; exact Calls.regrown_of (CM _))))
  refine wpQuiet_nil ?_
  intro w3 hw'
  obtain ⟨⟨dq, osq⟩, hw''⟩ := hw'
  have hb := below_of hw''
  clear hw''
  replace Az := Arr.to' Az hb
  replace hB := Bel.call hB hb
  clear hb rf0 rf1 rf2 rf3 rf4 rf5 rf6 rf7 rt0 rt1 rt2 rt3 Af At CP CM
  have hS := hB.size
  have cz := Az.c
  have zz := Az.z
  go_wp2_with fail
  refine bodyPost_ret (v := nv R) (by simp [results, Try.results106, go_sem, cz]) rfl ⟨rfl, ?_⟩
  go_grown
def vl (A C : Int) : Int := fm A (C ^ (pp - 2).toNat % pp)
theorem inn_p2 : Inn (pp - 2) := ⟨by decide, by decide⟩
theorem value_any (A C : Int) (iA : Inn A) (iC : Inn C) (w : World) : Calls Try.prog 106 #[nv2 A C] w fun e w' => e = .returned (nv (vl A C)) ∧ Below w.heap.size w w' := by
  refine value_core A C _ _ (bor pp 2) w (fun W => ?_) (fun W => ?_) (fun W => xmul A (C ^ (pp - 2).toNat % pp) iA (inn_mod _) W)
  · have := sub_any pp 2 inn_pp.1 inn_pp.2 (by decide) (by decide) W
    rw [nv_low 2 (by decide) (by decide)] at this
    exact this
  · have := pow_any C (pp - 2) pp iC.1 iC.2 inn_p2.1 inn_p2.2 inn_pp.1 inn_pp.2 W
    rw [md_pos _ pp_pos] at this
    exact this
end Go.Proofs.Ytpigofooblmdhaa
