/- The walks of EcdsaChecks and EcdsaSigns. -/
import Derived.Deep.Cut
import Derived.Test.YtoolbnbfbegjaaaGreatJ38
set_option linter.all false
set_option maxRecDepth 100000
namespace Go.Proofs.YtoolbnbfbegjaaaGreat
open Go.RowKit Go.Sort
theorem eqP (X Y : Int) (i : Bool) (w : World) : (Op.equalIn 10000 28 (pv X Y i) (pv X Y i)).run Tryz.prog w = .ok true w := by
  rw [eq26]; simp [e4]
attribute [local go_sem] eq24
set_option maxHeartbeats 8000000 in
theorem checks_core (X Y R S r : Int) (i : Bool) (d : ByteArray) (w : World)
    (C1 : ∀ W, Calls Tryz.prog 14 #[pv X Y i, .string d, gv R S] W fun e w' => e = .returned (.int .i64 r) ∧ Below W.heap.size W w')
    (C2 : ∀ W, Calls Tryz.prog 15 #[pv X Y i, .string d, gv R S] W fun e w' => e = .returned (.int .i64 r) ∧ Below W.heap.size W w')
    (C3 : ∀ W, Calls Tryz.prog 13 #[] W fun e w' => e = .returned (.bool true) ∧ Below W.heap.size W w') :
    Calls Tryz.prog 4 #[pv X Y i, .string d, gv R S] w fun e w' => e = .returned (.bool true) ∧ Below w.heap.size w w' := by
  go_enter Tryz.func4, Tryz.ntmps4
  go_wp2_with fail
  obtain ⟨W0, hW0⟩ : ∃ W0, W0 = ((w.alloc (.cells #[.int .u64 (lim (X) 0), .int .u64 (lim (X) 1), .int .u64 (lim (X) 2), .int .u64 (lim (X) 3), .int .u64 (lim (Y) 0), .int .u64 (lim (Y) 1), .int .u64 (lim (Y) 2), .int .u64 (lim (Y) 3), .bool i] 28)).alloc (.cells #[.int .u64 (lim (R) 0), .int .u64 (lim (R) 1), .int .u64 (lim (R) 2), .int .u64 (lim (R) 3), .int .u64 (lim (S) 0), .int .u64 (lim (S) 1), .int .u64 (lim (S) 2), .int .u64 (lim (S) 3)] 26)) := ⟨_, rfl⟩
  have Aq : Arr W0 (w.heap.size) 9 (px (X) (Y) i) := by subst hW0; refine Arr.mk9p ?_ ?_ ?_ ?_ ?_ ?_ ?_ ?_ ?_ ?_ <;> simp [go_sem, px, sx, zx]
  have As : Arr W0 (w.heap.size + 1) 8 (sgx (R) (S)) := by subst hW0; refine Arr.mk8' ?_ ?_ ?_ ?_ ?_ ?_ ?_ ?_ ?_ <;> simp [go_sem, sgx, zg]
  have hB : Below w.heap.size w W0 := by subst hW0; go_grown
  subst hW0
  obtain ⟨rq0, rq1, rq2, rq3, rq4, rq5, rq6, rq7, rq8⟩ := Arr.g_px Aq
  obtain ⟨rs0, rs1, rs2, rs3, rs4, rs5, rs6, rs7⟩ := Arr.g_sgx As
  refine wp_region_quiet_below (by kernel_rfl) (by kernel_rfl) ?_
  repeat (go_big_quiet_step (first | (go_at_call 14; with_reducible first | exact Calls.regrown_of (C1 _)) | (go_at_call 15; with_reducible first | exact Calls.regrown_of (C2 _)) | (go_at_call 13; with_reducible first | exact Calls.regrown_of (C3 _))))
  refine wpQuiet_nil ?_
  intro w1 hw'
  obtain ⟨⟨dq, osq⟩, hw''⟩ := hw'
  have hb := below_of hw''
  clear hw''
  replace Aq := Arr.to' Aq hb
  replace As := Arr.to' As hb
  replace hB := Bel.call hB hb
  clear hb rq0 rq1 rq2 rq3 rq4 rq5 rq6 rq7 rq8 rs0 rs1 rs2 rs3 rs4 rs5 rs6 rs7
  go_wp2_with fail
  go_ret
  exact ⟨rfl, hB⟩
set_option maxHeartbeats 8000000 in
theorem signs_core (D K R S X Y ea A B eb L M : Int) (i : Bool) (d : ByteArray) (w : World)
    (C1 : ∀ W, Calls Tryz.prog 7 #[nv D] W fun e w' => e = .returned (.tuple #[pv X Y i, .int .i64 ea]) ∧ Below W.heap.size W w')
    (C2 : ∀ W, Calls Tryz.prog 8 #[nv D] W fun e w' => e = .returned (.tuple #[pv X Y i, .int .i64 ea]) ∧ Below W.heap.size W w')
    (C3 : ∀ W, Calls Tryz.prog 9 #[nv D, nv K, .string d] W fun e w' => e = .returned (.tuple #[gv A B, .int .i64 eb]) ∧ Below W.heap.size W w')
    (C4 : ∀ W, Calls Tryz.prog 10 #[nv D, nv K, .string d] W fun e w' => e = .returned (.tuple #[gv A B, .int .i64 eb]) ∧ Below W.heap.size W w')
    (C5 : ∀ W, Calls Tryz.prog 11 #[gv R S] W fun e w' => e = .returned (gv L M) ∧ Below W.heap.size W w')
    (C6 : ∀ W, Calls Tryz.prog 12 #[gv R S] W fun e w' => e = .returned (gv L M) ∧ Below W.heap.size W w')
    (C7 : ∀ W, Calls Tryz.prog 13 #[] W fun e w' => e = .returned (.bool true) ∧ Below W.heap.size W w') :
    Calls Tryz.prog 3 #[nv D, nv K, .string d, gv R S] w fun e w' => e = .returned (.bool true) ∧ Below w.heap.size w w' := by
  go_enter Tryz.func3, Tryz.ntmps3
  obtain ⟨W0, hW0⟩ : ∃ W0, W0 = (((w.alloc (.cells #[.int .u64 (lim (D) 0), .int .u64 (lim (D) 1), .int .u64 (lim (D) 2), .int .u64 (lim (D) 3)] 24)).alloc (.cells #[.int .u64 (lim (K) 0), .int .u64 (lim (K) 1), .int .u64 (lim (K) 2), .int .u64 (lim (K) 3)] 24)).alloc (.cells #[.int .u64 (lim (R) 0), .int .u64 (lim (R) 1), .int .u64 (lim (R) 2), .int .u64 (lim (R) 3), .int .u64 (lim (S) 0), .int .u64 (lim (S) 1), .int .u64 (lim (S) 2), .int .u64 (lim (S) 3)] 26)) := ⟨_, rfl⟩
  have Ad : Arr W0 (w.heap.size) 4 (fun j => .int .u64 (lim (D) j)) := by subst hW0; refine Arr.mk4 ?_ ?_ ?_ ?_ ?_ ?_ ?_ ?_ <;> simp [go_sem]
  have Ak : Arr W0 (w.heap.size + 1) 4 (fun j => .int .u64 (lim (K) j)) := by subst hW0; refine Arr.mk4 ?_ ?_ ?_ ?_ ?_ ?_ ?_ ?_ <;> simp [go_sem]
  have As : Arr W0 (w.heap.size + 1 + 1) 8 (sgx (R) (S)) := by subst hW0; refine Arr.mk8' ?_ ?_ ?_ ?_ ?_ ?_ ?_ ?_ ?_ <;> simp [go_sem, sgx, zg]
  have hB : Below w.heap.size w W0 := by subst hW0; go_grown
  subst hW0
  have cd := Ad.c
  go_wp2_with fail
  refine (C1 _).mono ?_
  rintro e w1 ⟨rfl, hb⟩
  replace Ad := Arr.to' Ad hb
  replace Ak := Arr.to' Ak hb
  replace As := Arr.to' As hb
  replace hB := Bel.call hB hb
  clear hb cd
  have ld_2 := Ad.lt
  have lk_2 := Ak.lt
  have ls_2 := As.lt
  have lB_2 := hB.size
  replace Ad := (Arr.al' Ad (.cells #[.int .u64 (lim (X) 0), .int .u64 (lim (X) 1), .int .u64 (lim (X) 2), .int .u64 (lim (X) 3), .int .u64 (lim (Y) 0), .int .u64 (lim (Y) 1), .int .u64 (lim (Y) 2), .int .u64 (lim (Y) 3), .bool i] 28))
  replace Ak := (Arr.al' Ak (.cells #[.int .u64 (lim (X) 0), .int .u64 (lim (X) 1), .int .u64 (lim (X) 2), .int .u64 (lim (X) 3), .int .u64 (lim (Y) 0), .int .u64 (lim (Y) 1), .int .u64 (lim (Y) 2), .int .u64 (lim (Y) 3), .bool i] 28))
  replace As := (Arr.al' As (.cells #[.int .u64 (lim (X) 0), .int .u64 (lim (X) 1), .int .u64 (lim (X) 2), .int .u64 (lim (X) 3), .int .u64 (lim (Y) 0), .int .u64 (lim (Y) 1), .int .u64 (lim (Y) 2), .int .u64 (lim (Y) 3), .bool i] 28))
  have Aa : Arr ((w1.alloc (.cells #[.int .u64 (lim (X) 0), .int .u64 (lim (X) 1), .int .u64 (lim (X) 2), .int .u64 (lim (X) 3), .int .u64 (lim (Y) 0), .int .u64 (lim (Y) 1), .int .u64 (lim (Y) 2), .int .u64 (lim (Y) 3), .bool i] 28))) (w1.heap.size) 9 (px (X) (Y) i) := by refine Arr.mk9p ?_ ?_ ?_ ?_ ?_ ?_ ?_ ?_ ?_ ?_ <;> simp [go_sem, px, sx, zx]
  replace hB := (Bel.al hB (.cells #[.int .u64 (lim (X) 0), .int .u64 (lim (X) 1), .int .u64 (lim (X) 2), .int .u64 (lim (X) 3), .int .u64 (lim (Y) 0), .int .u64 (lim (Y) 1), .int .u64 (lim (Y) 2), .int .u64 (lim (Y) 3), .bool i] 28))
  have cd := Ad.c
  go_wp2_with fail
  refine (C2 _).mono ?_
  rintro e w12 ⟨rfl, hb⟩
  replace Ad := Arr.to' Ad hb
  replace Ak := Arr.to' Ak hb
  replace As := Arr.to' As hb
  replace Aa := Arr.to' Aa hb
  replace hB := Bel.call hB hb
  clear hb cd
  have ld_3 := Ad.lt
  have lk_3 := Ak.lt
  have ls_3 := As.lt
  have la_3 := Aa.lt
  have lB_3 := hB.size
  replace Ad := (Arr.al' Ad (.cells #[.int .u64 (lim (X) 0), .int .u64 (lim (X) 1), .int .u64 (lim (X) 2), .int .u64 (lim (X) 3), .int .u64 (lim (Y) 0), .int .u64 (lim (Y) 1), .int .u64 (lim (Y) 2), .int .u64 (lim (Y) 3), .bool i] 28))
  replace Ak := (Arr.al' Ak (.cells #[.int .u64 (lim (X) 0), .int .u64 (lim (X) 1), .int .u64 (lim (X) 2), .int .u64 (lim (X) 3), .int .u64 (lim (Y) 0), .int .u64 (lim (Y) 1), .int .u64 (lim (Y) 2), .int .u64 (lim (Y) 3), .bool i] 28))
  replace As := (Arr.al' As (.cells #[.int .u64 (lim (X) 0), .int .u64 (lim (X) 1), .int .u64 (lim (X) 2), .int .u64 (lim (X) 3), .int .u64 (lim (Y) 0), .int .u64 (lim (Y) 1), .int .u64 (lim (Y) 2), .int .u64 (lim (Y) 3), .bool i] 28))
  replace Aa := (Arr.al' Aa (.cells #[.int .u64 (lim (X) 0), .int .u64 (lim (X) 1), .int .u64 (lim (X) 2), .int .u64 (lim (X) 3), .int .u64 (lim (Y) 0), .int .u64 (lim (Y) 1), .int .u64 (lim (Y) 2), .int .u64 (lim (Y) 3), .bool i] 28))
  have Ab : Arr ((w12.alloc (.cells #[.int .u64 (lim (X) 0), .int .u64 (lim (X) 1), .int .u64 (lim (X) 2), .int .u64 (lim (X) 3), .int .u64 (lim (Y) 0), .int .u64 (lim (Y) 1), .int .u64 (lim (Y) 2), .int .u64 (lim (Y) 3), .bool i] 28))) (w12.heap.size) 9 (px (X) (Y) i) := by refine Arr.mk9p ?_ ?_ ?_ ?_ ?_ ?_ ?_ ?_ ?_ ?_ <;> simp [go_sem, px, sx, zx]
  replace hB := (Bel.al hB (.cells #[.int .u64 (lim (X) 0), .int .u64 (lim (X) 1), .int .u64 (lim (X) 2), .int .u64 (lim (X) 3), .int .u64 (lim (Y) 0), .int .u64 (lim (Y) 1), .int .u64 (lim (Y) 2), .int .u64 (lim (Y) 3), .bool i] 28))
  have cd := Ad.c
  have ck := Ak.c
  go_wp2_with fail
  refine (C3 _).mono ?_
  rintro e w13 ⟨rfl, hb⟩
  replace Ad := Arr.to' Ad hb
  replace Ak := Arr.to' Ak hb
  replace As := Arr.to' As hb
  replace Aa := Arr.to' Aa hb
  replace Ab := Arr.to' Ab hb
  replace hB := Bel.call hB hb
  clear hb cd ck
  have ld_4 := Ad.lt
  have lk_4 := Ak.lt
  have ls_4 := As.lt
  have la_4 := Aa.lt
  have lb_4 := Ab.lt
  have lB_4 := hB.size
  replace Ad := (Arr.al' Ad (.cells #[.int .u64 (lim (A) 0), .int .u64 (lim (A) 1), .int .u64 (lim (A) 2), .int .u64 (lim (A) 3), .int .u64 (lim (B) 0), .int .u64 (lim (B) 1), .int .u64 (lim (B) 2), .int .u64 (lim (B) 3)] 26))
  replace Ak := (Arr.al' Ak (.cells #[.int .u64 (lim (A) 0), .int .u64 (lim (A) 1), .int .u64 (lim (A) 2), .int .u64 (lim (A) 3), .int .u64 (lim (B) 0), .int .u64 (lim (B) 1), .int .u64 (lim (B) 2), .int .u64 (lim (B) 3)] 26))
  replace As := (Arr.al' As (.cells #[.int .u64 (lim (A) 0), .int .u64 (lim (A) 1), .int .u64 (lim (A) 2), .int .u64 (lim (A) 3), .int .u64 (lim (B) 0), .int .u64 (lim (B) 1), .int .u64 (lim (B) 2), .int .u64 (lim (B) 3)] 26))
  replace Aa := (Arr.al' Aa (.cells #[.int .u64 (lim (A) 0), .int .u64 (lim (A) 1), .int .u64 (lim (A) 2), .int .u64 (lim (A) 3), .int .u64 (lim (B) 0), .int .u64 (lim (B) 1), .int .u64 (lim (B) 2), .int .u64 (lim (B) 3)] 26))
  replace Ab := (Arr.al' Ab (.cells #[.int .u64 (lim (A) 0), .int .u64 (lim (A) 1), .int .u64 (lim (A) 2), .int .u64 (lim (A) 3), .int .u64 (lim (B) 0), .int .u64 (lim (B) 1), .int .u64 (lim (B) 2), .int .u64 (lim (B) 3)] 26))
  have Ac : Arr ((w13.alloc (.cells #[.int .u64 (lim (A) 0), .int .u64 (lim (A) 1), .int .u64 (lim (A) 2), .int .u64 (lim (A) 3), .int .u64 (lim (B) 0), .int .u64 (lim (B) 1), .int .u64 (lim (B) 2), .int .u64 (lim (B) 3)] 26))) (w13.heap.size) 8 (sgx (A) (B)) := by refine Arr.mk8' ?_ ?_ ?_ ?_ ?_ ?_ ?_ ?_ ?_ <;> simp [go_sem, sgx, zg]
  replace hB := (Bel.al hB (.cells #[.int .u64 (lim (A) 0), .int .u64 (lim (A) 1), .int .u64 (lim (A) 2), .int .u64 (lim (A) 3), .int .u64 (lim (B) 0), .int .u64 (lim (B) 1), .int .u64 (lim (B) 2), .int .u64 (lim (B) 3)] 26))
  have cd := Ad.c
  have ck := Ak.c
  go_wp2_with fail
  refine (C4 _).mono ?_
  rintro e w14 ⟨rfl, hb⟩
  replace As := Arr.to' As hb
  replace Aa := Arr.to' Aa hb
  replace Ab := Arr.to' Ab hb
  replace Ac := Arr.to' Ac hb
  replace hB := Bel.call hB hb
  clear hb cd ck Ad Ak
  have ls_5 := As.lt
  have la_5 := Aa.lt
  have lb_5 := Ab.lt
  have lc_5 := Ac.lt
  have lB_5 := hB.size
  replace As := (Arr.al' As (.cells #[.int .u64 (lim (A) 0), .int .u64 (lim (A) 1), .int .u64 (lim (A) 2), .int .u64 (lim (A) 3), .int .u64 (lim (B) 0), .int .u64 (lim (B) 1), .int .u64 (lim (B) 2), .int .u64 (lim (B) 3)] 26))
  replace Aa := (Arr.al' Aa (.cells #[.int .u64 (lim (A) 0), .int .u64 (lim (A) 1), .int .u64 (lim (A) 2), .int .u64 (lim (A) 3), .int .u64 (lim (B) 0), .int .u64 (lim (B) 1), .int .u64 (lim (B) 2), .int .u64 (lim (B) 3)] 26))
  replace Ab := (Arr.al' Ab (.cells #[.int .u64 (lim (A) 0), .int .u64 (lim (A) 1), .int .u64 (lim (A) 2), .int .u64 (lim (A) 3), .int .u64 (lim (B) 0), .int .u64 (lim (B) 1), .int .u64 (lim (B) 2), .int .u64 (lim (B) 3)] 26))
  replace Ac := (Arr.al' Ac (.cells #[.int .u64 (lim (A) 0), .int .u64 (lim (A) 1), .int .u64 (lim (A) 2), .int .u64 (lim (A) 3), .int .u64 (lim (B) 0), .int .u64 (lim (B) 1), .int .u64 (lim (B) 2), .int .u64 (lim (B) 3)] 26))
  have Ax : Arr ((w14.alloc (.cells #[.int .u64 (lim (A) 0), .int .u64 (lim (A) 1), .int .u64 (lim (A) 2), .int .u64 (lim (A) 3), .int .u64 (lim (B) 0), .int .u64 (lim (B) 1), .int .u64 (lim (B) 2), .int .u64 (lim (B) 3)] 26))) (w14.heap.size) 8 (sgx (A) (B)) := by refine Arr.mk8' ?_ ?_ ?_ ?_ ?_ ?_ ?_ ?_ ?_ <;> simp [go_sem, sgx, zg]
  replace hB := (Bel.al hB (.cells #[.int .u64 (lim (A) 0), .int .u64 (lim (A) 1), .int .u64 (lim (A) 2), .int .u64 (lim (A) 3), .int .u64 (lim (B) 0), .int .u64 (lim (B) 1), .int .u64 (lim (B) 2), .int .u64 (lim (B) 3)] 26))
  go_wp2_with fail
  have qS := eqS
  have qP := eqP
  obtain ⟨ra0, ra1, ra2, ra3, ra4, ra5, ra6, ra7, ra8⟩ := Arr.g_px Aa
  obtain ⟨rb0, rb1, rb2, rb3, rb4, rb5, rb6, rb7, rb8⟩ := Arr.g_px Ab
  obtain ⟨rc0, rc1, rc2, rc3, rc4, rc5, rc6, rc7⟩ := Arr.g_sgx Ac
  obtain ⟨rx0, rx1, rx2, rx3, rx4, rx5, rx6, rx7⟩ := Arr.g_sgx Ax
  obtain ⟨rs0, rs1, rs2, rs3, rs4, rs5, rs6, rs7⟩ := Arr.g_sgx As
  refine wp_region_quiet_below (by kernel_rfl) (by kernel_rfl) ?_
  repeat (go_big_quiet_step (first | (go_at_call 11; with_reducible first | exact Calls.regrown_of (C5 _)) | (go_at_call 12; with_reducible first | exact Calls.regrown_of (C6 _)) | (go_at_call 13; with_reducible first | exact Calls.regrown_of (C7 _))))
  refine wpQuiet_nil ?_
  intro w5 hw'
  obtain ⟨⟨dq, osq⟩, hw''⟩ := hw'
  have hb := below_of hw''
  clear hw''
  replace As := Arr.to' As hb
  replace Aa := Arr.to' Aa hb
  replace Ab := Arr.to' Ab hb
  replace Ac := Arr.to' Ac hb
  replace Ax := Arr.to' Ax hb
  replace hB := Bel.call hB hb
  clear hb ra0 ra1 ra2 ra3 ra4 ra5 ra6 ra7 ra8 rb0 rb1 rb2 rb3 rb4 rb5 rb6 rb7 rb8 rc0 rc1 rc2 rc3 rc4 rc5 rc6 rc7 rx0 rx1 rx2 rx3 rx4 rx5 rx6 rx7 rs0 rs1 rs2 rs3 rs4 rs5 rs6 rs7
  go_wp2_with fail
  go_ret
  exact ⟨rfl, hB⟩
end Go.Proofs.YtoolbnbfbegjaaaGreat
