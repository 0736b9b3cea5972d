/- Layer 5's examples, and the walk of EcdsaOther. -/
import Derived.Deep.Cut
import Derived.Test.YtoolbnbfbegjaaaGreatJ24
import Derived.Test.YtoolbnbfbegjaaaGreatJ29
set_option linter.all false
set_option maxRecDepth 100000
namespace Go.Proofs.YtoolbnbfbegjaaaGreat
open Go.RowKit Go.Sort
theorem eqS (a0 a1 a2 a3 a4 a5 a6 a7 b0 b1 b2 b3 b4 b5 b6 b7 : Int) (w : World) :
    (Op.equalIn 10000 26 (.agg #[.int .u64 a0, .int .u64 a1, .int .u64 a2, .int .u64 a3, .int .u64 a4, .int .u64 a5, .int .u64 a6, .int .u64 a7]) (.agg #[.int .u64 b0, .int .u64 b1, .int .u64 b2, .int .u64 b3, .int .u64 b4, .int .u64 b5, .int .u64 b6, .int .u64 b7])).run Tryz.prog w =
      .ok ((a0 == b0 && (a1 == b1 && (a2 == b2 && a3 == b3))) && (a4 == b4 && (a5 == b5 && (a6 == b6 && a7 == b7)))) w := by
  rw [run_equalIn_agg (w := w) 9999 26 _ _ (by kernel_rfl) (by kernel_rfl)]
  cases h1 : (a0 == b0 && (a1 == b1 && (a2 == b2 && a3 == b3))) <;> cases h2 : (a4 == b4 && (a5 == b5 && (a6 == b6 && a7 == b7))) <;> simp [go_sem, eq24d, h1, h2]
def stS (w : World) (b : Nat) (X : Int) : World := (((w.setCell ⟨b, 4, none⟩ (.int .u64 (lim X 0))).setCell ⟨b, 5, none⟩ (.int .u64 (lim X 1))).setCell ⟨b, 6, none⟩ (.int .u64 (lim X 2))).setCell ⟨b, 7, none⟩ (.int .u64 (lim X 3))
theorem Arr.stS {w : World} {b : Nat} {R S : Int} (h : Arr w b 8 (sgx R S)) (X : Int) : Arr (stS w b X) b 8 (sgx R X) :=
  ((((h.set 4 (by omega) _).set 5 (by omega) _).set 6 (by omega) _).set 7 (by omega) _).congr (by
    intro j hj
    have h : j = 0 ∨ j = 1 ∨ j = 2 ∨ j = 3 ∨ j = 4 ∨ j = 5 ∨ j = 6 ∨ j = 7 := by omega
    rcases h with rfl | rfl | rfl | rfl | rfl | rfl | rfl | rfl <;> simp [sgx])
theorem Arr.stSo {w : World} {b b' n : Nat} {f : Nat → Value} (h : Arr w b n f) (hne : b' ≠ b) (X : Int) : Arr (Go.Proofs.YtoolbnbfbegjaaaGreat.stS w b' X) b n f := (((h.other hne _).other hne _).other hne _).other hne _
theorem Bel.stS {w W : World} (h : Below w.heap.size w W) {b : Nat} (hle : w.heap.size ≤ b) (X : Int) : Below w.heap.size w (Go.Proofs.YtoolbnbfbegjaaaGreat.stS W b X) := Bel.st (Bel.st (Bel.st (Bel.st h hle _) hle _) hle _) hle _
attribute [local go_sem] eq24
set_option maxHeartbeats 8000000 in
theorem awake_core (R X Y : Int) (i : Bool) (z o : ByteArray) (w : World)
    (C1 : ∀ W, Calls Tryz.prog 39 #[.agg #[.int .u64 0, .int .u64 0, .int .u64 0, .int .u64 0]] W fun e w' => e = .returned (.string z) ∧ Below W.heap.size W w')
    (C2 : ∀ W, Calls Tryz.prog 9 #[.agg #[.int .u64 1, .int .u64 0, .int .u64 0, .int .u64 0], .agg #[.int .u64 1, .int .u64 0, .int .u64 0, .int .u64 0], .string z] W fun e w' => e = .returned (.tuple #[gv R R, .int .i64 0]) ∧ Below W.heap.size W w')
    (C3 : ∀ W, Calls Tryz.prog 7 #[.agg #[.int .u64 1, .int .u64 0, .int .u64 0, .int .u64 0]] W fun e w' => e = .returned (.tuple #[pv X Y i, .int .i64 0]) ∧ Below W.heap.size W w')
    (C4 : ∀ W, Calls Tryz.prog 14 #[pv X Y i, .string z, gv R R] W fun e w' => e = .returned (.int .i64 0) ∧ Below W.heap.size W w')
    (C5 : ∀ W, Calls Tryz.prog 39 #[.agg #[.int .u64 1, .int .u64 0, .int .u64 0, .int .u64 0]] W fun e w' => e = .returned (.string o) ∧ Below W.heap.size W w')
    (C6 : ∀ W, Calls Tryz.prog 14 #[pv X Y i, .string o, gv R R] W fun e w' => e = .returned (.int .i64 16) ∧ Below W.heap.size W w')
    (C7 : ∀ W, Calls Tryz.prog 14 #[pv X Y i, .string ⟨#[]⟩, gv R R] W fun e w' => e = .returned (.int .i64 10) ∧ Below W.heap.size W w') :
    Calls Tryz.prog 13 #[] w fun e w' => e = .returned (.bool true) ∧ Below w.heap.size w w' := by
  go_enter Tryz.func13, Tryz.ntmps13
  obtain ⟨W0, hW0⟩ : ∃ W0, W0 = (w.alloc (.cells #[.int .u64 1, .int .u64 0, .int .u64 0, .int .u64 0] 24)) := ⟨_, rfl⟩
  have Aa : Arr W0 (w.heap.size) 4 (nx 1 0 0 0) := by subst hW0; refine Arr.mk4 ?_ ?_ ?_ ?_ ?_ ?_ ?_ ?_ <;> simp [go_sem, nx]
  have hB : Below w.heap.size w W0 := by subst hW0; go_grown
  subst hW0
  go_wp2_with fail
  refine (C1 _).mono ?_
  rintro e w11 ⟨rfl, hb⟩
  replace Aa := Arr.to' Aa hb
  replace hB := Bel.call hB hb
  clear hb
  have ca_0 := Aa.cv 0 (by omega) (.int .u64 1) rfl
  have ca_1 := Aa.cv 1 (by omega) (.int .u64 0) rfl
  have ca_2 := Aa.cv 2 (by omega) (.int .u64 0) rfl
  have ca_3 := Aa.cv 3 (by omega) (.int .u64 0) rfl
  go_wp2_with fail
  refine (C2 _).mono ?_
  rintro e w12 ⟨rfl, hb⟩
  replace Aa := Arr.to' Aa hb
  replace hB := Bel.call hB hb
  clear hb ca_0 ca_1 ca_2 ca_3
  have la_2 := Aa.lt
  have lB_2 := hB.size
  replace Aa := (Arr.al' Aa (.cells #[.int .u64 (lim (R) 0), .int .u64 (lim (R) 1), .int .u64 (lim (R) 2), .int .u64 (lim (R) 3), .int .u64 (lim (R) 0), .int .u64 (lim (R) 1), .int .u64 (lim (R) 2), .int .u64 (lim (R) 3)] 26))
  have Ag : Arr ((w12.alloc (.cells #[.int .u64 (lim (R) 0), .int .u64 (lim (R) 1), .int .u64 (lim (R) 2), .int .u64 (lim (R) 3), .int .u64 (lim (R) 0), .int .u64 (lim (R) 1), .int .u64 (lim (R) 2), .int .u64 (lim (R) 3)] 26))) (w12.heap.size) 8 (sgx (R) (R)) := by refine Arr.mk8' ?_ ?_ ?_ ?_ ?_ ?_ ?_ ?_ ?_ <;> simp [go_sem, sgx, zg]
  replace hB := (Bel.al hB (.cells #[.int .u64 (lim (R) 0), .int .u64 (lim (R) 1), .int .u64 (lim (R) 2), .int .u64 (lim (R) 3), .int .u64 (lim (R) 0), .int .u64 (lim (R) 1), .int .u64 (lim (R) 2), .int .u64 (lim (R) 3)] 26))
  have ca_0 := Aa.cv 0 (by omega) (.int .u64 1) rfl
  have ca_1 := Aa.cv 1 (by omega) (.int .u64 0) rfl
  have ca_2 := Aa.cv 2 (by omega) (.int .u64 0) rfl
  have ca_3 := Aa.cv 3 (by omega) (.int .u64 0) rfl
  go_wp2_with fail
  refine (C3 _).mono ?_
  rintro e w13 ⟨rfl, hb⟩
  replace Ag := Arr.to' Ag hb
  replace hB := Bel.call hB hb
  clear hb ca_0 ca_1 ca_2 ca_3 Aa
  have lg_3 := Ag.lt
  have lB_3 := hB.size
  replace Ag := (Arr.al' Ag (.cells #[.int .u64 (lim (X) 0), .int .u64 (lim (X) 1), .int .u64 (lim (X) 2), .int .u64 (lim (X) 3), .int .u64 (lim (Y) 0), .int .u64 (lim (Y) 1), .int .u64 (lim (Y) 2), .int .u64 (lim (Y) 3), .bool i] 28))
  have Aq : Arr ((w13.alloc (.cells #[.int .u64 (lim (X) 0), .int .u64 (lim (X) 1), .int .u64 (lim (X) 2), .int .u64 (lim (X) 3), .int .u64 (lim (Y) 0), .int .u64 (lim (Y) 1), .int .u64 (lim (Y) 2), .int .u64 (lim (Y) 3), .bool i] 28))) (w13.heap.size) 9 (px (X) (Y) i) := by refine Arr.mk9p ?_ ?_ ?_ ?_ ?_ ?_ ?_ ?_ ?_ ?_ <;> simp [go_sem, px, sx, zx]
  replace hB := (Bel.al hB (.cells #[.int .u64 (lim (X) 0), .int .u64 (lim (X) 1), .int .u64 (lim (X) 2), .int .u64 (lim (X) 3), .int .u64 (lim (Y) 0), .int .u64 (lim (Y) 1), .int .u64 (lim (Y) 2), .int .u64 (lim (Y) 3), .bool i] 28))
  obtain ⟨rq0, rq1, rq2, rq3, rq4, rq5, rq6, rq7, rq8⟩ := Arr.g_px Aq
  obtain ⟨rg0, rg1, rg2, rg3, rg4, rg5, rg6, rg7⟩ := Arr.g_sgx Ag
  go_wp2_with fail
  refine wp_region_quiet_below (by kernel_rfl) (by kernel_rfl) ?_
  repeat (go_big_quiet_step (first | (go_at_call 14; with_reducible first | exact Calls.regrown_of (C4 _) | exact Calls.regrown_of (C6 _) | exact Calls.regrown_of (C7 _)) | (go_at_call 39; with_reducible first | exact Calls.regrown_of (C5 _))))
  refine wpQuiet_nil ?_
  intro w4 hw'
  obtain ⟨⟨dq, osq⟩, hw''⟩ := hw'
  have hb := below_of hw''
  clear hw''
  replace Ag := Arr.to' Ag hb
  replace Aq := Arr.to' Aq hb
  replace hB := Bel.call hB hb
  clear hb rq0 rq1 rq2 rq3 rq4 rq5 rq6 rq7 rq8 rg0 rg1 rg2 rg3 rg4 rg5 rg6 rg7
  go_wp2_with fail
  go_ret
  exact ⟨rfl, hB⟩
set_option maxHeartbeats 8000000 in
theorem other_1 (X Y R S L M : Int) (i : Bool) (d : ByteArray) (w : World)
    (C1 : ∀ W, Calls Tryz.prog 16 #[nv S] W fun e w' => e = .returned (.bool false) ∧ Below W.heap.size W w')
    (C2 : ∀ W, Calls Tryz.prog 11 #[gv R S] W fun e w' => e = .returned (gv L M) ∧ Below W.heap.size W w')
    (C3 : ∀ W, Calls Tryz.prog 12 #[gv R S] W fun e w' => e = .returned (gv L M) ∧ Below W.heap.size W w')
    (C4 : ∀ W, Calls Tryz.prog 13 #[] W fun e w' => e = .returned (.bool true) ∧ Below W.heap.size W w') :
    Calls Tryz.prog 6 #[pv X Y i, .string d, gv R S] w fun e w' => e = .returned (.bool true) ∧ Below w.heap.size w w' := by
  go_enter Tryz.func6, Tryz.ntmps6
  obtain ⟨W0, hW0⟩ : ∃ W0, W0 = ((w.alloc (.cells #[.int .u64 (lim (X) 0), .int .u64 (lim (X) 1), .int .u64 (lim (X) 2), .int .u64 (lim (X) 3), .int .u64 (lim (Y) 0), .int .u64 (lim (Y) 1), .int .u64 (lim (Y) 2), .int .u64 (lim (Y) 3), .bool i] 28)).alloc (.cells #[.int .u64 (lim (R) 0), .int .u64 (lim (R) 1), .int .u64 (lim (R) 2), .int .u64 (lim (R) 3), .int .u64 (lim (S) 0), .int .u64 (lim (S) 1), .int .u64 (lim (S) 2), .int .u64 (lim (S) 3)] 26)) := ⟨_, rfl⟩
  have Aq : Arr W0 (w.heap.size) 9 (px (X) (Y) i) := by subst hW0; refine Arr.mk9p ?_ ?_ ?_ ?_ ?_ ?_ ?_ ?_ ?_ ?_ <;> simp [go_sem, px, sx, zx]
  have As : Arr W0 (w.heap.size + 1) 8 (sgx (R) (S)) := by subst hW0; refine Arr.mk8' ?_ ?_ ?_ ?_ ?_ ?_ ?_ ?_ ?_ <;> simp [go_sem, sgx, zg]
  have hB : Below w.heap.size w W0 := by subst hW0; go_grown
  subst hW0
  obtain ⟨cs_0, cs_1, cs_2, cs_3, cs_4, cs_5, cs_6, cs_7⟩ := Arr.c_sgx As
  go_wp2_with fail
  refine (C1 _).mono ?_
  rintro e w1 ⟨rfl, hb⟩
  replace Aq := Arr.to' Aq hb
  replace As := Arr.to' As hb
  replace hB := Bel.call hB hb
  clear hb cs_0 cs_1 cs_2 cs_3 cs_4 cs_5 cs_6 cs_7
  go_wp2_with fail
  have qS := eqS
  obtain ⟨rs0, rs1, rs2, rs3, rs4, rs5, rs6, rs7⟩ := Arr.g_sgx As
  refine wp_region_quiet_below (by kernel_rfl) (by kernel_rfl) ?_
  repeat (go_big_quiet_step (first | (go_at_call 11; with_reducible first | exact Calls.regrown_of (C2 _)) | (go_at_call 12; with_reducible first | exact Calls.regrown_of (C3 _)) | (go_at_call 13; with_reducible first | exact Calls.regrown_of (C4 _))))
  refine wpQuiet_nil ?_
  intro w2 hw'
  obtain ⟨⟨dq, osq⟩, hw''⟩ := hw'
  have hb := below_of hw''
  clear hw''
  replace Aq := Arr.to' Aq hb
  replace As := Arr.to' As hb
  replace hB := Bel.call hB hb
  clear hb rs0 rs1 rs2 rs3 rs4 rs5 rs6 rs7
  go_wp2_with fail
  go_ret
  exact ⟨rfl, hB⟩
set_option maxHeartbeats 8000000 in
theorem other_2 (X Y R S L M : Int) (i : Bool) (d : ByteArray) (w : World)
    (C1 : ∀ W, Calls Tryz.prog 16 #[nv S] W fun e w' => e = .returned (.bool true) ∧ Below W.heap.size W w')
    (C2 : ∀ W, Calls Tryz.prog 16 #[nv R] W fun e w' => e = .returned (.bool false) ∧ Below W.heap.size W w')
    (C3 : ∀ W, Calls Tryz.prog 11 #[gv R S] W fun e w' => e = .returned (gv L M) ∧ Below W.heap.size W w')
    (C4 : ∀ W, Calls Tryz.prog 12 #[gv R S] W fun e w' => e = .returned (gv L M) ∧ Below W.heap.size W w')
    (C5 : ∀ W, Calls Tryz.prog 13 #[] W fun e w' => e = .returned (.bool true) ∧ Below W.heap.size W w') :
    Calls Tryz.prog 6 #[pv X Y i, .string d, gv R S] w fun e w' => e = .returned (.bool true) ∧ Below w.heap.size w w' := by
  go_enter Tryz.func6, Tryz.ntmps6
  obtain ⟨W0, hW0⟩ : ∃ W0, W0 = ((w.alloc (.cells #[.int .u64 (lim (X) 0), .int .u64 (lim (X) 1), .int .u64 (lim (X) 2), .int .u64 (lim (X) 3), .int .u64 (lim (Y) 0), .int .u64 (lim (Y) 1), .int .u64 (lim (Y) 2), .int .u64 (lim (Y) 3), .bool i] 28)).alloc (.cells #[.int .u64 (lim (R) 0), .int .u64 (lim (R) 1), .int .u64 (lim (R) 2), .int .u64 (lim (R) 3), .int .u64 (lim (S) 0), .int .u64 (lim (S) 1), .int .u64 (lim (S) 2), .int .u64 (lim (S) 3)] 26)) := ⟨_, rfl⟩
  have Aq : Arr W0 (w.heap.size) 9 (px (X) (Y) i) := by subst hW0; refine Arr.mk9p ?_ ?_ ?_ ?_ ?_ ?_ ?_ ?_ ?_ ?_ <;> simp [go_sem, px, sx, zx]
  have As : Arr W0 (w.heap.size + 1) 8 (sgx (R) (S)) := by subst hW0; refine Arr.mk8' ?_ ?_ ?_ ?_ ?_ ?_ ?_ ?_ ?_ <;> simp [go_sem, sgx, zg]
  have hB : Below w.heap.size w W0 := by subst hW0; go_grown
  subst hW0
  obtain ⟨cs_0, cs_1, cs_2, cs_3, cs_4, cs_5, cs_6, cs_7⟩ := Arr.c_sgx As
  go_wp2_with fail
  refine (C1 _).mono ?_
  rintro e w1 ⟨rfl, hb⟩
  replace Aq := Arr.to' Aq hb
  replace As := Arr.to' As hb
  replace hB := Bel.call hB hb
  clear hb cs_0 cs_1 cs_2 cs_3 cs_4 cs_5 cs_6 cs_7
  obtain ⟨cs_0, cs_1, cs_2, cs_3, cs_4, cs_5, cs_6, cs_7⟩ := Arr.c_sgx As
  go_wp2_with fail
  refine (C2 _).mono ?_
  rintro e w12 ⟨rfl, hb⟩
  replace Aq := Arr.to' Aq hb
  replace As := Arr.to' As hb
  replace hB := Bel.call hB hb
  clear hb cs_0 cs_1 cs_2 cs_3 cs_4 cs_5 cs_6 cs_7
  go_wp2_with fail
  have qS := eqS
  obtain ⟨rs0, rs1, rs2, rs3, rs4, rs5, rs6, rs7⟩ := Arr.g_sgx As
  refine wp_region_quiet_below (by kernel_rfl) (by kernel_rfl) ?_
  repeat (go_big_quiet_step (first | (go_at_call 11; with_reducible first | exact Calls.regrown_of (C3 _)) | (go_at_call 12; with_reducible first | exact Calls.regrown_of (C4 _)) | (go_at_call 13; with_reducible first | exact Calls.regrown_of (C5 _))))
  refine wpQuiet_nil ?_
  intro w3 hw'
  obtain ⟨⟨dq, osq⟩, hw''⟩ := hw'
  have hb := below_of hw''
  clear hw''
  replace Aq := Arr.to' Aq hb
  replace As := Arr.to' As hb
  replace hB := Bel.call hB hb
  clear hb rs0 rs1 rs2 rs3 rs4 rs5 rs6 rs7
  go_wp2_with fail
  go_ret
  exact ⟨rfl, hB⟩
set_option maxHeartbeats 8000000 in
theorem other_3 (X Y R S T L M r : Int) (i : Bool) (d : ByteArray) (w : World)
    (C1 : ∀ W, Calls Tryz.prog 16 #[nv S] W fun e w' => e = .returned (.bool true) ∧ Below W.heap.size W w')
    (C2 : ∀ W, Calls Tryz.prog 16 #[nv R] W fun e w' => e = .returned (.bool true) ∧ Below W.heap.size W w')
    (C3 : ∀ W, Calls Tryz.prog 19 #[] W fun e w' => e = .returned (nv nn) ∧ Below W.heap.size W w')
    (C4 : ∀ W, Calls Tryz.prog 25 #[.agg #[.int .u64 0, .int .u64 0, .int .u64 0, .int .u64 0], nv S, nv nn] W fun e w' => e = .returned (nv T) ∧ Below W.heap.size W w')
    (C5 : ∀ W, Calls Tryz.prog 14 #[pv X Y i, .string d, gv R S] W fun e w' => e = .returned (.int .i64 r) ∧ Below W.heap.size W w')
    (C6 : ∀ W, Calls Tryz.prog 14 #[pv X Y i, .string d, gv R T] W fun e w' => e = .returned (.int .i64 r) ∧ Below W.heap.size W w')
    (C7 : ∀ W, Calls Tryz.prog 11 #[gv R S] W fun e w' => e = .returned (gv L M) ∧ Below W.heap.size W w')
    (C8 : ∀ W, Calls Tryz.prog 11 #[gv R T] W fun e w' => e = .returned (gv L M) ∧ Below W.heap.size W w')
    (C9 : ∀ W, Calls Tryz.prog 13 #[] W fun e w' => e = .returned (.bool true) ∧ Below W.heap.size W w') :
    Calls Tryz.prog 6 #[pv X Y i, .string d, gv R S] w fun e w' => e = .returned (.bool true) ∧ Below w.heap.size w w' := by
  go_enter Tryz.func6, Tryz.ntmps6
  obtain ⟨W0, hW0⟩ : ∃ W0, W0 = ((w.alloc (.cells #[.int .u64 (lim (X) 0), .int .u64 (lim (X) 1), .int .u64 (lim (X) 2), .int .u64 (lim (X) 3), .int .u64 (lim (Y) 0), .int .u64 (lim (Y) 1), .int .u64 (lim (Y) 2), .int .u64 (lim (Y) 3), .bool i] 28)).alloc (.cells #[.int .u64 (lim (R) 0), .int .u64 (lim (R) 1), .int .u64 (lim (R) 2), .int .u64 (lim (R) 3), .int .u64 (lim (S) 0), .int .u64 (lim (S) 1), .int .u64 (lim (S) 2), .int .u64 (lim (S) 3)] 26)) := ⟨_, rfl⟩
  have Aq : Arr W0 (w.heap.size) 9 (px (X) (Y) i) := by subst hW0; refine Arr.mk9p ?_ ?_ ?_ ?_ ?_ ?_ ?_ ?_ ?_ ?_ <;> simp [go_sem, px, sx, zx]
  have As : Arr W0 (w.heap.size + 1) 8 (sgx (R) (S)) := by subst hW0; refine Arr.mk8' ?_ ?_ ?_ ?_ ?_ ?_ ?_ ?_ ?_ <;> simp [go_sem, sgx, zg]
  have hB : Below w.heap.size w W0 := by subst hW0; go_grown
  subst hW0
  obtain ⟨cs_0, cs_1, cs_2, cs_3, cs_4, cs_5, cs_6, cs_7⟩ := Arr.c_sgx As
  go_wp2_with fail
  refine (C1 _).mono ?_
  rintro e w1 ⟨rfl, hb⟩
  replace Aq := Arr.to' Aq hb
  replace As := Arr.to' As hb
  replace hB := Bel.call hB hb
  clear hb cs_0 cs_1 cs_2 cs_3 cs_4 cs_5 cs_6 cs_7
  obtain ⟨cs_0, cs_1, cs_2, cs_3, cs_4, cs_5, cs_6, cs_7⟩ := Arr.c_sgx As
  go_wp2_with fail
  refine (C2 _).mono ?_
  rintro e w12 ⟨rfl, hb⟩
  replace Aq := Arr.to' Aq hb
  replace As := Arr.to' As hb
  replace hB := Bel.call hB hb
  clear hb cs_0 cs_1 cs_2 cs_3 cs_4 cs_5 cs_6 cs_7
  obtain ⟨cs_0, cs_1, cs_2, cs_3, cs_4, cs_5, cs_6, cs_7⟩ := Arr.c_sgx As
  go_wp2_with fail
  clear cs_0 cs_1 cs_2 cs_3 cs_4 cs_5 cs_6 cs_7
  have lq_2 := Aq.lt
  have ls_2 := As.lt
  have lB_2 := hB.size
  replace Aq := (Arr.al' Aq (.cells #[.int .u64 (lim (R) 0), .int .u64 (lim (R) 1), .int .u64 (lim (R) 2), .int .u64 (lim (R) 3), .int .u64 (lim (S) 0), .int .u64 (lim (S) 1), .int .u64 (lim (S) 2), .int .u64 (lim (S) 3)] 26))
  replace As := (Arr.al' As (.cells #[.int .u64 (lim (R) 0), .int .u64 (lim (R) 1), .int .u64 (lim (R) 2), .int .u64 (lim (R) 3), .int .u64 (lim (S) 0), .int .u64 (lim (S) 1), .int .u64 (lim (S) 2), .int .u64 (lim (S) 3)] 26))
  have Ao : Arr ((w12.alloc (.cells #[.int .u64 (lim (R) 0), .int .u64 (lim (R) 1), .int .u64 (lim (R) 2), .int .u64 (lim (R) 3), .int .u64 (lim (S) 0), .int .u64 (lim (S) 1), .int .u64 (lim (S) 2), .int .u64 (lim (S) 3)] 26))) (w12.heap.size) 8 (sgx (R) (S)) := by refine Arr.mk8' ?_ ?_ ?_ ?_ ?_ ?_ ?_ ?_ ?_ <;> simp [go_sem, sgx, zg]
  replace hB := (Bel.al hB (.cells #[.int .u64 (lim (R) 0), .int .u64 (lim (R) 1), .int .u64 (lim (R) 2), .int .u64 (lim (R) 3), .int .u64 (lim (S) 0), .int .u64 (lim (S) 1), .int .u64 (lim (S) 2), .int .u64 (lim (S) 3)] 26))
  obtain ⟨rs0, rs1, rs2, rs3, rs4, rs5, rs6, rs7⟩ := Arr.g_sgx As
  obtain ⟨ro0, ro1, ro2, ro3, ro4, ro5, ro6, ro7⟩ := Arr.g_sgx Ao
  refine wp_region_below_tail 6 (by kernel_rfl) (by kernel_rfl) ?_
  simp only [List.take_succ_cons, List.take_zero, List.drop_succ_cons, List.drop_zero]
  repeat (go_big_quiet_step (first | (go_at_call 19; with_reducible first | exact Calls.regrown_of (C3 _)) | (go_at_call 25; with_reducible first | exact Calls.regrown_of (C4 _))))
  refine wpQuiet_nil ?_
  intro w3 hw'
  obtain ⟨⟨dq, osq⟩, hw''⟩ := hw'
  have hb := below_of hw''
  clear hw''
  replace Aq := Arr.to' Aq hb
  replace As := Arr.to' As hb
  replace Ao := Arr.to' Ao hb
  replace hB := Bel.call hB hb
  clear hb rs0 rs1 rs2 rs3 rs4 rs5 rs6 rs7 ro0 ro1 ro2 ro3 ro4 ro5 ro6 ro7
  obtain ⟨co_0, co_1, co_2, co_3, co_4, co_5, co_6, co_7⟩ := Arr.c_sgx Ao
  have zo := Ao.z
  have Bq := Arr.stSo (b' := w12.heap.size) Aq (by have := Aq.lt; omega) T
  have Bs := Arr.stSo (b' := w12.heap.size) As (by have := As.lt; omega) T
  have Bo := Arr.stS Ao T
  have hB' := Bel.stS hB (b := w12.heap.size) (by omega) T
  go_upto_region 5 with fail
  change Code.wp _ _ _ _ (stS w3 w12.heap.size T)
  clear co_0 co_1 co_2 co_3 co_4 co_5 co_6 co_7 zo Aq As Ao hB
  have Aq := Bq
  have As := Bs
  have Ao := Bo
  have hB := hB'
  clear hB' Bq Bs Bo
  generalize stS w3 w12.heap.size T = w30 at *
  have qS := eqS
  obtain ⟨rq0, rq1, rq2, rq3, rq4, rq5, rq6, rq7, rq8⟩ := Arr.g_px Aq
  obtain ⟨rs0, rs1, rs2, rs3, rs4, rs5, rs6, rs7⟩ := Arr.g_sgx As
  obtain ⟨ro0, ro1, ro2, ro3, ro4, ro5, ro6, ro7⟩ := Arr.g_sgx Ao
  refine wp_region_quiet_below (by kernel_rfl) (by kernel_rfl) ?_
  repeat (go_big_quiet_step (first | (go_at_call 14; with_reducible first | exact Calls.regrown_of (C5 _) | exact Calls.regrown_of (C6 _)) | (go_at_call 11; with_reducible first | exact Calls.regrown_of (C7 _) | exact Calls.regrown_of (C8 _)) | (go_at_call 13; with_reducible first | exact Calls.regrown_of (C9 _))))
  refine wpQuiet_nil ?_
  intro w31 hw'
  obtain ⟨⟨dq, osq⟩, hw''⟩ := hw'
  have hb := below_of hw''
  clear hw''
  replace Aq := Arr.to' Aq hb
  replace As := Arr.to' As hb
  replace Ao := Arr.to' Ao hb
  replace hB := Bel.call hB hb
  clear hb rq0 rq1 rq2 rq3 rq4 rq5 rq6 rq7 rq8 rs0 rs1 rs2 rs3 rs4 rs5 rs6 rs7 ro0 ro1 ro2 ro3 ro4 ro5 ro6 ro7
  go_wp2_with fail
  go_ret
  exact ⟨rfl, hB⟩
end Go.Proofs.YtoolbnbfbegjaaaGreat
