/- The walk of EcdsaHolds. -/
import Derived.Deep.Cut
import Derived.Test.YtoolbnbfbegjaaaGreatJ38
set_option linter.all false
set_option maxRecDepth 100000
namespace Go.Proofs.YtoolbnbfbegjaaaGreat
open Go.RowKit Go.Sort
attribute [local go_sem] eq24
set_option maxHeartbeats 8000000 in
theorem holds_1 (D K ea f : Int) (he : (ea == 0) = false) (he' : (ea != 0) = true) (hf : (f != 0) = true) (s o : ByteArray) (w : World)
    (C1 : ∀ W, Calls Tryz.prog 7 #[nv D] W fun e w' => e = .returned (.tuple #[.agg #[.int .u64 0, .int .u64 0, .int .u64 0, .int .u64 0, .int .u64 0, .int .u64 0, .int .u64 0, .int .u64 0, .bool false], .int .i64 ea]) ∧ Below W.heap.size W w')
    (C2 : ∀ W, Calls Tryz.prog 9 #[nv D, nv K, .string s] W fun e w' => e = .returned (.tuple #[.agg #[.int .u64 0, .int .u64 0, .int .u64 0, .int .u64 0, .int .u64 0, .int .u64 0, .int .u64 0, .int .u64 0], .int .i64 f]) ∧ Below W.heap.size W w')
    (C3 : ∀ W, Calls Tryz.prog 16 #[nv D] W fun e w' => e = .returned (.bool false) ∧ Below W.heap.size W w')
    (C4 : ∀ W, Calls Tryz.prog 13 #[] W fun e w' => e = .returned (.bool true) ∧ Below W.heap.size W w') :
    Calls Tryz.prog 5 #[nv D, nv K, .string s, .string o] w fun e w' => e = .returned (.bool true) ∧ Below w.heap.size w w' := by
  go_enter Tryz.func5, Tryz.ntmps5
  obtain ⟨W0, hW0⟩ : ∃ W0, W0 = ((w.alloc (.cells #[.int .u64 (lim (D) 0), .int .u64 (lim (D) 1), .int .u64 (lim (D) 2), .int .u64 (lim (D) 3)] 24)).alloc (.cells #[.int .u64 (lim (K) 0), .int .u64 (lim (K) 1), .int .u64 (lim (K) 2), .int .u64 (lim (K) 3)] 24)) := ⟨_, rfl⟩
  have Ad : Arr W0 (w.heap.size) 4 (fun j => .int .u64 (lim (D) j)) := by subst hW0; refine Arr.mk4 ?_ ?_ ?_ ?_ ?_ ?_ ?_ ?_ <;> simp [go_sem]
  have Ak : Arr W0 (w.heap.size + 1) 4 (fun j => .int .u64 (lim (K) j)) := by subst hW0; refine Arr.mk4 ?_ ?_ ?_ ?_ ?_ ?_ ?_ ?_ <;> simp [go_sem]
  have hB : Below w.heap.size w W0 := by subst hW0; go_grown
  subst hW0
  have cd := Ad.c
  go_wp2_with fail
  refine (C1 _).mono ?_
  rintro e w1 ⟨rfl, hb⟩
  replace Ad := Arr.to' Ad hb
  replace Ak := Arr.to' Ak hb
  replace hB := Bel.call hB hb
  clear hb cd
  have ld_2 := Ad.lt
  have lk_2 := Ak.lt
  have lB_2 := hB.size
  replace Ad := (Arr.al' Ad (.cells #[.int .u64 0, .int .u64 0, .int .u64 0, .int .u64 0, .int .u64 0, .int .u64 0, .int .u64 0, .int .u64 0, .bool false] 28))
  replace Ak := (Arr.al' Ak (.cells #[.int .u64 0, .int .u64 0, .int .u64 0, .int .u64 0, .int .u64 0, .int .u64 0, .int .u64 0, .int .u64 0, .bool false] 28))
  have Aq : Arr ((w1.alloc (.cells #[.int .u64 0, .int .u64 0, .int .u64 0, .int .u64 0, .int .u64 0, .int .u64 0, .int .u64 0, .int .u64 0, .bool false] 28))) (w1.heap.size) 9 (zx 8) := by refine Arr.mk9p ?_ ?_ ?_ ?_ ?_ ?_ ?_ ?_ ?_ ?_ <;> simp [go_sem, px, sx, zx]
  replace hB := (Bel.al hB (.cells #[.int .u64 0, .int .u64 0, .int .u64 0, .int .u64 0, .int .u64 0, .int .u64 0, .int .u64 0, .int .u64 0, .bool false] 28))
  have cd := Ad.c
  have ck := Ak.c
  go_wp2_with fail
  refine (C2 _).mono ?_
  rintro e w12 ⟨rfl, hb⟩
  replace Ad := Arr.to' Ad hb
  replace Ak := Arr.to' Ak hb
  replace Aq := Arr.to' Aq hb
  replace hB := Bel.call hB hb
  clear hb cd ck
  have ld_3 := Ad.lt
  have lk_3 := Ak.lt
  have lq_3 := Aq.lt
  have lB_3 := hB.size
  replace Ad := (Arr.al' Ad (.cells #[.int .u64 0, .int .u64 0, .int .u64 0, .int .u64 0, .int .u64 0, .int .u64 0, .int .u64 0, .int .u64 0] 26))
  replace Ak := (Arr.al' Ak (.cells #[.int .u64 0, .int .u64 0, .int .u64 0, .int .u64 0, .int .u64 0, .int .u64 0, .int .u64 0, .int .u64 0] 26))
  replace Aq := (Arr.al' Aq (.cells #[.int .u64 0, .int .u64 0, .int .u64 0, .int .u64 0, .int .u64 0, .int .u64 0, .int .u64 0, .int .u64 0] 26))
  have Ag : Arr ((w12.alloc (.cells #[.int .u64 0, .int .u64 0, .int .u64 0, .int .u64 0, .int .u64 0, .int .u64 0, .int .u64 0, .int .u64 0] 26))) (w12.heap.size) 8 (zg) := by refine Arr.mk8' ?_ ?_ ?_ ?_ ?_ ?_ ?_ ?_ ?_ <;> simp [go_sem, sgx, zg]
  replace hB := (Bel.al hB (.cells #[.int .u64 0, .int .u64 0, .int .u64 0, .int .u64 0, .int .u64 0, .int .u64 0, .int .u64 0, .int .u64 0] 26))
  have cd := Ad.c
  go_wp2_with fail
  refine (C3 _).mono ?_
  rintro e w13 ⟨rfl, hb⟩
  replace Ad := Arr.to' Ad hb
  replace Ak := Arr.to' Ak hb
  replace Aq := Arr.to' Aq hb
  replace Ag := Arr.to' Ag hb
  replace hB := Bel.call hB hb
  clear hb cd
  go_wp2_with fail
  refine (C4 _).mono ?_
  rintro e w14 ⟨rfl, hb⟩
  replace Ad := Arr.to' Ad hb
  replace Ak := Arr.to' Ak hb
  replace Aq := Arr.to' Aq hb
  replace Ag := Arr.to' Ag hb
  replace hB := Bel.call hB hb
  clear hb
  go_wp2_with fail
  go_ret
  exact ⟨rfl, hB⟩
set_option maxHeartbeats 8000000 in
theorem holds_2 (D K X Y f : Int) (i : Bool) (hf : (f != 0) = true) (s o : ByteArray) (w : World)
    (C1 : ∀ W, Calls Tryz.prog 7 #[nv D] W fun e w' => e = .returned (.tuple #[pv X Y i, .int .i64 0]) ∧ Below W.heap.size W w')
    (C2 : ∀ W, Calls Tryz.prog 9 #[nv D, nv K, .string s] W fun e w' => e = .returned (.tuple #[.agg #[.int .u64 0, .int .u64 0, .int .u64 0, .int .u64 0, .int .u64 0, .int .u64 0, .int .u64 0, .int .u64 0], .int .i64 f]) ∧ Below W.heap.size W w')
    (C3 : ∀ W, Calls Tryz.prog 16 #[nv D] W fun e w' => e = .returned (.bool true) ∧ Below W.heap.size W w')
    (C4 : ∀ W, Calls Tryz.prog 13 #[] W fun e w' => e = .returned (.bool true) ∧ Below W.heap.size W w') :
    Calls Tryz.prog 5 #[nv D, nv K, .string s, .string o] w fun e w' => e = .returned (.bool true) ∧ Below w.heap.size w w' := by
  go_enter Tryz.func5, Tryz.ntmps5
  obtain ⟨W0, hW0⟩ : ∃ W0, W0 = ((w.alloc (.cells #[.int .u64 (lim (D) 0), .int .u64 (lim (D) 1), .int .u64 (lim (D) 2), .int .u64 (lim (D) 3)] 24)).alloc (.cells #[.int .u64 (lim (K) 0), .int .u64 (lim (K) 1), .int .u64 (lim (K) 2), .int .u64 (lim (K) 3)] 24)) := ⟨_, rfl⟩
  have Ad : Arr W0 (w.heap.size) 4 (fun j => .int .u64 (lim (D) j)) := by subst hW0; refine Arr.mk4 ?_ ?_ ?_ ?_ ?_ ?_ ?_ ?_ <;> simp [go_sem]
  have Ak : Arr W0 (w.heap.size + 1) 4 (fun j => .int .u64 (lim (K) j)) := by subst hW0; refine Arr.mk4 ?_ ?_ ?_ ?_ ?_ ?_ ?_ ?_ <;> simp [go_sem]
  have hB : Below w.heap.size w W0 := by subst hW0; go_grown
  subst hW0
  have cd := Ad.c
  go_wp2_with fail
  refine (C1 _).mono ?_
  rintro e w1 ⟨rfl, hb⟩
  replace Ad := Arr.to' Ad hb
  replace Ak := Arr.to' Ak hb
  replace hB := Bel.call hB hb
  clear hb cd
  have ld_2 := Ad.lt
  have lk_2 := Ak.lt
  have lB_2 := hB.size
  replace Ad := (Arr.al' Ad (.cells #[.int .u64 (lim (X) 0), .int .u64 (lim (X) 1), .int .u64 (lim (X) 2), .int .u64 (lim (X) 3), .int .u64 (lim (Y) 0), .int .u64 (lim (Y) 1), .int .u64 (lim (Y) 2), .int .u64 (lim (Y) 3), .bool i] 28))
  replace Ak := (Arr.al' Ak (.cells #[.int .u64 (lim (X) 0), .int .u64 (lim (X) 1), .int .u64 (lim (X) 2), .int .u64 (lim (X) 3), .int .u64 (lim (Y) 0), .int .u64 (lim (Y) 1), .int .u64 (lim (Y) 2), .int .u64 (lim (Y) 3), .bool i] 28))
  have Aq : Arr ((w1.alloc (.cells #[.int .u64 (lim (X) 0), .int .u64 (lim (X) 1), .int .u64 (lim (X) 2), .int .u64 (lim (X) 3), .int .u64 (lim (Y) 0), .int .u64 (lim (Y) 1), .int .u64 (lim (Y) 2), .int .u64 (lim (Y) 3), .bool i] 28))) (w1.heap.size) 9 (px (X) (Y) i) := by refine Arr.mk9p ?_ ?_ ?_ ?_ ?_ ?_ ?_ ?_ ?_ ?_ <;> simp [go_sem, px, sx, zx]
  replace hB := (Bel.al hB (.cells #[.int .u64 (lim (X) 0), .int .u64 (lim (X) 1), .int .u64 (lim (X) 2), .int .u64 (lim (X) 3), .int .u64 (lim (Y) 0), .int .u64 (lim (Y) 1), .int .u64 (lim (Y) 2), .int .u64 (lim (Y) 3), .bool i] 28))
  have cd := Ad.c
  have ck := Ak.c
  go_wp2_with fail
  refine (C2 _).mono ?_
  rintro e w12 ⟨rfl, hb⟩
  replace Ad := Arr.to' Ad hb
  replace Ak := Arr.to' Ak hb
  replace Aq := Arr.to' Aq hb
  replace hB := Bel.call hB hb
  clear hb cd ck
  have ld_3 := Ad.lt
  have lk_3 := Ak.lt
  have lq_3 := Aq.lt
  have lB_3 := hB.size
  replace Ad := (Arr.al' Ad (.cells #[.int .u64 0, .int .u64 0, .int .u64 0, .int .u64 0, .int .u64 0, .int .u64 0, .int .u64 0, .int .u64 0] 26))
  replace Ak := (Arr.al' Ak (.cells #[.int .u64 0, .int .u64 0, .int .u64 0, .int .u64 0, .int .u64 0, .int .u64 0, .int .u64 0, .int .u64 0] 26))
  replace Aq := (Arr.al' Aq (.cells #[.int .u64 0, .int .u64 0, .int .u64 0, .int .u64 0, .int .u64 0, .int .u64 0, .int .u64 0, .int .u64 0] 26))
  have Ag : Arr ((w12.alloc (.cells #[.int .u64 0, .int .u64 0, .int .u64 0, .int .u64 0, .int .u64 0, .int .u64 0, .int .u64 0, .int .u64 0] 26))) (w12.heap.size) 8 (zg) := by refine Arr.mk8' ?_ ?_ ?_ ?_ ?_ ?_ ?_ ?_ ?_ <;> simp [go_sem, sgx, zg]
  replace hB := (Bel.al hB (.cells #[.int .u64 0, .int .u64 0, .int .u64 0, .int .u64 0, .int .u64 0, .int .u64 0, .int .u64 0, .int .u64 0] 26))
  have cd := Ad.c
  go_wp2_with fail
  refine (C3 _).mono ?_
  rintro e w13 ⟨rfl, hb⟩
  replace Ad := Arr.to' Ad hb
  replace Ak := Arr.to' Ak hb
  replace Aq := Arr.to' Aq hb
  replace Ag := Arr.to' Ag hb
  replace hB := Bel.call hB hb
  clear hb cd
  go_wp2_with fail
  refine (C4 _).mono ?_
  rintro e w14 ⟨rfl, hb⟩
  replace Ad := Arr.to' Ad hb
  replace Ak := Arr.to' Ak hb
  replace Aq := Arr.to' Aq hb
  replace Ag := Arr.to' Ag hb
  replace hB := Bel.call hB hb
  clear hb
  go_wp2_with fail
  go_ret
  exact ⟨rfl, hB⟩
set_option maxHeartbeats 8000000 in
theorem holds_3 (D K X Y R S x y ge : Int) (i : Bool) (s o : ByteArray) (hg : (ge != 0) = true) (w : World)
    (C1 : ∀ W, Calls Tryz.prog 7 #[nv D] W fun e w' => e = .returned (.tuple #[pv X Y i, .int .i64 0]) ∧ Below W.heap.size W w')
    (C2 : ∀ W, Calls Tryz.prog 9 #[nv D, nv K, .string s] W fun e w' => e = .returned (.tuple #[gv R S, .int .i64 0]) ∧ Below W.heap.size W w')
    (C3 : ∀ W, Calls Tryz.prog 16 #[nv D] W fun e w' => e = .returned (.bool true) ∧ Below W.heap.size W w')
    (C4 : ∀ W, Calls Tryz.prog 14 #[pv X Y i, .string s, gv R S] W fun e w' => e = .returned (.int .i64 0) ∧ Below W.heap.size W w')
    (C5 : ∀ W, Calls Tryz.prog 17 #[.string s] W fun e w' => e = .returned (.tuple #[nv x, .int .i64 0]) ∧ Below W.heap.size W w')
    (C6 : ∀ W, Calls Tryz.prog 17 #[.string o] W fun e w' => e = .returned (.tuple #[nv y, .int .i64 ge]) ∧ Below W.heap.size W w')
    (C7 : ∀ W, Calls Tryz.prog 13 #[] W fun e w' => e = .returned (.bool true) ∧ Below W.heap.size W w') :
    Calls Tryz.prog 5 #[nv D, nv K, .string s, .string o] w fun e w' => e = .returned (.bool true) ∧ Below w.heap.size w w' := by
  go_enter Tryz.func5, Tryz.ntmps5
  obtain ⟨W0, hW0⟩ : ∃ W0, W0 = ((w.alloc (.cells #[.int .u64 (lim (D) 0), .int .u64 (lim (D) 1), .int .u64 (lim (D) 2), .int .u64 (lim (D) 3)] 24)).alloc (.cells #[.int .u64 (lim (K) 0), .int .u64 (lim (K) 1), .int .u64 (lim (K) 2), .int .u64 (lim (K) 3)] 24)) := ⟨_, rfl⟩
  have Ad : Arr W0 (w.heap.size) 4 (fun j => .int .u64 (lim (D) j)) := by subst hW0; refine Arr.mk4 ?_ ?_ ?_ ?_ ?_ ?_ ?_ ?_ <;> simp [go_sem]
  have Ak : Arr W0 (w.heap.size + 1) 4 (fun j => .int .u64 (lim (K) j)) := by subst hW0; refine Arr.mk4 ?_ ?_ ?_ ?_ ?_ ?_ ?_ ?_ <;> simp [go_sem]
  have hB : Below w.heap.size w W0 := by subst hW0; go_grown
  subst hW0
  have cd := Ad.c
  go_wp2_with fail
  refine (C1 _).mono ?_
  rintro e w1 ⟨rfl, hb⟩
  replace Ad := Arr.to' Ad hb
  replace Ak := Arr.to' Ak hb
  replace hB := Bel.call hB hb
  clear hb cd
  have ld_2 := Ad.lt
  have lk_2 := Ak.lt
  have lB_2 := hB.size
  replace Ad := (Arr.al' Ad (.cells #[.int .u64 (lim (X) 0), .int .u64 (lim (X) 1), .int .u64 (lim (X) 2), .int .u64 (lim (X) 3), .int .u64 (lim (Y) 0), .int .u64 (lim (Y) 1), .int .u64 (lim (Y) 2), .int .u64 (lim (Y) 3), .bool i] 28))
  replace Ak := (Arr.al' Ak (.cells #[.int .u64 (lim (X) 0), .int .u64 (lim (X) 1), .int .u64 (lim (X) 2), .int .u64 (lim (X) 3), .int .u64 (lim (Y) 0), .int .u64 (lim (Y) 1), .int .u64 (lim (Y) 2), .int .u64 (lim (Y) 3), .bool i] 28))
  have Aq : Arr ((w1.alloc (.cells #[.int .u64 (lim (X) 0), .int .u64 (lim (X) 1), .int .u64 (lim (X) 2), .int .u64 (lim (X) 3), .int .u64 (lim (Y) 0), .int .u64 (lim (Y) 1), .int .u64 (lim (Y) 2), .int .u64 (lim (Y) 3), .bool i] 28))) (w1.heap.size) 9 (px (X) (Y) i) := by refine Arr.mk9p ?_ ?_ ?_ ?_ ?_ ?_ ?_ ?_ ?_ ?_ <;> simp [go_sem, px, sx, zx]
  replace hB := (Bel.al hB (.cells #[.int .u64 (lim (X) 0), .int .u64 (lim (X) 1), .int .u64 (lim (X) 2), .int .u64 (lim (X) 3), .int .u64 (lim (Y) 0), .int .u64 (lim (Y) 1), .int .u64 (lim (Y) 2), .int .u64 (lim (Y) 3), .bool i] 28))
  have cd := Ad.c
  have ck := Ak.c
  go_wp2_with fail
  refine (C2 _).mono ?_
  rintro e w12 ⟨rfl, hb⟩
  replace Ad := Arr.to' Ad hb
  replace Ak := Arr.to' Ak hb
  replace Aq := Arr.to' Aq hb
  replace hB := Bel.call hB hb
  clear hb cd ck
  have ld_3 := Ad.lt
  have lk_3 := Ak.lt
  have lq_3 := Aq.lt
  have lB_3 := hB.size
  replace Ad := (Arr.al' Ad (.cells #[.int .u64 (lim (R) 0), .int .u64 (lim (R) 1), .int .u64 (lim (R) 2), .int .u64 (lim (R) 3), .int .u64 (lim (S) 0), .int .u64 (lim (S) 1), .int .u64 (lim (S) 2), .int .u64 (lim (S) 3)] 26))
  replace Ak := (Arr.al' Ak (.cells #[.int .u64 (lim (R) 0), .int .u64 (lim (R) 1), .int .u64 (lim (R) 2), .int .u64 (lim (R) 3), .int .u64 (lim (S) 0), .int .u64 (lim (S) 1), .int .u64 (lim (S) 2), .int .u64 (lim (S) 3)] 26))
  replace Aq := (Arr.al' Aq (.cells #[.int .u64 (lim (R) 0), .int .u64 (lim (R) 1), .int .u64 (lim (R) 2), .int .u64 (lim (R) 3), .int .u64 (lim (S) 0), .int .u64 (lim (S) 1), .int .u64 (lim (S) 2), .int .u64 (lim (S) 3)] 26))
  have Ag : Arr ((w12.alloc (.cells #[.int .u64 (lim (R) 0), .int .u64 (lim (R) 1), .int .u64 (lim (R) 2), .int .u64 (lim (R) 3), .int .u64 (lim (S) 0), .int .u64 (lim (S) 1), .int .u64 (lim (S) 2), .int .u64 (lim (S) 3)] 26))) (w12.heap.size) 8 (sgx (R) (S)) := by refine Arr.mk8' ?_ ?_ ?_ ?_ ?_ ?_ ?_ ?_ ?_ <;> simp [go_sem, sgx, zg]
  replace hB := (Bel.al hB (.cells #[.int .u64 (lim (R) 0), .int .u64 (lim (R) 1), .int .u64 (lim (R) 2), .int .u64 (lim (R) 3), .int .u64 (lim (S) 0), .int .u64 (lim (S) 1), .int .u64 (lim (S) 2), .int .u64 (lim (S) 3)] 26))
  have cd := Ad.c
  go_wp2_with fail
  refine (C3 _).mono ?_
  rintro e w13 ⟨rfl, hb⟩
  replace Ad := Arr.to' Ad hb
  replace Ak := Arr.to' Ak hb
  replace Aq := Arr.to' Aq hb
  replace Ag := Arr.to' Ag hb
  replace hB := Bel.call hB hb
  clear hb cd
  obtain ⟨cq_0, cq_1, cq_2, cq_3, cq_4, cq_5, cq_6, cq_7, cq_8⟩ := Arr.c_px Aq
  obtain ⟨cg_0, cg_1, cg_2, cg_3, cg_4, cg_5, cg_6, cg_7⟩ := Arr.c_sgx Ag
  go_wp2_with fail
  refine (C4 _).mono ?_
  rintro e w14 ⟨rfl, hb⟩
  replace Ad := Arr.to' Ad hb
  replace Ak := Arr.to' Ak hb
  replace Aq := Arr.to' Aq hb
  replace Ag := Arr.to' Ag hb
  replace hB := Bel.call hB hb
  clear hb cq_0 cq_1 cq_2 cq_3 cq_4 cq_5 cq_6 cq_7 cq_8 cg_0 cg_1 cg_2 cg_3 cg_4 cg_5 cg_6 cg_7
  go_wp2_with fail
  refine (C5 _).mono ?_
  rintro e w15 ⟨rfl, hb⟩
  replace Ad := Arr.to' Ad hb
  replace Ak := Arr.to' Ak hb
  replace Aq := Arr.to' Aq hb
  replace Ag := Arr.to' Ag hb
  replace hB := Bel.call hB hb
  clear hb
  have ld_4 := Ad.lt
  have lk_4 := Ak.lt
  have lq_4 := Aq.lt
  have lg_4 := Ag.lt
  have lB_4 := hB.size
  replace Ad := (Arr.al' Ad (.cells #[.int .u64 (lim (x) 0), .int .u64 (lim (x) 1), .int .u64 (lim (x) 2), .int .u64 (lim (x) 3)] 24))
  replace Ak := (Arr.al' Ak (.cells #[.int .u64 (lim (x) 0), .int .u64 (lim (x) 1), .int .u64 (lim (x) 2), .int .u64 (lim (x) 3)] 24))
  replace Aq := (Arr.al' Aq (.cells #[.int .u64 (lim (x) 0), .int .u64 (lim (x) 1), .int .u64 (lim (x) 2), .int .u64 (lim (x) 3)] 24))
  replace Ag := (Arr.al' Ag (.cells #[.int .u64 (lim (x) 0), .int .u64 (lim (x) 1), .int .u64 (lim (x) 2), .int .u64 (lim (x) 3)] 24))
  have Ax : Arr ((w15.alloc (.cells #[.int .u64 (lim (x) 0), .int .u64 (lim (x) 1), .int .u64 (lim (x) 2), .int .u64 (lim (x) 3)] 24))) (w15.heap.size) 4 (fun j => .int .u64 (lim (x) j)) := by refine Arr.mk4 ?_ ?_ ?_ ?_ ?_ ?_ ?_ ?_ <;> simp [go_sem]
  replace hB := (Bel.al hB (.cells #[.int .u64 (lim (x) 0), .int .u64 (lim (x) 1), .int .u64 (lim (x) 2), .int .u64 (lim (x) 3)] 24))
  go_wp2_with fail
  refine (C6 _).mono ?_
  rintro e w16 ⟨rfl, hb⟩
  replace Ad := Arr.to' Ad hb
  replace Ak := Arr.to' Ak hb
  replace Aq := Arr.to' Aq hb
  replace Ag := Arr.to' Ag hb
  replace Ax := Arr.to' Ax hb
  replace hB := Bel.call hB hb
  clear hb
  go_wp2_with fail
  have ld_5 := Ad.lt
  have lk_5 := Ak.lt
  have lq_5 := Aq.lt
  have lg_5 := Ag.lt
  have lx_5 := Ax.lt
  have lB_5 := hB.size
  replace Ad := (Arr.al' (Arr.al' Ad (.cells #[.int .u64 (lim (y) 0), .int .u64 (lim (y) 1), .int .u64 (lim (y) 2), .int .u64 (lim (y) 3)] 24)) (.cells #[.int .u64 0, .int .u64 0, .int .u64 0, .int .u64 0] 24))
  replace Ak := (Arr.al' (Arr.al' Ak (.cells #[.int .u64 (lim (y) 0), .int .u64 (lim (y) 1), .int .u64 (lim (y) 2), .int .u64 (lim (y) 3)] 24)) (.cells #[.int .u64 0, .int .u64 0, .int .u64 0, .int .u64 0] 24))
  replace Aq := (Arr.al' (Arr.al' Aq (.cells #[.int .u64 (lim (y) 0), .int .u64 (lim (y) 1), .int .u64 (lim (y) 2), .int .u64 (lim (y) 3)] 24)) (.cells #[.int .u64 0, .int .u64 0, .int .u64 0, .int .u64 0] 24))
  replace Ag := (Arr.al' (Arr.al' Ag (.cells #[.int .u64 (lim (y) 0), .int .u64 (lim (y) 1), .int .u64 (lim (y) 2), .int .u64 (lim (y) 3)] 24)) (.cells #[.int .u64 0, .int .u64 0, .int .u64 0, .int .u64 0] 24))
  replace Ax := (Arr.al' (Arr.al' Ax (.cells #[.int .u64 (lim (y) 0), .int .u64 (lim (y) 1), .int .u64 (lim (y) 2), .int .u64 (lim (y) 3)] 24)) (.cells #[.int .u64 0, .int .u64 0, .int .u64 0, .int .u64 0] 24))
  obtain ⟨W0, hW0⟩ : ∃ W0, W0 = ((w16.alloc (.cells #[.int .u64 (lim (y) 0), .int .u64 (lim (y) 1), .int .u64 (lim (y) 2), .int .u64 (lim (y) 3)] 24)).alloc (.cells #[.int .u64 0, .int .u64 0, .int .u64 0, .int .u64 0] 24)) := ⟨_, rfl⟩
  have Ay : Arr W0 (w16.heap.size) 4 (fun j => .int .u64 (lim (y) j)) := by subst hW0; refine Arr.mk4 ?_ ?_ ?_ ?_ ?_ ?_ ?_ ?_ <;> simp [go_sem]
  have Az : Arr W0 (w16.heap.size + 1) 4 (nx 0 0 0 0) := by subst hW0; refine Arr.mk4 ?_ ?_ ?_ ?_ ?_ ?_ ?_ ?_ <;> simp [go_sem, nx]
  subst hW0
  replace hB := (Bel.al (Bel.al hB (.cells #[.int .u64 (lim (y) 0), .int .u64 (lim (y) 1), .int .u64 (lim (y) 2), .int .u64 (lim (y) 3)] 24)) (.cells #[.int .u64 0, .int .u64 0, .int .u64 0, .int .u64 0] 24))
  obtain ⟨rx0, rx1, rx2, rx3⟩ := Arr.g4 Ax
  refine wp_region_quiet_below (by kernel_rfl) (by kernel_rfl) ?_
  repeat (go_big_quiet_step (fail))
  refine wpQuiet_nil ?_
  intro w7 hw'
  obtain ⟨⟨dq, osq⟩, hw''⟩ := hw'
  have hb := below_of hw''
  clear hw''
  replace Ad := Arr.to' Ad hb
  replace Ak := Arr.to' Ak hb
  replace Aq := Arr.to' Aq hb
  replace Ag := Arr.to' Ag hb
  replace Ax := Arr.to' Ax hb
  replace Ay := Arr.to' Ay hb
  replace Az := Arr.to' Az hb
  replace hB := Bel.call hB hb
  clear hb rx0 rx1 rx2 rx3
  go_wp2_with fail
  refine (C7 _).mono ?_
  rintro e w18 ⟨rfl, hb⟩
  replace Ad := Arr.to' Ad hb
  replace Ak := Arr.to' Ak hb
  replace Aq := Arr.to' Aq hb
  replace Ag := Arr.to' Ag hb
  replace Ax := Arr.to' Ax hb
  replace Ay := Arr.to' Ay hb
  replace Az := Arr.to' Az hb
  replace hB := Bel.call hB hb
  clear hb
  go_wp2_with fail
  go_ret
  exact ⟨rfl, hB⟩
set_option maxHeartbeats 8000000 in
theorem holds_4 (D K X Y R S x y a b : Int) (i : Bool) (s o : ByteArray) (hq : (lim a 0 == lim b 0 && (lim a 1 == lim b 1 && (lim a 2 == lim b 2 && lim a 3 == lim b 3))) = true) (w : World)
    (C1 : ∀ W, Calls Tryz.prog 7 #[nv D] W fun e w' => e = .returned (.tuple #[pv X Y i, .int .i64 0]) ∧ Below W.heap.size W w')
    (C2 : ∀ W, Calls Tryz.prog 9 #[nv D, nv K, .string s] W fun e w' => e = .returned (.tuple #[gv R S, .int .i64 0]) ∧ Below W.heap.size W w')
    (C3 : ∀ W, Calls Tryz.prog 16 #[nv D] W fun e w' => e = .returned (.bool true) ∧ Below W.heap.size W w')
    (C4 : ∀ W, Calls Tryz.prog 14 #[pv X Y i, .string s, gv R S] W fun e w' => e = .returned (.int .i64 0) ∧ Below W.heap.size W w')
    (C5 : ∀ W, Calls Tryz.prog 17 #[.string s] W fun e w' => e = .returned (.tuple #[nv x, .int .i64 0]) ∧ Below W.heap.size W w')
    (C6 : ∀ W, Calls Tryz.prog 17 #[.string o] W fun e w' => e = .returned (.tuple #[nv y, .int .i64 0]) ∧ Below W.heap.size W w')
    (C7 : ∀ W, Calls Tryz.prog 19 #[] W fun e w' => e = .returned (nv nn) ∧ Below W.heap.size W w')
    (C8 : ∀ W, Calls Tryz.prog 18 #[nv x, .agg #[.int .u64 0, .int .u64 0, .int .u64 0, .int .u64 0], nv nn] W fun e w' => e = .returned (nv a) ∧ Below W.heap.size W w')
    (C9 : ∀ W, Calls Tryz.prog 18 #[nv y, .agg #[.int .u64 0, .int .u64 0, .int .u64 0, .int .u64 0], nv nn] W fun e w' => e = .returned (nv b) ∧ Below W.heap.size W w')
    (C10 : ∀ W, Calls Tryz.prog 13 #[] W fun e w' => e = .returned (.bool true) ∧ Below W.heap.size W w') :
    Calls Tryz.prog 5 #[nv D, nv K, .string s, .string o] w fun e w' => e = .returned (.bool true) ∧ Below w.heap.size w w' := by
  go_enter Tryz.func5, Tryz.ntmps5
  obtain ⟨W0, hW0⟩ : ∃ W0, W0 = ((w.alloc (.cells #[.int .u64 (lim (D) 0), .int .u64 (lim (D) 1), .int .u64 (lim (D) 2), .int .u64 (lim (D) 3)] 24)).alloc (.cells #[.int .u64 (lim (K) 0), .int .u64 (lim (K) 1), .int .u64 (lim (K) 2), .int .u64 (lim (K) 3)] 24)) := ⟨_, rfl⟩
  have Ad : Arr W0 (w.heap.size) 4 (fun j => .int .u64 (lim (D) j)) := by subst hW0; refine Arr.mk4 ?_ ?_ ?_ ?_ ?_ ?_ ?_ ?_ <;> simp [go_sem]
  have Ak : Arr W0 (w.heap.size + 1) 4 (fun j => .int .u64 (lim (K) j)) := by subst hW0; refine Arr.mk4 ?_ ?_ ?_ ?_ ?_ ?_ ?_ ?_ <;> simp [go_sem]
  have hB : Below w.heap.size w W0 := by subst hW0; go_grown
  subst hW0
  have cd := Ad.c
  go_wp2_with fail
  refine (C1 _).mono ?_
  rintro e w1 ⟨rfl, hb⟩
  replace Ad := Arr.to' Ad hb
  replace Ak := Arr.to' Ak hb
  replace hB := Bel.call hB hb
  clear hb cd
  have ld_2 := Ad.lt
  have lk_2 := Ak.lt
  have lB_2 := hB.size
  replace Ad := (Arr.al' Ad (.cells #[.int .u64 (lim (X) 0), .int .u64 (lim (X) 1), .int .u64 (lim (X) 2), .int .u64 (lim (X) 3), .int .u64 (lim (Y) 0), .int .u64 (lim (Y) 1), .int .u64 (lim (Y) 2), .int .u64 (lim (Y) 3), .bool i] 28))
  replace Ak := (Arr.al' Ak (.cells #[.int .u64 (lim (X) 0), .int .u64 (lim (X) 1), .int .u64 (lim (X) 2), .int .u64 (lim (X) 3), .int .u64 (lim (Y) 0), .int .u64 (lim (Y) 1), .int .u64 (lim (Y) 2), .int .u64 (lim (Y) 3), .bool i] 28))
  have Aq : Arr ((w1.alloc (.cells #[.int .u64 (lim (X) 0), .int .u64 (lim (X) 1), .int .u64 (lim (X) 2), .int .u64 (lim (X) 3), .int .u64 (lim (Y) 0), .int .u64 (lim (Y) 1), .int .u64 (lim (Y) 2), .int .u64 (lim (Y) 3), .bool i] 28))) (w1.heap.size) 9 (px (X) (Y) i) := by refine Arr.mk9p ?_ ?_ ?_ ?_ ?_ ?_ ?_ ?_ ?_ ?_ <;> simp [go_sem, px, sx, zx]
  replace hB := (Bel.al hB (.cells #[.int .u64 (lim (X) 0), .int .u64 (lim (X) 1), .int .u64 (lim (X) 2), .int .u64 (lim (X) 3), .int .u64 (lim (Y) 0), .int .u64 (lim (Y) 1), .int .u64 (lim (Y) 2), .int .u64 (lim (Y) 3), .bool i] 28))
  have cd := Ad.c
  have ck := Ak.c
  go_wp2_with fail
  refine (C2 _).mono ?_
  rintro e w12 ⟨rfl, hb⟩
  replace Ad := Arr.to' Ad hb
  replace Ak := Arr.to' Ak hb
  replace Aq := Arr.to' Aq hb
  replace hB := Bel.call hB hb
  clear hb cd ck
  have ld_3 := Ad.lt
  have lk_3 := Ak.lt
  have lq_3 := Aq.lt
  have lB_3 := hB.size
  replace Ad := (Arr.al' Ad (.cells #[.int .u64 (lim (R) 0), .int .u64 (lim (R) 1), .int .u64 (lim (R) 2), .int .u64 (lim (R) 3), .int .u64 (lim (S) 0), .int .u64 (lim (S) 1), .int .u64 (lim (S) 2), .int .u64 (lim (S) 3)] 26))
  replace Ak := (Arr.al' Ak (.cells #[.int .u64 (lim (R) 0), .int .u64 (lim (R) 1), .int .u64 (lim (R) 2), .int .u64 (lim (R) 3), .int .u64 (lim (S) 0), .int .u64 (lim (S) 1), .int .u64 (lim (S) 2), .int .u64 (lim (S) 3)] 26))
  replace Aq := (Arr.al' Aq (.cells #[.int .u64 (lim (R) 0), .int .u64 (lim (R) 1), .int .u64 (lim (R) 2), .int .u64 (lim (R) 3), .int .u64 (lim (S) 0), .int .u64 (lim (S) 1), .int .u64 (lim (S) 2), .int .u64 (lim (S) 3)] 26))
  have Ag : Arr ((w12.alloc (.cells #[.int .u64 (lim (R) 0), .int .u64 (lim (R) 1), .int .u64 (lim (R) 2), .int .u64 (lim (R) 3), .int .u64 (lim (S) 0), .int .u64 (lim (S) 1), .int .u64 (lim (S) 2), .int .u64 (lim (S) 3)] 26))) (w12.heap.size) 8 (sgx (R) (S)) := by refine Arr.mk8' ?_ ?_ ?_ ?_ ?_ ?_ ?_ ?_ ?_ <;> simp [go_sem, sgx, zg]
  replace hB := (Bel.al hB (.cells #[.int .u64 (lim (R) 0), .int .u64 (lim (R) 1), .int .u64 (lim (R) 2), .int .u64 (lim (R) 3), .int .u64 (lim (S) 0), .int .u64 (lim (S) 1), .int .u64 (lim (S) 2), .int .u64 (lim (S) 3)] 26))
  have cd := Ad.c
  go_wp2_with fail
  refine (C3 _).mono ?_
  rintro e w13 ⟨rfl, hb⟩
  replace Ad := Arr.to' Ad hb
  replace Ak := Arr.to' Ak hb
  replace Aq := Arr.to' Aq hb
  replace Ag := Arr.to' Ag hb
  replace hB := Bel.call hB hb
  clear hb cd
  obtain ⟨cq_0, cq_1, cq_2, cq_3, cq_4, cq_5, cq_6, cq_7, cq_8⟩ := Arr.c_px Aq
  obtain ⟨cg_0, cg_1, cg_2, cg_3, cg_4, cg_5, cg_6, cg_7⟩ := Arr.c_sgx Ag
  go_wp2_with fail
  refine (C4 _).mono ?_
  rintro e w14 ⟨rfl, hb⟩
  replace Ad := Arr.to' Ad hb
  replace Ak := Arr.to' Ak hb
  replace Aq := Arr.to' Aq hb
  replace Ag := Arr.to' Ag hb
  replace hB := Bel.call hB hb
  clear hb cq_0 cq_1 cq_2 cq_3 cq_4 cq_5 cq_6 cq_7 cq_8 cg_0 cg_1 cg_2 cg_3 cg_4 cg_5 cg_6 cg_7
  go_wp2_with fail
  refine (C5 _).mono ?_
  rintro e w15 ⟨rfl, hb⟩
  replace Ad := Arr.to' Ad hb
  replace Ak := Arr.to' Ak hb
  replace Aq := Arr.to' Aq hb
  replace Ag := Arr.to' Ag hb
  replace hB := Bel.call hB hb
  clear hb
  have ld_4 := Ad.lt
  have lk_4 := Ak.lt
  have lq_4 := Aq.lt
  have lg_4 := Ag.lt
  have lB_4 := hB.size
  replace Ad := (Arr.al' Ad (.cells #[.int .u64 (lim (x) 0), .int .u64 (lim (x) 1), .int .u64 (lim (x) 2), .int .u64 (lim (x) 3)] 24))
  replace Ak := (Arr.al' Ak (.cells #[.int .u64 (lim (x) 0), .int .u64 (lim (x) 1), .int .u64 (lim (x) 2), .int .u64 (lim (x) 3)] 24))
  replace Aq := (Arr.al' Aq (.cells #[.int .u64 (lim (x) 0), .int .u64 (lim (x) 1), .int .u64 (lim (x) 2), .int .u64 (lim (x) 3)] 24))
  replace Ag := (Arr.al' Ag (.cells #[.int .u64 (lim (x) 0), .int .u64 (lim (x) 1), .int .u64 (lim (x) 2), .int .u64 (lim (x) 3)] 24))
  have Ax : Arr ((w15.alloc (.cells #[.int .u64 (lim (x) 0), .int .u64 (lim (x) 1), .int .u64 (lim (x) 2), .int .u64 (lim (x) 3)] 24))) (w15.heap.size) 4 (fun j => .int .u64 (lim (x) j)) := by refine Arr.mk4 ?_ ?_ ?_ ?_ ?_ ?_ ?_ ?_ <;> simp [go_sem]
  replace hB := (Bel.al hB (.cells #[.int .u64 (lim (x) 0), .int .u64 (lim (x) 1), .int .u64 (lim (x) 2), .int .u64 (lim (x) 3)] 24))
  go_wp2_with fail
  refine (C6 _).mono ?_
  rintro e w16 ⟨rfl, hb⟩
  replace Ad := Arr.to' Ad hb
  replace Ak := Arr.to' Ak hb
  replace Aq := Arr.to' Aq hb
  replace Ag := Arr.to' Ag hb
  replace Ax := Arr.to' Ax hb
  replace hB := Bel.call hB hb
  clear hb
  go_wp2_with fail
  have ld_5 := Ad.lt
  have lk_5 := Ak.lt
  have lq_5 := Aq.lt
  have lg_5 := Ag.lt
  have lx_5 := Ax.lt
  have lB_5 := hB.size
  replace Ad := (Arr.al' (Arr.al' Ad (.cells #[.int .u64 (lim (y) 0), .int .u64 (lim (y) 1), .int .u64 (lim (y) 2), .int .u64 (lim (y) 3)] 24)) (.cells #[.int .u64 0, .int .u64 0, .int .u64 0, .int .u64 0] 24))
  replace Ak := (Arr.al' (Arr.al' Ak (.cells #[.int .u64 (lim (y) 0), .int .u64 (lim (y) 1), .int .u64 (lim (y) 2), .int .u64 (lim (y) 3)] 24)) (.cells #[.int .u64 0, .int .u64 0, .int .u64 0, .int .u64 0] 24))
  replace Aq := (Arr.al' (Arr.al' Aq (.cells #[.int .u64 (lim (y) 0), .int .u64 (lim (y) 1), .int .u64 (lim (y) 2), .int .u64 (lim (y) 3)] 24)) (.cells #[.int .u64 0, .int .u64 0, .int .u64 0, .int .u64 0] 24))
  replace Ag := (Arr.al' (Arr.al' Ag (.cells #[.int .u64 (lim (y) 0), .int .u64 (lim (y) 1), .int .u64 (lim (y) 2), .int .u64 (lim (y) 3)] 24)) (.cells #[.int .u64 0, .int .u64 0, .int .u64 0, .int .u64 0] 24))
  replace Ax := (Arr.al' (Arr.al' Ax (.cells #[.int .u64 (lim (y) 0), .int .u64 (lim (y) 1), .int .u64 (lim (y) 2), .int .u64 (lim (y) 3)] 24)) (.cells #[.int .u64 0, .int .u64 0, .int .u64 0, .int .u64 0] 24))
  obtain ⟨W0, hW0⟩ : ∃ W0, W0 = ((w16.alloc (.cells #[.int .u64 (lim (y) 0), .int .u64 (lim (y) 1), .int .u64 (lim (y) 2), .int .u64 (lim (y) 3)] 24)).alloc (.cells #[.int .u64 0, .int .u64 0, .int .u64 0, .int .u64 0] 24)) := ⟨_, rfl⟩
  have Ay : Arr W0 (w16.heap.size) 4 (fun j => .int .u64 (lim (y) j)) := by subst hW0; refine Arr.mk4 ?_ ?_ ?_ ?_ ?_ ?_ ?_ ?_ <;> simp [go_sem]
  have Az : Arr W0 (w16.heap.size + 1) 4 (nx 0 0 0 0) := by subst hW0; refine Arr.mk4 ?_ ?_ ?_ ?_ ?_ ?_ ?_ ?_ <;> simp [go_sem, nx]
  subst hW0
  replace hB := (Bel.al (Bel.al hB (.cells #[.int .u64 (lim (y) 0), .int .u64 (lim (y) 1), .int .u64 (lim (y) 2), .int .u64 (lim (y) 3)] 24)) (.cells #[.int .u64 0, .int .u64 0, .int .u64 0, .int .u64 0] 24))
  obtain ⟨rx0, rx1, rx2, rx3⟩ := Arr.g4 Ax
  obtain ⟨ry0, ry1, ry2, ry3⟩ := Arr.g4 Ay
  have rz0 := Az.cg 0 (by omega) (.int .u64 0) rfl
  have rz1 := Az.cg 1 (by omega) (.int .u64 0) rfl
  have rz2 := Az.cg 2 (by omega) (.int .u64 0) rfl
  have rz3 := Az.cg 3 (by omega) (.int .u64 0) rfl
  refine wp_region_quiet_below (by kernel_rfl) (by kernel_rfl) ?_
  repeat (go_big_quiet_step (first | (go_at_call 19; with_reducible first | exact Calls.regrown_of (C7 _)) | (go_at_call 18; with_reducible first | exact Calls.regrown_of (C8 _) | exact Calls.regrown_of (C9 _))))
  refine wpQuiet_nil ?_
  intro w7 hw'
  obtain ⟨⟨dq, osq⟩, hw''⟩ := hw'
  have hb := below_of hw''
  clear hw''
  replace Ad := Arr.to' Ad hb
  replace Ak := Arr.to' Ak hb
  replace Aq := Arr.to' Aq hb
  replace Ag := Arr.to' Ag hb
  replace Ax := Arr.to' Ax hb
  replace Ay := Arr.to' Ay hb
  replace Az := Arr.to' Az hb
  replace hB := Bel.call hB hb
  clear hb rx0 rx1 rx2 rx3 ry0 ry1 ry2 ry3 rz0 rz1 rz2 rz3
  go_wp2_with fail
  refine (C10 _).mono ?_
  rintro e w18 ⟨rfl, hb⟩
  replace Ad := Arr.to' Ad hb
  replace Ak := Arr.to' Ak hb
  replace Aq := Arr.to' Aq hb
  replace Ag := Arr.to' Ag hb
  replace Ax := Arr.to' Ax hb
  replace Ay := Arr.to' Ay hb
  replace Az := Arr.to' Az hb
  replace hB := Bel.call hB hb
  clear hb
  go_wp2_with fail
  go_ret
  exact ⟨rfl, hB⟩
set_option maxHeartbeats 8000000 in
theorem holds_5 (D K X Y R S x y a b F c : Int) (i : Bool) (s o : ByteArray) (hq : (lim a 0 == lim b 0 && (lim a 1 == lim b 1 && (lim a 2 == lim b 2 && lim a 3 == lim b 3))) = false) (hc : c < 0) (w : World)
    (C1 : ∀ W, Calls Tryz.prog 7 #[nv D] W fun e w' => e = .returned (.tuple #[pv X Y i, .int .i64 0]) ∧ Below W.heap.size W w')
    (C2 : ∀ W, Calls Tryz.prog 9 #[nv D, nv K, .string s] W fun e w' => e = .returned (.tuple #[gv R S, .int .i64 0]) ∧ Below W.heap.size W w')
    (C3 : ∀ W, Calls Tryz.prog 16 #[nv D] W fun e w' => e = .returned (.bool true) ∧ Below W.heap.size W w')
    (C4 : ∀ W, Calls Tryz.prog 14 #[pv X Y i, .string s, gv R S] W fun e w' => e = .returned (.int .i64 0) ∧ Below W.heap.size W w')
    (C5 : ∀ W, Calls Tryz.prog 17 #[.string s] W fun e w' => e = .returned (.tuple #[nv x, .int .i64 0]) ∧ Below W.heap.size W w')
    (C6 : ∀ W, Calls Tryz.prog 17 #[.string o] W fun e w' => e = .returned (.tuple #[nv y, .int .i64 0]) ∧ Below W.heap.size W w')
    (C7 : ∀ W, Calls Tryz.prog 19 #[] W fun e w' => e = .returned (nv nn) ∧ Below W.heap.size W w')
    (C8 : ∀ W, Calls Tryz.prog 18 #[nv x, .agg #[.int .u64 0, .int .u64 0, .int .u64 0, .int .u64 0], nv nn] W fun e w' => e = .returned (nv a) ∧ Below W.heap.size W w')
    (C9 : ∀ W, Calls Tryz.prog 18 #[nv y, .agg #[.int .u64 0, .int .u64 0, .int .u64 0, .int .u64 0], nv nn] W fun e w' => e = .returned (nv b) ∧ Below W.heap.size W w')
    (C10 : ∀ W, Calls Tryz.prog 20 #[nv R, nv nn] W fun e w' => e = .returned (.tuple #[nv F, .int .u64 0]) ∧ Below W.heap.size W w')
    (C11 : ∀ W, Calls Tryz.prog 22 #[] W fun e w' => e = .returned (nv pp) ∧ Below W.heap.size W w')
    (C12 : ∀ W, Calls Tryz.prog 21 #[nv F, nv pp] W fun e w' => e = .returned (.int .i64 c) ∧ Below W.heap.size W w')
    (C13 : ∀ W, Calls Tryz.prog 13 #[] W fun e w' => e = .returned (.bool true) ∧ Below W.heap.size W w') :
    Calls Tryz.prog 5 #[nv D, nv K, .string s, .string o] w fun e w' => e = .returned (.bool true) ∧ Below w.heap.size w w' := by
  go_enter Tryz.func5, Tryz.ntmps5
  obtain ⟨W0, hW0⟩ : ∃ W0, W0 = ((w.alloc (.cells #[.int .u64 (lim (D) 0), .int .u64 (lim (D) 1), .int .u64 (lim (D) 2), .int .u64 (lim (D) 3)] 24)).alloc (.cells #[.int .u64 (lim (K) 0), .int .u64 (lim (K) 1), .int .u64 (lim (K) 2), .int .u64 (lim (K) 3)] 24)) := ⟨_, rfl⟩
  have Ad : Arr W0 (w.heap.size) 4 (fun j => .int .u64 (lim (D) j)) := by subst hW0; refine Arr.mk4 ?_ ?_ ?_ ?_ ?_ ?_ ?_ ?_ <;> simp [go_sem]
  have Ak : Arr W0 (w.heap.size + 1) 4 (fun j => .int .u64 (lim (K) j)) := by subst hW0; refine Arr.mk4 ?_ ?_ ?_ ?_ ?_ ?_ ?_ ?_ <;> simp [go_sem]
  have hB : Below w.heap.size w W0 := by subst hW0; go_grown
  subst hW0
  have cd := Ad.c
  go_wp2_with fail
  refine (C1 _).mono ?_
  rintro e w1 ⟨rfl, hb⟩
  replace Ad := Arr.to' Ad hb
  replace Ak := Arr.to' Ak hb
  replace hB := Bel.call hB hb
  clear hb cd
  have ld_2 := Ad.lt
  have lk_2 := Ak.lt
  have lB_2 := hB.size
  replace Ad := (Arr.al' Ad (.cells #[.int .u64 (lim (X) 0), .int .u64 (lim (X) 1), .int .u64 (lim (X) 2), .int .u64 (lim (X) 3), .int .u64 (lim (Y) 0), .int .u64 (lim (Y) 1), .int .u64 (lim (Y) 2), .int .u64 (lim (Y) 3), .bool i] 28))
  replace Ak := (Arr.al' Ak (.cells #[.int .u64 (lim (X) 0), .int .u64 (lim (X) 1), .int .u64 (lim (X) 2), .int .u64 (lim (X) 3), .int .u64 (lim (Y) 0), .int .u64 (lim (Y) 1), .int .u64 (lim (Y) 2), .int .u64 (lim (Y) 3), .bool i] 28))
  have Aq : Arr ((w1.alloc (.cells #[.int .u64 (lim (X) 0), .int .u64 (lim (X) 1), .int .u64 (lim (X) 2), .int .u64 (lim (X) 3), .int .u64 (lim (Y) 0), .int .u64 (lim (Y) 1), .int .u64 (lim (Y) 2), .int .u64 (lim (Y) 3), .bool i] 28))) (w1.heap.size) 9 (px (X) (Y) i) := by refine Arr.mk9p ?_ ?_ ?_ ?_ ?_ ?_ ?_ ?_ ?_ ?_ <;> simp [go_sem, px, sx, zx]
  replace hB := (Bel.al hB (.cells #[.int .u64 (lim (X) 0), .int .u64 (lim (X) 1), .int .u64 (lim (X) 2), .int .u64 (lim (X) 3), .int .u64 (lim (Y) 0), .int .u64 (lim (Y) 1), .int .u64 (lim (Y) 2), .int .u64 (lim (Y) 3), .bool i] 28))
  have cd := Ad.c
  have ck := Ak.c
  go_wp2_with fail
  refine (C2 _).mono ?_
  rintro e w12 ⟨rfl, hb⟩
  replace Ad := Arr.to' Ad hb
  replace Ak := Arr.to' Ak hb
  replace Aq := Arr.to' Aq hb
  replace hB := Bel.call hB hb
  clear hb cd ck
  have ld_3 := Ad.lt
  have lk_3 := Ak.lt
  have lq_3 := Aq.lt
  have lB_3 := hB.size
  replace Ad := (Arr.al' Ad (.cells #[.int .u64 (lim (R) 0), .int .u64 (lim (R) 1), .int .u64 (lim (R) 2), .int .u64 (lim (R) 3), .int .u64 (lim (S) 0), .int .u64 (lim (S) 1), .int .u64 (lim (S) 2), .int .u64 (lim (S) 3)] 26))
  replace Ak := (Arr.al' Ak (.cells #[.int .u64 (lim (R) 0), .int .u64 (lim (R) 1), .int .u64 (lim (R) 2), .int .u64 (lim (R) 3), .int .u64 (lim (S) 0), .int .u64 (lim (S) 1), .int .u64 (lim (S) 2), .int .u64 (lim (S) 3)] 26))
  replace Aq := (Arr.al' Aq (.cells #[.int .u64 (lim (R) 0), .int .u64 (lim (R) 1), .int .u64 (lim (R) 2), .int .u64 (lim (R) 3), .int .u64 (lim (S) 0), .int .u64 (lim (S) 1), .int .u64 (lim (S) 2), .int .u64 (lim (S) 3)] 26))
  have Ag : Arr ((w12.alloc (.cells #[.int .u64 (lim (R) 0), .int .u64 (lim (R) 1), .int .u64 (lim (R) 2), .int .u64 (lim (R) 3), .int .u64 (lim (S) 0), .int .u64 (lim (S) 1), .int .u64 (lim (S) 2), .int .u64 (lim (S) 3)] 26))) (w12.heap.size) 8 (sgx (R) (S)) := by refine Arr.mk8' ?_ ?_ ?_ ?_ ?_ ?_ ?_ ?_ ?_ <;> simp [go_sem, sgx, zg]
  replace hB := (Bel.al hB (.cells #[.int .u64 (lim (R) 0), .int .u64 (lim (R) 1), .int .u64 (lim (R) 2), .int .u64 (lim (R) 3), .int .u64 (lim (S) 0), .int .u64 (lim (S) 1), .int .u64 (lim (S) 2), .int .u64 (lim (S) 3)] 26))
  have cd := Ad.c
  go_wp2_with fail
  refine (C3 _).mono ?_
  rintro e w13 ⟨rfl, hb⟩
  replace Ad := Arr.to' Ad hb
  replace Ak := Arr.to' Ak hb
  replace Aq := Arr.to' Aq hb
  replace Ag := Arr.to' Ag hb
  replace hB := Bel.call hB hb
  clear hb cd
  obtain ⟨cq_0, cq_1, cq_2, cq_3, cq_4, cq_5, cq_6, cq_7, cq_8⟩ := Arr.c_px Aq
  obtain ⟨cg_0, cg_1, cg_2, cg_3, cg_4, cg_5, cg_6, cg_7⟩ := Arr.c_sgx Ag
  go_wp2_with fail
  refine (C4 _).mono ?_
  rintro e w14 ⟨rfl, hb⟩
  replace Ad := Arr.to' Ad hb
  replace Ak := Arr.to' Ak hb
  replace Aq := Arr.to' Aq hb
  replace Ag := Arr.to' Ag hb
  replace hB := Bel.call hB hb
  clear hb cq_0 cq_1 cq_2 cq_3 cq_4 cq_5 cq_6 cq_7 cq_8 cg_0 cg_1 cg_2 cg_3 cg_4 cg_5 cg_6 cg_7
  go_wp2_with fail
  refine (C5 _).mono ?_
  rintro e w15 ⟨rfl, hb⟩
  replace Ad := Arr.to' Ad hb
  replace Ak := Arr.to' Ak hb
  replace Aq := Arr.to' Aq hb
  replace Ag := Arr.to' Ag hb
  replace hB := Bel.call hB hb
  clear hb
  have ld_4 := Ad.lt
  have lk_4 := Ak.lt
  have lq_4 := Aq.lt
  have lg_4 := Ag.lt
  have lB_4 := hB.size
  replace Ad := (Arr.al' Ad (.cells #[.int .u64 (lim (x) 0), .int .u64 (lim (x) 1), .int .u64 (lim (x) 2), .int .u64 (lim (x) 3)] 24))
  replace Ak := (Arr.al' Ak (.cells #[.int .u64 (lim (x) 0), .int .u64 (lim (x) 1), .int .u64 (lim (x) 2), .int .u64 (lim (x) 3)] 24))
  replace Aq := (Arr.al' Aq (.cells #[.int .u64 (lim (x) 0), .int .u64 (lim (x) 1), .int .u64 (lim (x) 2), .int .u64 (lim (x) 3)] 24))
  replace Ag := (Arr.al' Ag (.cells #[.int .u64 (lim (x) 0), .int .u64 (lim (x) 1), .int .u64 (lim (x) 2), .int .u64 (lim (x) 3)] 24))
  have Ax : Arr ((w15.alloc (.cells #[.int .u64 (lim (x) 0), .int .u64 (lim (x) 1), .int .u64 (lim (x) 2), .int .u64 (lim (x) 3)] 24))) (w15.heap.size) 4 (fun j => .int .u64 (lim (x) j)) := by refine Arr.mk4 ?_ ?_ ?_ ?_ ?_ ?_ ?_ ?_ <;> simp [go_sem]
  replace hB := (Bel.al hB (.cells #[.int .u64 (lim (x) 0), .int .u64 (lim (x) 1), .int .u64 (lim (x) 2), .int .u64 (lim (x) 3)] 24))
  go_wp2_with fail
  refine (C6 _).mono ?_
  rintro e w16 ⟨rfl, hb⟩
  replace Ad := Arr.to' Ad hb
  replace Ak := Arr.to' Ak hb
  replace Aq := Arr.to' Aq hb
  replace Ag := Arr.to' Ag hb
  replace Ax := Arr.to' Ax hb
  replace hB := Bel.call hB hb
  clear hb
  go_wp2_with fail
  have ld_5 := Ad.lt
  have lk_5 := Ak.lt
  have lq_5 := Aq.lt
  have lg_5 := Ag.lt
  have lx_5 := Ax.lt
  have lB_5 := hB.size
  replace Ad := (Arr.al' (Arr.al' Ad (.cells #[.int .u64 (lim (y) 0), .int .u64 (lim (y) 1), .int .u64 (lim (y) 2), .int .u64 (lim (y) 3)] 24)) (.cells #[.int .u64 0, .int .u64 0, .int .u64 0, .int .u64 0] 24))
  replace Ak := (Arr.al' (Arr.al' Ak (.cells #[.int .u64 (lim (y) 0), .int .u64 (lim (y) 1), .int .u64 (lim (y) 2), .int .u64 (lim (y) 3)] 24)) (.cells #[.int .u64 0, .int .u64 0, .int .u64 0, .int .u64 0] 24))
  replace Aq := (Arr.al' (Arr.al' Aq (.cells #[.int .u64 (lim (y) 0), .int .u64 (lim (y) 1), .int .u64 (lim (y) 2), .int .u64 (lim (y) 3)] 24)) (.cells #[.int .u64 0, .int .u64 0, .int .u64 0, .int .u64 0] 24))
  replace Ag := (Arr.al' (Arr.al' Ag (.cells #[.int .u64 (lim (y) 0), .int .u64 (lim (y) 1), .int .u64 (lim (y) 2), .int .u64 (lim (y) 3)] 24)) (.cells #[.int .u64 0, .int .u64 0, .int .u64 0, .int .u64 0] 24))
  replace Ax := (Arr.al' (Arr.al' Ax (.cells #[.int .u64 (lim (y) 0), .int .u64 (lim (y) 1), .int .u64 (lim (y) 2), .int .u64 (lim (y) 3)] 24)) (.cells #[.int .u64 0, .int .u64 0, .int .u64 0, .int .u64 0] 24))
  obtain ⟨W0, hW0⟩ : ∃ W0, W0 = ((w16.alloc (.cells #[.int .u64 (lim (y) 0), .int .u64 (lim (y) 1), .int .u64 (lim (y) 2), .int .u64 (lim (y) 3)] 24)).alloc (.cells #[.int .u64 0, .int .u64 0, .int .u64 0, .int .u64 0] 24)) := ⟨_, rfl⟩
  have Ay : Arr W0 (w16.heap.size) 4 (fun j => .int .u64 (lim (y) j)) := by subst hW0; refine Arr.mk4 ?_ ?_ ?_ ?_ ?_ ?_ ?_ ?_ <;> simp [go_sem]
  have Az : Arr W0 (w16.heap.size + 1) 4 (nx 0 0 0 0) := by subst hW0; refine Arr.mk4 ?_ ?_ ?_ ?_ ?_ ?_ ?_ ?_ <;> simp [go_sem, nx]
  subst hW0
  replace hB := (Bel.al (Bel.al hB (.cells #[.int .u64 (lim (y) 0), .int .u64 (lim (y) 1), .int .u64 (lim (y) 2), .int .u64 (lim (y) 3)] 24)) (.cells #[.int .u64 0, .int .u64 0, .int .u64 0, .int .u64 0] 24))
  obtain ⟨rx0, rx1, rx2, rx3⟩ := Arr.g4 Ax
  obtain ⟨ry0, ry1, ry2, ry3⟩ := Arr.g4 Ay
  have rz0 := Az.cg 0 (by omega) (.int .u64 0) rfl
  have rz1 := Az.cg 1 (by omega) (.int .u64 0) rfl
  have rz2 := Az.cg 2 (by omega) (.int .u64 0) rfl
  have rz3 := Az.cg 3 (by omega) (.int .u64 0) rfl
  refine wp_region_quiet_below (by kernel_rfl) (by kernel_rfl) ?_
  repeat (go_big_quiet_step (first | (go_at_call 19; with_reducible first | exact Calls.regrown_of (C7 _)) | (go_at_call 18; with_reducible first | exact Calls.regrown_of (C8 _) | exact Calls.regrown_of (C9 _))))
  refine wpQuiet_nil ?_
  intro w7 hw'
  obtain ⟨⟨dq, osq⟩, hw''⟩ := hw'
  have hb := below_of hw''
  clear hw''
  replace Ad := Arr.to' Ad hb
  replace Ak := Arr.to' Ak hb
  replace Aq := Arr.to' Aq hb
  replace Ag := Arr.to' Ag hb
  replace Ax := Arr.to' Ax hb
  replace Ay := Arr.to' Ay hb
  replace Az := Arr.to' Az hb
  replace hB := Bel.call hB hb
  clear hb rx0 rx1 rx2 rx3 ry0 ry1 ry2 ry3 rz0 rz1 rz2 rz3
  go_wp2_with fail
  apply wp_region_pure_tail 4 3 #[true, true, true, true, false, false, false, true, false, false] #[true, true, true, true, true, true, true, false, false, false] (by kernel_rfl) (by intro c d v a w h; cases d <;> exact h) (by kernel_rfl) (by kernel_rfl) (.cells #[.int .u64 0, .int .u64 0, .int .u64 0, .int .u64 0] 24) _ rfl (fun _ _ => by simp [go_sem])
  · intro W hW
    obtain ⟨rg0, rg1, rg2, rg3, rg4, rg5, rg6, rg7⟩ := Arr.g_sgx (Arr.to' Ag hW)
    simp only [List.take_succ_cons, List.take_zero]
    repeat (go_big_quiet_step (first | (go_at_call 19; with_reducible first | exact Calls.regrown_of (C7 _)) | (go_at_call 20; with_reducible first | exact Calls.regrown_of (C10 _))))
    exact wpQuiet_nil rfl
  · exact ⟨_, Or.inl ⟨rfl, fun _ => rfl⟩, ⟨_, Or.inl ⟨rfl, fun _ => rfl⟩, ⟨_, Or.inl ⟨rfl, fun _ => rfl⟩, rfl⟩⟩⟩
  · intro v; exact ⟨_, Or.inl ⟨rfl, fun _ => rfl⟩, ⟨_, Or.inl ⟨rfl, fun _ => rfl⟩, ⟨_, Or.inl ⟨rfl, fun _ => rfl⟩, rfl⟩⟩⟩
  intro v8 w18 hb1 hb2
  simp only [List.drop_succ_cons, List.drop_zero, Act.put, List.setIfInBounds_toArray, List.set_cons_succ, List.set_cons_zero]
  have Ed := Arr.to' Ad hb1
  have ld_v8 := Ed.lt
  have Bd := Arr.to' (Arr.al' Ed _) hb2
  have Ek := Arr.to' Ak hb1
  have lk_v8 := Ek.lt
  have Bk := Arr.to' (Arr.al' Ek _) hb2
  have Eq := Arr.to' Aq hb1
  have lq_v8 := Eq.lt
  have Bq := Arr.to' (Arr.al' Eq _) hb2
  have Eg := Arr.to' Ag hb1
  have lg_v8 := Eg.lt
  have Bg := Arr.to' (Arr.al' Eg _) hb2
  have Ex := Arr.to' Ax hb1
  have lx_v8 := Ex.lt
  have Bx := Arr.to' (Arr.al' Ex _) hb2
  have Ey := Arr.to' Ay hb1
  have ly_v8 := Ey.lt
  have By := Arr.to' (Arr.al' Ey _) hb2
  have Ez := Arr.to' Az hb1
  have lz_v8 := Ez.lt
  have Bz := Arr.to' (Arr.al' Ez _) hb2
  have Bf := (Arr.mk4 (w := (v8.alloc (.cells #[.int .u64 0, .int .u64 0, .int .u64 0, .int .u64 0] 24))) (f := fun _ => .int .u64 0) (b := v8.heap.size) (by simp [go_sem]) (by simp [go_sem]) (by simp [go_sem]) (by simp [go_sem]) (by simp [go_sem]) (by simp [go_sem]) (by simp [go_sem]) (by simp [go_sem])).below hb2 (by go_size)
  have lB_v8 := (Bel.call hB hb1).size
  have hB' := Bel.call (Bel.al (Bel.call hB hb1) _) hb2
  clear hb1 hb2 Ed Ek Eq Eg Ex Ey Ez Ad Ak Aq Ag Ax Ay Az hB
  have Ad := Bd
  have Ak := Bk
  have Aq := Bq
  have Ag := Bg
  have Ax := Bx
  have Ay := By
  have Az := Bz
  have Af := Bf
  have hB := hB'
  clear Bd Bk Bq Bg Bx By Bz Bf hB'
  have cf := Af.c
  have zf := Af.z
  have Bd := Arr.st4o (b' := v8.heap.size) Ad (by have := Ad.lt; have := Af.lt; omega) (F)
  have Bk := Arr.st4o (b' := v8.heap.size) Ak (by have := Ak.lt; have := Af.lt; omega) (F)
  have Bq := Arr.st4o (b' := v8.heap.size) Aq (by have := Aq.lt; have := Af.lt; omega) (F)
  have Bg := Arr.st4o (b' := v8.heap.size) Ag (by have := Ag.lt; have := Af.lt; omega) (F)
  have Bx := Arr.st4o (b' := v8.heap.size) Ax (by have := Ax.lt; have := Af.lt; omega) (F)
  have By := Arr.st4o (b' := v8.heap.size) Ay (by have := Ay.lt; have := Af.lt; omega) (F)
  have Bz := Arr.st4o (b' := v8.heap.size) Az (by have := Az.lt; have := Af.lt; omega) (F)
  have Bf := Arr.st4 Af (F)
  have hB' := Bel.st4 hB (b := v8.heap.size) (by have := hB.size; omega) (F)
  clear Ad Ak Aq Ag Ax Ay Az Af hB
  have Ad := Bd
  have Ak := Bk
  have Aq := Bq
  have Ag := Bg
  have Ax := Bx
  have Ay := By
  have Az := Bz
  have Af := Bf
  have hB := hB'
  clear Bd Bk Bq Bg Bx By Bz Bf hB'
  obtain ⟨rf0, rf1, rf2, rf3⟩ := Arr.g4 Af
  go_wp2_with fail
  refine wp_region_quiet_below (by kernel_rfl) (by kernel_rfl) ?_
  repeat (go_big_quiet_step (first | (go_at_call 22; with_reducible first | exact Calls.regrown_of (C11 _)) | (go_at_call 21; with_reducible first | exact Calls.regrown_of (C12 _))))
  refine wpQuiet_nil ?_
  intro w9 hw'
  obtain ⟨⟨dq, osq⟩, hw''⟩ := hw'
  have hb := below_of hw''
  clear hw''
  replace Ad := Arr.to' Ad hb
  replace Ak := Arr.to' Ak hb
  replace Aq := Arr.to' Aq hb
  replace Ag := Arr.to' Ag hb
  replace Ax := Arr.to' Ax hb
  replace Ay := Arr.to' Ay hb
  replace Az := Arr.to' Az hb
  replace Af := Arr.to' Af hb
  replace hB := Bel.call hB hb
  clear hb cf zf rf0 rf1 rf2 rf3
  go_wp2_with fail
  refine (C13 _).mono ?_
  rintro e w20 ⟨rfl, hb⟩
  replace Ad := Arr.to' Ad hb
  replace Ak := Arr.to' Ak hb
  replace Aq := Arr.to' Aq hb
  replace Ag := Arr.to' Ag hb
  replace Ax := Arr.to' Ax hb
  replace Ay := Arr.to' Ay hb
  replace Az := Arr.to' Az hb
  replace Af := Arr.to' Af hb
  replace hB := Bel.call hB hb
  clear hb
  go_wp2_with fail
  go_ret
  exact ⟨rfl, hB⟩
set_option maxHeartbeats 8000000 in
theorem holds_6 (D K X Y R S x y a b F u v m t c : Int) (i : Bool) (s o : ByteArray) (hq : (lim a 0 == lim b 0 && (lim a 1 == lim b 1 && (lim a 2 == lim b 2 && lim a 3 == lim b 3))) = false) (hc : ¬ c < 0) (ht : (lim t 0 == 0 && (lim t 1 == 0 && (lim t 2 == 0 && lim t 3 == 0))) = true) (w : World)
    (C1 : ∀ W, Calls Tryz.prog 7 #[nv D] W fun e w' => e = .returned (.tuple #[pv X Y i, .int .i64 0]) ∧ Below W.heap.size W w')
    (C2 : ∀ W, Calls Tryz.prog 9 #[nv D, nv K, .string s] W fun e w' => e = .returned (.tuple #[gv R S, .int .i64 0]) ∧ Below W.heap.size W w')
    (C3 : ∀ W, Calls Tryz.prog 16 #[nv D] W fun e w' => e = .returned (.bool true) ∧ Below W.heap.size W w')
    (C4 : ∀ W, Calls Tryz.prog 14 #[pv X Y i, .string s, gv R S] W fun e w' => e = .returned (.int .i64 0) ∧ Below W.heap.size W w')
    (C5 : ∀ W, Calls Tryz.prog 17 #[.string s] W fun e w' => e = .returned (.tuple #[nv x, .int .i64 0]) ∧ Below W.heap.size W w')
    (C6 : ∀ W, Calls Tryz.prog 17 #[.string o] W fun e w' => e = .returned (.tuple #[nv y, .int .i64 0]) ∧ Below W.heap.size W w')
    (C7 : ∀ W, Calls Tryz.prog 19 #[] W fun e w' => e = .returned (nv nn) ∧ Below W.heap.size W w')
    (C8 : ∀ W, Calls Tryz.prog 18 #[nv x, .agg #[.int .u64 0, .int .u64 0, .int .u64 0, .int .u64 0], nv nn] W fun e w' => e = .returned (nv a) ∧ Below W.heap.size W w')
    (C9 : ∀ W, Calls Tryz.prog 18 #[nv y, .agg #[.int .u64 0, .int .u64 0, .int .u64 0, .int .u64 0], nv nn] W fun e w' => e = .returned (nv b) ∧ Below W.heap.size W w')
    (C10 : ∀ W, Calls Tryz.prog 20 #[nv R, nv nn] W fun e w' => e = .returned (.tuple #[nv F, .int .u64 0]) ∧ Below W.heap.size W w')
    (C11 : ∀ W, Calls Tryz.prog 22 #[] W fun e w' => e = .returned (nv pp) ∧ Below W.heap.size W w')
    (C12 : ∀ W, Calls Tryz.prog 21 #[nv F, nv pp] W fun e w' => e = .returned (.int .i64 c) ∧ Below W.heap.size W w')
    (C13 : ∀ W, Calls Tryz.prog 23 #[nv x, nv y, nv nn] W fun e w' => e = .returned (nv u) ∧ Below W.heap.size W w')
    (C14 : ∀ W, Calls Tryz.prog 24 #[nv R, nv D, nv nn] W fun e w' => e = .returned (nv v) ∧ Below W.heap.size W w')
    (C15 : ∀ W, Calls Tryz.prog 24 #[.agg #[.int .u64 2, .int .u64 0, .int .u64 0, .int .u64 0], nv v, nv nn] W fun e w' => e = .returned (nv m) ∧ Below W.heap.size W w')
    (C16 : ∀ W, Calls Tryz.prog 23 #[nv u, nv m, nv nn] W fun e w' => e = .returned (nv t) ∧ Below W.heap.size W w')
    (C17 : ∀ W, Calls Tryz.prog 13 #[] W fun e w' => e = .returned (.bool true) ∧ Below W.heap.size W w') :
    Calls Tryz.prog 5 #[nv D, nv K, .string s, .string o] w fun e w' => e = .returned (.bool true) ∧ Below w.heap.size w w' := by
  go_enter Tryz.func5, Tryz.ntmps5
  obtain ⟨W0, hW0⟩ : ∃ W0, W0 = ((w.alloc (.cells #[.int .u64 (lim (D) 0), .int .u64 (lim (D) 1), .int .u64 (lim (D) 2), .int .u64 (lim (D) 3)] 24)).alloc (.cells #[.int .u64 (lim (K) 0), .int .u64 (lim (K) 1), .int .u64 (lim (K) 2), .int .u64 (lim (K) 3)] 24)) := ⟨_, rfl⟩
  have Ad : Arr W0 (w.heap.size) 4 (fun j => .int .u64 (lim (D) j)) := by subst hW0; refine Arr.mk4 ?_ ?_ ?_ ?_ ?_ ?_ ?_ ?_ <;> simp [go_sem]
  have Ak : Arr W0 (w.heap.size + 1) 4 (fun j => .int .u64 (lim (K) j)) := by subst hW0; refine Arr.mk4 ?_ ?_ ?_ ?_ ?_ ?_ ?_ ?_ <;> simp [go_sem]
  have hB : Below w.heap.size w W0 := by subst hW0; go_grown
  subst hW0
  have cd := Ad.c
  go_wp2_with fail
  refine (C1 _).mono ?_
  rintro e w1 ⟨rfl, hb⟩
  replace Ad := Arr.to' Ad hb
  replace Ak := Arr.to' Ak hb
  replace hB := Bel.call hB hb
  clear hb cd
  have ld_2 := Ad.lt
  have lk_2 := Ak.lt
  have lB_2 := hB.size
  replace Ad := (Arr.al' Ad (.cells #[.int .u64 (lim (X) 0), .int .u64 (lim (X) 1), .int .u64 (lim (X) 2), .int .u64 (lim (X) 3), .int .u64 (lim (Y) 0), .int .u64 (lim (Y) 1), .int .u64 (lim (Y) 2), .int .u64 (lim (Y) 3), .bool i] 28))
  replace Ak := (Arr.al' Ak (.cells #[.int .u64 (lim (X) 0), .int .u64 (lim (X) 1), .int .u64 (lim (X) 2), .int .u64 (lim (X) 3), .int .u64 (lim (Y) 0), .int .u64 (lim (Y) 1), .int .u64 (lim (Y) 2), .int .u64 (lim (Y) 3), .bool i] 28))
  have Aq : Arr ((w1.alloc (.cells #[.int .u64 (lim (X) 0), .int .u64 (lim (X) 1), .int .u64 (lim (X) 2), .int .u64 (lim (X) 3), .int .u64 (lim (Y) 0), .int .u64 (lim (Y) 1), .int .u64 (lim (Y) 2), .int .u64 (lim (Y) 3), .bool i] 28))) (w1.heap.size) 9 (px (X) (Y) i) := by refine Arr.mk9p ?_ ?_ ?_ ?_ ?_ ?_ ?_ ?_ ?_ ?_ <;> simp [go_sem, px, sx, zx]
  replace hB := (Bel.al hB (.cells #[.int .u64 (lim (X) 0), .int .u64 (lim (X) 1), .int .u64 (lim (X) 2), .int .u64 (lim (X) 3), .int .u64 (lim (Y) 0), .int .u64 (lim (Y) 1), .int .u64 (lim (Y) 2), .int .u64 (lim (Y) 3), .bool i] 28))
  have cd := Ad.c
  have ck := Ak.c
  go_wp2_with fail
  refine (C2 _).mono ?_
  rintro e w12 ⟨rfl, hb⟩
  replace Ad := Arr.to' Ad hb
  replace Ak := Arr.to' Ak hb
  replace Aq := Arr.to' Aq hb
  replace hB := Bel.call hB hb
  clear hb cd ck
  have ld_3 := Ad.lt
  have lk_3 := Ak.lt
  have lq_3 := Aq.lt
  have lB_3 := hB.size
  replace Ad := (Arr.al' Ad (.cells #[.int .u64 (lim (R) 0), .int .u64 (lim (R) 1), .int .u64 (lim (R) 2), .int .u64 (lim (R) 3), .int .u64 (lim (S) 0), .int .u64 (lim (S) 1), .int .u64 (lim (S) 2), .int .u64 (lim (S) 3)] 26))
  replace Ak := (Arr.al' Ak (.cells #[.int .u64 (lim (R) 0), .int .u64 (lim (R) 1), .int .u64 (lim (R) 2), .int .u64 (lim (R) 3), .int .u64 (lim (S) 0), .int .u64 (lim (S) 1), .int .u64 (lim (S) 2), .int .u64 (lim (S) 3)] 26))
  replace Aq := (Arr.al' Aq (.cells #[.int .u64 (lim (R) 0), .int .u64 (lim (R) 1), .int .u64 (lim (R) 2), .int .u64 (lim (R) 3), .int .u64 (lim (S) 0), .int .u64 (lim (S) 1), .int .u64 (lim (S) 2), .int .u64 (lim (S) 3)] 26))
  have Ag : Arr ((w12.alloc (.cells #[.int .u64 (lim (R) 0), .int .u64 (lim (R) 1), .int .u64 (lim (R) 2), .int .u64 (lim (R) 3), .int .u64 (lim (S) 0), .int .u64 (lim (S) 1), .int .u64 (lim (S) 2), .int .u64 (lim (S) 3)] 26))) (w12.heap.size) 8 (sgx (R) (S)) := by refine Arr.mk8' ?_ ?_ ?_ ?_ ?_ ?_ ?_ ?_ ?_ <;> simp [go_sem, sgx, zg]
  replace hB := (Bel.al hB (.cells #[.int .u64 (lim (R) 0), .int .u64 (lim (R) 1), .int .u64 (lim (R) 2), .int .u64 (lim (R) 3), .int .u64 (lim (S) 0), .int .u64 (lim (S) 1), .int .u64 (lim (S) 2), .int .u64 (lim (S) 3)] 26))
  have cd := Ad.c
  go_wp2_with fail
  refine (C3 _).mono ?_
  rintro e w13 ⟨rfl, hb⟩
  replace Ad := Arr.to' Ad hb
  replace Ak := Arr.to' Ak hb
  replace Aq := Arr.to' Aq hb
  replace Ag := Arr.to' Ag hb
  replace hB := Bel.call hB hb
  clear hb cd
  obtain ⟨cq_0, cq_1, cq_2, cq_3, cq_4, cq_5, cq_6, cq_7, cq_8⟩ := Arr.c_px Aq
  obtain ⟨cg_0, cg_1, cg_2, cg_3, cg_4, cg_5, cg_6, cg_7⟩ := Arr.c_sgx Ag
  go_wp2_with fail
  refine (C4 _).mono ?_
  rintro e w14 ⟨rfl, hb⟩
  replace Ad := Arr.to' Ad hb
  replace Ak := Arr.to' Ak hb
  replace Aq := Arr.to' Aq hb
  replace Ag := Arr.to' Ag hb
  replace hB := Bel.call hB hb
  clear hb cq_0 cq_1 cq_2 cq_3 cq_4 cq_5 cq_6 cq_7 cq_8 cg_0 cg_1 cg_2 cg_3 cg_4 cg_5 cg_6 cg_7
  go_wp2_with fail
  refine (C5 _).mono ?_
  rintro e w15 ⟨rfl, hb⟩
  replace Ad := Arr.to' Ad hb
  replace Ak := Arr.to' Ak hb
  replace Aq := Arr.to' Aq hb
  replace Ag := Arr.to' Ag hb
  replace hB := Bel.call hB hb
  clear hb
  have ld_4 := Ad.lt
  have lk_4 := Ak.lt
  have lq_4 := Aq.lt
  have lg_4 := Ag.lt
  have lB_4 := hB.size
  replace Ad := (Arr.al' Ad (.cells #[.int .u64 (lim (x) 0), .int .u64 (lim (x) 1), .int .u64 (lim (x) 2), .int .u64 (lim (x) 3)] 24))
  replace Ak := (Arr.al' Ak (.cells #[.int .u64 (lim (x) 0), .int .u64 (lim (x) 1), .int .u64 (lim (x) 2), .int .u64 (lim (x) 3)] 24))
  replace Aq := (Arr.al' Aq (.cells #[.int .u64 (lim (x) 0), .int .u64 (lim (x) 1), .int .u64 (lim (x) 2), .int .u64 (lim (x) 3)] 24))
  replace Ag := (Arr.al' Ag (.cells #[.int .u64 (lim (x) 0), .int .u64 (lim (x) 1), .int .u64 (lim (x) 2), .int .u64 (lim (x) 3)] 24))
  have Ax : Arr ((w15.alloc (.cells #[.int .u64 (lim (x) 0), .int .u64 (lim (x) 1), .int .u64 (lim (x) 2), .int .u64 (lim (x) 3)] 24))) (w15.heap.size) 4 (fun j => .int .u64 (lim (x) j)) := by refine Arr.mk4 ?_ ?_ ?_ ?_ ?_ ?_ ?_ ?_ <;> simp [go_sem]
  replace hB := (Bel.al hB (.cells #[.int .u64 (lim (x) 0), .int .u64 (lim (x) 1), .int .u64 (lim (x) 2), .int .u64 (lim (x) 3)] 24))
  go_wp2_with fail
  refine (C6 _).mono ?_
  rintro e w16 ⟨rfl, hb⟩
  replace Ad := Arr.to' Ad hb
  replace Ak := Arr.to' Ak hb
  replace Aq := Arr.to' Aq hb
  replace Ag := Arr.to' Ag hb
  replace Ax := Arr.to' Ax hb
  replace hB := Bel.call hB hb
  clear hb
  go_wp2_with fail
  have ld_5 := Ad.lt
  have lk_5 := Ak.lt
  have lq_5 := Aq.lt
  have lg_5 := Ag.lt
  have lx_5 := Ax.lt
  have lB_5 := hB.size
  replace Ad := (Arr.al' (Arr.al' Ad (.cells #[.int .u64 (lim (y) 0), .int .u64 (lim (y) 1), .int .u64 (lim (y) 2), .int .u64 (lim (y) 3)] 24)) (.cells #[.int .u64 0, .int .u64 0, .int .u64 0, .int .u64 0] 24))
  replace Ak := (Arr.al' (Arr.al' Ak (.cells #[.int .u64 (lim (y) 0), .int .u64 (lim (y) 1), .int .u64 (lim (y) 2), .int .u64 (lim (y) 3)] 24)) (.cells #[.int .u64 0, .int .u64 0, .int .u64 0, .int .u64 0] 24))
  replace Aq := (Arr.al' (Arr.al' Aq (.cells #[.int .u64 (lim (y) 0), .int .u64 (lim (y) 1), .int .u64 (lim (y) 2), .int .u64 (lim (y) 3)] 24)) (.cells #[.int .u64 0, .int .u64 0, .int .u64 0, .int .u64 0] 24))
  replace Ag := (Arr.al' (Arr.al' Ag (.cells #[.int .u64 (lim (y) 0), .int .u64 (lim (y) 1), .int .u64 (lim (y) 2), .int .u64 (lim (y) 3)] 24)) (.cells #[.int .u64 0, .int .u64 0, .int .u64 0, .int .u64 0] 24))
  replace Ax := (Arr.al' (Arr.al' Ax (.cells #[.int .u64 (lim (y) 0), .int .u64 (lim (y) 1), .int .u64 (lim (y) 2), .int .u64 (lim (y) 3)] 24)) (.cells #[.int .u64 0, .int .u64 0, .int .u64 0, .int .u64 0] 24))
  obtain ⟨W0, hW0⟩ : ∃ W0, W0 = ((w16.alloc (.cells #[.int .u64 (lim (y) 0), .int .u64 (lim (y) 1), .int .u64 (lim (y) 2), .int .u64 (lim (y) 3)] 24)).alloc (.cells #[.int .u64 0, .int .u64 0, .int .u64 0, .int .u64 0] 24)) := ⟨_, rfl⟩
  have Ay : Arr W0 (w16.heap.size) 4 (fun j => .int .u64 (lim (y) j)) := by subst hW0; refine Arr.mk4 ?_ ?_ ?_ ?_ ?_ ?_ ?_ ?_ <;> simp [go_sem]
  have Az : Arr W0 (w16.heap.size + 1) 4 (nx 0 0 0 0) := by subst hW0; refine Arr.mk4 ?_ ?_ ?_ ?_ ?_ ?_ ?_ ?_ <;> simp [go_sem, nx]
  subst hW0
  replace hB := (Bel.al (Bel.al hB (.cells #[.int .u64 (lim (y) 0), .int .u64 (lim (y) 1), .int .u64 (lim (y) 2), .int .u64 (lim (y) 3)] 24)) (.cells #[.int .u64 0, .int .u64 0, .int .u64 0, .int .u64 0] 24))
  obtain ⟨rx0, rx1, rx2, rx3⟩ := Arr.g4 Ax
  obtain ⟨ry0, ry1, ry2, ry3⟩ := Arr.g4 Ay
  have rz0 := Az.cg 0 (by omega) (.int .u64 0) rfl
  have rz1 := Az.cg 1 (by omega) (.int .u64 0) rfl
  have rz2 := Az.cg 2 (by omega) (.int .u64 0) rfl
  have rz3 := Az.cg 3 (by omega) (.int .u64 0) rfl
  refine wp_region_quiet_below (by kernel_rfl) (by kernel_rfl) ?_
  repeat (go_big_quiet_step (first | (go_at_call 19; with_reducible first | exact Calls.regrown_of (C7 _)) | (go_at_call 18; with_reducible first | exact Calls.regrown_of (C8 _) | exact Calls.regrown_of (C9 _))))
  refine wpQuiet_nil ?_
  intro w7 hw'
  obtain ⟨⟨dq, osq⟩, hw''⟩ := hw'
  have hb := below_of hw''
  clear hw''
  replace Ad := Arr.to' Ad hb
  replace Ak := Arr.to' Ak hb
  replace Aq := Arr.to' Aq hb
  replace Ag := Arr.to' Ag hb
  replace Ax := Arr.to' Ax hb
  replace Ay := Arr.to' Ay hb
  replace Az := Arr.to' Az hb
  replace hB := Bel.call hB hb
  clear hb rx0 rx1 rx2 rx3 ry0 ry1 ry2 ry3 rz0 rz1 rz2 rz3
  go_wp2_with fail
  apply wp_region_pure_tail 4 3 #[true, true, true, true, false, false, false, true, false, false] #[true, true, true, true, true, true, true, false, false, false] (by kernel_rfl) (by intro c d v a w h; cases d <;> exact h) (by kernel_rfl) (by kernel_rfl) (.cells #[.int .u64 0, .int .u64 0, .int .u64 0, .int .u64 0] 24) _ rfl (fun _ _ => by simp [go_sem])
  · intro W hW
    obtain ⟨rg0, rg1, rg2, rg3, rg4, rg5, rg6, rg7⟩ := Arr.g_sgx (Arr.to' Ag hW)
    simp only [List.take_succ_cons, List.take_zero]
    repeat (go_big_quiet_step (first | (go_at_call 19; with_reducible first | exact Calls.regrown_of (C7 _)) | (go_at_call 20; with_reducible first | exact Calls.regrown_of (C10 _))))
    exact wpQuiet_nil rfl
  · exact ⟨_, Or.inl ⟨rfl, fun _ => rfl⟩, ⟨_, Or.inl ⟨rfl, fun _ => rfl⟩, ⟨_, Or.inl ⟨rfl, fun _ => rfl⟩, rfl⟩⟩⟩
  · intro v; exact ⟨_, Or.inl ⟨rfl, fun _ => rfl⟩, ⟨_, Or.inl ⟨rfl, fun _ => rfl⟩, ⟨_, Or.inl ⟨rfl, fun _ => rfl⟩, rfl⟩⟩⟩
  intro v8 w18 hb1 hb2
  simp only [List.drop_succ_cons, List.drop_zero, Act.put, List.setIfInBounds_toArray, List.set_cons_succ, List.set_cons_zero]
  have Ed := Arr.to' Ad hb1
  have ld_v8 := Ed.lt
  have Bd := Arr.to' (Arr.al' Ed _) hb2
  have Ek := Arr.to' Ak hb1
  have lk_v8 := Ek.lt
  have Bk := Arr.to' (Arr.al' Ek _) hb2
  have Eq := Arr.to' Aq hb1
  have lq_v8 := Eq.lt
  have Bq := Arr.to' (Arr.al' Eq _) hb2
  have Eg := Arr.to' Ag hb1
  have lg_v8 := Eg.lt
  have Bg := Arr.to' (Arr.al' Eg _) hb2
  have Ex := Arr.to' Ax hb1
  have lx_v8 := Ex.lt
  have Bx := Arr.to' (Arr.al' Ex _) hb2
  have Ey := Arr.to' Ay hb1
  have ly_v8 := Ey.lt
  have By := Arr.to' (Arr.al' Ey _) hb2
  have Ez := Arr.to' Az hb1
  have lz_v8 := Ez.lt
  have Bz := Arr.to' (Arr.al' Ez _) hb2
  have Bf := (Arr.mk4 (w := (v8.alloc (.cells #[.int .u64 0, .int .u64 0, .int .u64 0, .int .u64 0] 24))) (f := fun _ => .int .u64 0) (b := v8.heap.size) (by simp [go_sem]) (by simp [go_sem]) (by simp [go_sem]) (by simp [go_sem]) (by simp [go_sem]) (by simp [go_sem]) (by simp [go_sem]) (by simp [go_sem])).below hb2 (by go_size)
  have lB_v8 := (Bel.call hB hb1).size
  have hB' := Bel.call (Bel.al (Bel.call hB hb1) _) hb2
  clear hb1 hb2 Ed Ek Eq Eg Ex Ey Ez Ad Ak Aq Ag Ax Ay Az hB
  have Ad := Bd
  have Ak := Bk
  have Aq := Bq
  have Ag := Bg
  have Ax := Bx
  have Ay := By
  have Az := Bz
  have Af := Bf
  have hB := hB'
  clear Bd Bk Bq Bg Bx By Bz Bf hB'
  have cf := Af.c
  have zf := Af.z
  have Bd := Arr.st4o (b' := v8.heap.size) Ad (by have := Ad.lt; have := Af.lt; omega) (F)
  have Bk := Arr.st4o (b' := v8.heap.size) Ak (by have := Ak.lt; have := Af.lt; omega) (F)
  have Bq := Arr.st4o (b' := v8.heap.size) Aq (by have := Aq.lt; have := Af.lt; omega) (F)
  have Bg := Arr.st4o (b' := v8.heap.size) Ag (by have := Ag.lt; have := Af.lt; omega) (F)
  have Bx := Arr.st4o (b' := v8.heap.size) Ax (by have := Ax.lt; have := Af.lt; omega) (F)
  have By := Arr.st4o (b' := v8.heap.size) Ay (by have := Ay.lt; have := Af.lt; omega) (F)
  have Bz := Arr.st4o (b' := v8.heap.size) Az (by have := Az.lt; have := Af.lt; omega) (F)
  have Bf := Arr.st4 Af (F)
  have hB' := Bel.st4 hB (b := v8.heap.size) (by have := hB.size; omega) (F)
  clear Ad Ak Aq Ag Ax Ay Az Af hB
  have Ad := Bd
  have Ak := Bk
  have Aq := Bq
  have Ag := Bg
  have Ax := Bx
  have Ay := By
  have Az := Bz
  have Af := Bf
  have hB := hB'
  clear Bd Bk Bq Bg Bx By Bz Bf hB'
  obtain ⟨rf0, rf1, rf2, rf3⟩ := Arr.g4 Af
  go_wp2_with fail
  refine wp_region_quiet_below (by kernel_rfl) (by kernel_rfl) ?_
  repeat (go_big_quiet_step (first | (go_at_call 22; with_reducible first | exact Calls.regrown_of (C11 _)) | (go_at_call 21; with_reducible first | exact Calls.regrown_of (C12 _))))
  refine wpQuiet_nil ?_
  intro w9 hw'
  obtain ⟨⟨dq, osq⟩, hw''⟩ := hw'
  have hb := below_of hw''
  clear hw''
  replace Ad := Arr.to' Ad hb
  replace Ak := Arr.to' Ak hb
  replace Aq := Arr.to' Aq hb
  replace Ag := Arr.to' Ag hb
  replace Ax := Arr.to' Ax hb
  replace Ay := Arr.to' Ay hb
  replace Az := Arr.to' Az hb
  replace Af := Arr.to' Af hb
  replace hB := Bel.call hB hb
  clear hb cf zf rf0 rf1 rf2 rf3
  go_wp2_with fail
  apply wp_region_alloc_tail 14 (by kernel_rfl) (by kernel_rfl) (by kernel_rfl) (.cells #[.int .u64 0, .int .u64 0, .int .u64 0, .int .u64 0] 24) _ rfl (fun _ _ => by simp [go_sem])
  · intro W hW
    obtain ⟨rx0, rx1, rx2, rx3⟩ := Arr.g4 (Arr.to' Ax hW)
    obtain ⟨ry0, ry1, ry2, ry3⟩ := Arr.g4 (Arr.to' Ay hW)
    obtain ⟨rg0, rg1, rg2, rg3, rg4, rg5, rg6, rg7⟩ := Arr.g_sgx (Arr.to' Ag hW)
    obtain ⟨rd0, rd1, rd2, rd3⟩ := Arr.g4 (Arr.to' Ad hW)
    simp only [List.take_succ_cons, List.take_zero]
    repeat (go_big_quiet_step (first | (go_at_call 19; with_reducible first | exact Calls.regrown_of (C7 _)) | (go_at_call 23; with_reducible first | exact Calls.regrown_of (C13 _) | exact Calls.regrown_of (C16 _)) | (go_at_call 24; with_reducible first | exact Calls.regrown_of (C14 _) | exact Calls.regrown_of (C15 _))))
    exact wpQuiet_nil rfl
  intro v10 w20 hb1 hb2
  simp only [List.drop_succ_cons, List.drop_zero, Act.put, List.setIfInBounds_toArray, List.set_cons_succ, List.set_cons_zero]
  have Ed := Arr.to' Ad hb1
  have ld_v10 := Ed.lt
  have Bd := Arr.to' (Arr.al' Ed _) hb2
  have Ek := Arr.to' Ak hb1
  have lk_v10 := Ek.lt
  have Bk := Arr.to' (Arr.al' Ek _) hb2
  have Eq := Arr.to' Aq hb1
  have lq_v10 := Eq.lt
  have Bq := Arr.to' (Arr.al' Eq _) hb2
  have Eg := Arr.to' Ag hb1
  have lg_v10 := Eg.lt
  have Bg := Arr.to' (Arr.al' Eg _) hb2
  have Ex := Arr.to' Ax hb1
  have lx_v10 := Ex.lt
  have Bx := Arr.to' (Arr.al' Ex _) hb2
  have Ey := Arr.to' Ay hb1
  have ly_v10 := Ey.lt
  have By := Arr.to' (Arr.al' Ey _) hb2
  have Ez := Arr.to' Az hb1
  have lz_v10 := Ez.lt
  have Bz := Arr.to' (Arr.al' Ez _) hb2
  have Ef := Arr.to' Af hb1
  have lf_v10 := Ef.lt
  have Bf := Arr.to' (Arr.al' Ef _) hb2
  have Bt := (Arr.mk4 (w := (v10.alloc (.cells #[.int .u64 0, .int .u64 0, .int .u64 0, .int .u64 0] 24))) (f := fun _ => .int .u64 0) (b := v10.heap.size) (by simp [go_sem]) (by simp [go_sem]) (by simp [go_sem]) (by simp [go_sem]) (by simp [go_sem]) (by simp [go_sem]) (by simp [go_sem]) (by simp [go_sem])).below hb2 (by go_size)
  have lB_v10 := (Bel.call hB hb1).size
  have hB' := Bel.call (Bel.al (Bel.call hB hb1) _) hb2
  clear hb1 hb2 Ed Ek Eq Eg Ex Ey Ez Ef Ad Ak Aq Ag Ax Ay Az Af hB
  have Ad := Bd
  have Ak := Bk
  have Aq := Bq
  have Ag := Bg
  have Ax := Bx
  have Ay := By
  have Az := Bz
  have Af := Bf
  have At := Bt
  have hB := hB'
  clear Bd Bk Bq Bg Bx By Bz Bf Bt hB'
  have ct := At.c
  have zt := At.z
  have Bd := Arr.st4o (b' := v10.heap.size) Ad (by have := Ad.lt; have := At.lt; omega) (t)
  have Bk := Arr.st4o (b' := v10.heap.size) Ak (by have := Ak.lt; have := At.lt; omega) (t)
  have Bq := Arr.st4o (b' := v10.heap.size) Aq (by have := Aq.lt; have := At.lt; omega) (t)
  have Bg := Arr.st4o (b' := v10.heap.size) Ag (by have := Ag.lt; have := At.lt; omega) (t)
  have Bx := Arr.st4o (b' := v10.heap.size) Ax (by have := Ax.lt; have := At.lt; omega) (t)
  have By := Arr.st4o (b' := v10.heap.size) Ay (by have := Ay.lt; have := At.lt; omega) (t)
  have Bz := Arr.st4o (b' := v10.heap.size) Az (by have := Az.lt; have := At.lt; omega) (t)
  have Bf := Arr.st4o (b' := v10.heap.size) Af (by have := Af.lt; have := At.lt; omega) (t)
  have Bt := Arr.st4 At (t)
  have hB' := Bel.st4 hB (b := v10.heap.size) (by have := hB.size; omega) (t)
  clear Ad Ak Aq Ag Ax Ay Az Af At hB
  have Ad := Bd
  have Ak := Bk
  have Aq := Bq
  have Ag := Bg
  have Ax := Bx
  have Ay := By
  have Az := Bz
  have Af := Bf
  have At := Bt
  have hB := hB'
  clear Bd Bk Bq Bg Bx By Bz Bf Bt hB'
  have ct := At.c
  have cz_0 := Az.cv 0 (by omega) (.int .u64 0) rfl
  have cz_1 := Az.cv 1 (by omega) (.int .u64 0) rfl
  have cz_2 := Az.cv 2 (by omega) (.int .u64 0) rfl
  have cz_3 := Az.cv 3 (by omega) (.int .u64 0) rfl
  obtain ⟨cq_0, cq_1, cq_2, cq_3, cq_4, cq_5, cq_6, cq_7, cq_8⟩ := Arr.c_px Aq
  obtain ⟨cg_0, cg_1, cg_2, cg_3, cg_4, cg_5, cg_6, cg_7⟩ := Arr.c_sgx Ag
  go_wp2_with fail
  refine (C17 _).mono ?_
  rintro e w21 ⟨rfl, hb⟩
  replace Ad := Arr.to' Ad hb
  replace Ak := Arr.to' Ak hb
  replace Aq := Arr.to' Aq hb
  replace Ag := Arr.to' Ag hb
  replace Ax := Arr.to' Ax hb
  replace Ay := Arr.to' Ay hb
  replace Az := Arr.to' Az hb
  replace Af := Arr.to' Af hb
  replace At := Arr.to' At hb
  replace hB := Bel.call hB hb
  clear hb ct zt cz_0 cz_1 cz_2 cz_3 cq_0 cq_1 cq_2 cq_3 cq_4 cq_5 cq_6 cq_7 cq_8 cg_0 cg_1 cg_2 cg_3 cg_4 cg_5 cg_6 cg_7
  go_wp2_with fail
  go_ret
  exact ⟨rfl, hB⟩
set_option maxHeartbeats 8000000 in
theorem holds_7 (D K X Y R S x y a b F u v m t c : Int) (i : Bool) (s o : ByteArray) (hq : (lim a 0 == lim b 0 && (lim a 1 == lim b 1 && (lim a 2 == lim b 2 && lim a 3 == lim b 3))) = false) (hc : ¬ c < 0) (ht : (lim t 0 == 0 && (lim t 1 == 0 && (lim t 2 == 0 && lim t 3 == 0))) = false) (w : World)
    (C1 : ∀ W, Calls Tryz.prog 7 #[nv D] W fun e w' => e = .returned (.tuple #[pv X Y i, .int .i64 0]) ∧ Below W.heap.size W w')
    (C2 : ∀ W, Calls Tryz.prog 9 #[nv D, nv K, .string s] W fun e w' => e = .returned (.tuple #[gv R S, .int .i64 0]) ∧ Below W.heap.size W w')
    (C3 : ∀ W, Calls Tryz.prog 16 #[nv D] W fun e w' => e = .returned (.bool true) ∧ Below W.heap.size W w')
    (C4 : ∀ W, Calls Tryz.prog 14 #[pv X Y i, .string s, gv R S] W fun e w' => e = .returned (.int .i64 0) ∧ Below W.heap.size W w')
    (C5 : ∀ W, Calls Tryz.prog 17 #[.string s] W fun e w' => e = .returned (.tuple #[nv x, .int .i64 0]) ∧ Below W.heap.size W w')
    (C6 : ∀ W, Calls Tryz.prog 17 #[.string o] W fun e w' => e = .returned (.tuple #[nv y, .int .i64 0]) ∧ Below W.heap.size W w')
    (C7 : ∀ W, Calls Tryz.prog 19 #[] W fun e w' => e = .returned (nv nn) ∧ Below W.heap.size W w')
    (C8 : ∀ W, Calls Tryz.prog 18 #[nv x, .agg #[.int .u64 0, .int .u64 0, .int .u64 0, .int .u64 0], nv nn] W fun e w' => e = .returned (nv a) ∧ Below W.heap.size W w')
    (C9 : ∀ W, Calls Tryz.prog 18 #[nv y, .agg #[.int .u64 0, .int .u64 0, .int .u64 0, .int .u64 0], nv nn] W fun e w' => e = .returned (nv b) ∧ Below W.heap.size W w')
    (C10 : ∀ W, Calls Tryz.prog 20 #[nv R, nv nn] W fun e w' => e = .returned (.tuple #[nv F, .int .u64 0]) ∧ Below W.heap.size W w')
    (C11 : ∀ W, Calls Tryz.prog 22 #[] W fun e w' => e = .returned (nv pp) ∧ Below W.heap.size W w')
    (C12 : ∀ W, Calls Tryz.prog 21 #[nv F, nv pp] W fun e w' => e = .returned (.int .i64 c) ∧ Below W.heap.size W w')
    (C13 : ∀ W, Calls Tryz.prog 23 #[nv x, nv y, nv nn] W fun e w' => e = .returned (nv u) ∧ Below W.heap.size W w')
    (C14 : ∀ W, Calls Tryz.prog 24 #[nv R, nv D, nv nn] W fun e w' => e = .returned (nv v) ∧ Below W.heap.size W w')
    (C15 : ∀ W, Calls Tryz.prog 24 #[.agg #[.int .u64 2, .int .u64 0, .int .u64 0, .int .u64 0], nv v, nv nn] W fun e w' => e = .returned (nv m) ∧ Below W.heap.size W w')
    (C16 : ∀ W, Calls Tryz.prog 23 #[nv u, nv m, nv nn] W fun e w' => e = .returned (nv t) ∧ Below W.heap.size W w')
    (C17 : ∀ W, Calls Tryz.prog 14 #[pv X Y i, .string o, gv R S] W fun e w' => e = .returned (.int .i64 16) ∧ Below W.heap.size W w')
    (C18 : ∀ W, Calls Tryz.prog 13 #[] W fun e w' => e = .returned (.bool true) ∧ Below W.heap.size W w') :
    Calls Tryz.prog 5 #[nv D, nv K, .string s, .string o] w fun e w' => e = .returned (.bool true) ∧ Below w.heap.size w w' := by
  go_enter Tryz.func5, Tryz.ntmps5
  obtain ⟨W0, hW0⟩ : ∃ W0, W0 = ((w.alloc (.cells #[.int .u64 (lim (D) 0), .int .u64 (lim (D) 1), .int .u64 (lim (D) 2), .int .u64 (lim (D) 3)] 24)).alloc (.cells #[.int .u64 (lim (K) 0), .int .u64 (lim (K) 1), .int .u64 (lim (K) 2), .int .u64 (lim (K) 3)] 24)) := ⟨_, rfl⟩
  have Ad : Arr W0 (w.heap.size) 4 (fun j => .int .u64 (lim (D) j)) := by subst hW0; refine Arr.mk4 ?_ ?_ ?_ ?_ ?_ ?_ ?_ ?_ <;> simp [go_sem]
  have Ak : Arr W0 (w.heap.size + 1) 4 (fun j => .int .u64 (lim (K) j)) := by subst hW0; refine Arr.mk4 ?_ ?_ ?_ ?_ ?_ ?_ ?_ ?_ <;> simp [go_sem]
  have hB : Below w.heap.size w W0 := by subst hW0; go_grown
  subst hW0
  have cd := Ad.c
  go_wp2_with fail
  refine (C1 _).mono ?_
  rintro e w1 ⟨rfl, hb⟩
  replace Ad := Arr.to' Ad hb
  replace Ak := Arr.to' Ak hb
  replace hB := Bel.call hB hb
  clear hb cd
  have ld_2 := Ad.lt
  have lk_2 := Ak.lt
  have lB_2 := hB.size
  replace Ad := (Arr.al' Ad (.cells #[.int .u64 (lim (X) 0), .int .u64 (lim (X) 1), .int .u64 (lim (X) 2), .int .u64 (lim (X) 3), .int .u64 (lim (Y) 0), .int .u64 (lim (Y) 1), .int .u64 (lim (Y) 2), .int .u64 (lim (Y) 3), .bool i] 28))
  replace Ak := (Arr.al' Ak (.cells #[.int .u64 (lim (X) 0), .int .u64 (lim (X) 1), .int .u64 (lim (X) 2), .int .u64 (lim (X) 3), .int .u64 (lim (Y) 0), .int .u64 (lim (Y) 1), .int .u64 (lim (Y) 2), .int .u64 (lim (Y) 3), .bool i] 28))
  have Aq : Arr ((w1.alloc (.cells #[.int .u64 (lim (X) 0), .int .u64 (lim (X) 1), .int .u64 (lim (X) 2), .int .u64 (lim (X) 3), .int .u64 (lim (Y) 0), .int .u64 (lim (Y) 1), .int .u64 (lim (Y) 2), .int .u64 (lim (Y) 3), .bool i] 28))) (w1.heap.size) 9 (px (X) (Y) i) := by refine Arr.mk9p ?_ ?_ ?_ ?_ ?_ ?_ ?_ ?_ ?_ ?_ <;> simp [go_sem, px, sx, zx]
  replace hB := (Bel.al hB (.cells #[.int .u64 (lim (X) 0), .int .u64 (lim (X) 1), .int .u64 (lim (X) 2), .int .u64 (lim (X) 3), .int .u64 (lim (Y) 0), .int .u64 (lim (Y) 1), .int .u64 (lim (Y) 2), .int .u64 (lim (Y) 3), .bool i] 28))
  have cd := Ad.c
  have ck := Ak.c
  go_wp2_with fail
  refine (C2 _).mono ?_
  rintro e w12 ⟨rfl, hb⟩
  replace Ad := Arr.to' Ad hb
  replace Ak := Arr.to' Ak hb
  replace Aq := Arr.to' Aq hb
  replace hB := Bel.call hB hb
  clear hb cd ck
  have ld_3 := Ad.lt
  have lk_3 := Ak.lt
  have lq_3 := Aq.lt
  have lB_3 := hB.size
  replace Ad := (Arr.al' Ad (.cells #[.int .u64 (lim (R) 0), .int .u64 (lim (R) 1), .int .u64 (lim (R) 2), .int .u64 (lim (R) 3), .int .u64 (lim (S) 0), .int .u64 (lim (S) 1), .int .u64 (lim (S) 2), .int .u64 (lim (S) 3)] 26))
  replace Ak := (Arr.al' Ak (.cells #[.int .u64 (lim (R) 0), .int .u64 (lim (R) 1), .int .u64 (lim (R) 2), .int .u64 (lim (R) 3), .int .u64 (lim (S) 0), .int .u64 (lim (S) 1), .int .u64 (lim (S) 2), .int .u64 (lim (S) 3)] 26))
  replace Aq := (Arr.al' Aq (.cells #[.int .u64 (lim (R) 0), .int .u64 (lim (R) 1), .int .u64 (lim (R) 2), .int .u64 (lim (R) 3), .int .u64 (lim (S) 0), .int .u64 (lim (S) 1), .int .u64 (lim (S) 2), .int .u64 (lim (S) 3)] 26))
  have Ag : Arr ((w12.alloc (.cells #[.int .u64 (lim (R) 0), .int .u64 (lim (R) 1), .int .u64 (lim (R) 2), .int .u64 (lim (R) 3), .int .u64 (lim (S) 0), .int .u64 (lim (S) 1), .int .u64 (lim (S) 2), .int .u64 (lim (S) 3)] 26))) (w12.heap.size) 8 (sgx (R) (S)) := by refine Arr.mk8' ?_ ?_ ?_ ?_ ?_ ?_ ?_ ?_ ?_ <;> simp [go_sem, sgx, zg]
  replace hB := (Bel.al hB (.cells #[.int .u64 (lim (R) 0), .int .u64 (lim (R) 1), .int .u64 (lim (R) 2), .int .u64 (lim (R) 3), .int .u64 (lim (S) 0), .int .u64 (lim (S) 1), .int .u64 (lim (S) 2), .int .u64 (lim (S) 3)] 26))
  have cd := Ad.c
  go_wp2_with fail
  refine (C3 _).mono ?_
  rintro e w13 ⟨rfl, hb⟩
  replace Ad := Arr.to' Ad hb
  replace Ak := Arr.to' Ak hb
  replace Aq := Arr.to' Aq hb
  replace Ag := Arr.to' Ag hb
  replace hB := Bel.call hB hb
  clear hb cd
  obtain ⟨cq_0, cq_1, cq_2, cq_3, cq_4, cq_5, cq_6, cq_7, cq_8⟩ := Arr.c_px Aq
  obtain ⟨cg_0, cg_1, cg_2, cg_3, cg_4, cg_5, cg_6, cg_7⟩ := Arr.c_sgx Ag
  go_wp2_with fail
  refine (C4 _).mono ?_
  rintro e w14 ⟨rfl, hb⟩
  replace Ad := Arr.to' Ad hb
  replace Ak := Arr.to' Ak hb
  replace Aq := Arr.to' Aq hb
  replace Ag := Arr.to' Ag hb
  replace hB := Bel.call hB hb
  clear hb cq_0 cq_1 cq_2 cq_3 cq_4 cq_5 cq_6 cq_7 cq_8 cg_0 cg_1 cg_2 cg_3 cg_4 cg_5 cg_6 cg_7
  go_wp2_with fail
  refine (C5 _).mono ?_
  rintro e w15 ⟨rfl, hb⟩
  replace Ad := Arr.to' Ad hb
  replace Ak := Arr.to' Ak hb
  replace Aq := Arr.to' Aq hb
  replace Ag := Arr.to' Ag hb
  replace hB := Bel.call hB hb
  clear hb
  have ld_4 := Ad.lt
  have lk_4 := Ak.lt
  have lq_4 := Aq.lt
  have lg_4 := Ag.lt
  have lB_4 := hB.size
  replace Ad := (Arr.al' Ad (.cells #[.int .u64 (lim (x) 0), .int .u64 (lim (x) 1), .int .u64 (lim (x) 2), .int .u64 (lim (x) 3)] 24))
  replace Ak := (Arr.al' Ak (.cells #[.int .u64 (lim (x) 0), .int .u64 (lim (x) 1), .int .u64 (lim (x) 2), .int .u64 (lim (x) 3)] 24))
  replace Aq := (Arr.al' Aq (.cells #[.int .u64 (lim (x) 0), .int .u64 (lim (x) 1), .int .u64 (lim (x) 2), .int .u64 (lim (x) 3)] 24))
  replace Ag := (Arr.al' Ag (.cells #[.int .u64 (lim (x) 0), .int .u64 (lim (x) 1), .int .u64 (lim (x) 2), .int .u64 (lim (x) 3)] 24))
  have Ax : Arr ((w15.alloc (.cells #[.int .u64 (lim (x) 0), .int .u64 (lim (x) 1), .int .u64 (lim (x) 2), .int .u64 (lim (x) 3)] 24))) (w15.heap.size) 4 (fun j => .int .u64 (lim (x) j)) := by refine Arr.mk4 ?_ ?_ ?_ ?_ ?_ ?_ ?_ ?_ <;> simp [go_sem]
  replace hB := (Bel.al hB (.cells #[.int .u64 (lim (x) 0), .int .u64 (lim (x) 1), .int .u64 (lim (x) 2), .int .u64 (lim (x) 3)] 24))
  go_wp2_with fail
  refine (C6 _).mono ?_
  rintro e w16 ⟨rfl, hb⟩
  replace Ad := Arr.to' Ad hb
  replace Ak := Arr.to' Ak hb
  replace Aq := Arr.to' Aq hb
  replace Ag := Arr.to' Ag hb
  replace Ax := Arr.to' Ax hb
  replace hB := Bel.call hB hb
  clear hb
  go_wp2_with fail
  have ld_5 := Ad.lt
  have lk_5 := Ak.lt
  have lq_5 := Aq.lt
  have lg_5 := Ag.lt
  have lx_5 := Ax.lt
  have lB_5 := hB.size
  replace Ad := (Arr.al' (Arr.al' Ad (.cells #[.int .u64 (lim (y) 0), .int .u64 (lim (y) 1), .int .u64 (lim (y) 2), .int .u64 (lim (y) 3)] 24)) (.cells #[.int .u64 0, .int .u64 0, .int .u64 0, .int .u64 0] 24))
  replace Ak := (Arr.al' (Arr.al' Ak (.cells #[.int .u64 (lim (y) 0), .int .u64 (lim (y) 1), .int .u64 (lim (y) 2), .int .u64 (lim (y) 3)] 24)) (.cells #[.int .u64 0, .int .u64 0, .int .u64 0, .int .u64 0] 24))
  replace Aq := (Arr.al' (Arr.al' Aq (.cells #[.int .u64 (lim (y) 0), .int .u64 (lim (y) 1), .int .u64 (lim (y) 2), .int .u64 (lim (y) 3)] 24)) (.cells #[.int .u64 0, .int .u64 0, .int .u64 0, .int .u64 0] 24))
  replace Ag := (Arr.al' (Arr.al' Ag (.cells #[.int .u64 (lim (y) 0), .int .u64 (lim (y) 1), .int .u64 (lim (y) 2), .int .u64 (lim (y) 3)] 24)) (.cells #[.int .u64 0, .int .u64 0, .int .u64 0, .int .u64 0] 24))
  replace Ax := (Arr.al' (Arr.al' Ax (.cells #[.int .u64 (lim (y) 0), .int .u64 (lim (y) 1), .int .u64 (lim (y) 2), .int .u64 (lim (y) 3)] 24)) (.cells #[.int .u64 0, .int .u64 0, .int .u64 0, .int .u64 0] 24))
  obtain ⟨W0, hW0⟩ : ∃ W0, W0 = ((w16.alloc (.cells #[.int .u64 (lim (y) 0), .int .u64 (lim (y) 1), .int .u64 (lim (y) 2), .int .u64 (lim (y) 3)] 24)).alloc (.cells #[.int .u64 0, .int .u64 0, .int .u64 0, .int .u64 0] 24)) := ⟨_, rfl⟩
  have Ay : Arr W0 (w16.heap.size) 4 (fun j => .int .u64 (lim (y) j)) := by subst hW0; refine Arr.mk4 ?_ ?_ ?_ ?_ ?_ ?_ ?_ ?_ <;> simp [go_sem]
  have Az : Arr W0 (w16.heap.size + 1) 4 (nx 0 0 0 0) := by subst hW0; refine Arr.mk4 ?_ ?_ ?_ ?_ ?_ ?_ ?_ ?_ <;> simp [go_sem, nx]
  subst hW0
  replace hB := (Bel.al (Bel.al hB (.cells #[.int .u64 (lim (y) 0), .int .u64 (lim (y) 1), .int .u64 (lim (y) 2), .int .u64 (lim (y) 3)] 24)) (.cells #[.int .u64 0, .int .u64 0, .int .u64 0, .int .u64 0] 24))
  obtain ⟨rx0, rx1, rx2, rx3⟩ := Arr.g4 Ax
  obtain ⟨ry0, ry1, ry2, ry3⟩ := Arr.g4 Ay
  have rz0 := Az.cg 0 (by omega) (.int .u64 0) rfl
  have rz1 := Az.cg 1 (by omega) (.int .u64 0) rfl
  have rz2 := Az.cg 2 (by omega) (.int .u64 0) rfl
  have rz3 := Az.cg 3 (by omega) (.int .u64 0) rfl
  refine wp_region_quiet_below (by kernel_rfl) (by kernel_rfl) ?_
  repeat (go_big_quiet_step (first | (go_at_call 19; with_reducible first | exact Calls.regrown_of (C7 _)) | (go_at_call 18; with_reducible first | exact Calls.regrown_of (C8 _) | exact Calls.regrown_of (C9 _))))
  refine wpQuiet_nil ?_
  intro w7 hw'
  obtain ⟨⟨dq, osq⟩, hw''⟩ := hw'
  have hb := below_of hw''
  clear hw''
  replace Ad := Arr.to' Ad hb
  replace Ak := Arr.to' Ak hb
  replace Aq := Arr.to' Aq hb
  replace Ag := Arr.to' Ag hb
  replace Ax := Arr.to' Ax hb
  replace Ay := Arr.to' Ay hb
  replace Az := Arr.to' Az hb
  replace hB := Bel.call hB hb
  clear hb rx0 rx1 rx2 rx3 ry0 ry1 ry2 ry3 rz0 rz1 rz2 rz3
  go_wp2_with fail
  apply wp_region_pure_tail 4 3 #[true, true, true, true, false, false, false, true, false, false] #[true, true, true, true, true, true, true, false, false, false] (by kernel_rfl) (by intro c d v a w h; cases d <;> exact h) (by kernel_rfl) (by kernel_rfl) (.cells #[.int .u64 0, .int .u64 0, .int .u64 0, .int .u64 0] 24) _ rfl (fun _ _ => by simp [go_sem])
  · intro W hW
    obtain ⟨rg0, rg1, rg2, rg3, rg4, rg5, rg6, rg7⟩ := Arr.g_sgx (Arr.to' Ag hW)
    simp only [List.take_succ_cons, List.take_zero]
    repeat (go_big_quiet_step (first | (go_at_call 19; with_reducible first | exact Calls.regrown_of (C7 _)) | (go_at_call 20; with_reducible first | exact Calls.regrown_of (C10 _))))
    exact wpQuiet_nil rfl
  · exact ⟨_, Or.inl ⟨rfl, fun _ => rfl⟩, ⟨_, Or.inl ⟨rfl, fun _ => rfl⟩, ⟨_, Or.inl ⟨rfl, fun _ => rfl⟩, rfl⟩⟩⟩
  · intro v; exact ⟨_, Or.inl ⟨rfl, fun _ => rfl⟩, ⟨_, Or.inl ⟨rfl, fun _ => rfl⟩, ⟨_, Or.inl ⟨rfl, fun _ => rfl⟩, rfl⟩⟩⟩
  intro v8 w18 hb1 hb2
  simp only [List.drop_succ_cons, List.drop_zero, Act.put, List.setIfInBounds_toArray, List.set_cons_succ, List.set_cons_zero]
  have Ed := Arr.to' Ad hb1
  have ld_v8 := Ed.lt
  have Bd := Arr.to' (Arr.al' Ed _) hb2
  have Ek := Arr.to' Ak hb1
  have lk_v8 := Ek.lt
  have Bk := Arr.to' (Arr.al' Ek _) hb2
  have Eq := Arr.to' Aq hb1
  have lq_v8 := Eq.lt
  have Bq := Arr.to' (Arr.al' Eq _) hb2
  have Eg := Arr.to' Ag hb1
  have lg_v8 := Eg.lt
  have Bg := Arr.to' (Arr.al' Eg _) hb2
  have Ex := Arr.to' Ax hb1
  have lx_v8 := Ex.lt
  have Bx := Arr.to' (Arr.al' Ex _) hb2
  have Ey := Arr.to' Ay hb1
  have ly_v8 := Ey.lt
  have By := Arr.to' (Arr.al' Ey _) hb2
  have Ez := Arr.to' Az hb1
  have lz_v8 := Ez.lt
  have Bz := Arr.to' (Arr.al' Ez _) hb2
  have Bf := (Arr.mk4 (w := (v8.alloc (.cells #[.int .u64 0, .int .u64 0, .int .u64 0, .int .u64 0] 24))) (f := fun _ => .int .u64 0) (b := v8.heap.size) (by simp [go_sem]) (by simp [go_sem]) (by simp [go_sem]) (by simp [go_sem]) (by simp [go_sem]) (by simp [go_sem]) (by simp [go_sem]) (by simp [go_sem])).below hb2 (by go_size)
  have lB_v8 := (Bel.call hB hb1).size
  have hB' := Bel.call (Bel.al (Bel.call hB hb1) _) hb2
  clear hb1 hb2 Ed Ek Eq Eg Ex Ey Ez Ad Ak Aq Ag Ax Ay Az hB
  have Ad := Bd
  have Ak := Bk
  have Aq := Bq
  have Ag := Bg
  have Ax := Bx
  have Ay := By
  have Az := Bz
  have Af := Bf
  have hB := hB'
  clear Bd Bk Bq Bg Bx By Bz Bf hB'
  have cf := Af.c
  have zf := Af.z
  have Bd := Arr.st4o (b' := v8.heap.size) Ad (by have := Ad.lt; have := Af.lt; omega) (F)
  have Bk := Arr.st4o (b' := v8.heap.size) Ak (by have := Ak.lt; have := Af.lt; omega) (F)
  have Bq := Arr.st4o (b' := v8.heap.size) Aq (by have := Aq.lt; have := Af.lt; omega) (F)
  have Bg := Arr.st4o (b' := v8.heap.size) Ag (by have := Ag.lt; have := Af.lt; omega) (F)
  have Bx := Arr.st4o (b' := v8.heap.size) Ax (by have := Ax.lt; have := Af.lt; omega) (F)
  have By := Arr.st4o (b' := v8.heap.size) Ay (by have := Ay.lt; have := Af.lt; omega) (F)
  have Bz := Arr.st4o (b' := v8.heap.size) Az (by have := Az.lt; have := Af.lt; omega) (F)
  have Bf := Arr.st4 Af (F)
  have hB' := Bel.st4 hB (b := v8.heap.size) (by have := hB.size; omega) (F)
  clear Ad Ak Aq Ag Ax Ay Az Af hB
  have Ad := Bd
  have Ak := Bk
  have Aq := Bq
  have Ag := Bg
  have Ax := Bx
  have Ay := By
  have Az := Bz
  have Af := Bf
  have hB := hB'
  clear Bd Bk Bq Bg Bx By Bz Bf hB'
  obtain ⟨rf0, rf1, rf2, rf3⟩ := Arr.g4 Af
  go_wp2_with fail
  refine wp_region_quiet_below (by kernel_rfl) (by kernel_rfl) ?_
  repeat (go_big_quiet_step (first | (go_at_call 22; with_reducible first | exact Calls.regrown_of (C11 _)) | (go_at_call 21; with_reducible first | exact Calls.regrown_of (C12 _))))
  refine wpQuiet_nil ?_
  intro w9 hw'
  obtain ⟨⟨dq, osq⟩, hw''⟩ := hw'
  have hb := below_of hw''
  clear hw''
  replace Ad := Arr.to' Ad hb
  replace Ak := Arr.to' Ak hb
  replace Aq := Arr.to' Aq hb
  replace Ag := Arr.to' Ag hb
  replace Ax := Arr.to' Ax hb
  replace Ay := Arr.to' Ay hb
  replace Az := Arr.to' Az hb
  replace Af := Arr.to' Af hb
  replace hB := Bel.call hB hb
  clear hb cf zf rf0 rf1 rf2 rf3
  go_wp2_with fail
  apply wp_region_alloc_tail 14 (by kernel_rfl) (by kernel_rfl) (by kernel_rfl) (.cells #[.int .u64 0, .int .u64 0, .int .u64 0, .int .u64 0] 24) _ rfl (fun _ _ => by simp [go_sem])
  · intro W hW
    obtain ⟨rx0, rx1, rx2, rx3⟩ := Arr.g4 (Arr.to' Ax hW)
    obtain ⟨ry0, ry1, ry2, ry3⟩ := Arr.g4 (Arr.to' Ay hW)
    obtain ⟨rg0, rg1, rg2, rg3, rg4, rg5, rg6, rg7⟩ := Arr.g_sgx (Arr.to' Ag hW)
    obtain ⟨rd0, rd1, rd2, rd3⟩ := Arr.g4 (Arr.to' Ad hW)
    simp only [List.take_succ_cons, List.take_zero]
    repeat (go_big_quiet_step (first | (go_at_call 19; with_reducible first | exact Calls.regrown_of (C7 _)) | (go_at_call 23; with_reducible first | exact Calls.regrown_of (C13 _) | exact Calls.regrown_of (C16 _)) | (go_at_call 24; with_reducible first | exact Calls.regrown_of (C14 _) | exact Calls.regrown_of (C15 _))))
    exact wpQuiet_nil rfl
  intro v10 w20 hb1 hb2
  simp only [List.drop_succ_cons, List.drop_zero, Act.put, List.setIfInBounds_toArray, List.set_cons_succ, List.set_cons_zero]
  have Ed := Arr.to' Ad hb1
  have ld_v10 := Ed.lt
  have Bd := Arr.to' (Arr.al' Ed _) hb2
  have Ek := Arr.to' Ak hb1
  have lk_v10 := Ek.lt
  have Bk := Arr.to' (Arr.al' Ek _) hb2
  have Eq := Arr.to' Aq hb1
  have lq_v10 := Eq.lt
  have Bq := Arr.to' (Arr.al' Eq _) hb2
  have Eg := Arr.to' Ag hb1
  have lg_v10 := Eg.lt
  have Bg := Arr.to' (Arr.al' Eg _) hb2
  have Ex := Arr.to' Ax hb1
  have lx_v10 := Ex.lt
  have Bx := Arr.to' (Arr.al' Ex _) hb2
  have Ey := Arr.to' Ay hb1
  have ly_v10 := Ey.lt
  have By := Arr.to' (Arr.al' Ey _) hb2
  have Ez := Arr.to' Az hb1
  have lz_v10 := Ez.lt
  have Bz := Arr.to' (Arr.al' Ez _) hb2
  have Ef := Arr.to' Af hb1
  have lf_v10 := Ef.lt
  have Bf := Arr.to' (Arr.al' Ef _) hb2
  have Bt := (Arr.mk4 (w := (v10.alloc (.cells #[.int .u64 0, .int .u64 0, .int .u64 0, .int .u64 0] 24))) (f := fun _ => .int .u64 0) (b := v10.heap.size) (by simp [go_sem]) (by simp [go_sem]) (by simp [go_sem]) (by simp [go_sem]) (by simp [go_sem]) (by simp [go_sem]) (by simp [go_sem]) (by simp [go_sem])).below hb2 (by go_size)
  have lB_v10 := (Bel.call hB hb1).size
  have hB' := Bel.call (Bel.al (Bel.call hB hb1) _) hb2
  clear hb1 hb2 Ed Ek Eq Eg Ex Ey Ez Ef Ad Ak Aq Ag Ax Ay Az Af hB
  have Ad := Bd
  have Ak := Bk
  have Aq := Bq
  have Ag := Bg
  have Ax := Bx
  have Ay := By
  have Az := Bz
  have Af := Bf
  have At := Bt
  have hB := hB'
  clear Bd Bk Bq Bg Bx By Bz Bf Bt hB'
  have ct := At.c
  have zt := At.z
  have Bd := Arr.st4o (b' := v10.heap.size) Ad (by have := Ad.lt; have := At.lt; omega) (t)
  have Bk := Arr.st4o (b' := v10.heap.size) Ak (by have := Ak.lt; have := At.lt; omega) (t)
  have Bq := Arr.st4o (b' := v10.heap.size) Aq (by have := Aq.lt; have := At.lt; omega) (t)
  have Bg := Arr.st4o (b' := v10.heap.size) Ag (by have := Ag.lt; have := At.lt; omega) (t)
  have Bx := Arr.st4o (b' := v10.heap.size) Ax (by have := Ax.lt; have := At.lt; omega) (t)
  have By := Arr.st4o (b' := v10.heap.size) Ay (by have := Ay.lt; have := At.lt; omega) (t)
  have Bz := Arr.st4o (b' := v10.heap.size) Az (by have := Az.lt; have := At.lt; omega) (t)
  have Bf := Arr.st4o (b' := v10.heap.size) Af (by have := Af.lt; have := At.lt; omega) (t)
  have Bt := Arr.st4 At (t)
  have hB' := Bel.st4 hB (b := v10.heap.size) (by have := hB.size; omega) (t)
  clear Ad Ak Aq Ag Ax Ay Az Af At hB
  have Ad := Bd
  have Ak := Bk
  have Aq := Bq
  have Ag := Bg
  have Ax := Bx
  have Ay := By
  have Az := Bz
  have Af := Bf
  have At := Bt
  have hB := hB'
  clear Bd Bk Bq Bg Bx By Bz Bf Bt hB'
  have ct := At.c
  have cz_0 := Az.cv 0 (by omega) (.int .u64 0) rfl
  have cz_1 := Az.cv 1 (by omega) (.int .u64 0) rfl
  have cz_2 := Az.cv 2 (by omega) (.int .u64 0) rfl
  have cz_3 := Az.cv 3 (by omega) (.int .u64 0) rfl
  obtain ⟨cq_0, cq_1, cq_2, cq_3, cq_4, cq_5, cq_6, cq_7, cq_8⟩ := Arr.c_px Aq
  obtain ⟨cg_0, cg_1, cg_2, cg_3, cg_4, cg_5, cg_6, cg_7⟩ := Arr.c_sgx Ag
  go_wp2_with fail
  refine (C17 _).mono ?_
  rintro e w21 ⟨rfl, hb⟩
  replace Ad := Arr.to' Ad hb
  replace Ak := Arr.to' Ak hb
  replace Aq := Arr.to' Aq hb
  replace Ag := Arr.to' Ag hb
  replace Ax := Arr.to' Ax hb
  replace Ay := Arr.to' Ay hb
  replace Az := Arr.to' Az hb
  replace Af := Arr.to' Af hb
  replace At := Arr.to' At hb
  replace hB := Bel.call hB hb
  clear hb ct zt cz_0 cz_1 cz_2 cz_3 cq_0 cq_1 cq_2 cq_3 cq_4 cq_5 cq_6 cq_7 cq_8 cg_0 cg_1 cg_2 cg_3 cg_4 cg_5 cg_6 cg_7
  go_wp2_with fail
  refine (C18 _).mono ?_
  rintro e w22 ⟨rfl, hb⟩
  replace Ad := Arr.to' Ad hb
  replace Ak := Arr.to' Ak hb
  replace Aq := Arr.to' Aq hb
  replace Ag := Arr.to' Ag hb
  replace Ax := Arr.to' Ax hb
  replace Ay := Arr.to' Ay hb
  replace Az := Arr.to' Az hb
  replace Af := Arr.to' Af hb
  replace At := Arr.to' At hb
  replace hB := Bel.call hB hb
  clear hb
  go_wp2_with fail
  go_ret
  exact ⟨rfl, hB⟩
set_option maxHeartbeats 8000000 in
theorem holds_8 (D K X Y R S x y a b F u v m t ov : Int) (i : Bool) (s o : ByteArray) (hq : (lim a 0 == lim b 0 && (lim a 1 == lim b 1 && (lim a 2 == lim b 2 && lim a 3 == lim b 3))) = false) (ho : (ov == 0) = false) (ht : (lim t 0 == 0 && (lim t 1 == 0 && (lim t 2 == 0 && lim t 3 == 0))) = true) (w : World)
    (C1 : ∀ W, Calls Tryz.prog 7 #[nv D] W fun e w' => e = .returned (.tuple #[pv X Y i, .int .i64 0]) ∧ Below W.heap.size W w')
    (C2 : ∀ W, Calls Tryz.prog 9 #[nv D, nv K, .string s] W fun e w' => e = .returned (.tuple #[gv R S, .int .i64 0]) ∧ Below W.heap.size W w')
    (C3 : ∀ W, Calls Tryz.prog 16 #[nv D] W fun e w' => e = .returned (.bool true) ∧ Below W.heap.size W w')
    (C4 : ∀ W, Calls Tryz.prog 14 #[pv X Y i, .string s, gv R S] W fun e w' => e = .returned (.int .i64 0) ∧ Below W.heap.size W w')
    (C5 : ∀ W, Calls Tryz.prog 17 #[.string s] W fun e w' => e = .returned (.tuple #[nv x, .int .i64 0]) ∧ Below W.heap.size W w')
    (C6 : ∀ W, Calls Tryz.prog 17 #[.string o] W fun e w' => e = .returned (.tuple #[nv y, .int .i64 0]) ∧ Below W.heap.size W w')
    (C7 : ∀ W, Calls Tryz.prog 19 #[] W fun e w' => e = .returned (nv nn) ∧ Below W.heap.size W w')
    (C8 : ∀ W, Calls Tryz.prog 18 #[nv x, .agg #[.int .u64 0, .int .u64 0, .int .u64 0, .int .u64 0], nv nn] W fun e w' => e = .returned (nv a) ∧ Below W.heap.size W w')
    (C9 : ∀ W, Calls Tryz.prog 18 #[nv y, .agg #[.int .u64 0, .int .u64 0, .int .u64 0, .int .u64 0], nv nn] W fun e w' => e = .returned (nv b) ∧ Below W.heap.size W w')
    (C10 : ∀ W, Calls Tryz.prog 20 #[nv R, nv nn] W fun e w' => e = .returned (.tuple #[nv F, .int .u64 ov]) ∧ Below W.heap.size W w')
    (C11 : ∀ W, Calls Tryz.prog 23 #[nv x, nv y, nv nn] W fun e w' => e = .returned (nv u) ∧ Below W.heap.size W w')
    (C12 : ∀ W, Calls Tryz.prog 24 #[nv R, nv D, nv nn] W fun e w' => e = .returned (nv v) ∧ Below W.heap.size W w')
    (C13 : ∀ W, Calls Tryz.prog 24 #[.agg #[.int .u64 2, .int .u64 0, .int .u64 0, .int .u64 0], nv v, nv nn] W fun e w' => e = .returned (nv m) ∧ Below W.heap.size W w')
    (C14 : ∀ W, Calls Tryz.prog 23 #[nv u, nv m, nv nn] W fun e w' => e = .returned (nv t) ∧ Below W.heap.size W w')
    (C15 : ∀ W, Calls Tryz.prog 13 #[] W fun e w' => e = .returned (.bool true) ∧ Below W.heap.size W w') :
    Calls Tryz.prog 5 #[nv D, nv K, .string s, .string o] w fun e w' => e = .returned (.bool true) ∧ Below w.heap.size w w' := by
  go_enter Tryz.func5, Tryz.ntmps5
  obtain ⟨W0, hW0⟩ : ∃ W0, W0 = ((w.alloc (.cells #[.int .u64 (lim (D) 0), .int .u64 (lim (D) 1), .int .u64 (lim (D) 2), .int .u64 (lim (D) 3)] 24)).alloc (.cells #[.int .u64 (lim (K) 0), .int .u64 (lim (K) 1), .int .u64 (lim (K) 2), .int .u64 (lim (K) 3)] 24)) := ⟨_, rfl⟩
  have Ad : Arr W0 (w.heap.size) 4 (fun j => .int .u64 (lim (D) j)) := by subst hW0; refine Arr.mk4 ?_ ?_ ?_ ?_ ?_ ?_ ?_ ?_ <;> simp [go_sem]
  have Ak : Arr W0 (w.heap.size + 1) 4 (fun j => .int .u64 (lim (K) j)) := by subst hW0; refine Arr.mk4 ?_ ?_ ?_ ?_ ?_ ?_ ?_ ?_ <;> simp [go_sem]
  have hB : Below w.heap.size w W0 := by subst hW0; go_grown
  subst hW0
  have cd := Ad.c
  go_wp2_with fail
  refine (C1 _).mono ?_
  rintro e w1 ⟨rfl, hb⟩
  replace Ad := Arr.to' Ad hb
  replace Ak := Arr.to' Ak hb
  replace hB := Bel.call hB hb
  clear hb cd
  have ld_2 := Ad.lt
  have lk_2 := Ak.lt
  have lB_2 := hB.size
  replace Ad := (Arr.al' Ad (.cells #[.int .u64 (lim (X) 0), .int .u64 (lim (X) 1), .int .u64 (lim (X) 2), .int .u64 (lim (X) 3), .int .u64 (lim (Y) 0), .int .u64 (lim (Y) 1), .int .u64 (lim (Y) 2), .int .u64 (lim (Y) 3), .bool i] 28))
  replace Ak := (Arr.al' Ak (.cells #[.int .u64 (lim (X) 0), .int .u64 (lim (X) 1), .int .u64 (lim (X) 2), .int .u64 (lim (X) 3), .int .u64 (lim (Y) 0), .int .u64 (lim (Y) 1), .int .u64 (lim (Y) 2), .int .u64 (lim (Y) 3), .bool i] 28))
  have Aq : Arr ((w1.alloc (.cells #[.int .u64 (lim (X) 0), .int .u64 (lim (X) 1), .int .u64 (lim (X) 2), .int .u64 (lim (X) 3), .int .u64 (lim (Y) 0), .int .u64 (lim (Y) 1), .int .u64 (lim (Y) 2), .int .u64 (lim (Y) 3), .bool i] 28))) (w1.heap.size) 9 (px (X) (Y) i) := by refine Arr.mk9p ?_ ?_ ?_ ?_ ?_ ?_ ?_ ?_ ?_ ?_ <;> simp [go_sem, px, sx, zx]
  replace hB := (Bel.al hB (.cells #[.int .u64 (lim (X) 0), .int .u64 (lim (X) 1), .int .u64 (lim (X) 2), .int .u64 (lim (X) 3), .int .u64 (lim (Y) 0), .int .u64 (lim (Y) 1), .int .u64 (lim (Y) 2), .int .u64 (lim (Y) 3), .bool i] 28))
  have cd := Ad.c
  have ck := Ak.c
  go_wp2_with fail
  refine (C2 _).mono ?_
  rintro e w12 ⟨rfl, hb⟩
  replace Ad := Arr.to' Ad hb
  replace Ak := Arr.to' Ak hb
  replace Aq := Arr.to' Aq hb
  replace hB := Bel.call hB hb
  clear hb cd ck
  have ld_3 := Ad.lt
  have lk_3 := Ak.lt
  have lq_3 := Aq.lt
  have lB_3 := hB.size
  replace Ad := (Arr.al' Ad (.cells #[.int .u64 (lim (R) 0), .int .u64 (lim (R) 1), .int .u64 (lim (R) 2), .int .u64 (lim (R) 3), .int .u64 (lim (S) 0), .int .u64 (lim (S) 1), .int .u64 (lim (S) 2), .int .u64 (lim (S) 3)] 26))
  replace Ak := (Arr.al' Ak (.cells #[.int .u64 (lim (R) 0), .int .u64 (lim (R) 1), .int .u64 (lim (R) 2), .int .u64 (lim (R) 3), .int .u64 (lim (S) 0), .int .u64 (lim (S) 1), .int .u64 (lim (S) 2), .int .u64 (lim (S) 3)] 26))
  replace Aq := (Arr.al' Aq (.cells #[.int .u64 (lim (R) 0), .int .u64 (lim (R) 1), .int .u64 (lim (R) 2), .int .u64 (lim (R) 3), .int .u64 (lim (S) 0), .int .u64 (lim (S) 1), .int .u64 (lim (S) 2), .int .u64 (lim (S) 3)] 26))
  have Ag : Arr ((w12.alloc (.cells #[.int .u64 (lim (R) 0), .int .u64 (lim (R) 1), .int .u64 (lim (R) 2), .int .u64 (lim (R) 3), .int .u64 (lim (S) 0), .int .u64 (lim (S) 1), .int .u64 (lim (S) 2), .int .u64 (lim (S) 3)] 26))) (w12.heap.size) 8 (sgx (R) (S)) := by refine Arr.mk8' ?_ ?_ ?_ ?_ ?_ ?_ ?_ ?_ ?_ <;> simp [go_sem, sgx, zg]
  replace hB := (Bel.al hB (.cells #[.int .u64 (lim (R) 0), .int .u64 (lim (R) 1), .int .u64 (lim (R) 2), .int .u64 (lim (R) 3), .int .u64 (lim (S) 0), .int .u64 (lim (S) 1), .int .u64 (lim (S) 2), .int .u64 (lim (S) 3)] 26))
  have cd := Ad.c
  go_wp2_with fail
  refine (C3 _).mono ?_
  rintro e w13 ⟨rfl, hb⟩
  replace Ad := Arr.to' Ad hb
  replace Ak := Arr.to' Ak hb
  replace Aq := Arr.to' Aq hb
  replace Ag := Arr.to' Ag hb
  replace hB := Bel.call hB hb
  clear hb cd
  obtain ⟨cq_0, cq_1, cq_2, cq_3, cq_4, cq_5, cq_6, cq_7, cq_8⟩ := Arr.c_px Aq
  obtain ⟨cg_0, cg_1, cg_2, cg_3, cg_4, cg_5, cg_6, cg_7⟩ := Arr.c_sgx Ag
  go_wp2_with fail
  refine (C4 _).mono ?_
  rintro e w14 ⟨rfl, hb⟩
  replace Ad := Arr.to' Ad hb
  replace Ak := Arr.to' Ak hb
  replace Aq := Arr.to' Aq hb
  replace Ag := Arr.to' Ag hb
  replace hB := Bel.call hB hb
  clear hb cq_0 cq_1 cq_2 cq_3 cq_4 cq_5 cq_6 cq_7 cq_8 cg_0 cg_1 cg_2 cg_3 cg_4 cg_5 cg_6 cg_7
  go_wp2_with fail
  refine (C5 _).mono ?_
  rintro e w15 ⟨rfl, hb⟩
  replace Ad := Arr.to' Ad hb
  replace Ak := Arr.to' Ak hb
  replace Aq := Arr.to' Aq hb
  replace Ag := Arr.to' Ag hb
  replace hB := Bel.call hB hb
  clear hb
  have ld_4 := Ad.lt
  have lk_4 := Ak.lt
  have lq_4 := Aq.lt
  have lg_4 := Ag.lt
  have lB_4 := hB.size
  replace Ad := (Arr.al' Ad (.cells #[.int .u64 (lim (x) 0), .int .u64 (lim (x) 1), .int .u64 (lim (x) 2), .int .u64 (lim (x) 3)] 24))
  replace Ak := (Arr.al' Ak (.cells #[.int .u64 (lim (x) 0), .int .u64 (lim (x) 1), .int .u64 (lim (x) 2), .int .u64 (lim (x) 3)] 24))
  replace Aq := (Arr.al' Aq (.cells #[.int .u64 (lim (x) 0), .int .u64 (lim (x) 1), .int .u64 (lim (x) 2), .int .u64 (lim (x) 3)] 24))
  replace Ag := (Arr.al' Ag (.cells #[.int .u64 (lim (x) 0), .int .u64 (lim (x) 1), .int .u64 (lim (x) 2), .int .u64 (lim (x) 3)] 24))
  have Ax : Arr ((w15.alloc (.cells #[.int .u64 (lim (x) 0), .int .u64 (lim (x) 1), .int .u64 (lim (x) 2), .int .u64 (lim (x) 3)] 24))) (w15.heap.size) 4 (fun j => .int .u64 (lim (x) j)) := by refine Arr.mk4 ?_ ?_ ?_ ?_ ?_ ?_ ?_ ?_ <;> simp [go_sem]
  replace hB := (Bel.al hB (.cells #[.int .u64 (lim (x) 0), .int .u64 (lim (x) 1), .int .u64 (lim (x) 2), .int .u64 (lim (x) 3)] 24))
  go_wp2_with fail
  refine (C6 _).mono ?_
  rintro e w16 ⟨rfl, hb⟩
  replace Ad := Arr.to' Ad hb
  replace Ak := Arr.to' Ak hb
  replace Aq := Arr.to' Aq hb
  replace Ag := Arr.to' Ag hb
  replace Ax := Arr.to' Ax hb
  replace hB := Bel.call hB hb
  clear hb
  go_wp2_with fail
  have ld_5 := Ad.lt
  have lk_5 := Ak.lt
  have lq_5 := Aq.lt
  have lg_5 := Ag.lt
  have lx_5 := Ax.lt
  have lB_5 := hB.size
  replace Ad := (Arr.al' (Arr.al' Ad (.cells #[.int .u64 (lim (y) 0), .int .u64 (lim (y) 1), .int .u64 (lim (y) 2), .int .u64 (lim (y) 3)] 24)) (.cells #[.int .u64 0, .int .u64 0, .int .u64 0, .int .u64 0] 24))
  replace Ak := (Arr.al' (Arr.al' Ak (.cells #[.int .u64 (lim (y) 0), .int .u64 (lim (y) 1), .int .u64 (lim (y) 2), .int .u64 (lim (y) 3)] 24)) (.cells #[.int .u64 0, .int .u64 0, .int .u64 0, .int .u64 0] 24))
  replace Aq := (Arr.al' (Arr.al' Aq (.cells #[.int .u64 (lim (y) 0), .int .u64 (lim (y) 1), .int .u64 (lim (y) 2), .int .u64 (lim (y) 3)] 24)) (.cells #[.int .u64 0, .int .u64 0, .int .u64 0, .int .u64 0] 24))
  replace Ag := (Arr.al' (Arr.al' Ag (.cells #[.int .u64 (lim (y) 0), .int .u64 (lim (y) 1), .int .u64 (lim (y) 2), .int .u64 (lim (y) 3)] 24)) (.cells #[.int .u64 0, .int .u64 0, .int .u64 0, .int .u64 0] 24))
  replace Ax := (Arr.al' (Arr.al' Ax (.cells #[.int .u64 (lim (y) 0), .int .u64 (lim (y) 1), .int .u64 (lim (y) 2), .int .u64 (lim (y) 3)] 24)) (.cells #[.int .u64 0, .int .u64 0, .int .u64 0, .int .u64 0] 24))
  obtain ⟨W0, hW0⟩ : ∃ W0, W0 = ((w16.alloc (.cells #[.int .u64 (lim (y) 0), .int .u64 (lim (y) 1), .int .u64 (lim (y) 2), .int .u64 (lim (y) 3)] 24)).alloc (.cells #[.int .u64 0, .int .u64 0, .int .u64 0, .int .u64 0] 24)) := ⟨_, rfl⟩
  have Ay : Arr W0 (w16.heap.size) 4 (fun j => .int .u64 (lim (y) j)) := by subst hW0; refine Arr.mk4 ?_ ?_ ?_ ?_ ?_ ?_ ?_ ?_ <;> simp [go_sem]
  have Az : Arr W0 (w16.heap.size + 1) 4 (nx 0 0 0 0) := by subst hW0; refine Arr.mk4 ?_ ?_ ?_ ?_ ?_ ?_ ?_ ?_ <;> simp [go_sem, nx]
  subst hW0
  replace hB := (Bel.al (Bel.al hB (.cells #[.int .u64 (lim (y) 0), .int .u64 (lim (y) 1), .int .u64 (lim (y) 2), .int .u64 (lim (y) 3)] 24)) (.cells #[.int .u64 0, .int .u64 0, .int .u64 0, .int .u64 0] 24))
  obtain ⟨rx0, rx1, rx2, rx3⟩ := Arr.g4 Ax
  obtain ⟨ry0, ry1, ry2, ry3⟩ := Arr.g4 Ay
  have rz0 := Az.cg 0 (by omega) (.int .u64 0) rfl
  have rz1 := Az.cg 1 (by omega) (.int .u64 0) rfl
  have rz2 := Az.cg 2 (by omega) (.int .u64 0) rfl
  have rz3 := Az.cg 3 (by omega) (.int .u64 0) rfl
  refine wp_region_quiet_below (by kernel_rfl) (by kernel_rfl) ?_
  repeat (go_big_quiet_step (first | (go_at_call 19; with_reducible first | exact Calls.regrown_of (C7 _)) | (go_at_call 18; with_reducible first | exact Calls.regrown_of (C8 _) | exact Calls.regrown_of (C9 _))))
  refine wpQuiet_nil ?_
  intro w7 hw'
  obtain ⟨⟨dq, osq⟩, hw''⟩ := hw'
  have hb := below_of hw''
  clear hw''
  replace Ad := Arr.to' Ad hb
  replace Ak := Arr.to' Ak hb
  replace Aq := Arr.to' Aq hb
  replace Ag := Arr.to' Ag hb
  replace Ax := Arr.to' Ax hb
  replace Ay := Arr.to' Ay hb
  replace Az := Arr.to' Az hb
  replace hB := Bel.call hB hb
  clear hb rx0 rx1 rx2 rx3 ry0 ry1 ry2 ry3 rz0 rz1 rz2 rz3
  go_wp2_with fail
  apply wp_region_pure_tail 4 3 #[true, true, true, true, false, false, false, true, false, false] #[true, true, true, true, true, true, true, false, false, false] (by kernel_rfl) (by intro c d v a w h; cases d <;> exact h) (by kernel_rfl) (by kernel_rfl) (.cells #[.int .u64 0, .int .u64 0, .int .u64 0, .int .u64 0] 24) _ rfl (fun _ _ => by simp [go_sem])
  · intro W hW
    obtain ⟨rg0, rg1, rg2, rg3, rg4, rg5, rg6, rg7⟩ := Arr.g_sgx (Arr.to' Ag hW)
    simp only [List.take_succ_cons, List.take_zero]
    repeat (go_big_quiet_step (first | (go_at_call 19; with_reducible first | exact Calls.regrown_of (C7 _)) | (go_at_call 20; with_reducible first | exact Calls.regrown_of (C10 _))))
    exact wpQuiet_nil rfl
  · exact ⟨_, Or.inl ⟨rfl, fun _ => rfl⟩, ⟨_, Or.inl ⟨rfl, fun _ => rfl⟩, ⟨_, Or.inl ⟨rfl, fun _ => rfl⟩, rfl⟩⟩⟩
  · intro v; exact ⟨_, Or.inl ⟨rfl, fun _ => rfl⟩, ⟨_, Or.inl ⟨rfl, fun _ => rfl⟩, ⟨_, Or.inl ⟨rfl, fun _ => rfl⟩, rfl⟩⟩⟩
  intro v8 w18 hb1 hb2
  simp only [List.drop_succ_cons, List.drop_zero, Act.put, List.setIfInBounds_toArray, List.set_cons_succ, List.set_cons_zero]
  have Ed := Arr.to' Ad hb1
  have ld_v8 := Ed.lt
  have Bd := Arr.to' (Arr.al' Ed _) hb2
  have Ek := Arr.to' Ak hb1
  have lk_v8 := Ek.lt
  have Bk := Arr.to' (Arr.al' Ek _) hb2
  have Eq := Arr.to' Aq hb1
  have lq_v8 := Eq.lt
  have Bq := Arr.to' (Arr.al' Eq _) hb2
  have Eg := Arr.to' Ag hb1
  have lg_v8 := Eg.lt
  have Bg := Arr.to' (Arr.al' Eg _) hb2
  have Ex := Arr.to' Ax hb1
  have lx_v8 := Ex.lt
  have Bx := Arr.to' (Arr.al' Ex _) hb2
  have Ey := Arr.to' Ay hb1
  have ly_v8 := Ey.lt
  have By := Arr.to' (Arr.al' Ey _) hb2
  have Ez := Arr.to' Az hb1
  have lz_v8 := Ez.lt
  have Bz := Arr.to' (Arr.al' Ez _) hb2
  have Bf := (Arr.mk4 (w := (v8.alloc (.cells #[.int .u64 0, .int .u64 0, .int .u64 0, .int .u64 0] 24))) (f := fun _ => .int .u64 0) (b := v8.heap.size) (by simp [go_sem]) (by simp [go_sem]) (by simp [go_sem]) (by simp [go_sem]) (by simp [go_sem]) (by simp [go_sem]) (by simp [go_sem]) (by simp [go_sem])).below hb2 (by go_size)
  have lB_v8 := (Bel.call hB hb1).size
  have hB' := Bel.call (Bel.al (Bel.call hB hb1) _) hb2
  clear hb1 hb2 Ed Ek Eq Eg Ex Ey Ez Ad Ak Aq Ag Ax Ay Az hB
  have Ad := Bd
  have Ak := Bk
  have Aq := Bq
  have Ag := Bg
  have Ax := Bx
  have Ay := By
  have Az := Bz
  have Af := Bf
  have hB := hB'
  clear Bd Bk Bq Bg Bx By Bz Bf hB'
  have cf := Af.c
  have zf := Af.z
  have Bd := Arr.st4o (b' := v8.heap.size) Ad (by have := Ad.lt; have := Af.lt; omega) (F)
  have Bk := Arr.st4o (b' := v8.heap.size) Ak (by have := Ak.lt; have := Af.lt; omega) (F)
  have Bq := Arr.st4o (b' := v8.heap.size) Aq (by have := Aq.lt; have := Af.lt; omega) (F)
  have Bg := Arr.st4o (b' := v8.heap.size) Ag (by have := Ag.lt; have := Af.lt; omega) (F)
  have Bx := Arr.st4o (b' := v8.heap.size) Ax (by have := Ax.lt; have := Af.lt; omega) (F)
  have By := Arr.st4o (b' := v8.heap.size) Ay (by have := Ay.lt; have := Af.lt; omega) (F)
  have Bz := Arr.st4o (b' := v8.heap.size) Az (by have := Az.lt; have := Af.lt; omega) (F)
  have Bf := Arr.st4 Af (F)
  have hB' := Bel.st4 hB (b := v8.heap.size) (by have := hB.size; omega) (F)
  clear Ad Ak Aq Ag Ax Ay Az Af hB
  have Ad := Bd
  have Ak := Bk
  have Aq := Bq
  have Ag := Bg
  have Ax := Bx
  have Ay := By
  have Az := Bz
  have Af := Bf
  have hB := hB'
  clear Bd Bk Bq Bg Bx By Bz Bf hB'
  obtain ⟨rf0, rf1, rf2, rf3⟩ := Arr.g4 Af
  go_wp2_with fail
  refine wp_region_quiet_below (by kernel_rfl) (by kernel_rfl) ?_
  repeat (go_big_quiet_step (fail))
  refine wpQuiet_nil ?_
  intro w9 hw'
  obtain ⟨⟨dq, osq⟩, hw''⟩ := hw'
  have hb := below_of hw''
  clear hw''
  replace Ad := Arr.to' Ad hb
  replace Ak := Arr.to' Ak hb
  replace Aq := Arr.to' Aq hb
  replace Ag := Arr.to' Ag hb
  replace Ax := Arr.to' Ax hb
  replace Ay := Arr.to' Ay hb
  replace Az := Arr.to' Az hb
  replace Af := Arr.to' Af hb
  replace hB := Bel.call hB hb
  clear hb cf zf rf0 rf1 rf2 rf3
  go_wp2_with fail
  apply wp_region_alloc_tail 14 (by kernel_rfl) (by kernel_rfl) (by kernel_rfl) (.cells #[.int .u64 0, .int .u64 0, .int .u64 0, .int .u64 0] 24) _ rfl (fun _ _ => by simp [go_sem])
  · intro W hW
    obtain ⟨rx0, rx1, rx2, rx3⟩ := Arr.g4 (Arr.to' Ax hW)
    obtain ⟨ry0, ry1, ry2, ry3⟩ := Arr.g4 (Arr.to' Ay hW)
    obtain ⟨rg0, rg1, rg2, rg3, rg4, rg5, rg6, rg7⟩ := Arr.g_sgx (Arr.to' Ag hW)
    obtain ⟨rd0, rd1, rd2, rd3⟩ := Arr.g4 (Arr.to' Ad hW)
    simp only [List.take_succ_cons, List.take_zero]
    repeat (go_big_quiet_step (first | (go_at_call 19; with_reducible first | exact Calls.regrown_of (C7 _)) | (go_at_call 23; with_reducible first | exact Calls.regrown_of (C11 _) | exact Calls.regrown_of (C14 _)) | (go_at_call 24; with_reducible first | exact Calls.regrown_of (C12 _) | exact Calls.regrown_of (C13 _))))
    exact wpQuiet_nil rfl
  intro v10 w20 hb1 hb2
  simp only [List.drop_succ_cons, List.drop_zero, Act.put, List.setIfInBounds_toArray, List.set_cons_succ, List.set_cons_zero]
  have Ed := Arr.to' Ad hb1
  have ld_v10 := Ed.lt
  have Bd := Arr.to' (Arr.al' Ed _) hb2
  have Ek := Arr.to' Ak hb1
  have lk_v10 := Ek.lt
  have Bk := Arr.to' (Arr.al' Ek _) hb2
  have Eq := Arr.to' Aq hb1
  have lq_v10 := Eq.lt
  have Bq := Arr.to' (Arr.al' Eq _) hb2
  have Eg := Arr.to' Ag hb1
  have lg_v10 := Eg.lt
  have Bg := Arr.to' (Arr.al' Eg _) hb2
  have Ex := Arr.to' Ax hb1
  have lx_v10 := Ex.lt
  have Bx := Arr.to' (Arr.al' Ex _) hb2
  have Ey := Arr.to' Ay hb1
  have ly_v10 := Ey.lt
  have By := Arr.to' (Arr.al' Ey _) hb2
  have Ez := Arr.to' Az hb1
  have lz_v10 := Ez.lt
  have Bz := Arr.to' (Arr.al' Ez _) hb2
  have Ef := Arr.to' Af hb1
  have lf_v10 := Ef.lt
  have Bf := Arr.to' (Arr.al' Ef _) hb2
  have Bt := (Arr.mk4 (w := (v10.alloc (.cells #[.int .u64 0, .int .u64 0, .int .u64 0, .int .u64 0] 24))) (f := fun _ => .int .u64 0) (b := v10.heap.size) (by simp [go_sem]) (by simp [go_sem]) (by simp [go_sem]) (by simp [go_sem]) (by simp [go_sem]) (by simp [go_sem]) (by simp [go_sem]) (by simp [go_sem])).below hb2 (by go_size)
  have lB_v10 := (Bel.call hB hb1).size
  have hB' := Bel.call (Bel.al (Bel.call hB hb1) _) hb2
  clear hb1 hb2 Ed Ek Eq Eg Ex Ey Ez Ef Ad Ak Aq Ag Ax Ay Az Af hB
  have Ad := Bd
  have Ak := Bk
  have Aq := Bq
  have Ag := Bg
  have Ax := Bx
  have Ay := By
  have Az := Bz
  have Af := Bf
  have At := Bt
  have hB := hB'
  clear Bd Bk Bq Bg Bx By Bz Bf Bt hB'
  have ct := At.c
  have zt := At.z
  have Bd := Arr.st4o (b' := v10.heap.size) Ad (by have := Ad.lt; have := At.lt; omega) (t)
  have Bk := Arr.st4o (b' := v10.heap.size) Ak (by have := Ak.lt; have := At.lt; omega) (t)
  have Bq := Arr.st4o (b' := v10.heap.size) Aq (by have := Aq.lt; have := At.lt; omega) (t)
  have Bg := Arr.st4o (b' := v10.heap.size) Ag (by have := Ag.lt; have := At.lt; omega) (t)
  have Bx := Arr.st4o (b' := v10.heap.size) Ax (by have := Ax.lt; have := At.lt; omega) (t)
  have By := Arr.st4o (b' := v10.heap.size) Ay (by have := Ay.lt; have := At.lt; omega) (t)
  have Bz := Arr.st4o (b' := v10.heap.size) Az (by have := Az.lt; have := At.lt; omega) (t)
  have Bf := Arr.st4o (b' := v10.heap.size) Af (by have := Af.lt; have := At.lt; omega) (t)
  have Bt := Arr.st4 At (t)
  have hB' := Bel.st4 hB (b := v10.heap.size) (by have := hB.size; omega) (t)
  clear Ad Ak Aq Ag Ax Ay Az Af At hB
  have Ad := Bd
  have Ak := Bk
  have Aq := Bq
  have Ag := Bg
  have Ax := Bx
  have Ay := By
  have Az := Bz
  have Af := Bf
  have At := Bt
  have hB := hB'
  clear Bd Bk Bq Bg Bx By Bz Bf Bt hB'
  have ct := At.c
  have cz_0 := Az.cv 0 (by omega) (.int .u64 0) rfl
  have cz_1 := Az.cv 1 (by omega) (.int .u64 0) rfl
  have cz_2 := Az.cv 2 (by omega) (.int .u64 0) rfl
  have cz_3 := Az.cv 3 (by omega) (.int .u64 0) rfl
  obtain ⟨cq_0, cq_1, cq_2, cq_3, cq_4, cq_5, cq_6, cq_7, cq_8⟩ := Arr.c_px Aq
  obtain ⟨cg_0, cg_1, cg_2, cg_3, cg_4, cg_5, cg_6, cg_7⟩ := Arr.c_sgx Ag
  go_wp2_with fail
  refine (C15 _).mono ?_
  rintro e w21 ⟨rfl, hb⟩
  replace Ad := Arr.to' Ad hb
  replace Ak := Arr.to' Ak hb
  replace Aq := Arr.to' Aq hb
  replace Ag := Arr.to' Ag hb
  replace Ax := Arr.to' Ax hb
  replace Ay := Arr.to' Ay hb
  replace Az := Arr.to' Az hb
  replace Af := Arr.to' Af hb
  replace At := Arr.to' At hb
  replace hB := Bel.call hB hb
  clear hb ct zt cz_0 cz_1 cz_2 cz_3 cq_0 cq_1 cq_2 cq_3 cq_4 cq_5 cq_6 cq_7 cq_8 cg_0 cg_1 cg_2 cg_3 cg_4 cg_5 cg_6 cg_7
  go_wp2_with fail
  go_ret
  exact ⟨rfl, hB⟩
set_option maxHeartbeats 8000000 in
theorem holds_9 (D K X Y R S x y a b F u v m t ov : Int) (i : Bool) (s o : ByteArray) (hq : (lim a 0 == lim b 0 && (lim a 1 == lim b 1 && (lim a 2 == lim b 2 && lim a 3 == lim b 3))) = false) (ho : (ov == 0) = false) (ht : (lim t 0 == 0 && (lim t 1 == 0 && (lim t 2 == 0 && lim t 3 == 0))) = false) (w : World)
    (C1 : ∀ W, Calls Tryz.prog 7 #[nv D] W fun e w' => e = .returned (.tuple #[pv X Y i, .int .i64 0]) ∧ Below W.heap.size W w')
    (C2 : ∀ W, Calls Tryz.prog 9 #[nv D, nv K, .string s] W fun e w' => e = .returned (.tuple #[gv R S, .int .i64 0]) ∧ Below W.heap.size W w')
    (C3 : ∀ W, Calls Tryz.prog 16 #[nv D] W fun e w' => e = .returned (.bool true) ∧ Below W.heap.size W w')
    (C4 : ∀ W, Calls Tryz.prog 14 #[pv X Y i, .string s, gv R S] W fun e w' => e = .returned (.int .i64 0) ∧ Below W.heap.size W w')
    (C5 : ∀ W, Calls Tryz.prog 17 #[.string s] W fun e w' => e = .returned (.tuple #[nv x, .int .i64 0]) ∧ Below W.heap.size W w')
    (C6 : ∀ W, Calls Tryz.prog 17 #[.string o] W fun e w' => e = .returned (.tuple #[nv y, .int .i64 0]) ∧ Below W.heap.size W w')
    (C7 : ∀ W, Calls Tryz.prog 19 #[] W fun e w' => e = .returned (nv nn) ∧ Below W.heap.size W w')
    (C8 : ∀ W, Calls Tryz.prog 18 #[nv x, .agg #[.int .u64 0, .int .u64 0, .int .u64 0, .int .u64 0], nv nn] W fun e w' => e = .returned (nv a) ∧ Below W.heap.size W w')
    (C9 : ∀ W, Calls Tryz.prog 18 #[nv y, .agg #[.int .u64 0, .int .u64 0, .int .u64 0, .int .u64 0], nv nn] W fun e w' => e = .returned (nv b) ∧ Below W.heap.size W w')
    (C10 : ∀ W, Calls Tryz.prog 20 #[nv R, nv nn] W fun e w' => e = .returned (.tuple #[nv F, .int .u64 ov]) ∧ Below W.heap.size W w')
    (C11 : ∀ W, Calls Tryz.prog 23 #[nv x, nv y, nv nn] W fun e w' => e = .returned (nv u) ∧ Below W.heap.size W w')
    (C12 : ∀ W, Calls Tryz.prog 24 #[nv R, nv D, nv nn] W fun e w' => e = .returned (nv v) ∧ Below W.heap.size W w')
    (C13 : ∀ W, Calls Tryz.prog 24 #[.agg #[.int .u64 2, .int .u64 0, .int .u64 0, .int .u64 0], nv v, nv nn] W fun e w' => e = .returned (nv m) ∧ Below W.heap.size W w')
    (C14 : ∀ W, Calls Tryz.prog 23 #[nv u, nv m, nv nn] W fun e w' => e = .returned (nv t) ∧ Below W.heap.size W w')
    (C15 : ∀ W, Calls Tryz.prog 14 #[pv X Y i, .string o, gv R S] W fun e w' => e = .returned (.int .i64 16) ∧ Below W.heap.size W w')
    (C16 : ∀ W, Calls Tryz.prog 13 #[] W fun e w' => e = .returned (.bool true) ∧ Below W.heap.size W w') :
    Calls Tryz.prog 5 #[nv D, nv K, .string s, .string o] w fun e w' => e = .returned (.bool true) ∧ Below w.heap.size w w' := by
  go_enter Tryz.func5, Tryz.ntmps5
  obtain ⟨W0, hW0⟩ : ∃ W0, W0 = ((w.alloc (.cells #[.int .u64 (lim (D) 0), .int .u64 (lim (D) 1), .int .u64 (lim (D) 2), .int .u64 (lim (D) 3)] 24)).alloc (.cells #[.int .u64 (lim (K) 0), .int .u64 (lim (K) 1), .int .u64 (lim (K) 2), .int .u64 (lim (K) 3)] 24)) := ⟨_, rfl⟩
  have Ad : Arr W0 (w.heap.size) 4 (fun j => .int .u64 (lim (D) j)) := by subst hW0; refine Arr.mk4 ?_ ?_ ?_ ?_ ?_ ?_ ?_ ?_ <;> simp [go_sem]
  have Ak : Arr W0 (w.heap.size + 1) 4 (fun j => .int .u64 (lim (K) j)) := by subst hW0; refine Arr.mk4 ?_ ?_ ?_ ?_ ?_ ?_ ?_ ?_ <;> simp [go_sem]
  have hB : Below w.heap.size w W0 := by subst hW0; go_grown
  subst hW0
  have cd := Ad.c
  go_wp2_with fail
  refine (C1 _).mono ?_
  rintro e w1 ⟨rfl, hb⟩
  replace Ad := Arr.to' Ad hb
  replace Ak := Arr.to' Ak hb
  replace hB := Bel.call hB hb
  clear hb cd
  have ld_2 := Ad.lt
  have lk_2 := Ak.lt
  have lB_2 := hB.size
  replace Ad := (Arr.al' Ad (.cells #[.int .u64 (lim (X) 0), .int .u64 (lim (X) 1), .int .u64 (lim (X) 2), .int .u64 (lim (X) 3), .int .u64 (lim (Y) 0), .int .u64 (lim (Y) 1), .int .u64 (lim (Y) 2), .int .u64 (lim (Y) 3), .bool i] 28))
  replace Ak := (Arr.al' Ak (.cells #[.int .u64 (lim (X) 0), .int .u64 (lim (X) 1), .int .u64 (lim (X) 2), .int .u64 (lim (X) 3), .int .u64 (lim (Y) 0), .int .u64 (lim (Y) 1), .int .u64 (lim (Y) 2), .int .u64 (lim (Y) 3), .bool i] 28))
  have Aq : Arr ((w1.alloc (.cells #[.int .u64 (lim (X) 0), .int .u64 (lim (X) 1), .int .u64 (lim (X) 2), .int .u64 (lim (X) 3), .int .u64 (lim (Y) 0), .int .u64 (lim (Y) 1), .int .u64 (lim (Y) 2), .int .u64 (lim (Y) 3), .bool i] 28))) (w1.heap.size) 9 (px (X) (Y) i) := by refine Arr.mk9p ?_ ?_ ?_ ?_ ?_ ?_ ?_ ?_ ?_ ?_ <;> simp [go_sem, px, sx, zx]
  replace hB := (Bel.al hB (.cells #[.int .u64 (lim (X) 0), .int .u64 (lim (X) 1), .int .u64 (lim (X) 2), .int .u64 (lim (X) 3), .int .u64 (lim (Y) 0), .int .u64 (lim (Y) 1), .int .u64 (lim (Y) 2), .int .u64 (lim (Y) 3), .bool i] 28))
  have cd := Ad.c
  have ck := Ak.c
  go_wp2_with fail
  refine (C2 _).mono ?_
  rintro e w12 ⟨rfl, hb⟩
  replace Ad := Arr.to' Ad hb
  replace Ak := Arr.to' Ak hb
  replace Aq := Arr.to' Aq hb
  replace hB := Bel.call hB hb
  clear hb cd ck
  have ld_3 := Ad.lt
  have lk_3 := Ak.lt
  have lq_3 := Aq.lt
  have lB_3 := hB.size
  replace Ad := (Arr.al' Ad (.cells #[.int .u64 (lim (R) 0), .int .u64 (lim (R) 1), .int .u64 (lim (R) 2), .int .u64 (lim (R) 3), .int .u64 (lim (S) 0), .int .u64 (lim (S) 1), .int .u64 (lim (S) 2), .int .u64 (lim (S) 3)] 26))
  replace Ak := (Arr.al' Ak (.cells #[.int .u64 (lim (R) 0), .int .u64 (lim (R) 1), .int .u64 (lim (R) 2), .int .u64 (lim (R) 3), .int .u64 (lim (S) 0), .int .u64 (lim (S) 1), .int .u64 (lim (S) 2), .int .u64 (lim (S) 3)] 26))
  replace Aq := (Arr.al' Aq (.cells #[.int .u64 (lim (R) 0), .int .u64 (lim (R) 1), .int .u64 (lim (R) 2), .int .u64 (lim (R) 3), .int .u64 (lim (S) 0), .int .u64 (lim (S) 1), .int .u64 (lim (S) 2), .int .u64 (lim (S) 3)] 26))
  have Ag : Arr ((w12.alloc (.cells #[.int .u64 (lim (R) 0), .int .u64 (lim (R) 1), .int .u64 (lim (R) 2), .int .u64 (lim (R) 3), .int .u64 (lim (S) 0), .int .u64 (lim (S) 1), .int .u64 (lim (S) 2), .int .u64 (lim (S) 3)] 26))) (w12.heap.size) 8 (sgx (R) (S)) := by refine Arr.mk8' ?_ ?_ ?_ ?_ ?_ ?_ ?_ ?_ ?_ <;> simp [go_sem, sgx, zg]
  replace hB := (Bel.al hB (.cells #[.int .u64 (lim (R) 0), .int .u64 (lim (R) 1), .int .u64 (lim (R) 2), .int .u64 (lim (R) 3), .int .u64 (lim (S) 0), .int .u64 (lim (S) 1), .int .u64 (lim (S) 2), .int .u64 (lim (S) 3)] 26))
  have cd := Ad.c
  go_wp2_with fail
  refine (C3 _).mono ?_
  rintro e w13 ⟨rfl, hb⟩
  replace Ad := Arr.to' Ad hb
  replace Ak := Arr.to' Ak hb
  replace Aq := Arr.to' Aq hb
  replace Ag := Arr.to' Ag hb
  replace hB := Bel.call hB hb
  clear hb cd
  obtain ⟨cq_0, cq_1, cq_2, cq_3, cq_4, cq_5, cq_6, cq_7, cq_8⟩ := Arr.c_px Aq
  obtain ⟨cg_0, cg_1, cg_2, cg_3, cg_4, cg_5, cg_6, cg_7⟩ := Arr.c_sgx Ag
  go_wp2_with fail
  refine (C4 _).mono ?_
  rintro e w14 ⟨rfl, hb⟩
  replace Ad := Arr.to' Ad hb
  replace Ak := Arr.to' Ak hb
  replace Aq := Arr.to' Aq hb
  replace Ag := Arr.to' Ag hb
  replace hB := Bel.call hB hb
  clear hb cq_0 cq_1 cq_2 cq_3 cq_4 cq_5 cq_6 cq_7 cq_8 cg_0 cg_1 cg_2 cg_3 cg_4 cg_5 cg_6 cg_7
  go_wp2_with fail
  refine (C5 _).mono ?_
  rintro e w15 ⟨rfl, hb⟩
  replace Ad := Arr.to' Ad hb
  replace Ak := Arr.to' Ak hb
  replace Aq := Arr.to' Aq hb
  replace Ag := Arr.to' Ag hb
  replace hB := Bel.call hB hb
  clear hb
  have ld_4 := Ad.lt
  have lk_4 := Ak.lt
  have lq_4 := Aq.lt
  have lg_4 := Ag.lt
  have lB_4 := hB.size
  replace Ad := (Arr.al' Ad (.cells #[.int .u64 (lim (x) 0), .int .u64 (lim (x) 1), .int .u64 (lim (x) 2), .int .u64 (lim (x) 3)] 24))
  replace Ak := (Arr.al' Ak (.cells #[.int .u64 (lim (x) 0), .int .u64 (lim (x) 1), .int .u64 (lim (x) 2), .int .u64 (lim (x) 3)] 24))
  replace Aq := (Arr.al' Aq (.cells #[.int .u64 (lim (x) 0), .int .u64 (lim (x) 1), .int .u64 (lim (x) 2), .int .u64 (lim (x) 3)] 24))
  replace Ag := (Arr.al' Ag (.cells #[.int .u64 (lim (x) 0), .int .u64 (lim (x) 1), .int .u64 (lim (x) 2), .int .u64 (lim (x) 3)] 24))
  have Ax : Arr ((w15.alloc (.cells #[.int .u64 (lim (x) 0), .int .u64 (lim (x) 1), .int .u64 (lim (x) 2), .int .u64 (lim (x) 3)] 24))) (w15.heap.size) 4 (fun j => .int .u64 (lim (x) j)) := by refine Arr.mk4 ?_ ?_ ?_ ?_ ?_ ?_ ?_ ?_ <;> simp [go_sem]
  replace hB := (Bel.al hB (.cells #[.int .u64 (lim (x) 0), .int .u64 (lim (x) 1), .int .u64 (lim (x) 2), .int .u64 (lim (x) 3)] 24))
  go_wp2_with fail
  refine (C6 _).mono ?_
  rintro e w16 ⟨rfl, hb⟩
  replace Ad := Arr.to' Ad hb
  replace Ak := Arr.to' Ak hb
  replace Aq := Arr.to' Aq hb
  replace Ag := Arr.to' Ag hb
  replace Ax := Arr.to' Ax hb
  replace hB := Bel.call hB hb
  clear hb
  go_wp2_with fail
  have ld_5 := Ad.lt
  have lk_5 := Ak.lt
  have lq_5 := Aq.lt
  have lg_5 := Ag.lt
  have lx_5 := Ax.lt
  have lB_5 := hB.size
  replace Ad := (Arr.al' (Arr.al' Ad (.cells #[.int .u64 (lim (y) 0), .int .u64 (lim (y) 1), .int .u64 (lim (y) 2), .int .u64 (lim (y) 3)] 24)) (.cells #[.int .u64 0, .int .u64 0, .int .u64 0, .int .u64 0] 24))
  replace Ak := (Arr.al' (Arr.al' Ak (.cells #[.int .u64 (lim (y) 0), .int .u64 (lim (y) 1), .int .u64 (lim (y) 2), .int .u64 (lim (y) 3)] 24)) (.cells #[.int .u64 0, .int .u64 0, .int .u64 0, .int .u64 0] 24))
  replace Aq := (Arr.al' (Arr.al' Aq (.cells #[.int .u64 (lim (y) 0), .int .u64 (lim (y) 1), .int .u64 (lim (y) 2), .int .u64 (lim (y) 3)] 24)) (.cells #[.int .u64 0, .int .u64 0, .int .u64 0, .int .u64 0] 24))
  replace Ag := (Arr.al' (Arr.al' Ag (.cells #[.int .u64 (lim (y) 0), .int .u64 (lim (y) 1), .int .u64 (lim (y) 2), .int .u64 (lim (y) 3)] 24)) (.cells #[.int .u64 0, .int .u64 0, .int .u64 0, .int .u64 0] 24))
  replace Ax := (Arr.al' (Arr.al' Ax (.cells #[.int .u64 (lim (y) 0), .int .u64 (lim (y) 1), .int .u64 (lim (y) 2), .int .u64 (lim (y) 3)] 24)) (.cells #[.int .u64 0, .int .u64 0, .int .u64 0, .int .u64 0] 24))
  obtain ⟨W0, hW0⟩ : ∃ W0, W0 = ((w16.alloc (.cells #[.int .u64 (lim (y) 0), .int .u64 (lim (y) 1), .int .u64 (lim (y) 2), .int .u64 (lim (y) 3)] 24)).alloc (.cells #[.int .u64 0, .int .u64 0, .int .u64 0, .int .u64 0] 24)) := ⟨_, rfl⟩
  have Ay : Arr W0 (w16.heap.size) 4 (fun j => .int .u64 (lim (y) j)) := by subst hW0; refine Arr.mk4 ?_ ?_ ?_ ?_ ?_ ?_ ?_ ?_ <;> simp [go_sem]
  have Az : Arr W0 (w16.heap.size + 1) 4 (nx 0 0 0 0) := by subst hW0; refine Arr.mk4 ?_ ?_ ?_ ?_ ?_ ?_ ?_ ?_ <;> simp [go_sem, nx]
  subst hW0
  replace hB := (Bel.al (Bel.al hB (.cells #[.int .u64 (lim (y) 0), .int .u64 (lim (y) 1), .int .u64 (lim (y) 2), .int .u64 (lim (y) 3)] 24)) (.cells #[.int .u64 0, .int .u64 0, .int .u64 0, .int .u64 0] 24))
  obtain ⟨rx0, rx1, rx2, rx3⟩ := Arr.g4 Ax
  obtain ⟨ry0, ry1, ry2, ry3⟩ := Arr.g4 Ay
  have rz0 := Az.cg 0 (by omega) (.int .u64 0) rfl
  have rz1 := Az.cg 1 (by omega) (.int .u64 0) rfl
  have rz2 := Az.cg 2 (by omega) (.int .u64 0) rfl
  have rz3 := Az.cg 3 (by omega) (.int .u64 0) rfl
  refine wp_region_quiet_below (by kernel_rfl) (by kernel_rfl) ?_
  repeat (go_big_quiet_step (first | (go_at_call 19; with_reducible first | exact Calls.regrown_of (C7 _)) | (go_at_call 18; with_reducible first | exact Calls.regrown_of (C8 _) | exact Calls.regrown_of (C9 _))))
  refine wpQuiet_nil ?_
  intro w7 hw'
  obtain ⟨⟨dq, osq⟩, hw''⟩ := hw'
  have hb := below_of hw''
  clear hw''
  replace Ad := Arr.to' Ad hb
  replace Ak := Arr.to' Ak hb
  replace Aq := Arr.to' Aq hb
  replace Ag := Arr.to' Ag hb
  replace Ax := Arr.to' Ax hb
  replace Ay := Arr.to' Ay hb
  replace Az := Arr.to' Az hb
  replace hB := Bel.call hB hb
  clear hb rx0 rx1 rx2 rx3 ry0 ry1 ry2 ry3 rz0 rz1 rz2 rz3
  go_wp2_with fail
  apply wp_region_pure_tail 4 3 #[true, true, true, true, false, false, false, true, false, false] #[true, true, true, true, true, true, true, false, false, false] (by kernel_rfl) (by intro c d v a w h; cases d <;> exact h) (by kernel_rfl) (by kernel_rfl) (.cells #[.int .u64 0, .int .u64 0, .int .u64 0, .int .u64 0] 24) _ rfl (fun _ _ => by simp [go_sem])
  · intro W hW
    obtain ⟨rg0, rg1, rg2, rg3, rg4, rg5, rg6, rg7⟩ := Arr.g_sgx (Arr.to' Ag hW)
    simp only [List.take_succ_cons, List.take_zero]
    repeat (go_big_quiet_step (first | (go_at_call 19; with_reducible first | exact Calls.regrown_of (C7 _)) | (go_at_call 20; with_reducible first | exact Calls.regrown_of (C10 _))))
    exact wpQuiet_nil rfl
  · exact ⟨_, Or.inl ⟨rfl, fun _ => rfl⟩, ⟨_, Or.inl ⟨rfl, fun _ => rfl⟩, ⟨_, Or.inl ⟨rfl, fun _ => rfl⟩, rfl⟩⟩⟩
  · intro v; exact ⟨_, Or.inl ⟨rfl, fun _ => rfl⟩, ⟨_, Or.inl ⟨rfl, fun _ => rfl⟩, ⟨_, Or.inl ⟨rfl, fun _ => rfl⟩, rfl⟩⟩⟩
  intro v8 w18 hb1 hb2
  simp only [List.drop_succ_cons, List.drop_zero, Act.put, List.setIfInBounds_toArray, List.set_cons_succ, List.set_cons_zero]
  have Ed := Arr.to' Ad hb1
  have ld_v8 := Ed.lt
  have Bd := Arr.to' (Arr.al' Ed _) hb2
  have Ek := Arr.to' Ak hb1
  have lk_v8 := Ek.lt
  have Bk := Arr.to' (Arr.al' Ek _) hb2
  have Eq := Arr.to' Aq hb1
  have lq_v8 := Eq.lt
  have Bq := Arr.to' (Arr.al' Eq _) hb2
  have Eg := Arr.to' Ag hb1
  have lg_v8 := Eg.lt
  have Bg := Arr.to' (Arr.al' Eg _) hb2
  have Ex := Arr.to' Ax hb1
  have lx_v8 := Ex.lt
  have Bx := Arr.to' (Arr.al' Ex _) hb2
  have Ey := Arr.to' Ay hb1
  have ly_v8 := Ey.lt
  have By := Arr.to' (Arr.al' Ey _) hb2
  have Ez := Arr.to' Az hb1
  have lz_v8 := Ez.lt
  have Bz := Arr.to' (Arr.al' Ez _) hb2
  have Bf := (Arr.mk4 (w := (v8.alloc (.cells #[.int .u64 0, .int .u64 0, .int .u64 0, .int .u64 0] 24))) (f := fun _ => .int .u64 0) (b := v8.heap.size) (by simp [go_sem]) (by simp [go_sem]) (by simp [go_sem]) (by simp [go_sem]) (by simp [go_sem]) (by simp [go_sem]) (by simp [go_sem]) (by simp [go_sem])).below hb2 (by go_size)
  have lB_v8 := (Bel.call hB hb1).size
  have hB' := Bel.call (Bel.al (Bel.call hB hb1) _) hb2
  clear hb1 hb2 Ed Ek Eq Eg Ex Ey Ez Ad Ak Aq Ag Ax Ay Az hB
  have Ad := Bd
  have Ak := Bk
  have Aq := Bq
  have Ag := Bg
  have Ax := Bx
  have Ay := By
  have Az := Bz
  have Af := Bf
  have hB := hB'
  clear Bd Bk Bq Bg Bx By Bz Bf hB'
  have cf := Af.c
  have zf := Af.z
  have Bd := Arr.st4o (b' := v8.heap.size) Ad (by have := Ad.lt; have := Af.lt; omega) (F)
  have Bk := Arr.st4o (b' := v8.heap.size) Ak (by have := Ak.lt; have := Af.lt; omega) (F)
  have Bq := Arr.st4o (b' := v8.heap.size) Aq (by have := Aq.lt; have := Af.lt; omega) (F)
  have Bg := Arr.st4o (b' := v8.heap.size) Ag (by have := Ag.lt; have := Af.lt; omega) (F)
  have Bx := Arr.st4o (b' := v8.heap.size) Ax (by have := Ax.lt; have := Af.lt; omega) (F)
  have By := Arr.st4o (b' := v8.heap.size) Ay (by have := Ay.lt; have := Af.lt; omega) (F)
  have Bz := Arr.st4o (b' := v8.heap.size) Az (by have := Az.lt; have := Af.lt; omega) (F)
  have Bf := Arr.st4 Af (F)
  have hB' := Bel.st4 hB (b := v8.heap.size) (by have := hB.size; omega) (F)
  clear Ad Ak Aq Ag Ax Ay Az Af hB
  have Ad := Bd
  have Ak := Bk
  have Aq := Bq
  have Ag := Bg
  have Ax := Bx
  have Ay := By
  have Az := Bz
  have Af := Bf
  have hB := hB'
  clear Bd Bk Bq Bg Bx By Bz Bf hB'
  obtain ⟨rf0, rf1, rf2, rf3⟩ := Arr.g4 Af
  go_wp2_with fail
  refine wp_region_quiet_below (by kernel_rfl) (by kernel_rfl) ?_
  repeat (go_big_quiet_step (fail))
  refine wpQuiet_nil ?_
  intro w9 hw'
  obtain ⟨⟨dq, osq⟩, hw''⟩ := hw'
  have hb := below_of hw''
  clear hw''
  replace Ad := Arr.to' Ad hb
  replace Ak := Arr.to' Ak hb
  replace Aq := Arr.to' Aq hb
  replace Ag := Arr.to' Ag hb
  replace Ax := Arr.to' Ax hb
  replace Ay := Arr.to' Ay hb
  replace Az := Arr.to' Az hb
  replace Af := Arr.to' Af hb
  replace hB := Bel.call hB hb
  clear hb cf zf rf0 rf1 rf2 rf3
  go_wp2_with fail
  apply wp_region_alloc_tail 14 (by kernel_rfl) (by kernel_rfl) (by kernel_rfl) (.cells #[.int .u64 0, .int .u64 0, .int .u64 0, .int .u64 0] 24) _ rfl (fun _ _ => by simp [go_sem])
  · intro W hW
    obtain ⟨rx0, rx1, rx2, rx3⟩ := Arr.g4 (Arr.to' Ax hW)
    obtain ⟨ry0, ry1, ry2, ry3⟩ := Arr.g4 (Arr.to' Ay hW)
    obtain ⟨rg0, rg1, rg2, rg3, rg4, rg5, rg6, rg7⟩ := Arr.g_sgx (Arr.to' Ag hW)
    obtain ⟨rd0, rd1, rd2, rd3⟩ := Arr.g4 (Arr.to' Ad hW)
    simp only [List.take_succ_cons, List.take_zero]
    repeat (go_big_quiet_step (first | (go_at_call 19; with_reducible first | exact Calls.regrown_of (C7 _)) | (go_at_call 23; with_reducible first | exact Calls.regrown_of (C11 _) | exact Calls.regrown_of (C14 _)) | (go_at_call 24; with_reducible first | exact Calls.regrown_of (C12 _) | exact Calls.regrown_of (C13 _))))
    exact wpQuiet_nil rfl
  intro v10 w20 hb1 hb2
  simp only [List.drop_succ_cons, List.drop_zero, Act.put, List.setIfInBounds_toArray, List.set_cons_succ, List.set_cons_zero]
  have Ed := Arr.to' Ad hb1
  have ld_v10 := Ed.lt
  have Bd := Arr.to' (Arr.al' Ed _) hb2
  have Ek := Arr.to' Ak hb1
  have lk_v10 := Ek.lt
  have Bk := Arr.to' (Arr.al' Ek _) hb2
  have Eq := Arr.to' Aq hb1
  have lq_v10 := Eq.lt
  have Bq := Arr.to' (Arr.al' Eq _) hb2
  have Eg := Arr.to' Ag hb1
  have lg_v10 := Eg.lt
  have Bg := Arr.to' (Arr.al' Eg _) hb2
  have Ex := Arr.to' Ax hb1
  have lx_v10 := Ex.lt
  have Bx := Arr.to' (Arr.al' Ex _) hb2
  have Ey := Arr.to' Ay hb1
  have ly_v10 := Ey.lt
  have By := Arr.to' (Arr.al' Ey _) hb2
  have Ez := Arr.to' Az hb1
  have lz_v10 := Ez.lt
  have Bz := Arr.to' (Arr.al' Ez _) hb2
  have Ef := Arr.to' Af hb1
  have lf_v10 := Ef.lt
  have Bf := Arr.to' (Arr.al' Ef _) hb2
  have Bt := (Arr.mk4 (w := (v10.alloc (.cells #[.int .u64 0, .int .u64 0, .int .u64 0, .int .u64 0] 24))) (f := fun _ => .int .u64 0) (b := v10.heap.size) (by simp [go_sem]) (by simp [go_sem]) (by simp [go_sem]) (by simp [go_sem]) (by simp [go_sem]) (by simp [go_sem]) (by simp [go_sem]) (by simp [go_sem])).below hb2 (by go_size)
  have lB_v10 := (Bel.call hB hb1).size
  have hB' := Bel.call (Bel.al (Bel.call hB hb1) _) hb2
  clear hb1 hb2 Ed Ek Eq Eg Ex Ey Ez Ef Ad Ak Aq Ag Ax Ay Az Af hB
  have Ad := Bd
  have Ak := Bk
  have Aq := Bq
  have Ag := Bg
  have Ax := Bx
  have Ay := By
  have Az := Bz
  have Af := Bf
  have At := Bt
  have hB := hB'
  clear Bd Bk Bq Bg Bx By Bz Bf Bt hB'
  have ct := At.c
  have zt := At.z
  have Bd := Arr.st4o (b' := v10.heap.size) Ad (by have := Ad.lt; have := At.lt; omega) (t)
  have Bk := Arr.st4o (b' := v10.heap.size) Ak (by have := Ak.lt; have := At.lt; omega) (t)
  have Bq := Arr.st4o (b' := v10.heap.size) Aq (by have := Aq.lt; have := At.lt; omega) (t)
  have Bg := Arr.st4o (b' := v10.heap.size) Ag (by have := Ag.lt; have := At.lt; omega) (t)
  have Bx := Arr.st4o (b' := v10.heap.size) Ax (by have := Ax.lt; have := At.lt; omega) (t)
  have By := Arr.st4o (b' := v10.heap.size) Ay (by have := Ay.lt; have := At.lt; omega) (t)
  have Bz := Arr.st4o (b' := v10.heap.size) Az (by have := Az.lt; have := At.lt; omega) (t)
  have Bf := Arr.st4o (b' := v10.heap.size) Af (by have := Af.lt; have := At.lt; omega) (t)
  have Bt := Arr.st4 At (t)
  have hB' := Bel.st4 hB (b := v10.heap.size) (by have := hB.size; omega) (t)
  clear Ad Ak Aq Ag Ax Ay Az Af At hB
  have Ad := Bd
  have Ak := Bk
  have Aq := Bq
  have Ag := Bg
  have Ax := Bx
  have Ay := By
  have Az := Bz
  have Af := Bf
  have At := Bt
  have hB := hB'
  clear Bd Bk Bq Bg Bx By Bz Bf Bt hB'
  have ct := At.c
  have cz_0 := Az.cv 0 (by omega) (.int .u64 0) rfl
  have cz_1 := Az.cv 1 (by omega) (.int .u64 0) rfl
  have cz_2 := Az.cv 2 (by omega) (.int .u64 0) rfl
  have cz_3 := Az.cv 3 (by omega) (.int .u64 0) rfl
  obtain ⟨cq_0, cq_1, cq_2, cq_3, cq_4, cq_5, cq_6, cq_7, cq_8⟩ := Arr.c_px Aq
  obtain ⟨cg_0, cg_1, cg_2, cg_3, cg_4, cg_5, cg_6, cg_7⟩ := Arr.c_sgx Ag
  go_wp2_with fail
  refine (C15 _).mono ?_
  rintro e w21 ⟨rfl, hb⟩
  replace Ad := Arr.to' Ad hb
  replace Ak := Arr.to' Ak hb
  replace Aq := Arr.to' Aq hb
  replace Ag := Arr.to' Ag hb
  replace Ax := Arr.to' Ax hb
  replace Ay := Arr.to' Ay hb
  replace Az := Arr.to' Az hb
  replace Af := Arr.to' Af hb
  replace At := Arr.to' At hb
  replace hB := Bel.call hB hb
  clear hb ct zt cz_0 cz_1 cz_2 cz_3 cq_0 cq_1 cq_2 cq_3 cq_4 cq_5 cq_6 cq_7 cq_8 cg_0 cg_1 cg_2 cg_3 cg_4 cg_5 cg_6 cg_7
  go_wp2_with fail
  refine (C16 _).mono ?_
  rintro e w22 ⟨rfl, hb⟩
  replace Ad := Arr.to' Ad hb
  replace Ak := Arr.to' Ak hb
  replace Aq := Arr.to' Aq hb
  replace Ag := Arr.to' Ag hb
  replace Ax := Arr.to' Ax hb
  replace Ay := Arr.to' Ay hb
  replace Az := Arr.to' Az hb
  replace Af := Arr.to' Af hb
  replace At := Arr.to' At hb
  replace hB := Bel.call hB hb
  clear hb
  go_wp2_with fail
  go_ret
  exact ⟨rfl, hB⟩
end Go.Proofs.YtoolbnbfbegjaaaGreat
