/- The walk of layer 4's statement PointOrder. -/
import Derived.Test.YtgekafmojedlkaaJ43
set_option linter.all false
set_option maxRecDepth 100000
namespace Go.Proofs.Ytgekafmojedlkaa
open Go.RowKit Go.Sort
/-- Zeros, and true in cell 8. -/
def zt (j : Nat) : Value := if j = 8 then .bool true else .int .u64 0
attribute [local go_sem] eq24
set_option maxHeartbeats 8000000 in
theorem order_no (X1 Y1 J K : Int) (i1 : Bool) (w : World)
    (C1 : ∀ W, Calls Try.prog 12 #[pv X1 Y1 i1] W fun e w' => e = .returned (.bool false) ∧ Below W.heap.size W w')
    (C2 : ∀ W, Calls Try.prog 17 #[] W fun e w' => e = .returned (.bool true) ∧ Below W.heap.size W w') :
    Calls Try.prog 5 #[pv X1 Y1 i1, nv J, nv K] w fun e w' => e = .returned (.bool true) ∧ Below w.heap.size w w' := by
  have q26 := eq26g
  go_enter Try.func5, Try.ntmps5
  have Ba := Arr.mk9p (w := (((w.alloc (.cells #[.int .u64 (lim (X1) 0), .int .u64 (lim (X1) 1), .int .u64 (lim (X1) 2), .int .u64 (lim (X1) 3), .int .u64 (lim (Y1) 0), .int .u64 (lim (Y1) 1), .int .u64 (lim (Y1) 2), .int .u64 (lim (Y1) 3), .bool i1] 26)).alloc (.cells #[.int .u64 (lim (J) 0), .int .u64 (lim (J) 1), .int .u64 (lim (J) 2), .int .u64 (lim (J) 3)] 24)).alloc (.cells #[.int .u64 (lim (K) 0), .int .u64 (lim (K) 1), .int .u64 (lim (K) 2), .int .u64 (lim (K) 3)] 24))) (f := px (X1) (Y1) i1) (b := w.heap.size) (by simp [go_sem, px, sx, zx, zt]) (by simp [go_sem, px, sx, zx, zt]) (by simp [go_sem, px, sx, zx, zt]) (by simp [go_sem, px, sx, zx, zt]) (by simp [go_sem, px, sx, zx, zt]) (by simp [go_sem, px, sx, zx, zt]) (by simp [go_sem, px, sx, zx, zt]) (by simp [go_sem, px, sx, zx, zt]) (by simp [go_sem, px, sx, zx, zt]) (by simp [go_sem, px, sx, zx, zt])
  have Bj := Arr.mk4 (w := (((w.alloc (.cells #[.int .u64 (lim (X1) 0), .int .u64 (lim (X1) 1), .int .u64 (lim (X1) 2), .int .u64 (lim (X1) 3), .int .u64 (lim (Y1) 0), .int .u64 (lim (Y1) 1), .int .u64 (lim (Y1) 2), .int .u64 (lim (Y1) 3), .bool i1] 26)).alloc (.cells #[.int .u64 (lim (J) 0), .int .u64 (lim (J) 1), .int .u64 (lim (J) 2), .int .u64 (lim (J) 3)] 24)).alloc (.cells #[.int .u64 (lim (K) 0), .int .u64 (lim (K) 1), .int .u64 (lim (K) 2), .int .u64 (lim (K) 3)] 24))) (f := fun j => .int .u64 (lim (J) j)) (b := w.heap.size + 1) (by simp [go_sem]) (by simp [go_sem]) (by simp [go_sem]) (by simp [go_sem]) (by simp [go_sem]) (by simp [go_sem]) (by simp [go_sem]) (by simp [go_sem])
  have Bk := Arr.mk4 (w := (((w.alloc (.cells #[.int .u64 (lim (X1) 0), .int .u64 (lim (X1) 1), .int .u64 (lim (X1) 2), .int .u64 (lim (X1) 3), .int .u64 (lim (Y1) 0), .int .u64 (lim (Y1) 1), .int .u64 (lim (Y1) 2), .int .u64 (lim (Y1) 3), .bool i1] 26)).alloc (.cells #[.int .u64 (lim (J) 0), .int .u64 (lim (J) 1), .int .u64 (lim (J) 2), .int .u64 (lim (J) 3)] 24)).alloc (.cells #[.int .u64 (lim (K) 0), .int .u64 (lim (K) 1), .int .u64 (lim (K) 2), .int .u64 (lim (K) 3)] 24))) (f := fun j => .int .u64 (lim (K) j)) (b := w.heap.size + 1 + 1) (by simp [go_sem]) (by simp [go_sem]) (by simp [go_sem]) (by simp [go_sem]) (by simp [go_sem]) (by simp [go_sem]) (by simp [go_sem]) (by simp [go_sem])
  have hB' : Below w.heap.size w (((w.alloc (.cells #[.int .u64 (lim (X1) 0), .int .u64 (lim (X1) 1), .int .u64 (lim (X1) 2), .int .u64 (lim (X1) 3), .int .u64 (lim (Y1) 0), .int .u64 (lim (Y1) 1), .int .u64 (lim (Y1) 2), .int .u64 (lim (Y1) 3), .bool i1] 26)).alloc (.cells #[.int .u64 (lim (J) 0), .int .u64 (lim (J) 1), .int .u64 (lim (J) 2), .int .u64 (lim (J) 3)] 24)).alloc (.cells #[.int .u64 (lim (K) 0), .int .u64 (lim (K) 1), .int .u64 (lim (K) 2), .int .u64 (lim (K) 3)] 24)) := by go_grown
  have Aa := Ba
  have Aj := Bj
  have Ak := Bk
  have hB := hB'
  clear Ba Bj Bk hB'
  have ca_0 := Aa.cv 0 (by omega) (.int .u64 (lim (X1) 0)) rfl
  have ca_1 := Aa.cv 1 (by omega) (.int .u64 (lim (X1) 1)) rfl
  have ca_2 := Aa.cv 2 (by omega) (.int .u64 (lim (X1) 2)) rfl
  have ca_3 := Aa.cv 3 (by omega) (.int .u64 (lim (X1) 3)) rfl
  have ca_4 := Aa.cv 4 (by omega) (.int .u64 (lim (Y1) 0)) rfl
  have ca_5 := Aa.cv 5 (by omega) (.int .u64 (lim (Y1) 1)) rfl
  have ca_6 := Aa.cv 6 (by omega) (.int .u64 (lim (Y1) 2)) rfl
  have ca_7 := Aa.cv 7 (by omega) (.int .u64 (lim (Y1) 3)) rfl
  have ca_8 := Aa.cv 8 (by omega) (.bool i1) rfl
  go_wp2_with fail
  refine (C1 _).mono ?_
  rintro e w1 ⟨rfl, hb⟩
  have Ba := Arr.to' Aa hb
  have Bj := Arr.to' Aj hb
  have Bk := Arr.to' Ak hb
  have hB' := Bel.call hB hb
  clear hb ca_0 ca_1 ca_2 ca_3 ca_4 ca_5 ca_6 ca_7 ca_8 Aa Aj Ak hB
  have Aa := Ba
  have Aj := Bj
  have Ak := Bk
  have hB := hB'
  clear Ba Bj Bk hB'
  go_wp2_with fail
  refine (C2 _).mono ?_
  rintro e w12 ⟨rfl, hb⟩
  have Ba := Arr.to' Aa hb
  have Bj := Arr.to' Aj hb
  have Bk := Arr.to' Ak hb
  have hB' := Bel.call hB hb
  clear hb Aa Aj Ak hB
  have Aa := Ba
  have Aj := Bj
  have Ak := Bk
  have hB := hB'
  clear Ba Bj Bk hB'
  go_wp2_with fail
  go_ret
  exact ⟨rfl, hB⟩
set_option maxHeartbeats 8000000 in
theorem order_yes (X1 Y1 X2 Y2 X3 Y3 X4 Y4 X5 Y5 J K S : Int) (i1 i2 i3 i4 i5 : Bool) (w : World)
    (C1 : ∀ W, Calls Try.prog 12 #[pv X1 Y1 i1] W fun e w' => e = .returned (.bool true) ∧ Below W.heap.size W w')
    (C2 : ∀ W, Calls Try.prog 19 #[nv J, nv K] W fun e w' => e = .returned (.tuple #[nv S, .int .u64 0]) ∧ Below W.heap.size W w')
    (C3 : ∀ W, Calls Try.prog 21 #[] W fun e w' => e = .returned (.agg #[.int .u64 17562291160714782033, .int .u64 13611842547513532036, .int .u64 18446744073709551615, .int .u64 18446744069414584320]) ∧ Below W.heap.size W w')
    (C4 : ∀ W, Calls Try.prog 20 #[.agg #[.int .u64 17562291160714782033, .int .u64 13611842547513532036, .int .u64 18446744073709551615, .int .u64 18446744069414584320], pv X1 Y1 i1] W fun e w' => e = .returned (.agg #[.int .u64 0, .int .u64 0, .int .u64 0, .int .u64 0, .int .u64 0, .int .u64 0, .int .u64 0, .int .u64 0, .bool true]) ∧ Below W.heap.size W w')
    (C5 : ∀ W, Calls Try.prog 20 #[.agg #[.int .u64 2, .int .u64 0, .int .u64 0, .int .u64 0], pv X1 Y1 i1] W fun e w' => e = .returned (pv X5 Y5 i5) ∧ Below W.heap.size W w')
    (C6 : ∀ W, Calls Try.prog 18 #[pv X1 Y1 i1, pv X1 Y1 i1] W fun e w' => e = .returned (pv X5 Y5 i5) ∧ Below W.heap.size W w')
    (C7 : ∀ W, Calls Try.prog 20 #[.agg #[.int .u64 0, .int .u64 0, .int .u64 0, .int .u64 0], pv X1 Y1 i1] W fun e w' => e = .returned (.agg #[.int .u64 0, .int .u64 0, .int .u64 0, .int .u64 0, .int .u64 0, .int .u64 0, .int .u64 0, .int .u64 0, .bool true]) ∧ Below W.heap.size W w')
    (C8 : ∀ W, Calls Try.prog 17 #[] W fun e w' => e = .returned (.bool true) ∧ Below W.heap.size W w')
    (C9 : ∀ W, Calls Try.prog 20 #[nv S, pv X1 Y1 i1] W fun e w' => e = .returned (pv X2 Y2 i2) ∧ Below W.heap.size W w')
    (C10 : ∀ W, Calls Try.prog 20 #[nv J, pv X1 Y1 i1] W fun e w' => e = .returned (pv X3 Y3 i3) ∧ Below W.heap.size W w')
    (C11 : ∀ W, Calls Try.prog 20 #[nv K, pv X1 Y1 i1] W fun e w' => e = .returned (pv X4 Y4 i4) ∧ Below W.heap.size W w')
    (C12 : ∀ W, Calls Try.prog 18 #[pv X3 Y3 i3, pv X4 Y4 i4] W fun e w' => e = .returned (pv X2 Y2 i2) ∧ Below W.heap.size W w') :
    Calls Try.prog 5 #[pv X1 Y1 i1, nv J, nv K] w fun e w' => e = .returned (.bool true) ∧ Below w.heap.size w w' := by
  have q26 := eq26g
  go_enter Try.func5, Try.ntmps5
  have Ba := Arr.mk9p (w := (((w.alloc (.cells #[.int .u64 (lim (X1) 0), .int .u64 (lim (X1) 1), .int .u64 (lim (X1) 2), .int .u64 (lim (X1) 3), .int .u64 (lim (Y1) 0), .int .u64 (lim (Y1) 1), .int .u64 (lim (Y1) 2), .int .u64 (lim (Y1) 3), .bool i1] 26)).alloc (.cells #[.int .u64 (lim (J) 0), .int .u64 (lim (J) 1), .int .u64 (lim (J) 2), .int .u64 (lim (J) 3)] 24)).alloc (.cells #[.int .u64 (lim (K) 0), .int .u64 (lim (K) 1), .int .u64 (lim (K) 2), .int .u64 (lim (K) 3)] 24))) (f := px (X1) (Y1) i1) (b := w.heap.size) (by simp [go_sem, px, sx, zx, zt]) (by simp [go_sem, px, sx, zx, zt]) (by simp [go_sem, px, sx, zx, zt]) (by simp [go_sem, px, sx, zx, zt]) (by simp [go_sem, px, sx, zx, zt]) (by simp [go_sem, px, sx, zx, zt]) (by simp [go_sem, px, sx, zx, zt]) (by simp [go_sem, px, sx, zx, zt]) (by simp [go_sem, px, sx, zx, zt]) (by simp [go_sem, px, sx, zx, zt])
  have Bj := Arr.mk4 (w := (((w.alloc (.cells #[.int .u64 (lim (X1) 0), .int .u64 (lim (X1) 1), .int .u64 (lim (X1) 2), .int .u64 (lim (X1) 3), .int .u64 (lim (Y1) 0), .int .u64 (lim (Y1) 1), .int .u64 (lim (Y1) 2), .int .u64 (lim (Y1) 3), .bool i1] 26)).alloc (.cells #[.int .u64 (lim (J) 0), .int .u64 (lim (J) 1), .int .u64 (lim (J) 2), .int .u64 (lim (J) 3)] 24)).alloc (.cells #[.int .u64 (lim (K) 0), .int .u64 (lim (K) 1), .int .u64 (lim (K) 2), .int .u64 (lim (K) 3)] 24))) (f := fun j => .int .u64 (lim (J) j)) (b := w.heap.size + 1) (by simp [go_sem]) (by simp [go_sem]) (by simp [go_sem]) (by simp [go_sem]) (by simp [go_sem]) (by simp [go_sem]) (by simp [go_sem]) (by simp [go_sem])
  have Bk := Arr.mk4 (w := (((w.alloc (.cells #[.int .u64 (lim (X1) 0), .int .u64 (lim (X1) 1), .int .u64 (lim (X1) 2), .int .u64 (lim (X1) 3), .int .u64 (lim (Y1) 0), .int .u64 (lim (Y1) 1), .int .u64 (lim (Y1) 2), .int .u64 (lim (Y1) 3), .bool i1] 26)).alloc (.cells #[.int .u64 (lim (J) 0), .int .u64 (lim (J) 1), .int .u64 (lim (J) 2), .int .u64 (lim (J) 3)] 24)).alloc (.cells #[.int .u64 (lim (K) 0), .int .u64 (lim (K) 1), .int .u64 (lim (K) 2), .int .u64 (lim (K) 3)] 24))) (f := fun j => .int .u64 (lim (K) j)) (b := w.heap.size + 1 + 1) (by simp [go_sem]) (by simp [go_sem]) (by simp [go_sem]) (by simp [go_sem]) (by simp [go_sem]) (by simp [go_sem]) (by simp [go_sem]) (by simp [go_sem])
  have hB' : Below w.heap.size w (((w.alloc (.cells #[.int .u64 (lim (X1) 0), .int .u64 (lim (X1) 1), .int .u64 (lim (X1) 2), .int .u64 (lim (X1) 3), .int .u64 (lim (Y1) 0), .int .u64 (lim (Y1) 1), .int .u64 (lim (Y1) 2), .int .u64 (lim (Y1) 3), .bool i1] 26)).alloc (.cells #[.int .u64 (lim (J) 0), .int .u64 (lim (J) 1), .int .u64 (lim (J) 2), .int .u64 (lim (J) 3)] 24)).alloc (.cells #[.int .u64 (lim (K) 0), .int .u64 (lim (K) 1), .int .u64 (lim (K) 2), .int .u64 (lim (K) 3)] 24)) := by go_grown
  have Aa := Ba
  have Aj := Bj
  have Ak := Bk
  have hB := hB'
  clear Ba Bj Bk hB'
  have ca_0 := Aa.cv 0 (by omega) (.int .u64 (lim (X1) 0)) rfl
  have ca_1 := Aa.cv 1 (by omega) (.int .u64 (lim (X1) 1)) rfl
  have ca_2 := Aa.cv 2 (by omega) (.int .u64 (lim (X1) 2)) rfl
  have ca_3 := Aa.cv 3 (by omega) (.int .u64 (lim (X1) 3)) rfl
  have ca_4 := Aa.cv 4 (by omega) (.int .u64 (lim (Y1) 0)) rfl
  have ca_5 := Aa.cv 5 (by omega) (.int .u64 (lim (Y1) 1)) rfl
  have ca_6 := Aa.cv 6 (by omega) (.int .u64 (lim (Y1) 2)) rfl
  have ca_7 := Aa.cv 7 (by omega) (.int .u64 (lim (Y1) 3)) rfl
  have ca_8 := Aa.cv 8 (by omega) (.bool i1) rfl
  go_wp2_with fail
  refine (C1 _).mono ?_
  rintro e w1 ⟨rfl, hb⟩
  have Ba := Arr.to' Aa hb
  have Bj := Arr.to' Aj hb
  have Bk := Arr.to' Ak hb
  have hB' := Bel.call hB hb
  clear hb ca_0 ca_1 ca_2 ca_3 ca_4 ca_5 ca_6 ca_7 ca_8 Aa Aj Ak hB
  have Aa := Ba
  have Aj := Bj
  have Ak := Bk
  have hB := hB'
  clear Ba Bj Bk hB'
  have la_2 := Aa.lt
  have lj_2 := Aj.lt
  have lk_2 := Ak.lt
  have lB_2 := hB.size
  have Ba := (Arr.al' Aa (.cells #[.int .u64 0, .int .u64 0, .int .u64 0, .int .u64 0, .int .u64 0, .int .u64 0, .int .u64 0, .int .u64 0, .bool true] 26))
  have Bj := (Arr.al' Aj (.cells #[.int .u64 0, .int .u64 0, .int .u64 0, .int .u64 0, .int .u64 0, .int .u64 0, .int .u64 0, .int .u64 0, .bool true] 26))
  have Bk := (Arr.al' Ak (.cells #[.int .u64 0, .int .u64 0, .int .u64 0, .int .u64 0, .int .u64 0, .int .u64 0, .int .u64 0, .int .u64 0, .bool true] 26))
  have Bn := Arr.mk9p (w := (w1.alloc (.cells #[.int .u64 0, .int .u64 0, .int .u64 0, .int .u64 0, .int .u64 0, .int .u64 0, .int .u64 0, .int .u64 0, .bool true] 26))) (f := zt) (b := w1.heap.size) (by simp [go_sem, px, sx, zx, zt]) (by simp [go_sem, px, sx, zx, zt]) (by simp [go_sem, px, sx, zx, zt]) (by simp [go_sem, px, sx, zx, zt]) (by simp [go_sem, px, sx, zx, zt]) (by simp [go_sem, px, sx, zx, zt]) (by simp [go_sem, px, sx, zx, zt]) (by simp [go_sem, px, sx, zx, zt]) (by simp [go_sem, px, sx, zx, zt]) (by simp [go_sem, px, sx, zx, zt])
  have hB' := (Bel.al hB (.cells #[.int .u64 0, .int .u64 0, .int .u64 0, .int .u64 0, .int .u64 0, .int .u64 0, .int .u64 0, .int .u64 0, .bool true] 26))
  clear Aa Aj Ak hB
  have Aa := Ba
  have Aj := Bj
  have Ak := Bk
  have An := Bn
  have hB := hB'
  clear Ba Bj Bk Bn hB'
  have cj := Aj.c
  have ck := Ak.c
  go_wp2_with fail
  refine (C2 _).mono ?_
  rintro e w12 ⟨rfl, hb⟩
  have Ba := Arr.to' Aa hb
  have Bj := Arr.to' Aj hb
  have Bk := Arr.to' Ak hb
  have Bn := Arr.to' An hb
  have hB' := Bel.call hB hb
  clear hb cj ck Aa Aj Ak An hB
  have Aa := Ba
  have Aj := Bj
  have Ak := Bk
  have An := Bn
  have hB := hB'
  clear Ba Bj Bk Bn hB'
  have la_3 := Aa.lt
  have lj_3 := Aj.lt
  have lk_3 := Ak.lt
  have ln_3 := An.lt
  have lB_3 := hB.size
  have Ba := (Arr.al' Aa (.cells #[.int .u64 (lim (S) 0), .int .u64 (lim (S) 1), .int .u64 (lim (S) 2), .int .u64 (lim (S) 3)] 24))
  have Bj := (Arr.al' Aj (.cells #[.int .u64 (lim (S) 0), .int .u64 (lim (S) 1), .int .u64 (lim (S) 2), .int .u64 (lim (S) 3)] 24))
  have Bk := (Arr.al' Ak (.cells #[.int .u64 (lim (S) 0), .int .u64 (lim (S) 1), .int .u64 (lim (S) 2), .int .u64 (lim (S) 3)] 24))
  have Bn := (Arr.al' An (.cells #[.int .u64 (lim (S) 0), .int .u64 (lim (S) 1), .int .u64 (lim (S) 2), .int .u64 (lim (S) 3)] 24))
  have Bs := Arr.mk4 (w := (w12.alloc (.cells #[.int .u64 (lim (S) 0), .int .u64 (lim (S) 1), .int .u64 (lim (S) 2), .int .u64 (lim (S) 3)] 24))) (f := fun j => .int .u64 (lim (S) j)) (b := w12.heap.size) (by simp [go_sem]) (by simp [go_sem]) (by simp [go_sem]) (by simp [go_sem]) (by simp [go_sem]) (by simp [go_sem]) (by simp [go_sem]) (by simp [go_sem])
  have hB' := (Bel.al hB (.cells #[.int .u64 (lim (S) 0), .int .u64 (lim (S) 1), .int .u64 (lim (S) 2), .int .u64 (lim (S) 3)] 24))
  clear Aa Aj Ak An hB
  have Aa := Ba
  have Aj := Bj
  have Ak := Bk
  have An := Bn
  have As := Bs
  have hB := hB'
  clear Ba Bj Bk Bn Bs hB'
  have ra0 := fun ds os => cell_regrown (v := .int .u64 (lim (X1) 0)) (Aa.c 0 (by omega)) ds os
  have ra1 := fun ds os => cell_regrown (v := .int .u64 (lim (X1) 1)) (Aa.c 1 (by omega)) ds os
  have ra2 := fun ds os => cell_regrown (v := .int .u64 (lim (X1) 2)) (Aa.c 2 (by omega)) ds os
  have ra3 := fun ds os => cell_regrown (v := .int .u64 (lim (X1) 3)) (Aa.c 3 (by omega)) ds os
  have ra4 := fun ds os => cell_regrown (v := .int .u64 (lim (Y1) 0)) (Aa.c 4 (by omega)) ds os
  have ra5 := fun ds os => cell_regrown (v := .int .u64 (lim (Y1) 1)) (Aa.c 5 (by omega)) ds os
  have ra6 := fun ds os => cell_regrown (v := .int .u64 (lim (Y1) 2)) (Aa.c 6 (by omega)) ds os
  have ra7 := fun ds os => cell_regrown (v := .int .u64 (lim (Y1) 3)) (Aa.c 7 (by omega)) ds os
  have ra8 := fun ds os => cell_regrown (v := .bool i1) (Aa.c 8 (by omega)) ds os
  have rn0 := fun ds os => cell_regrown (v := .int .u64 0) (An.c 0 (by omega)) ds os
  have rn1 := fun ds os => cell_regrown (v := .int .u64 0) (An.c 1 (by omega)) ds os
  have rn2 := fun ds os => cell_regrown (v := .int .u64 0) (An.c 2 (by omega)) ds os
  have rn3 := fun ds os => cell_regrown (v := .int .u64 0) (An.c 3 (by omega)) ds os
  have rn4 := fun ds os => cell_regrown (v := .int .u64 0) (An.c 4 (by omega)) ds os
  have rn5 := fun ds os => cell_regrown (v := .int .u64 0) (An.c 5 (by omega)) ds os
  have rn6 := fun ds os => cell_regrown (v := .int .u64 0) (An.c 6 (by omega)) ds os
  have rn7 := fun ds os => cell_regrown (v := .int .u64 0) (An.c 7 (by omega)) ds os
  have rn8 := fun ds os => cell_regrown (v := .bool true) (An.c 8 (by omega)) ds os
  have rj0 := fun ds os => cell_regrown (Aj.c 0 (by omega)) ds os
  have rj1 := fun ds os => cell_regrown (Aj.c 1 (by omega)) ds os
  have rj2 := fun ds os => cell_regrown (Aj.c 2 (by omega)) ds os
  have rj3 := fun ds os => cell_regrown (Aj.c 3 (by omega)) ds os
  have rk0 := fun ds os => cell_regrown (Ak.c 0 (by omega)) ds os
  have rk1 := fun ds os => cell_regrown (Ak.c 1 (by omega)) ds os
  have rk2 := fun ds os => cell_regrown (Ak.c 2 (by omega)) ds os
  have rk3 := fun ds os => cell_regrown (Ak.c 3 (by omega)) ds os
  have rs0 := fun ds os => cell_regrown (As.c 0 (by omega)) ds os
  have rs1 := fun ds os => cell_regrown (As.c 1 (by omega)) ds os
  have rs2 := fun ds os => cell_regrown (As.c 2 (by omega)) ds os
  have rs3 := fun ds os => cell_regrown (As.c 3 (by omega)) ds os
  go_wp2_with fail
  refine wp_region_quiet_below (by kernel_rfl) (by kernel_rfl) ?_
  repeat (go_big_quiet_step (first | (go_at_call 21; with_reducible first | exact Calls.regrown_of (C3 _)) | (go_at_call 20; with_reducible first | exact Calls.regrown_of (C4 _) | exact Calls.regrown_of (C9 _) | exact Calls.regrown_of (C10 _) | exact Calls.regrown_of (C11 _)) | (go_at_call 18; with_reducible first | exact Calls.regrown_of (C12 _))))
  refine wpQuiet_nil ?_
  intro w3 hw'
  obtain ⟨⟨dq, osq⟩, hw''⟩ := hw'
  have hb := below_of hw''
  clear hw''
  have Ba := Arr.to' Aa hb
  have Bj := Arr.to' Aj hb
  have Bk := Arr.to' Ak hb
  have Bn := Arr.to' An hb
  have Bs := Arr.to' As hb
  have hB' := Bel.call hB hb
  clear hb ra0 ra1 ra2 ra3 ra4 ra5 ra6 ra7 ra8 rn0 rn1 rn2 rn3 rn4 rn5 rn6 rn7 rn8 rj0 rj1 rj2 rj3 rk0 rk1 rk2 rk3 rs0 rs1 rs2 rs3 Aa Aj Ak An As hB
  have Aa := Ba
  have Aj := Bj
  have Ak := Bk
  have An := Bn
  have As := Bs
  have hB := hB'
  clear Ba Bj Bk Bn Bs hB'
  have ra0 := fun ds os => cell_regrown (v := .int .u64 (lim (X1) 0)) (Aa.c 0 (by omega)) ds os
  have ra1 := fun ds os => cell_regrown (v := .int .u64 (lim (X1) 1)) (Aa.c 1 (by omega)) ds os
  have ra2 := fun ds os => cell_regrown (v := .int .u64 (lim (X1) 2)) (Aa.c 2 (by omega)) ds os
  have ra3 := fun ds os => cell_regrown (v := .int .u64 (lim (X1) 3)) (Aa.c 3 (by omega)) ds os
  have ra4 := fun ds os => cell_regrown (v := .int .u64 (lim (Y1) 0)) (Aa.c 4 (by omega)) ds os
  have ra5 := fun ds os => cell_regrown (v := .int .u64 (lim (Y1) 1)) (Aa.c 5 (by omega)) ds os
  have ra6 := fun ds os => cell_regrown (v := .int .u64 (lim (Y1) 2)) (Aa.c 6 (by omega)) ds os
  have ra7 := fun ds os => cell_regrown (v := .int .u64 (lim (Y1) 3)) (Aa.c 7 (by omega)) ds os
  have ra8 := fun ds os => cell_regrown (v := .bool i1) (Aa.c 8 (by omega)) ds os
  have rn0 := fun ds os => cell_regrown (v := .int .u64 0) (An.c 0 (by omega)) ds os
  have rn1 := fun ds os => cell_regrown (v := .int .u64 0) (An.c 1 (by omega)) ds os
  have rn2 := fun ds os => cell_regrown (v := .int .u64 0) (An.c 2 (by omega)) ds os
  have rn3 := fun ds os => cell_regrown (v := .int .u64 0) (An.c 3 (by omega)) ds os
  have rn4 := fun ds os => cell_regrown (v := .int .u64 0) (An.c 4 (by omega)) ds os
  have rn5 := fun ds os => cell_regrown (v := .int .u64 0) (An.c 5 (by omega)) ds os
  have rn6 := fun ds os => cell_regrown (v := .int .u64 0) (An.c 6 (by omega)) ds os
  have rn7 := fun ds os => cell_regrown (v := .int .u64 0) (An.c 7 (by omega)) ds os
  have rn8 := fun ds os => cell_regrown (v := .bool true) (An.c 8 (by omega)) ds os
  go_wp2_with fail
  refine wp_region_quiet_below (by kernel_rfl) (by kernel_rfl) ?_
  repeat (go_big_quiet_step (first | (go_at_call 20; with_reducible first | exact Calls.regrown_of (C5 _) | exact Calls.regrown_of (C7 _)) | (go_at_call 18; with_reducible first | exact Calls.regrown_of (C6 _)) | (go_at_call 17; with_reducible first | exact Calls.regrown_of (C8 _))))
  refine wpQuiet_nil ?_
  intro w4 hw'
  obtain ⟨⟨dq, osq⟩, hw''⟩ := hw'
  have hb := below_of hw''
  clear hw''
  have Ba := Arr.to' Aa hb
  have Bj := Arr.to' Aj hb
  have Bk := Arr.to' Ak hb
  have Bn := Arr.to' An hb
  have Bs := Arr.to' As hb
  have hB' := Bel.call hB hb
  clear hb ra0 ra1 ra2 ra3 ra4 ra5 ra6 ra7 ra8 rn0 rn1 rn2 rn3 rn4 rn5 rn6 rn7 rn8 Aa Aj Ak An As hB
  have Aa := Ba
  have Aj := Bj
  have Ak := Bk
  have An := Bn
  have As := Bs
  have hB := hB'
  clear Ba Bj Bk Bn Bs hB'
  go_wp2_with fail
  go_ret
  exact ⟨rfl, hB⟩
set_option maxHeartbeats 8000000 in
theorem order_top (X1 Y1 X2 Y2 X3 Y3 X4 Y4 X5 Y5 J K S : Int) (i1 i2 i3 i4 i5 : Bool) (w : World)
    (C1 : ∀ W, Calls Try.prog 12 #[pv X1 Y1 i1] W fun e w' => e = .returned (.bool true) ∧ Below W.heap.size W w')
    (C2 : ∀ W, Calls Try.prog 19 #[nv J, nv K] W fun e w' => e = .returned (.tuple #[nv S, .int .u64 1]) ∧ Below W.heap.size W w')
    (C3 : ∀ W, Calls Try.prog 21 #[] W fun e w' => e = .returned (.agg #[.int .u64 17562291160714782033, .int .u64 13611842547513532036, .int .u64 18446744073709551615, .int .u64 18446744069414584320]) ∧ Below W.heap.size W w')
    (C4 : ∀ W, Calls Try.prog 20 #[.agg #[.int .u64 17562291160714782033, .int .u64 13611842547513532036, .int .u64 18446744073709551615, .int .u64 18446744069414584320], pv X1 Y1 i1] W fun e w' => e = .returned (.agg #[.int .u64 0, .int .u64 0, .int .u64 0, .int .u64 0, .int .u64 0, .int .u64 0, .int .u64 0, .int .u64 0, .bool true]) ∧ Below W.heap.size W w')
    (C5 : ∀ W, Calls Try.prog 20 #[.agg #[.int .u64 2, .int .u64 0, .int .u64 0, .int .u64 0], pv X1 Y1 i1] W fun e w' => e = .returned (pv X5 Y5 i5) ∧ Below W.heap.size W w')
    (C6 : ∀ W, Calls Try.prog 18 #[pv X1 Y1 i1, pv X1 Y1 i1] W fun e w' => e = .returned (pv X5 Y5 i5) ∧ Below W.heap.size W w')
    (C7 : ∀ W, Calls Try.prog 20 #[.agg #[.int .u64 0, .int .u64 0, .int .u64 0, .int .u64 0], pv X1 Y1 i1] W fun e w' => e = .returned (.agg #[.int .u64 0, .int .u64 0, .int .u64 0, .int .u64 0, .int .u64 0, .int .u64 0, .int .u64 0, .int .u64 0, .bool true]) ∧ Below W.heap.size W w')
    (C8 : ∀ W, Calls Try.prog 17 #[] W fun e w' => e = .returned (.bool true) ∧ Below W.heap.size W w') :
    Calls Try.prog 5 #[pv X1 Y1 i1, nv J, nv K] w fun e w' => e = .returned (.bool true) ∧ Below w.heap.size w w' := by
  have q26 := eq26g
  go_enter Try.func5, Try.ntmps5
  have Ba := Arr.mk9p (w := (((w.alloc (.cells #[.int .u64 (lim (X1) 0), .int .u64 (lim (X1) 1), .int .u64 (lim (X1) 2), .int .u64 (lim (X1) 3), .int .u64 (lim (Y1) 0), .int .u64 (lim (Y1) 1), .int .u64 (lim (Y1) 2), .int .u64 (lim (Y1) 3), .bool i1] 26)).alloc (.cells #[.int .u64 (lim (J) 0), .int .u64 (lim (J) 1), .int .u64 (lim (J) 2), .int .u64 (lim (J) 3)] 24)).alloc (.cells #[.int .u64 (lim (K) 0), .int .u64 (lim (K) 1), .int .u64 (lim (K) 2), .int .u64 (lim (K) 3)] 24))) (f := px (X1) (Y1) i1) (b := w.heap.size) (by simp [go_sem, px, sx, zx, zt]) (by simp [go_sem, px, sx, zx, zt]) (by simp [go_sem, px, sx, zx, zt]) (by simp [go_sem, px, sx, zx, zt]) (by simp [go_sem, px, sx, zx, zt]) (by simp [go_sem, px, sx, zx, zt]) (by simp [go_sem, px, sx, zx, zt]) (by simp [go_sem, px, sx, zx, zt]) (by simp [go_sem, px, sx, zx, zt]) (by simp [go_sem, px, sx, zx, zt])
  have Bj := Arr.mk4 (w := (((w.alloc (.cells #[.int .u64 (lim (X1) 0), .int .u64 (lim (X1) 1), .int .u64 (lim (X1) 2), .int .u64 (lim (X1) 3), .int .u64 (lim (Y1) 0), .int .u64 (lim (Y1) 1), .int .u64 (lim (Y1) 2), .int .u64 (lim (Y1) 3), .bool i1] 26)).alloc (.cells #[.int .u64 (lim (J) 0), .int .u64 (lim (J) 1), .int .u64 (lim (J) 2), .int .u64 (lim (J) 3)] 24)).alloc (.cells #[.int .u64 (lim (K) 0), .int .u64 (lim (K) 1), .int .u64 (lim (K) 2), .int .u64 (lim (K) 3)] 24))) (f := fun j => .int .u64 (lim (J) j)) (b := w.heap.size + 1) (by simp [go_sem]) (by simp [go_sem]) (by simp [go_sem]) (by simp [go_sem]) (by simp [go_sem]) (by simp [go_sem]) (by simp [go_sem]) (by simp [go_sem])
  have Bk := Arr.mk4 (w := (((w.alloc (.cells #[.int .u64 (lim (X1) 0), .int .u64 (lim (X1) 1), .int .u64 (lim (X1) 2), .int .u64 (lim (X1) 3), .int .u64 (lim (Y1) 0), .int .u64 (lim (Y1) 1), .int .u64 (lim (Y1) 2), .int .u64 (lim (Y1) 3), .bool i1] 26)).alloc (.cells #[.int .u64 (lim (J) 0), .int .u64 (lim (J) 1), .int .u64 (lim (J) 2), .int .u64 (lim (J) 3)] 24)).alloc (.cells #[.int .u64 (lim (K) 0), .int .u64 (lim (K) 1), .int .u64 (lim (K) 2), .int .u64 (lim (K) 3)] 24))) (f := fun j => .int .u64 (lim (K) j)) (b := w.heap.size + 1 + 1) (by simp [go_sem]) (by simp [go_sem]) (by simp [go_sem]) (by simp [go_sem]) (by simp [go_sem]) (by simp [go_sem]) (by simp [go_sem]) (by simp [go_sem])
  have hB' : Below w.heap.size w (((w.alloc (.cells #[.int .u64 (lim (X1) 0), .int .u64 (lim (X1) 1), .int .u64 (lim (X1) 2), .int .u64 (lim (X1) 3), .int .u64 (lim (Y1) 0), .int .u64 (lim (Y1) 1), .int .u64 (lim (Y1) 2), .int .u64 (lim (Y1) 3), .bool i1] 26)).alloc (.cells #[.int .u64 (lim (J) 0), .int .u64 (lim (J) 1), .int .u64 (lim (J) 2), .int .u64 (lim (J) 3)] 24)).alloc (.cells #[.int .u64 (lim (K) 0), .int .u64 (lim (K) 1), .int .u64 (lim (K) 2), .int .u64 (lim (K) 3)] 24)) := by go_grown
  have Aa := Ba
  have Aj := Bj
  have Ak := Bk
  have hB := hB'
  clear Ba Bj Bk hB'
  have ca_0 := Aa.cv 0 (by omega) (.int .u64 (lim (X1) 0)) rfl
  have ca_1 := Aa.cv 1 (by omega) (.int .u64 (lim (X1) 1)) rfl
  have ca_2 := Aa.cv 2 (by omega) (.int .u64 (lim (X1) 2)) rfl
  have ca_3 := Aa.cv 3 (by omega) (.int .u64 (lim (X1) 3)) rfl
  have ca_4 := Aa.cv 4 (by omega) (.int .u64 (lim (Y1) 0)) rfl
  have ca_5 := Aa.cv 5 (by omega) (.int .u64 (lim (Y1) 1)) rfl
  have ca_6 := Aa.cv 6 (by omega) (.int .u64 (lim (Y1) 2)) rfl
  have ca_7 := Aa.cv 7 (by omega) (.int .u64 (lim (Y1) 3)) rfl
  have ca_8 := Aa.cv 8 (by omega) (.bool i1) rfl
  go_wp2_with fail
  refine (C1 _).mono ?_
  rintro e w1 ⟨rfl, hb⟩
  have Ba := Arr.to' Aa hb
  have Bj := Arr.to' Aj hb
  have Bk := Arr.to' Ak hb
  have hB' := Bel.call hB hb
  clear hb ca_0 ca_1 ca_2 ca_3 ca_4 ca_5 ca_6 ca_7 ca_8 Aa Aj Ak hB
  have Aa := Ba
  have Aj := Bj
  have Ak := Bk
  have hB := hB'
  clear Ba Bj Bk hB'
  have la_2 := Aa.lt
  have lj_2 := Aj.lt
  have lk_2 := Ak.lt
  have lB_2 := hB.size
  have Ba := (Arr.al' Aa (.cells #[.int .u64 0, .int .u64 0, .int .u64 0, .int .u64 0, .int .u64 0, .int .u64 0, .int .u64 0, .int .u64 0, .bool true] 26))
  have Bj := (Arr.al' Aj (.cells #[.int .u64 0, .int .u64 0, .int .u64 0, .int .u64 0, .int .u64 0, .int .u64 0, .int .u64 0, .int .u64 0, .bool true] 26))
  have Bk := (Arr.al' Ak (.cells #[.int .u64 0, .int .u64 0, .int .u64 0, .int .u64 0, .int .u64 0, .int .u64 0, .int .u64 0, .int .u64 0, .bool true] 26))
  have Bn := Arr.mk9p (w := (w1.alloc (.cells #[.int .u64 0, .int .u64 0, .int .u64 0, .int .u64 0, .int .u64 0, .int .u64 0, .int .u64 0, .int .u64 0, .bool true] 26))) (f := zt) (b := w1.heap.size) (by simp [go_sem, px, sx, zx, zt]) (by simp [go_sem, px, sx, zx, zt]) (by simp [go_sem, px, sx, zx, zt]) (by simp [go_sem, px, sx, zx, zt]) (by simp [go_sem, px, sx, zx, zt]) (by simp [go_sem, px, sx, zx, zt]) (by simp [go_sem, px, sx, zx, zt]) (by simp [go_sem, px, sx, zx, zt]) (by simp [go_sem, px, sx, zx, zt]) (by simp [go_sem, px, sx, zx, zt])
  have hB' := (Bel.al hB (.cells #[.int .u64 0, .int .u64 0, .int .u64 0, .int .u64 0, .int .u64 0, .int .u64 0, .int .u64 0, .int .u64 0, .bool true] 26))
  clear Aa Aj Ak hB
  have Aa := Ba
  have Aj := Bj
  have Ak := Bk
  have An := Bn
  have hB := hB'
  clear Ba Bj Bk Bn hB'
  have cj := Aj.c
  have ck := Ak.c
  go_wp2_with fail
  refine (C2 _).mono ?_
  rintro e w12 ⟨rfl, hb⟩
  have Ba := Arr.to' Aa hb
  have Bj := Arr.to' Aj hb
  have Bk := Arr.to' Ak hb
  have Bn := Arr.to' An hb
  have hB' := Bel.call hB hb
  clear hb cj ck Aa Aj Ak An hB
  have Aa := Ba
  have Aj := Bj
  have Ak := Bk
  have An := Bn
  have hB := hB'
  clear Ba Bj Bk Bn hB'
  have la_3 := Aa.lt
  have lj_3 := Aj.lt
  have lk_3 := Ak.lt
  have ln_3 := An.lt
  have lB_3 := hB.size
  have Ba := (Arr.al' Aa (.cells #[.int .u64 (lim (S) 0), .int .u64 (lim (S) 1), .int .u64 (lim (S) 2), .int .u64 (lim (S) 3)] 24))
  have Bj := (Arr.al' Aj (.cells #[.int .u64 (lim (S) 0), .int .u64 (lim (S) 1), .int .u64 (lim (S) 2), .int .u64 (lim (S) 3)] 24))
  have Bk := (Arr.al' Ak (.cells #[.int .u64 (lim (S) 0), .int .u64 (lim (S) 1), .int .u64 (lim (S) 2), .int .u64 (lim (S) 3)] 24))
  have Bn := (Arr.al' An (.cells #[.int .u64 (lim (S) 0), .int .u64 (lim (S) 1), .int .u64 (lim (S) 2), .int .u64 (lim (S) 3)] 24))
  have Bs := Arr.mk4 (w := (w12.alloc (.cells #[.int .u64 (lim (S) 0), .int .u64 (lim (S) 1), .int .u64 (lim (S) 2), .int .u64 (lim (S) 3)] 24))) (f := fun j => .int .u64 (lim (S) j)) (b := w12.heap.size) (by simp [go_sem]) (by simp [go_sem]) (by simp [go_sem]) (by simp [go_sem]) (by simp [go_sem]) (by simp [go_sem]) (by simp [go_sem]) (by simp [go_sem])
  have hB' := (Bel.al hB (.cells #[.int .u64 (lim (S) 0), .int .u64 (lim (S) 1), .int .u64 (lim (S) 2), .int .u64 (lim (S) 3)] 24))
  clear Aa Aj Ak An hB
  have Aa := Ba
  have Aj := Bj
  have Ak := Bk
  have An := Bn
  have As := Bs
  have hB := hB'
  clear Ba Bj Bk Bn Bs hB'
  have ra0 := fun ds os => cell_regrown (v := .int .u64 (lim (X1) 0)) (Aa.c 0 (by omega)) ds os
  have ra1 := fun ds os => cell_regrown (v := .int .u64 (lim (X1) 1)) (Aa.c 1 (by omega)) ds os
  have ra2 := fun ds os => cell_regrown (v := .int .u64 (lim (X1) 2)) (Aa.c 2 (by omega)) ds os
  have ra3 := fun ds os => cell_regrown (v := .int .u64 (lim (X1) 3)) (Aa.c 3 (by omega)) ds os
  have ra4 := fun ds os => cell_regrown (v := .int .u64 (lim (Y1) 0)) (Aa.c 4 (by omega)) ds os
  have ra5 := fun ds os => cell_regrown (v := .int .u64 (lim (Y1) 1)) (Aa.c 5 (by omega)) ds os
  have ra6 := fun ds os => cell_regrown (v := .int .u64 (lim (Y1) 2)) (Aa.c 6 (by omega)) ds os
  have ra7 := fun ds os => cell_regrown (v := .int .u64 (lim (Y1) 3)) (Aa.c 7 (by omega)) ds os
  have ra8 := fun ds os => cell_regrown (v := .bool i1) (Aa.c 8 (by omega)) ds os
  have rn0 := fun ds os => cell_regrown (v := .int .u64 0) (An.c 0 (by omega)) ds os
  have rn1 := fun ds os => cell_regrown (v := .int .u64 0) (An.c 1 (by omega)) ds os
  have rn2 := fun ds os => cell_regrown (v := .int .u64 0) (An.c 2 (by omega)) ds os
  have rn3 := fun ds os => cell_regrown (v := .int .u64 0) (An.c 3 (by omega)) ds os
  have rn4 := fun ds os => cell_regrown (v := .int .u64 0) (An.c 4 (by omega)) ds os
  have rn5 := fun ds os => cell_regrown (v := .int .u64 0) (An.c 5 (by omega)) ds os
  have rn6 := fun ds os => cell_regrown (v := .int .u64 0) (An.c 6 (by omega)) ds os
  have rn7 := fun ds os => cell_regrown (v := .int .u64 0) (An.c 7 (by omega)) ds os
  have rn8 := fun ds os => cell_regrown (v := .bool true) (An.c 8 (by omega)) ds os
  have rj0 := fun ds os => cell_regrown (Aj.c 0 (by omega)) ds os
  have rj1 := fun ds os => cell_regrown (Aj.c 1 (by omega)) ds os
  have rj2 := fun ds os => cell_regrown (Aj.c 2 (by omega)) ds os
  have rj3 := fun ds os => cell_regrown (Aj.c 3 (by omega)) ds os
  have rk0 := fun ds os => cell_regrown (Ak.c 0 (by omega)) ds os
  have rk1 := fun ds os => cell_regrown (Ak.c 1 (by omega)) ds os
  have rk2 := fun ds os => cell_regrown (Ak.c 2 (by omega)) ds os
  have rk3 := fun ds os => cell_regrown (Ak.c 3 (by omega)) ds os
  have rs0 := fun ds os => cell_regrown (As.c 0 (by omega)) ds os
  have rs1 := fun ds os => cell_regrown (As.c 1 (by omega)) ds os
  have rs2 := fun ds os => cell_regrown (As.c 2 (by omega)) ds os
  have rs3 := fun ds os => cell_regrown (As.c 3 (by omega)) ds os
  go_wp2_with fail
  refine wp_region_quiet_below (by kernel_rfl) (by kernel_rfl) ?_
  repeat (go_big_quiet_step (first | (go_at_call 21; with_reducible first | exact Calls.regrown_of (C3 _)) | (go_at_call 20; with_reducible first | exact Calls.regrown_of (C4 _))))
  refine wpQuiet_nil ?_
  intro w3 hw'
  obtain ⟨⟨dq, osq⟩, hw''⟩ := hw'
  have hb := below_of hw''
  clear hw''
  have Ba := Arr.to' Aa hb
  have Bj := Arr.to' Aj hb
  have Bk := Arr.to' Ak hb
  have Bn := Arr.to' An hb
  have Bs := Arr.to' As hb
  have hB' := Bel.call hB hb
  clear hb ra0 ra1 ra2 ra3 ra4 ra5 ra6 ra7 ra8 rn0 rn1 rn2 rn3 rn4 rn5 rn6 rn7 rn8 rj0 rj1 rj2 rj3 rk0 rk1 rk2 rk3 rs0 rs1 rs2 rs3 Aa Aj Ak An As hB
  have Aa := Ba
  have Aj := Bj
  have Ak := Bk
  have An := Bn
  have As := Bs
  have hB := hB'
  clear Ba Bj Bk Bn Bs hB'
  have ra0 := fun ds os => cell_regrown (v := .int .u64 (lim (X1) 0)) (Aa.c 0 (by omega)) ds os
  have ra1 := fun ds os => cell_regrown (v := .int .u64 (lim (X1) 1)) (Aa.c 1 (by omega)) ds os
  have ra2 := fun ds os => cell_regrown (v := .int .u64 (lim (X1) 2)) (Aa.c 2 (by omega)) ds os
  have ra3 := fun ds os => cell_regrown (v := .int .u64 (lim (X1) 3)) (Aa.c 3 (by omega)) ds os
  have ra4 := fun ds os => cell_regrown (v := .int .u64 (lim (Y1) 0)) (Aa.c 4 (by omega)) ds os
  have ra5 := fun ds os => cell_regrown (v := .int .u64 (lim (Y1) 1)) (Aa.c 5 (by omega)) ds os
  have ra6 := fun ds os => cell_regrown (v := .int .u64 (lim (Y1) 2)) (Aa.c 6 (by omega)) ds os
  have ra7 := fun ds os => cell_regrown (v := .int .u64 (lim (Y1) 3)) (Aa.c 7 (by omega)) ds os
  have ra8 := fun ds os => cell_regrown (v := .bool i1) (Aa.c 8 (by omega)) ds os
  have rn0 := fun ds os => cell_regrown (v := .int .u64 0) (An.c 0 (by omega)) ds os
  have rn1 := fun ds os => cell_regrown (v := .int .u64 0) (An.c 1 (by omega)) ds os
  have rn2 := fun ds os => cell_regrown (v := .int .u64 0) (An.c 2 (by omega)) ds os
  have rn3 := fun ds os => cell_regrown (v := .int .u64 0) (An.c 3 (by omega)) ds os
  have rn4 := fun ds os => cell_regrown (v := .int .u64 0) (An.c 4 (by omega)) ds os
  have rn5 := fun ds os => cell_regrown (v := .int .u64 0) (An.c 5 (by omega)) ds os
  have rn6 := fun ds os => cell_regrown (v := .int .u64 0) (An.c 6 (by omega)) ds os
  have rn7 := fun ds os => cell_regrown (v := .int .u64 0) (An.c 7 (by omega)) ds os
  have rn8 := fun ds os => cell_regrown (v := .bool true) (An.c 8 (by omega)) ds os
  go_wp2_with fail
  refine wp_region_quiet_below (by kernel_rfl) (by kernel_rfl) ?_
  repeat (go_big_quiet_step (first | (go_at_call 20; with_reducible first | exact Calls.regrown_of (C5 _) | exact Calls.regrown_of (C7 _)) | (go_at_call 18; with_reducible first | exact Calls.regrown_of (C6 _)) | (go_at_call 17; with_reducible first | exact Calls.regrown_of (C8 _))))
  refine wpQuiet_nil ?_
  intro w4 hw'
  obtain ⟨⟨dq, osq⟩, hw''⟩ := hw'
  have hb := below_of hw''
  clear hw''
  have Ba := Arr.to' Aa hb
  have Bj := Arr.to' Aj hb
  have Bk := Arr.to' Ak hb
  have Bn := Arr.to' An hb
  have Bs := Arr.to' As hb
  have hB' := Bel.call hB hb
  clear hb ra0 ra1 ra2 ra3 ra4 ra5 ra6 ra7 ra8 rn0 rn1 rn2 rn3 rn4 rn5 rn6 rn7 rn8 Aa Aj Ak An As hB
  have Aa := Ba
  have Aj := Bj
  have Ak := Bk
  have An := Bn
  have As := Bs
  have hB := hB'
  clear Ba Bj Bk Bn Bs hB'
  go_wp2_with fail
  go_ret
  exact ⟨rfl, hB⟩
end Go.Proofs.Ytgekafmojedlkaa
