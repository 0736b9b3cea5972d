/- Points with a third coordinate: what is none, what a plain point is, doubling. -/
import Derived.Test.YtgekafmojedlkaaGreatJ24
import Derived.Test.YtgekafmojedlkaaGreatJ29
set_option linter.all false
set_option maxRecDepth 100000
namespace Go.Proofs.YtgekafmojedlkaaGreat
open Go.RowKit Go.Sort
theorem nv_one : nv 1 = .agg #[.int .u64 1, .int .u64 0, .int .u64 0, .int .u64 0] := nv_low _ (by decide) (by decide)
theorem lim_one : lim 1 0 = 1 ∧ lim 1 1 = 0 ∧ lim 1 2 = 0 ∧ lim 1 3 = 0 := by decide
theorem l10 : lim 1 0 = 1 := lim_one.1
theorem l11 : lim 1 1 = 0 := lim_one.2.1
theorem l12 : lim 1 2 = 0 := lim_one.2.2.1
theorem l13 : lim 1 3 = 0 := lim_one.2.2.2
set_option maxHeartbeats 8000000 in
theorem none_any (w : World) : Calls Tryz.prog 30 #[] w fun e w' => e = .returned (pv 0 0 true) ∧ Below w.heap.size w w' := by
  go_enter Tryz.func30, Tryz.ntmps30
  have Bz : Arr ((w.alloc (.cells #[.int .u64 0, .int .u64 0, .int .u64 0, .int .u64 0, .int .u64 0, .int .u64 0, .int .u64 0, .int .u64 0, .bool false] 26))) (w.heap.size) 9 (zx 8) := by refine Arr.mk9p ?_ ?_ ?_ ?_ ?_ ?_ ?_ ?_ ?_ ?_ <;> simp [go_sem, px, sx, zx]
  have hB' : Below w.heap.size w (w.alloc (.cells #[.int .u64 0, .int .u64 0, .int .u64 0, .int .u64 0, .int .u64 0, .int .u64 0, .int .u64 0, .int .u64 0, .bool false] 26)) := by go_grown
  have Az := Bz
  have hB := hB'
  clear Bz hB'
  have hS := hB.size
  have cz_0 := Az.cv 0 (by omega) (.int .u64 0) rfl
  have cz_1 := Az.cv 1 (by omega) (.int .u64 0) rfl
  have cz_2 := Az.cv 2 (by omega) (.int .u64 0) rfl
  have cz_3 := Az.cv 3 (by omega) (.int .u64 0) rfl
  have cz_4 := Az.cv 4 (by omega) (.int .u64 0) rfl
  have cz_5 := Az.cv 5 (by omega) (.int .u64 0) rfl
  have cz_6 := Az.cv 6 (by omega) (.int .u64 0) rfl
  have cz_7 := Az.cv 7 (by omega) (.int .u64 0) rfl
  have cz_8 := Az.cv 8 (by omega) (.bool false) rfl
  have zz := Az.z
  go_wp2_with fail
  refine bodyPost_ret (v := pv 0 0 true) (by simp [results, Tryz.results30, go_sem, cz_0, cz_1, cz_2, cz_3, cz_4, cz_5, cz_6, cz_7, cz_8, lim_zero]) rfl ⟨rfl, ?_⟩
  go_grown
set_option maxHeartbeats 8000000 in
theorem scale_any (X Y : Int) (i : Bool) (w : World) : Calls Tryz.prog 23 #[pv X Y i] w fun e w' => e = .returned (jv X Y i 1) ∧ Below w.heap.size w w' := by
  go_enter Tryz.func23, Tryz.ntmps23
  have Bp : Arr (((w.alloc (.cells #[.int .u64 (lim (X) 0), .int .u64 (lim (X) 1), .int .u64 (lim (X) 2), .int .u64 (lim (X) 3), .int .u64 (lim (Y) 0), .int .u64 (lim (Y) 1), .int .u64 (lim (Y) 2), .int .u64 (lim (Y) 3), .bool i] 26)).alloc (.cells #[.int .u64 0, .int .u64 0, .int .u64 0, .int .u64 0, .int .u64 0, .int .u64 0, .int .u64 0, .int .u64 0, .bool false, .int .u64 0, .int .u64 0, .int .u64 0, .int .u64 0] 43))) (w.heap.size) 9 (px (X) (Y) i) := by refine Arr.mk9p ?_ ?_ ?_ ?_ ?_ ?_ ?_ ?_ ?_ ?_ <;> simp [go_sem, px, sx, zx]
  have Bz : Arr (((w.alloc (.cells #[.int .u64 (lim (X) 0), .int .u64 (lim (X) 1), .int .u64 (lim (X) 2), .int .u64 (lim (X) 3), .int .u64 (lim (Y) 0), .int .u64 (lim (Y) 1), .int .u64 (lim (Y) 2), .int .u64 (lim (Y) 3), .bool i] 26)).alloc (.cells #[.int .u64 0, .int .u64 0, .int .u64 0, .int .u64 0, .int .u64 0, .int .u64 0, .int .u64 0, .int .u64 0, .bool false, .int .u64 0, .int .u64 0, .int .u64 0, .int .u64 0] 43))) (w.heap.size + 1) 13 (zx 8) := by refine Arr.mk13 ?_ ?_ ?_ ?_ ?_ ?_ ?_ ?_ ?_ ?_ ?_ ?_ ?_ ?_ <;> simp [go_sem, px, sx, zx]
  have hB' : Below w.heap.size w ((w.alloc (.cells #[.int .u64 (lim (X) 0), .int .u64 (lim (X) 1), .int .u64 (lim (X) 2), .int .u64 (lim (X) 3), .int .u64 (lim (Y) 0), .int .u64 (lim (Y) 1), .int .u64 (lim (Y) 2), .int .u64 (lim (Y) 3), .bool i] 26)).alloc (.cells #[.int .u64 0, .int .u64 0, .int .u64 0, .int .u64 0, .int .u64 0, .int .u64 0, .int .u64 0, .int .u64 0, .bool false, .int .u64 0, .int .u64 0, .int .u64 0, .int .u64 0] 43)) := by go_grown
  have Ap := Bp
  have Az := Bz
  have hB := hB'
  clear Bp Bz hB'
  have cp_0 := Ap.cv 0 (by omega) (.int .u64 (lim (X) 0)) rfl
  have cp_1 := Ap.cv 1 (by omega) (.int .u64 (lim (X) 1)) rfl
  have cp_2 := Ap.cv 2 (by omega) (.int .u64 (lim (X) 2)) rfl
  have cp_3 := Ap.cv 3 (by omega) (.int .u64 (lim (X) 3)) rfl
  have cp_4 := Ap.cv 4 (by omega) (.int .u64 (lim (Y) 0)) rfl
  have cp_5 := Ap.cv 5 (by omega) (.int .u64 (lim (Y) 1)) rfl
  have cp_6 := Ap.cv 6 (by omega) (.int .u64 (lim (Y) 2)) rfl
  have cp_7 := Ap.cv 7 (by omega) (.int .u64 (lim (Y) 3)) rfl
  have cp_8 := Ap.cv 8 (by omega) (.bool i) rfl
  have hS := hB.size
  have cz_0 := Az.cv 0 (by omega) (.int .u64 0) rfl
  have cz_1 := Az.cv 1 (by omega) (.int .u64 0) rfl
  have cz_2 := Az.cv 2 (by omega) (.int .u64 0) rfl
  have cz_3 := Az.cv 3 (by omega) (.int .u64 0) rfl
  have cz_4 := Az.cv 4 (by omega) (.int .u64 0) rfl
  have cz_5 := Az.cv 5 (by omega) (.int .u64 0) rfl
  have cz_6 := Az.cv 6 (by omega) (.int .u64 0) rfl
  have cz_7 := Az.cv 7 (by omega) (.int .u64 0) rfl
  have cz_8 := Az.cv 8 (by omega) (.bool false) rfl
  have cz_9 := Az.cv 9 (by omega) (.int .u64 0) rfl
  have cz_10 := Az.cv 10 (by omega) (.int .u64 0) rfl
  have cz_11 := Az.cv 11 (by omega) (.int .u64 0) rfl
  have cz_12 := Az.cv 12 (by omega) (.int .u64 0) rfl
  have zz := Az.z
  go_wp2_with fail
  refine bodyPost_ret (v := jv X Y i 1) (by simp [results, Tryz.results23, go_sem, cz_0, cz_1, cz_2, cz_3, cz_4, cz_5, cz_6, cz_7, cz_8, cz_9, cz_10, cz_11, cz_12, l10, l11, l12, l13]) rfl ⟨rfl, ?_⟩
  go_grown
/-- What doubling makes. -/
def dr (X Y Z : Int) : Int := fa (fa (fm (fs X (fm Z Z)) (fa X (fm Z Z))) (fm (fs X (fm Z Z)) (fa X (fm Z Z)))) (fm (fs X (fm Z Z)) (fa X (fm Z Z)))
def ds (X Y Z : Int) : Int := fa (fa (fm X (fm Y Y)) (fm X (fm Y Y))) (fa (fm X (fm Y Y)) (fm X (fm Y Y)))
def dx (X Y Z : Int) : Int := fs (fm (dr X Y Z) (dr X Y Z)) (fa (ds X Y Z) (ds X Y Z))
def dq (Y : Int) : Int := fa (fm (fa (fm Y Y) (fm Y Y)) (fa (fm Y Y) (fm Y Y))) (fm (fa (fm Y Y) (fm Y Y)) (fa (fm Y Y) (fm Y Y)))
def dy (X Y Z : Int) : Int := fs (fm (dr X Y Z) (fs (ds X Y Z) (dx X Y Z))) (dq Y)
def dz (Y Z : Int) : Int := fa (fm Y Z) (fm Y Z)
theorem inn_dr (X Y Z : Int) : Inn (dr X Y Z) := inn_fa _ _
theorem inn_ds (X Y Z : Int) : Inn (ds X Y Z) := inn_fa _ _
theorem inn_dx (X Y Z : Int) : Inn (dx X Y Z) := inn_fs _ _
theorem inn_dq (Y : Int) : Inn (dq Y) := inn_fa _ _
theorem inn_dy (X Y Z : Int) : Inn (dy X Y Z) := inn_fs _ _
theorem inn_dz (Y Z : Int) : Inn (dz Y Z) := inn_fa _ _
set_option maxHeartbeats 8000000 in
theorem dbl_none (X Y Z : Int) (w : World) : Calls Tryz.prog 32 #[jv X Y true Z] w fun e w' => e = .returned (jv X Y true Z) ∧ Below w.heap.size w w' := by
  go_enter Tryz.func32, Tryz.ntmps32
  have Bp : Arr (((w.alloc (.cells #[.int .u64 (lim (X) 0), .int .u64 (lim (X) 1), .int .u64 (lim (X) 2), .int .u64 (lim (X) 3), .int .u64 (lim (Y) 0), .int .u64 (lim (Y) 1), .int .u64 (lim (Y) 2), .int .u64 (lim (Y) 3), .bool true, .int .u64 (lim (Z) 0), .int .u64 (lim (Z) 1), .int .u64 (lim (Z) 2), .int .u64 (lim (Z) 3)] 43)).alloc (.cells #[.int .u64 0, .int .u64 0, .int .u64 0, .int .u64 0, .int .u64 0, .int .u64 0, .int .u64 0, .int .u64 0, .bool false, .int .u64 0, .int .u64 0, .int .u64 0, .int .u64 0] 43))) (w.heap.size) 13 (sx (X) (Y) true (Z)) := by refine Arr.mk13 ?_ ?_ ?_ ?_ ?_ ?_ ?_ ?_ ?_ ?_ ?_ ?_ ?_ ?_ <;> simp [go_sem, px, sx, zx]
  have Bz : Arr (((w.alloc (.cells #[.int .u64 (lim (X) 0), .int .u64 (lim (X) 1), .int .u64 (lim (X) 2), .int .u64 (lim (X) 3), .int .u64 (lim (Y) 0), .int .u64 (lim (Y) 1), .int .u64 (lim (Y) 2), .int .u64 (lim (Y) 3), .bool true, .int .u64 (lim (Z) 0), .int .u64 (lim (Z) 1), .int .u64 (lim (Z) 2), .int .u64 (lim (Z) 3)] 43)).alloc (.cells #[.int .u64 0, .int .u64 0, .int .u64 0, .int .u64 0, .int .u64 0, .int .u64 0, .int .u64 0, .int .u64 0, .bool false, .int .u64 0, .int .u64 0, .int .u64 0, .int .u64 0] 43))) (w.heap.size + 1) 13 (zx 8) := by refine Arr.mk13 ?_ ?_ ?_ ?_ ?_ ?_ ?_ ?_ ?_ ?_ ?_ ?_ ?_ ?_ <;> simp [go_sem, px, sx, zx]
  have hB' : Below w.heap.size w ((w.alloc (.cells #[.int .u64 (lim (X) 0), .int .u64 (lim (X) 1), .int .u64 (lim (X) 2), .int .u64 (lim (X) 3), .int .u64 (lim (Y) 0), .int .u64 (lim (Y) 1), .int .u64 (lim (Y) 2), .int .u64 (lim (Y) 3), .bool true, .int .u64 (lim (Z) 0), .int .u64 (lim (Z) 1), .int .u64 (lim (Z) 2), .int .u64 (lim (Z) 3)] 43)).alloc (.cells #[.int .u64 0, .int .u64 0, .int .u64 0, .int .u64 0, .int .u64 0, .int .u64 0, .int .u64 0, .int .u64 0, .bool false, .int .u64 0, .int .u64 0, .int .u64 0, .int .u64 0] 43)) := by go_grown
  have Ap := Bp
  have Az := Bz
  have hB := hB'
  clear Bp Bz hB'
  have cp_0 := Ap.cv 0 (by omega) (.int .u64 (lim (X) 0)) rfl
  have cp_1 := Ap.cv 1 (by omega) (.int .u64 (lim (X) 1)) rfl
  have cp_2 := Ap.cv 2 (by omega) (.int .u64 (lim (X) 2)) rfl
  have cp_3 := Ap.cv 3 (by omega) (.int .u64 (lim (X) 3)) rfl
  have cp_4 := Ap.cv 4 (by omega) (.int .u64 (lim (Y) 0)) rfl
  have cp_5 := Ap.cv 5 (by omega) (.int .u64 (lim (Y) 1)) rfl
  have cp_6 := Ap.cv 6 (by omega) (.int .u64 (lim (Y) 2)) rfl
  have cp_7 := Ap.cv 7 (by omega) (.int .u64 (lim (Y) 3)) rfl
  have cp_8 := Ap.cv 8 (by omega) (.bool true) rfl
  have cp_9 := Ap.cv 9 (by omega) (.int .u64 (lim (Z) 0)) rfl
  have cp_10 := Ap.cv 10 (by omega) (.int .u64 (lim (Z) 1)) rfl
  have cp_11 := Ap.cv 11 (by omega) (.int .u64 (lim (Z) 2)) rfl
  have cp_12 := Ap.cv 12 (by omega) (.int .u64 (lim (Z) 3)) rfl
  have hS := hB.size
  have cz_0 := Az.cv 0 (by omega) (.int .u64 0) rfl
  have cz_1 := Az.cv 1 (by omega) (.int .u64 0) rfl
  have cz_2 := Az.cv 2 (by omega) (.int .u64 0) rfl
  have cz_3 := Az.cv 3 (by omega) (.int .u64 0) rfl
  have cz_4 := Az.cv 4 (by omega) (.int .u64 0) rfl
  have cz_5 := Az.cv 5 (by omega) (.int .u64 0) rfl
  have cz_6 := Az.cv 6 (by omega) (.int .u64 0) rfl
  have cz_7 := Az.cv 7 (by omega) (.int .u64 0) rfl
  have cz_8 := Az.cv 8 (by omega) (.bool false) rfl
  have cz_9 := Az.cv 9 (by omega) (.int .u64 0) rfl
  have cz_10 := Az.cv 10 (by omega) (.int .u64 0) rfl
  have cz_11 := Az.cv 11 (by omega) (.int .u64 0) rfl
  have cz_12 := Az.cv 12 (by omega) (.int .u64 0) rfl
  have zz := Az.z
  go_wp2_with fail
  refine bodyPost_ret (v := jv X Y true Z) (by simp [results, Tryz.results32, go_sem, cz_0, cz_1, cz_2, cz_3, cz_4, cz_5, cz_6, cz_7, cz_8, cz_9, cz_10, cz_11, cz_12]) rfl ⟨rfl, ?_⟩
  go_grown
set_option maxHeartbeats 8000000 in
theorem dbl_core (X Y Z z2 y2 a1 a2 a3 r b1 b2 s c1 c2 x d1 d2 e1 e2 e3 y g1 z : Int) (w : World)
    (C1 : ∀ W, Calls Tryz.prog 42 #[nv Z] W fun e w' => e = .returned (nv z2) ∧ Below W.heap.size W w')
    (C2 : ∀ W, Calls Tryz.prog 42 #[nv Y] W fun e w' => e = .returned (nv y2) ∧ Below W.heap.size W w')
    (C3 : ∀ W, Calls Tryz.prog 45 #[nv X, nv z2] W fun e w' => e = .returned (nv a1) ∧ Below W.heap.size W w')
    (C4 : ∀ W, Calls Tryz.prog 58 #[nv X, nv z2] W fun e w' => e = .returned (nv a2) ∧ Below W.heap.size W w')
    (C5 : ∀ W, Calls Tryz.prog 46 #[nv a1, nv a2] W fun e w' => e = .returned (nv a3) ∧ Below W.heap.size W w')
    (C6 : ∀ W, Calls Tryz.prog 57 #[nv a3] W fun e w' => e = .returned (nv r) ∧ Below W.heap.size W w')
    (C7 : ∀ W, Calls Tryz.prog 46 #[nv X, nv y2] W fun e w' => e = .returned (nv b1) ∧ Below W.heap.size W w')
    (C8 : ∀ W, Calls Tryz.prog 59 #[nv b1] W fun e w' => e = .returned (nv b2) ∧ Below W.heap.size W w')
    (C9 : ∀ W, Calls Tryz.prog 59 #[nv b2] W fun e w' => e = .returned (nv s) ∧ Below W.heap.size W w')
    (C10 : ∀ W, Calls Tryz.prog 42 #[nv r] W fun e w' => e = .returned (nv c1) ∧ Below W.heap.size W w')
    (C11 : ∀ W, Calls Tryz.prog 59 #[nv s] W fun e w' => e = .returned (nv c2) ∧ Below W.heap.size W w')
    (C12 : ∀ W, Calls Tryz.prog 45 #[nv c1, nv c2] W fun e w' => e = .returned (nv x) ∧ Below W.heap.size W w')
    (C13 : ∀ W, Calls Tryz.prog 45 #[nv s, nv x] W fun e w' => e = .returned (nv d1) ∧ Below W.heap.size W w')
    (C14 : ∀ W, Calls Tryz.prog 46 #[nv r, nv d1] W fun e w' => e = .returned (nv d2) ∧ Below W.heap.size W w')
    (C15 : ∀ W, Calls Tryz.prog 59 #[nv y2] W fun e w' => e = .returned (nv e1) ∧ Below W.heap.size W w')
    (C16 : ∀ W, Calls Tryz.prog 42 #[nv e1] W fun e w' => e = .returned (nv e2) ∧ Below W.heap.size W w')
    (C17 : ∀ W, Calls Tryz.prog 59 #[nv e2] W fun e w' => e = .returned (nv e3) ∧ Below W.heap.size W w')
    (C18 : ∀ W, Calls Tryz.prog 45 #[nv d2, nv e3] W fun e w' => e = .returned (nv y) ∧ Below W.heap.size W w')
    (C19 : ∀ W, Calls Tryz.prog 46 #[nv Y, nv Z] W fun e w' => e = .returned (nv g1) ∧ Below W.heap.size W w')
    (C20 : ∀ W, Calls Tryz.prog 59 #[nv g1] W fun e w' => e = .returned (nv z) ∧ Below W.heap.size W w') :
    Calls Tryz.prog 32 #[jv X Y false Z] w fun e w' => e = .returned (jv x y false z) ∧ Below w.heap.size w w' := by
  go_enter Tryz.func32, Tryz.ntmps32
  go_wp2_with fail
  have Bp : Arr (((w.alloc (.cells #[.int .u64 (lim (X) 0), .int .u64 (lim (X) 1), .int .u64 (lim (X) 2), .int .u64 (lim (X) 3), .int .u64 (lim (Y) 0), .int .u64 (lim (Y) 1), .int .u64 (lim (Y) 2), .int .u64 (lim (Y) 3), .bool false, .int .u64 (lim (Z) 0), .int .u64 (lim (Z) 1), .int .u64 (lim (Z) 2), .int .u64 (lim (Z) 3)] 43)).alloc (.cells #[.int .u64 0, .int .u64 0, .int .u64 0, .int .u64 0, .int .u64 0, .int .u64 0, .int .u64 0, .int .u64 0, .bool false, .int .u64 0, .int .u64 0, .int .u64 0, .int .u64 0] 43))) (w.heap.size) 13 (sx (X) (Y) false (Z)) := by refine Arr.mk13 ?_ ?_ ?_ ?_ ?_ ?_ ?_ ?_ ?_ ?_ ?_ ?_ ?_ ?_ <;> simp [go_sem, px, sx, zx]
  have Bo : Arr (((w.alloc (.cells #[.int .u64 (lim (X) 0), .int .u64 (lim (X) 1), .int .u64 (lim (X) 2), .int .u64 (lim (X) 3), .int .u64 (lim (Y) 0), .int .u64 (lim (Y) 1), .int .u64 (lim (Y) 2), .int .u64 (lim (Y) 3), .bool false, .int .u64 (lim (Z) 0), .int .u64 (lim (Z) 1), .int .u64 (lim (Z) 2), .int .u64 (lim (Z) 3)] 43)).alloc (.cells #[.int .u64 0, .int .u64 0, .int .u64 0, .int .u64 0, .int .u64 0, .int .u64 0, .int .u64 0, .int .u64 0, .bool false, .int .u64 0, .int .u64 0, .int .u64 0, .int .u64 0] 43))) (w.heap.size + 1) 13 (zx 8) := by refine Arr.mk13 ?_ ?_ ?_ ?_ ?_ ?_ ?_ ?_ ?_ ?_ ?_ ?_ ?_ ?_ <;> simp [go_sem, px, sx, zx]
  have hB' : Below w.heap.size w ((w.alloc (.cells #[.int .u64 (lim (X) 0), .int .u64 (lim (X) 1), .int .u64 (lim (X) 2), .int .u64 (lim (X) 3), .int .u64 (lim (Y) 0), .int .u64 (lim (Y) 1), .int .u64 (lim (Y) 2), .int .u64 (lim (Y) 3), .bool false, .int .u64 (lim (Z) 0), .int .u64 (lim (Z) 1), .int .u64 (lim (Z) 2), .int .u64 (lim (Z) 3)] 43)).alloc (.cells #[.int .u64 0, .int .u64 0, .int .u64 0, .int .u64 0, .int .u64 0, .int .u64 0, .int .u64 0, .int .u64 0, .bool false, .int .u64 0, .int .u64 0, .int .u64 0, .int .u64 0] 43)) := by go_grown
  have Ap := Bp
  have Ao := Bo
  have hB := hB'
  clear Bp Bo hB'
  apply wp_region_alloc2_tail 7 (by kernel_rfl) (by kernel_rfl) (by kernel_rfl) (.cells #[.int .u64 0, .int .u64 0, .int .u64 0, .int .u64 0] 24) (.cells #[.int .u64 0, .int .u64 0, .int .u64 0, .int .u64 0] 24) _ _ rfl rfl (fun _ _ => by simp [go_sem]) (fun _ _ => by simp [go_sem])
  · intro W hW
    have rp0 := (Arr.to' Ap hW).cg 0 (by omega) (.int .u64 (lim (X) 0)) rfl
    have rp1 := (Arr.to' Ap hW).cg 1 (by omega) (.int .u64 (lim (X) 1)) rfl
    have rp2 := (Arr.to' Ap hW).cg 2 (by omega) (.int .u64 (lim (X) 2)) rfl
    have rp3 := (Arr.to' Ap hW).cg 3 (by omega) (.int .u64 (lim (X) 3)) rfl
    have rp4 := (Arr.to' Ap hW).cg 4 (by omega) (.int .u64 (lim (Y) 0)) rfl
    have rp5 := (Arr.to' Ap hW).cg 5 (by omega) (.int .u64 (lim (Y) 1)) rfl
    have rp6 := (Arr.to' Ap hW).cg 6 (by omega) (.int .u64 (lim (Y) 2)) rfl
    have rp7 := (Arr.to' Ap hW).cg 7 (by omega) (.int .u64 (lim (Y) 3)) rfl
    have rp8 := (Arr.to' Ap hW).cg 8 (by omega) (.bool false) rfl
    have rp9 := (Arr.to' Ap hW).cg 9 (by omega) (.int .u64 (lim (Z) 0)) rfl
    have rp10 := (Arr.to' Ap hW).cg 10 (by omega) (.int .u64 (lim (Z) 1)) rfl
    have rp11 := (Arr.to' Ap hW).cg 11 (by omega) (.int .u64 (lim (Z) 2)) rfl
    have rp12 := (Arr.to' Ap hW).cg 12 (by omega) (.int .u64 (lim (Z) 3)) rfl
    simp only [List.take_succ_cons, List.take_zero]
    repeat (go_big_quiet_step (first | (go_at_call 42; with_reducible first | exact Calls.regrown_of (C1 _) | exact Calls.regrown_of (C2 _) | exact Calls.regrown_of (C10 _) | exact Calls.regrown_of (C16 _)) | (go_at_call 45; with_reducible first | exact Calls.regrown_of (C3 _) | exact Calls.regrown_of (C12 _) | exact Calls.regrown_of (C13 _) | exact Calls.regrown_of (C18 _)) | (go_at_call 58; with_reducible first | exact Calls.regrown_of (C4 _)) | (go_at_call 46; with_reducible first | exact Calls.regrown_of (C5 _) | exact Calls.regrown_of (C7 _) | exact Calls.regrown_of (C14 _) | exact Calls.regrown_of (C19 _)) | (go_at_call 57; with_reducible first | exact Calls.regrown_of (C6 _)) | (go_at_call 59; with_reducible first | exact Calls.regrown_of (C8 _) | exact Calls.regrown_of (C9 _) | exact Calls.regrown_of (C11 _) | exact Calls.regrown_of (C15 _) | exact Calls.regrown_of (C17 _) | exact Calls.regrown_of (C20 _))))
    exact wpQuiet_nil rfl
  · intro u1 u2 u3 hb1 hb2 hb3
    simp only [List.drop_succ_cons, List.drop_zero, Act.put, List.setIfInBounds_toArray, List.set_cons_succ, List.set_cons_zero]
    have Ep := Arr.to' Ap hb1
    have lp_u1 := Ep.lt
    have Gp := Arr.to' (Arr.al' Ep (.cells #[.int .u64 0, .int .u64 0, .int .u64 0, .int .u64 0] 24)) hb2
    have lp_u2 := Gp.lt
    have Bp := Arr.to' (Arr.al' Gp (.cells #[.int .u64 0, .int .u64 0, .int .u64 0, .int .u64 0] 24)) hb3
    have Eo := Arr.to' Ao hb1
    have lo_u1 := Eo.lt
    have Go := Arr.to' (Arr.al' Eo (.cells #[.int .u64 0, .int .u64 0, .int .u64 0, .int .u64 0] 24)) hb2
    have lo_u2 := Go.lt
    have Bo := Arr.to' (Arr.al' Go (.cells #[.int .u64 0, .int .u64 0, .int .u64 0, .int .u64 0] 24)) hb3
    have Ff := (Arr.mk4 (w := (u1.alloc (.cells #[.int .u64 0, .int .u64 0, .int .u64 0, .int .u64 0] 24))) (f := fun _ => .int .u64 0) (b := u1.heap.size) (by simp [go_sem]) (by simp [go_sem]) (by simp [go_sem]) (by simp [go_sem]) (by simp [go_sem]) (by simp [go_sem]) (by simp [go_sem]) (by simp [go_sem])).below hb2 (by go_size)
    have lff := Ff.lt
    have Bf := Arr.to' (Arr.al' Ff (.cells #[.int .u64 0, .int .u64 0, .int .u64 0, .int .u64 0] 24)) hb3
    have Bs := (Arr.mk4 (w := (u2.alloc (.cells #[.int .u64 0, .int .u64 0, .int .u64 0, .int .u64 0] 24))) (f := fun _ => .int .u64 0) (b := u2.heap.size) (by simp [go_sem]) (by simp [go_sem]) (by simp [go_sem]) (by simp [go_sem]) (by simp [go_sem]) (by simp [go_sem]) (by simp [go_sem]) (by simp [go_sem])).below hb3 (by go_size)
    have lB_u1 := (Bel.call hB hb1).size
    have hB1 := Bel.call (Bel.al (Bel.call hB hb1) (.cells #[.int .u64 0, .int .u64 0, .int .u64 0, .int .u64 0] 24)) hb2
    have lB_u2 := hB1.size
    have hB' := Bel.call (Bel.al hB1 (.cells #[.int .u64 0, .int .u64 0, .int .u64 0, .int .u64 0] 24)) hb3
    clear hb1 hb2 hb3 hB1 Ff Ep Eo Gp Go Ap Ao hB
    have Ap := Bp
    have Ao := Bo
    have As := Bf
    have Au := Bs
    have hB := hB'
    clear Bp Bo Bf Bs hB'
    have cs := As.c
    have zs := As.z
    have cu := Au.c
    have zu := Au.z
    have Bp := Arr.st4o (b' := u1.heap.size) Ap (by have := Ap.lt; have := As.lt; omega) (z2)
    have Bo := Arr.st4o (b' := u1.heap.size) Ao (by have := Ao.lt; have := As.lt; omega) (z2)
    have Bs := Arr.st4 As (z2)
    have Bu := Arr.st4o (b' := u1.heap.size) Au (by have := Au.lt; have := As.lt; omega) (z2)
    have hB' := Bel.st4 hB (b := u1.heap.size) (by have := hB.size; omega) (z2)
    clear Ap Ao As Au hB
    have Ap := Bp
    have Ao := Bo
    have As := Bs
    have Au := Bu
    have hB := hB'
    clear Bp Bo Bs Bu hB'
    have Bp := Arr.st4o (b' := u2.heap.size) Ap (by have := Ap.lt; have := Au.lt; omega) (y2)
    have Bo := Arr.st4o (b' := u2.heap.size) Ao (by have := Ao.lt; have := Au.lt; omega) (y2)
    have Bs := Arr.st4o (b' := u2.heap.size) As (by have := As.lt; have := Au.lt; omega) (y2)
    have Bu := Arr.st4 Au (y2)
    have hB' := Bel.st4 hB (b := u2.heap.size) (by have := hB.size; omega) (y2)
    clear Ap Ao As Au hB
    have Ap := Bp
    have Ao := Bo
    have As := Bs
    have Au := Bu
    have hB := hB'
    clear Bp Bo Bs Bu hB'
    go_wp2_with fail
    apply wp_region_alloc_tail 12 (by kernel_rfl) (by kernel_rfl) (by kernel_rfl) (.cells #[.int .u64 0, .int .u64 0, .int .u64 0, .int .u64 0] 24) _ rfl (fun _ _ => by simp [go_sem])
    · intro W hW
      have rp0 := (Arr.to' Ap hW).cg 0 (by omega) (.int .u64 (lim (X) 0)) rfl
      have rp1 := (Arr.to' Ap hW).cg 1 (by omega) (.int .u64 (lim (X) 1)) rfl
      have rp2 := (Arr.to' Ap hW).cg 2 (by omega) (.int .u64 (lim (X) 2)) rfl
      have rp3 := (Arr.to' Ap hW).cg 3 (by omega) (.int .u64 (lim (X) 3)) rfl
      have rp4 := (Arr.to' Ap hW).cg 4 (by omega) (.int .u64 (lim (Y) 0)) rfl
      have rp5 := (Arr.to' Ap hW).cg 5 (by omega) (.int .u64 (lim (Y) 1)) rfl
      have rp6 := (Arr.to' Ap hW).cg 6 (by omega) (.int .u64 (lim (Y) 2)) rfl
      have rp7 := (Arr.to' Ap hW).cg 7 (by omega) (.int .u64 (lim (Y) 3)) rfl
      have rp8 := (Arr.to' Ap hW).cg 8 (by omega) (.bool false) rfl
      have rp9 := (Arr.to' Ap hW).cg 9 (by omega) (.int .u64 (lim (Z) 0)) rfl
      have rp10 := (Arr.to' Ap hW).cg 10 (by omega) (.int .u64 (lim (Z) 1)) rfl
      have rp11 := (Arr.to' Ap hW).cg 11 (by omega) (.int .u64 (lim (Z) 2)) rfl
      have rp12 := (Arr.to' Ap hW).cg 12 (by omega) (.int .u64 (lim (Z) 3)) rfl
      have rs0 := fun ds os => cell_regrown ((Arr.to' As hW).c 0 (by omega)) ds os
      have rs1 := fun ds os => cell_regrown ((Arr.to' As hW).c 1 (by omega)) ds os
      have rs2 := fun ds os => cell_regrown ((Arr.to' As hW).c 2 (by omega)) ds os
      have rs3 := fun ds os => cell_regrown ((Arr.to' As hW).c 3 (by omega)) ds os
      simp only [List.take_succ_cons, List.take_zero]
      repeat (go_big_quiet_step (first | (go_at_call 42; with_reducible first | exact Calls.regrown_of (C1 _) | exact Calls.regrown_of (C2 _) | exact Calls.regrown_of (C10 _) | exact Calls.regrown_of (C16 _)) | (go_at_call 45; with_reducible first | exact Calls.regrown_of (C3 _) | exact Calls.regrown_of (C12 _) | exact Calls.regrown_of (C13 _) | exact Calls.regrown_of (C18 _)) | (go_at_call 58; with_reducible first | exact Calls.regrown_of (C4 _)) | (go_at_call 46; with_reducible first | exact Calls.regrown_of (C5 _) | exact Calls.regrown_of (C7 _) | exact Calls.regrown_of (C14 _) | exact Calls.regrown_of (C19 _)) | (go_at_call 57; with_reducible first | exact Calls.regrown_of (C6 _)) | (go_at_call 59; with_reducible first | exact Calls.regrown_of (C8 _) | exact Calls.regrown_of (C9 _) | exact Calls.regrown_of (C11 _) | exact Calls.regrown_of (C15 _) | exact Calls.regrown_of (C17 _) | exact Calls.regrown_of (C20 _))))
      exact wpQuiet_nil rfl
    intro v2 w12 hb1 hb2
    simp only [List.drop_succ_cons, List.drop_zero, Act.put, List.setIfInBounds_toArray, List.set_cons_succ, List.set_cons_zero]
    have Ep := Arr.to' Ap hb1
    have lp_v2 := Ep.lt
    have Bp := Arr.to' (Arr.al' Ep (.cells #[.int .u64 0, .int .u64 0, .int .u64 0, .int .u64 0] 24)) hb2
    have Eo := Arr.to' Ao hb1
    have lo_v2 := Eo.lt
    have Bo := Arr.to' (Arr.al' Eo (.cells #[.int .u64 0, .int .u64 0, .int .u64 0, .int .u64 0] 24)) hb2
    have Es := Arr.to' As hb1
    have ls_v2 := Es.lt
    have Bs := Arr.to' (Arr.al' Es (.cells #[.int .u64 0, .int .u64 0, .int .u64 0, .int .u64 0] 24)) hb2
    have Eu := Arr.to' Au hb1
    have lu_v2 := Eu.lt
    have Bu := Arr.to' (Arr.al' Eu (.cells #[.int .u64 0, .int .u64 0, .int .u64 0, .int .u64 0] 24)) hb2
    have Br := (Arr.mk4 (w := (v2.alloc (.cells #[.int .u64 0, .int .u64 0, .int .u64 0, .int .u64 0] 24))) (f := fun _ => .int .u64 0) (b := v2.heap.size) (by simp [go_sem]) (by simp [go_sem]) (by simp [go_sem]) (by simp [go_sem]) (by simp [go_sem]) (by simp [go_sem]) (by simp [go_sem]) (by simp [go_sem])).below hb2 (by go_size)
    have lB_v2 := (Bel.call hB hb1).size
    have hB' := Bel.call (Bel.al (Bel.call hB hb1) (.cells #[.int .u64 0, .int .u64 0, .int .u64 0, .int .u64 0] 24)) hb2
    clear hb1 hb2 Ep Eo Es Eu Ap Ao As Au hB
    have Ap := Bp
    have Ao := Bo
    have As := Bs
    have Au := Bu
    have Ar := Br
    have hB := hB'
    clear Bp Bo Bs Bu Br hB'
    have cr := Ar.c
    have zr := Ar.z
    have Bp := Arr.st4o (b' := v2.heap.size) Ap (by have := Ap.lt; have := Ar.lt; omega) (r)
    have Bo := Arr.st4o (b' := v2.heap.size) Ao (by have := Ao.lt; have := Ar.lt; omega) (r)
    have Bs := Arr.st4o (b' := v2.heap.size) As (by have := As.lt; have := Ar.lt; omega) (r)
    have Bu := Arr.st4o (b' := v2.heap.size) Au (by have := Au.lt; have := Ar.lt; omega) (r)
    have Br := Arr.st4 Ar (r)
    have hB' := Bel.st4 hB (b := v2.heap.size) (by have := hB.size; omega) (r)
    clear Ap Ao As Au Ar hB
    have Ap := Bp
    have Ao := Bo
    have As := Bs
    have Au := Bu
    have Ar := Br
    have hB := hB'
    clear Bp Bo Bs Bu Br hB'
    have cp_0 := Ap.cv 0 (by omega) (.int .u64 (lim (X) 0)) rfl
    have cp_1 := Ap.cv 1 (by omega) (.int .u64 (lim (X) 1)) rfl
    have cp_2 := Ap.cv 2 (by omega) (.int .u64 (lim (X) 2)) rfl
    have cp_3 := Ap.cv 3 (by omega) (.int .u64 (lim (X) 3)) rfl
    have cp_4 := Ap.cv 4 (by omega) (.int .u64 (lim (Y) 0)) rfl
    have cp_5 := Ap.cv 5 (by omega) (.int .u64 (lim (Y) 1)) rfl
    have cp_6 := Ap.cv 6 (by omega) (.int .u64 (lim (Y) 2)) rfl
    have cp_7 := Ap.cv 7 (by omega) (.int .u64 (lim (Y) 3)) rfl
    have cp_8 := Ap.cv 8 (by omega) (.bool false) rfl
    have cp_9 := Ap.cv 9 (by omega) (.int .u64 (lim (Z) 0)) rfl
    have cp_10 := Ap.cv 10 (by omega) (.int .u64 (lim (Z) 1)) rfl
    have cp_11 := Ap.cv 11 (by omega) (.int .u64 (lim (Z) 2)) rfl
    have cp_12 := Ap.cv 12 (by omega) (.int .u64 (lim (Z) 3)) rfl
    have cu := Au.c
    go_wp2_with fail
    refine (C7 _).mono ?_
    rintro e w13 ⟨rfl, hb⟩
    have Bp := Arr.to' Ap hb
    have Bo := Arr.to' Ao hb
    have Bs := Arr.to' As hb
    have Bu := Arr.to' Au hb
    have Br := Arr.to' Ar hb
    have hB' := Bel.call hB hb
    clear hb cr zr cp_0 cp_1 cp_2 cp_3 cp_4 cp_5 cp_6 cp_7 cp_8 cp_9 cp_10 cp_11 cp_12 cu Ap Ao As Au Ar hB
    have Ap := Bp
    have Ao := Bo
    have As := Bs
    have Au := Bu
    have Ar := Br
    have hB := hB'
    clear Bp Bo Bs Bu Br hB'
    go_wp2_with fail
    refine (C8 _).mono ?_
    rintro e w14 ⟨rfl, hb⟩
    have Bp := Arr.to' Ap hb
    have Bo := Arr.to' Ao hb
    have Bs := Arr.to' As hb
    have Bu := Arr.to' Au hb
    have Br := Arr.to' Ar hb
    have hB' := Bel.call hB hb
    clear hb Ap Ao As Au Ar hB
    have Ap := Bp
    have Ao := Bo
    have As := Bs
    have Au := Bu
    have Ar := Br
    have hB := hB'
    clear Bp Bo Bs Bu Br hB'
    go_wp2_with fail
    refine (C9 _).mono ?_
    rintro e w15 ⟨rfl, hb⟩
    have Bp := Arr.to' Ap hb
    have Bo := Arr.to' Ao hb
    have Bs := Arr.to' As hb
    have Bu := Arr.to' Au hb
    have Br := Arr.to' Ar hb
    have hB' := Bel.call hB hb
    clear hb Ap Ao As Au Ar hB
    have Ap := Bp
    have Ao := Bo
    have As := Bs
    have Au := Bu
    have Ar := Br
    have hB := hB'
    clear Bp Bo Bs Bu Br hB'
    have lp_2 := Ap.lt
    have lo_2 := Ao.lt
    have ls_2 := As.lt
    have lu_2 := Au.lt
    have lr_2 := Ar.lt
    have lB_2 := hB.size
    have Bp := (Arr.al' Ap (.cells #[.int .u64 (lim (s) 0), .int .u64 (lim (s) 1), .int .u64 (lim (s) 2), .int .u64 (lim (s) 3)] 24))
    have Bo := (Arr.al' Ao (.cells #[.int .u64 (lim (s) 0), .int .u64 (lim (s) 1), .int .u64 (lim (s) 2), .int .u64 (lim (s) 3)] 24))
    have Bs := (Arr.al' As (.cells #[.int .u64 (lim (s) 0), .int .u64 (lim (s) 1), .int .u64 (lim (s) 2), .int .u64 (lim (s) 3)] 24))
    have Bu := (Arr.al' Au (.cells #[.int .u64 (lim (s) 0), .int .u64 (lim (s) 1), .int .u64 (lim (s) 2), .int .u64 (lim (s) 3)] 24))
    have Br := (Arr.al' Ar (.cells #[.int .u64 (lim (s) 0), .int .u64 (lim (s) 1), .int .u64 (lim (s) 2), .int .u64 (lim (s) 3)] 24))
    have Bt : Arr ((w15.alloc (.cells #[.int .u64 (lim (s) 0), .int .u64 (lim (s) 1), .int .u64 (lim (s) 2), .int .u64 (lim (s) 3)] 24))) (w15.heap.size) 4 (fun j => .int .u64 (lim (s) j)) := by refine Arr.mk4 ?_ ?_ ?_ ?_ ?_ ?_ ?_ ?_ <;> simp [go_sem]
    have hB' := (Bel.al hB (.cells #[.int .u64 (lim (s) 0), .int .u64 (lim (s) 1), .int .u64 (lim (s) 2), .int .u64 (lim (s) 3)] 24))
    clear Ap Ao As Au Ar hB
    have Ap := Bp
    have Ao := Bo
    have As := Bs
    have Au := Bu
    have Ar := Br
    have At := Bt
    have hB := hB'
    clear Bp Bo Bs Bu Br Bt hB'
    go_wp2_with fail
    apply wp_region_alloc_tail 5 (by kernel_rfl) (by kernel_rfl) (by kernel_rfl) (.cells #[.int .u64 0, .int .u64 0, .int .u64 0, .int .u64 0] 24) _ rfl (fun _ _ => by simp [go_sem])
    · intro W hW
      have rr0 := fun ds os => cell_regrown ((Arr.to' Ar hW).c 0 (by omega)) ds os
      have rr1 := fun ds os => cell_regrown ((Arr.to' Ar hW).c 1 (by omega)) ds os
      have rr2 := fun ds os => cell_regrown ((Arr.to' Ar hW).c 2 (by omega)) ds os
      have rr3 := fun ds os => cell_regrown ((Arr.to' Ar hW).c 3 (by omega)) ds os
      have rt0 := fun ds os => cell_regrown ((Arr.to' At hW).c 0 (by omega)) ds os
      have rt1 := fun ds os => cell_regrown ((Arr.to' At hW).c 1 (by omega)) ds os
      have rt2 := fun ds os => cell_regrown ((Arr.to' At hW).c 2 (by omega)) ds os
      have rt3 := fun ds os => cell_regrown ((Arr.to' At hW).c 3 (by omega)) ds os
      simp only [List.take_succ_cons, List.take_zero]
      repeat (go_big_quiet_step (first | (go_at_call 42; with_reducible first | exact Calls.regrown_of (C1 _) | exact Calls.regrown_of (C2 _) | exact Calls.regrown_of (C10 _) | exact Calls.regrown_of (C16 _)) | (go_at_call 45; with_reducible first | exact Calls.regrown_of (C3 _) | exact Calls.regrown_of (C12 _) | exact Calls.regrown_of (C13 _) | exact Calls.regrown_of (C18 _)) | (go_at_call 58; with_reducible first | exact Calls.regrown_of (C4 _)) | (go_at_call 46; with_reducible first | exact Calls.regrown_of (C5 _) | exact Calls.regrown_of (C7 _) | exact Calls.regrown_of (C14 _) | exact Calls.regrown_of (C19 _)) | (go_at_call 57; with_reducible first | exact Calls.regrown_of (C6 _)) | (go_at_call 59; with_reducible first | exact Calls.regrown_of (C8 _) | exact Calls.regrown_of (C9 _) | exact Calls.regrown_of (C11 _) | exact Calls.regrown_of (C15 _) | exact Calls.regrown_of (C17 _) | exact Calls.regrown_of (C20 _))))
      exact wpQuiet_nil rfl
    intro v6 w16 hb1 hb2
    simp only [List.drop_succ_cons, List.drop_zero, Act.put, List.setIfInBounds_toArray, List.set_cons_succ, List.set_cons_zero]
    have Ep := Arr.to' Ap hb1
    have lp_v6 := Ep.lt
    have Bp := Arr.to' (Arr.al' Ep (.cells #[.int .u64 0, .int .u64 0, .int .u64 0, .int .u64 0] 24)) hb2
    have Eo := Arr.to' Ao hb1
    have lo_v6 := Eo.lt
    have Bo := Arr.to' (Arr.al' Eo (.cells #[.int .u64 0, .int .u64 0, .int .u64 0, .int .u64 0] 24)) hb2
    have Es := Arr.to' As hb1
    have ls_v6 := Es.lt
    have Bs := Arr.to' (Arr.al' Es (.cells #[.int .u64 0, .int .u64 0, .int .u64 0, .int .u64 0] 24)) hb2
    have Eu := Arr.to' Au hb1
    have lu_v6 := Eu.lt
    have Bu := Arr.to' (Arr.al' Eu (.cells #[.int .u64 0, .int .u64 0, .int .u64 0, .int .u64 0] 24)) hb2
    have Er := Arr.to' Ar hb1
    have lr_v6 := Er.lt
    have Br := Arr.to' (Arr.al' Er (.cells #[.int .u64 0, .int .u64 0, .int .u64 0, .int .u64 0] 24)) hb2
    have Et := Arr.to' At hb1
    have lt_v6 := Et.lt
    have Bt := Arr.to' (Arr.al' Et (.cells #[.int .u64 0, .int .u64 0, .int .u64 0, .int .u64 0] 24)) hb2
    have Bx := (Arr.mk4 (w := (v6.alloc (.cells #[.int .u64 0, .int .u64 0, .int .u64 0, .int .u64 0] 24))) (f := fun _ => .int .u64 0) (b := v6.heap.size) (by simp [go_sem]) (by simp [go_sem]) (by simp [go_sem]) (by simp [go_sem]) (by simp [go_sem]) (by simp [go_sem]) (by simp [go_sem]) (by simp [go_sem])).below hb2 (by go_size)
    have lB_v6 := (Bel.call hB hb1).size
    have hB' := Bel.call (Bel.al (Bel.call hB hb1) (.cells #[.int .u64 0, .int .u64 0, .int .u64 0, .int .u64 0] 24)) hb2
    clear hb1 hb2 Ep Eo Es Eu Er Et Ap Ao As Au Ar At hB
    have Ap := Bp
    have Ao := Bo
    have As := Bs
    have Au := Bu
    have Ar := Br
    have At := Bt
    have Ax := Bx
    have hB := hB'
    clear Bp Bo Bs Bu Br Bt Bx hB'
    have cx := Ax.c
    have zx := Ax.z
    have Bp := Arr.st4o (b' := v6.heap.size) Ap (by have := Ap.lt; have := Ax.lt; omega) (x)
    have Bo := Arr.st4o (b' := v6.heap.size) Ao (by have := Ao.lt; have := Ax.lt; omega) (x)
    have Bs := Arr.st4o (b' := v6.heap.size) As (by have := As.lt; have := Ax.lt; omega) (x)
    have Bu := Arr.st4o (b' := v6.heap.size) Au (by have := Au.lt; have := Ax.lt; omega) (x)
    have Br := Arr.st4o (b' := v6.heap.size) Ar (by have := Ar.lt; have := Ax.lt; omega) (x)
    have Bt := Arr.st4o (b' := v6.heap.size) At (by have := At.lt; have := Ax.lt; omega) (x)
    have Bx := Arr.st4 Ax (x)
    have hB' := Bel.st4 hB (b := v6.heap.size) (by have := hB.size; omega) (x)
    clear Ap Ao As Au Ar At Ax hB
    have Ap := Bp
    have Ao := Bo
    have As := Bs
    have Au := Bu
    have Ar := Br
    have At := Bt
    have Ax := Bx
    have hB := hB'
    clear Bp Bo Bs Bu Br Bt Bx hB'
    go_wp2_with fail
    apply wp_region_alloc_tail 10 (by kernel_rfl) (by kernel_rfl) (by kernel_rfl) (.cells #[.int .u64 0, .int .u64 0, .int .u64 0, .int .u64 0] 24) _ rfl (fun _ _ => by simp [go_sem])
    · intro W hW
      have rr0 := fun ds os => cell_regrown ((Arr.to' Ar hW).c 0 (by omega)) ds os
      have rr1 := fun ds os => cell_regrown ((Arr.to' Ar hW).c 1 (by omega)) ds os
      have rr2 := fun ds os => cell_regrown ((Arr.to' Ar hW).c 2 (by omega)) ds os
      have rr3 := fun ds os => cell_regrown ((Arr.to' Ar hW).c 3 (by omega)) ds os
      have rt0 := fun ds os => cell_regrown ((Arr.to' At hW).c 0 (by omega)) ds os
      have rt1 := fun ds os => cell_regrown ((Arr.to' At hW).c 1 (by omega)) ds os
      have rt2 := fun ds os => cell_regrown ((Arr.to' At hW).c 2 (by omega)) ds os
      have rt3 := fun ds os => cell_regrown ((Arr.to' At hW).c 3 (by omega)) ds os
      have rx0 := fun ds os => cell_regrown ((Arr.to' Ax hW).c 0 (by omega)) ds os
      have rx1 := fun ds os => cell_regrown ((Arr.to' Ax hW).c 1 (by omega)) ds os
      have rx2 := fun ds os => cell_regrown ((Arr.to' Ax hW).c 2 (by omega)) ds os
      have rx3 := fun ds os => cell_regrown ((Arr.to' Ax hW).c 3 (by omega)) ds os
      have ru0 := fun ds os => cell_regrown ((Arr.to' Au hW).c 0 (by omega)) ds os
      have ru1 := fun ds os => cell_regrown ((Arr.to' Au hW).c 1 (by omega)) ds os
      have ru2 := fun ds os => cell_regrown ((Arr.to' Au hW).c 2 (by omega)) ds os
      have ru3 := fun ds os => cell_regrown ((Arr.to' Au hW).c 3 (by omega)) ds os
      simp only [List.take_succ_cons, List.take_zero]
      repeat (go_big_quiet_step (first | (go_at_call 42; with_reducible first | exact Calls.regrown_of (C1 _) | exact Calls.regrown_of (C2 _) | exact Calls.regrown_of (C10 _) | exact Calls.regrown_of (C16 _)) | (go_at_call 45; with_reducible first | exact Calls.regrown_of (C3 _) | exact Calls.regrown_of (C12 _) | exact Calls.regrown_of (C13 _) | exact Calls.regrown_of (C18 _)) | (go_at_call 58; with_reducible first | exact Calls.regrown_of (C4 _)) | (go_at_call 46; with_reducible first | exact Calls.regrown_of (C5 _) | exact Calls.regrown_of (C7 _) | exact Calls.regrown_of (C14 _) | exact Calls.regrown_of (C19 _)) | (go_at_call 57; with_reducible first | exact Calls.regrown_of (C6 _)) | (go_at_call 59; with_reducible first | exact Calls.regrown_of (C8 _) | exact Calls.regrown_of (C9 _) | exact Calls.regrown_of (C11 _) | exact Calls.regrown_of (C15 _) | exact Calls.regrown_of (C17 _) | exact Calls.regrown_of (C20 _))))
      exact wpQuiet_nil rfl
    intro v7 w17 hb1 hb2
    simp only [List.drop_succ_cons, List.drop_zero, Act.put, List.setIfInBounds_toArray, List.set_cons_succ, List.set_cons_zero]
    have Ep := Arr.to' Ap hb1
    have lp_v7 := Ep.lt
    have Bp := Arr.to' (Arr.al' Ep (.cells #[.int .u64 0, .int .u64 0, .int .u64 0, .int .u64 0] 24)) hb2
    have Eo := Arr.to' Ao hb1
    have lo_v7 := Eo.lt
    have Bo := Arr.to' (Arr.al' Eo (.cells #[.int .u64 0, .int .u64 0, .int .u64 0, .int .u64 0] 24)) hb2
    have Es := Arr.to' As hb1
    have ls_v7 := Es.lt
    have Bs := Arr.to' (Arr.al' Es (.cells #[.int .u64 0, .int .u64 0, .int .u64 0, .int .u64 0] 24)) hb2
    have Eu := Arr.to' Au hb1
    have lu_v7 := Eu.lt
    have Bu := Arr.to' (Arr.al' Eu (.cells #[.int .u64 0, .int .u64 0, .int .u64 0, .int .u64 0] 24)) hb2
    have Er := Arr.to' Ar hb1
    have lr_v7 := Er.lt
    have Br := Arr.to' (Arr.al' Er (.cells #[.int .u64 0, .int .u64 0, .int .u64 0, .int .u64 0] 24)) hb2
    have Et := Arr.to' At hb1
    have lt_v7 := Et.lt
    have Bt := Arr.to' (Arr.al' Et (.cells #[.int .u64 0, .int .u64 0, .int .u64 0, .int .u64 0] 24)) hb2
    have Ex := Arr.to' Ax hb1
    have lx_v7 := Ex.lt
    have Bx := Arr.to' (Arr.al' Ex (.cells #[.int .u64 0, .int .u64 0, .int .u64 0, .int .u64 0] 24)) hb2
    have By := (Arr.mk4 (w := (v7.alloc (.cells #[.int .u64 0, .int .u64 0, .int .u64 0, .int .u64 0] 24))) (f := fun _ => .int .u64 0) (b := v7.heap.size) (by simp [go_sem]) (by simp [go_sem]) (by simp [go_sem]) (by simp [go_sem]) (by simp [go_sem]) (by simp [go_sem]) (by simp [go_sem]) (by simp [go_sem])).below hb2 (by go_size)
    have lB_v7 := (Bel.call hB hb1).size
    have hB' := Bel.call (Bel.al (Bel.call hB hb1) (.cells #[.int .u64 0, .int .u64 0, .int .u64 0, .int .u64 0] 24)) hb2
    clear hb1 hb2 Ep Eo Es Eu Er Et Ex Ap Ao As Au Ar At Ax hB
    have Ap := Bp
    have Ao := Bo
    have As := Bs
    have Au := Bu
    have Ar := Br
    have At := Bt
    have Ax := Bx
    have Ay := By
    have hB := hB'
    clear Bp Bo Bs Bu Br Bt Bx By hB'
    have cy := Ay.c
    have zy := Ay.z
    have Bp := Arr.st4o (b' := v7.heap.size) Ap (by have := Ap.lt; have := Ay.lt; omega) (y)
    have Bo := Arr.st4o (b' := v7.heap.size) Ao (by have := Ao.lt; have := Ay.lt; omega) (y)
    have Bs := Arr.st4o (b' := v7.heap.size) As (by have := As.lt; have := Ay.lt; omega) (y)
    have Bu := Arr.st4o (b' := v7.heap.size) Au (by have := Au.lt; have := Ay.lt; omega) (y)
    have Br := Arr.st4o (b' := v7.heap.size) Ar (by have := Ar.lt; have := Ay.lt; omega) (y)
    have Bt := Arr.st4o (b' := v7.heap.size) At (by have := At.lt; have := Ay.lt; omega) (y)
    have Bx := Arr.st4o (b' := v7.heap.size) Ax (by have := Ax.lt; have := Ay.lt; omega) (y)
    have By := Arr.st4 Ay (y)
    have hB' := Bel.st4 hB (b := v7.heap.size) (by have := hB.size; omega) (y)
    clear Ap Ao As Au Ar At Ax Ay hB
    have Ap := Bp
    have Ao := Bo
    have As := Bs
    have Au := Bu
    have Ar := Br
    have At := Bt
    have Ax := Bx
    have Ay := By
    have hB := hB'
    clear Bp Bo Bs Bu Br Bt Bx By hB'
    have rp0 := Ap.cg 0 (by omega) (.int .u64 (lim (X) 0)) rfl
    have rp1 := Ap.cg 1 (by omega) (.int .u64 (lim (X) 1)) rfl
    have rp2 := Ap.cg 2 (by omega) (.int .u64 (lim (X) 2)) rfl
    have rp3 := Ap.cg 3 (by omega) (.int .u64 (lim (X) 3)) rfl
    have rp4 := Ap.cg 4 (by omega) (.int .u64 (lim (Y) 0)) rfl
    have rp5 := Ap.cg 5 (by omega) (.int .u64 (lim (Y) 1)) rfl
    have rp6 := Ap.cg 6 (by omega) (.int .u64 (lim (Y) 2)) rfl
    have rp7 := Ap.cg 7 (by omega) (.int .u64 (lim (Y) 3)) rfl
    have rp8 := Ap.cg 8 (by omega) (.bool false) rfl
    have rp9 := Ap.cg 9 (by omega) (.int .u64 (lim (Z) 0)) rfl
    have rp10 := Ap.cg 10 (by omega) (.int .u64 (lim (Z) 1)) rfl
    have rp11 := Ap.cg 11 (by omega) (.int .u64 (lim (Z) 2)) rfl
    have rp12 := Ap.cg 12 (by omega) (.int .u64 (lim (Z) 3)) rfl
    have rx0 := fun ds os => cell_regrown (Ax.c 0 (by omega)) ds os
    have rx1 := fun ds os => cell_regrown (Ax.c 1 (by omega)) ds os
    have rx2 := fun ds os => cell_regrown (Ax.c 2 (by omega)) ds os
    have rx3 := fun ds os => cell_regrown (Ax.c 3 (by omega)) ds os
    have ry0 := fun ds os => cell_regrown (Ay.c 0 (by omega)) ds os
    have ry1 := fun ds os => cell_regrown (Ay.c 1 (by omega)) ds os
    have ry2 := fun ds os => cell_regrown (Ay.c 2 (by omega)) ds os
    have ry3 := fun ds os => cell_regrown (Ay.c 3 (by omega)) ds os
    go_wp2_with fail
    refine wp_region_below_tail 11 (by kernel_rfl) (by kernel_rfl) ?_
    simp only [List.take_succ_cons, List.take_zero, List.drop_succ_cons, List.drop_zero]
    repeat (go_big_quiet_step (first | (go_at_call 42; with_reducible first | exact Calls.regrown_of (C1 _) | exact Calls.regrown_of (C2 _) | exact Calls.regrown_of (C10 _) | exact Calls.regrown_of (C16 _)) | (go_at_call 45; with_reducible first | exact Calls.regrown_of (C3 _) | exact Calls.regrown_of (C12 _) | exact Calls.regrown_of (C13 _) | exact Calls.regrown_of (C18 _)) | (go_at_call 58; with_reducible first | exact Calls.regrown_of (C4 _)) | (go_at_call 46; with_reducible first | exact Calls.regrown_of (C5 _) | exact Calls.regrown_of (C7 _) | exact Calls.regrown_of (C14 _) | exact Calls.regrown_of (C19 _)) | (go_at_call 57; with_reducible first | exact Calls.regrown_of (C6 _)) | (go_at_call 59; with_reducible first | exact Calls.regrown_of (C8 _) | exact Calls.regrown_of (C9 _) | exact Calls.regrown_of (C11 _) | exact Calls.regrown_of (C15 _) | exact Calls.regrown_of (C17 _) | exact Calls.regrown_of (C20 _))))
    refine wpQuiet_nil ?_
    intro w8 hw'
    obtain ⟨⟨dq, osq⟩, hw''⟩ := hw'
    have hb := below_of hw''
    clear hw''
    have Bo := Arr.to' Ao hb
    have hB' := Bel.call hB hb
    clear hb cy zy rp0 rp1 rp2 rp3 rp4 rp5 rp6 rp7 rp8 rp9 rp10 rp11 rp12 rx0 rx1 rx2 rx3 ry0 ry1 ry2 ry3 Ap Ao As Au Ar At Ax Ay hB
    have Ao := Bo
    have hB := hB'
    clear Bo hB'
    have hS := hB.size
    have co_0 := Ao.cv 0 (by omega) (.int .u64 0) rfl
    have co_1 := Ao.cv 1 (by omega) (.int .u64 0) rfl
    have co_2 := Ao.cv 2 (by omega) (.int .u64 0) rfl
    have co_3 := Ao.cv 3 (by omega) (.int .u64 0) rfl
    have co_4 := Ao.cv 4 (by omega) (.int .u64 0) rfl
    have co_5 := Ao.cv 5 (by omega) (.int .u64 0) rfl
    have co_6 := Ao.cv 6 (by omega) (.int .u64 0) rfl
    have co_7 := Ao.cv 7 (by omega) (.int .u64 0) rfl
    have co_8 := Ao.cv 8 (by omega) (.bool false) rfl
    have co_9 := Ao.cv 9 (by omega) (.int .u64 0) rfl
    have co_10 := Ao.cv 10 (by omega) (.int .u64 0) rfl
    have co_11 := Ao.cv 11 (by omega) (.int .u64 0) rfl
    have co_12 := Ao.cv 12 (by omega) (.int .u64 0) rfl
    have zo := Ao.z
    go_wp2_with fail
    refine bodyPost_ret (v := jv x y false z) (by simp [results, Tryz.results32, go_sem, co_0, co_1, co_2, co_3, co_4, co_5, co_6, co_7, co_8, co_9, co_10, co_11, co_12]) rfl ⟨rfl, ?_⟩
    go_grown
  · intro u1 u2 u3 hb1 hb2 hb3
    simp only [List.drop_succ_cons, List.drop_zero, Act.put, List.setIfInBounds_toArray, List.set_cons_succ, List.set_cons_zero]
    have Ep := Arr.to' Ap hb1
    have lp_u1 := Ep.lt
    have Gp := Arr.to' (Arr.al' Ep (.cells #[.int .u64 0, .int .u64 0, .int .u64 0, .int .u64 0] 24)) hb2
    have lp_u2 := Gp.lt
    have Bp := Arr.to' (Arr.al' Gp (.cells #[.int .u64 0, .int .u64 0, .int .u64 0, .int .u64 0] 24)) hb3
    have Eo := Arr.to' Ao hb1
    have lo_u1 := Eo.lt
    have Go := Arr.to' (Arr.al' Eo (.cells #[.int .u64 0, .int .u64 0, .int .u64 0, .int .u64 0] 24)) hb2
    have lo_u2 := Go.lt
    have Bo := Arr.to' (Arr.al' Go (.cells #[.int .u64 0, .int .u64 0, .int .u64 0, .int .u64 0] 24)) hb3
    have Ff := (Arr.mk4 (w := (u1.alloc (.cells #[.int .u64 0, .int .u64 0, .int .u64 0, .int .u64 0] 24))) (f := fun _ => .int .u64 0) (b := u1.heap.size) (by simp [go_sem]) (by simp [go_sem]) (by simp [go_sem]) (by simp [go_sem]) (by simp [go_sem]) (by simp [go_sem]) (by simp [go_sem]) (by simp [go_sem])).below hb2 (by go_size)
    have lff := Ff.lt
    have Bf := Arr.to' (Arr.al' Ff (.cells #[.int .u64 0, .int .u64 0, .int .u64 0, .int .u64 0] 24)) hb3
    have Bs := (Arr.mk4 (w := (u2.alloc (.cells #[.int .u64 0, .int .u64 0, .int .u64 0, .int .u64 0] 24))) (f := fun _ => .int .u64 0) (b := u2.heap.size) (by simp [go_sem]) (by simp [go_sem]) (by simp [go_sem]) (by simp [go_sem]) (by simp [go_sem]) (by simp [go_sem]) (by simp [go_sem]) (by simp [go_sem])).below hb3 (by go_size)
    have lB_u1 := (Bel.call hB hb1).size
    have hB1 := Bel.call (Bel.al (Bel.call hB hb1) (.cells #[.int .u64 0, .int .u64 0, .int .u64 0, .int .u64 0] 24)) hb2
    have lB_u2 := hB1.size
    have hB' := Bel.call (Bel.al hB1 (.cells #[.int .u64 0, .int .u64 0, .int .u64 0, .int .u64 0] 24)) hb3
    clear hb1 hb2 hb3 hB1 Ff Ep Eo Gp Go Ap Ao hB
    have Ap := Bp
    have Ao := Bo
    have As := Bs
    have Au := Bf
    have hB := hB'
    clear Bp Bo Bf Bs hB'
    have cs := As.c
    have zs := As.z
    have cu := Au.c
    have zu := Au.z
    have Bp := Arr.st4o (b' := u2.heap.size) Ap (by have := Ap.lt; have := As.lt; omega) (z2)
    have Bo := Arr.st4o (b' := u2.heap.size) Ao (by have := Ao.lt; have := As.lt; omega) (z2)
    have Bs := Arr.st4 As (z2)
    have Bu := Arr.st4o (b' := u2.heap.size) Au (by have := Au.lt; have := As.lt; omega) (z2)
    have hB' := Bel.st4 hB (b := u2.heap.size) (by have := hB.size; omega) (z2)
    clear Ap Ao As Au hB
    have Ap := Bp
    have Ao := Bo
    have As := Bs
    have Au := Bu
    have hB := hB'
    clear Bp Bo Bs Bu hB'
    have Bp := Arr.st4o (b' := u1.heap.size) Ap (by have := Ap.lt; have := Au.lt; omega) (y2)
    have Bo := Arr.st4o (b' := u1.heap.size) Ao (by have := Ao.lt; have := Au.lt; omega) (y2)
    have Bs := Arr.st4o (b' := u1.heap.size) As (by have := As.lt; have := Au.lt; omega) (y2)
    have Bu := Arr.st4 Au (y2)
    have hB' := Bel.st4 hB (b := u1.heap.size) (by have := hB.size; omega) (y2)
    clear Ap Ao As Au hB
    have Ap := Bp
    have Ao := Bo
    have As := Bs
    have Au := Bu
    have hB := hB'
    clear Bp Bo Bs Bu hB'
    go_wp2_with fail
    apply wp_region_alloc_tail 12 (by kernel_rfl) (by kernel_rfl) (by kernel_rfl) (.cells #[.int .u64 0, .int .u64 0, .int .u64 0, .int .u64 0] 24) _ rfl (fun _ _ => by simp [go_sem])
    · intro W hW
      have rp0 := (Arr.to' Ap hW).cg 0 (by omega) (.int .u64 (lim (X) 0)) rfl
      have rp1 := (Arr.to' Ap hW).cg 1 (by omega) (.int .u64 (lim (X) 1)) rfl
      have rp2 := (Arr.to' Ap hW).cg 2 (by omega) (.int .u64 (lim (X) 2)) rfl
      have rp3 := (Arr.to' Ap hW).cg 3 (by omega) (.int .u64 (lim (X) 3)) rfl
      have rp4 := (Arr.to' Ap hW).cg 4 (by omega) (.int .u64 (lim (Y) 0)) rfl
      have rp5 := (Arr.to' Ap hW).cg 5 (by omega) (.int .u64 (lim (Y) 1)) rfl
      have rp6 := (Arr.to' Ap hW).cg 6 (by omega) (.int .u64 (lim (Y) 2)) rfl
      have rp7 := (Arr.to' Ap hW).cg 7 (by omega) (.int .u64 (lim (Y) 3)) rfl
      have rp8 := (Arr.to' Ap hW).cg 8 (by omega) (.bool false) rfl
      have rp9 := (Arr.to' Ap hW).cg 9 (by omega) (.int .u64 (lim (Z) 0)) rfl
      have rp10 := (Arr.to' Ap hW).cg 10 (by omega) (.int .u64 (lim (Z) 1)) rfl
      have rp11 := (Arr.to' Ap hW).cg 11 (by omega) (.int .u64 (lim (Z) 2)) rfl
      have rp12 := (Arr.to' Ap hW).cg 12 (by omega) (.int .u64 (lim (Z) 3)) rfl
      have rs0 := fun ds os => cell_regrown ((Arr.to' As hW).c 0 (by omega)) ds os
      have rs1 := fun ds os => cell_regrown ((Arr.to' As hW).c 1 (by omega)) ds os
      have rs2 := fun ds os => cell_regrown ((Arr.to' As hW).c 2 (by omega)) ds os
      have rs3 := fun ds os => cell_regrown ((Arr.to' As hW).c 3 (by omega)) ds os
      simp only [List.take_succ_cons, List.take_zero]
      repeat (go_big_quiet_step (first | (go_at_call 42; with_reducible first | exact Calls.regrown_of (C1 _) | exact Calls.regrown_of (C2 _) | exact Calls.regrown_of (C10 _) | exact Calls.regrown_of (C16 _)) | (go_at_call 45; with_reducible first | exact Calls.regrown_of (C3 _) | exact Calls.regrown_of (C12 _) | exact Calls.regrown_of (C13 _) | exact Calls.regrown_of (C18 _)) | (go_at_call 58; with_reducible first | exact Calls.regrown_of (C4 _)) | (go_at_call 46; with_reducible first | exact Calls.regrown_of (C5 _) | exact Calls.regrown_of (C7 _) | exact Calls.regrown_of (C14 _) | exact Calls.regrown_of (C19 _)) | (go_at_call 57; with_reducible first | exact Calls.regrown_of (C6 _)) | (go_at_call 59; with_reducible first | exact Calls.regrown_of (C8 _) | exact Calls.regrown_of (C9 _) | exact Calls.regrown_of (C11 _) | exact Calls.regrown_of (C15 _) | exact Calls.regrown_of (C17 _) | exact Calls.regrown_of (C20 _))))
      exact wpQuiet_nil rfl
    intro v2 w12 hb1 hb2
    simp only [List.drop_succ_cons, List.drop_zero, Act.put, List.setIfInBounds_toArray, List.set_cons_succ, List.set_cons_zero]
    have Ep := Arr.to' Ap hb1
    have lp_v2 := Ep.lt
    have Bp := Arr.to' (Arr.al' Ep (.cells #[.int .u64 0, .int .u64 0, .int .u64 0, .int .u64 0] 24)) hb2
    have Eo := Arr.to' Ao hb1
    have lo_v2 := Eo.lt
    have Bo := Arr.to' (Arr.al' Eo (.cells #[.int .u64 0, .int .u64 0, .int .u64 0, .int .u64 0] 24)) hb2
    have Es := Arr.to' As hb1
    have ls_v2 := Es.lt
    have Bs := Arr.to' (Arr.al' Es (.cells #[.int .u64 0, .int .u64 0, .int .u64 0, .int .u64 0] 24)) hb2
    have Eu := Arr.to' Au hb1
    have lu_v2 := Eu.lt
    have Bu := Arr.to' (Arr.al' Eu (.cells #[.int .u64 0, .int .u64 0, .int .u64 0, .int .u64 0] 24)) hb2
    have Br := (Arr.mk4 (w := (v2.alloc (.cells #[.int .u64 0, .int .u64 0, .int .u64 0, .int .u64 0] 24))) (f := fun _ => .int .u64 0) (b := v2.heap.size) (by simp [go_sem]) (by simp [go_sem]) (by simp [go_sem]) (by simp [go_sem]) (by simp [go_sem]) (by simp [go_sem]) (by simp [go_sem]) (by simp [go_sem])).below hb2 (by go_size)
    have lB_v2 := (Bel.call hB hb1).size
    have hB' := Bel.call (Bel.al (Bel.call hB hb1) (.cells #[.int .u64 0, .int .u64 0, .int .u64 0, .int .u64 0] 24)) hb2
    clear hb1 hb2 Ep Eo Es Eu Ap Ao As Au hB
    have Ap := Bp
    have Ao := Bo
    have As := Bs
    have Au := Bu
    have Ar := Br
    have hB := hB'
    clear Bp Bo Bs Bu Br hB'
    have cr := Ar.c
    have zr := Ar.z
    have Bp := Arr.st4o (b' := v2.heap.size) Ap (by have := Ap.lt; have := Ar.lt; omega) (r)
    have Bo := Arr.st4o (b' := v2.heap.size) Ao (by have := Ao.lt; have := Ar.lt; omega) (r)
    have Bs := Arr.st4o (b' := v2.heap.size) As (by have := As.lt; have := Ar.lt; omega) (r)
    have Bu := Arr.st4o (b' := v2.heap.size) Au (by have := Au.lt; have := Ar.lt; omega) (r)
    have Br := Arr.st4 Ar (r)
    have hB' := Bel.st4 hB (b := v2.heap.size) (by have := hB.size; omega) (r)
    clear Ap Ao As Au Ar hB
    have Ap := Bp
    have Ao := Bo
    have As := Bs
    have Au := Bu
    have Ar := Br
    have hB := hB'
    clear Bp Bo Bs Bu Br hB'
    have cp_0 := Ap.cv 0 (by omega) (.int .u64 (lim (X) 0)) rfl
    have cp_1 := Ap.cv 1 (by omega) (.int .u64 (lim (X) 1)) rfl
    have cp_2 := Ap.cv 2 (by omega) (.int .u64 (lim (X) 2)) rfl
    have cp_3 := Ap.cv 3 (by omega) (.int .u64 (lim (X) 3)) rfl
    have cp_4 := Ap.cv 4 (by omega) (.int .u64 (lim (Y) 0)) rfl
    have cp_5 := Ap.cv 5 (by omega) (.int .u64 (lim (Y) 1)) rfl
    have cp_6 := Ap.cv 6 (by omega) (.int .u64 (lim (Y) 2)) rfl
    have cp_7 := Ap.cv 7 (by omega) (.int .u64 (lim (Y) 3)) rfl
    have cp_8 := Ap.cv 8 (by omega) (.bool false) rfl
    have cp_9 := Ap.cv 9 (by omega) (.int .u64 (lim (Z) 0)) rfl
    have cp_10 := Ap.cv 10 (by omega) (.int .u64 (lim (Z) 1)) rfl
    have cp_11 := Ap.cv 11 (by omega) (.int .u64 (lim (Z) 2)) rfl
    have cp_12 := Ap.cv 12 (by omega) (.int .u64 (lim (Z) 3)) rfl
    have cu := Au.c
    go_wp2_with fail
    refine (C7 _).mono ?_
    rintro e w13 ⟨rfl, hb⟩
    have Bp := Arr.to' Ap hb
    have Bo := Arr.to' Ao hb
    have Bs := Arr.to' As hb
    have Bu := Arr.to' Au hb
    have Br := Arr.to' Ar hb
    have hB' := Bel.call hB hb
    clear hb cr zr cp_0 cp_1 cp_2 cp_3 cp_4 cp_5 cp_6 cp_7 cp_8 cp_9 cp_10 cp_11 cp_12 cu Ap Ao As Au Ar hB
    have Ap := Bp
    have Ao := Bo
    have As := Bs
    have Au := Bu
    have Ar := Br
    have hB := hB'
    clear Bp Bo Bs Bu Br hB'
    go_wp2_with fail
    refine (C8 _).mono ?_
    rintro e w14 ⟨rfl, hb⟩
    have Bp := Arr.to' Ap hb
    have Bo := Arr.to' Ao hb
    have Bs := Arr.to' As hb
    have Bu := Arr.to' Au hb
    have Br := Arr.to' Ar hb
    have hB' := Bel.call hB hb
    clear hb Ap Ao As Au Ar hB
    have Ap := Bp
    have Ao := Bo
    have As := Bs
    have Au := Bu
    have Ar := Br
    have hB := hB'
    clear Bp Bo Bs Bu Br hB'
    go_wp2_with fail
    refine (C9 _).mono ?_
    rintro e w15 ⟨rfl, hb⟩
    have Bp := Arr.to' Ap hb
    have Bo := Arr.to' Ao hb
    have Bs := Arr.to' As hb
    have Bu := Arr.to' Au hb
    have Br := Arr.to' Ar hb
    have hB' := Bel.call hB hb
    clear hb Ap Ao As Au Ar hB
    have Ap := Bp
    have Ao := Bo
    have As := Bs
    have Au := Bu
    have Ar := Br
    have hB := hB'
    clear Bp Bo Bs Bu Br hB'
    have lp_2 := Ap.lt
    have lo_2 := Ao.lt
    have ls_2 := As.lt
    have lu_2 := Au.lt
    have lr_2 := Ar.lt
    have lB_2 := hB.size
    have Bp := (Arr.al' Ap (.cells #[.int .u64 (lim (s) 0), .int .u64 (lim (s) 1), .int .u64 (lim (s) 2), .int .u64 (lim (s) 3)] 24))
    have Bo := (Arr.al' Ao (.cells #[.int .u64 (lim (s) 0), .int .u64 (lim (s) 1), .int .u64 (lim (s) 2), .int .u64 (lim (s) 3)] 24))
    have Bs := (Arr.al' As (.cells #[.int .u64 (lim (s) 0), .int .u64 (lim (s) 1), .int .u64 (lim (s) 2), .int .u64 (lim (s) 3)] 24))
    have Bu := (Arr.al' Au (.cells #[.int .u64 (lim (s) 0), .int .u64 (lim (s) 1), .int .u64 (lim (s) 2), .int .u64 (lim (s) 3)] 24))
    have Br := (Arr.al' Ar (.cells #[.int .u64 (lim (s) 0), .int .u64 (lim (s) 1), .int .u64 (lim (s) 2), .int .u64 (lim (s) 3)] 24))
    have Bt : Arr ((w15.alloc (.cells #[.int .u64 (lim (s) 0), .int .u64 (lim (s) 1), .int .u64 (lim (s) 2), .int .u64 (lim (s) 3)] 24))) (w15.heap.size) 4 (fun j => .int .u64 (lim (s) j)) := by refine Arr.mk4 ?_ ?_ ?_ ?_ ?_ ?_ ?_ ?_ <;> simp [go_sem]
    have hB' := (Bel.al hB (.cells #[.int .u64 (lim (s) 0), .int .u64 (lim (s) 1), .int .u64 (lim (s) 2), .int .u64 (lim (s) 3)] 24))
    clear Ap Ao As Au Ar hB
    have Ap := Bp
    have Ao := Bo
    have As := Bs
    have Au := Bu
    have Ar := Br
    have At := Bt
    have hB := hB'
    clear Bp Bo Bs Bu Br Bt hB'
    go_wp2_with fail
    apply wp_region_alloc_tail 5 (by kernel_rfl) (by kernel_rfl) (by kernel_rfl) (.cells #[.int .u64 0, .int .u64 0, .int .u64 0, .int .u64 0] 24) _ rfl (fun _ _ => by simp [go_sem])
    · intro W hW
      have rr0 := fun ds os => cell_regrown ((Arr.to' Ar hW).c 0 (by omega)) ds os
      have rr1 := fun ds os => cell_regrown ((Arr.to' Ar hW).c 1 (by omega)) ds os
      have rr2 := fun ds os => cell_regrown ((Arr.to' Ar hW).c 2 (by omega)) ds os
      have rr3 := fun ds os => cell_regrown ((Arr.to' Ar hW).c 3 (by omega)) ds os
      have rt0 := fun ds os => cell_regrown ((Arr.to' At hW).c 0 (by omega)) ds os
      have rt1 := fun ds os => cell_regrown ((Arr.to' At hW).c 1 (by omega)) ds os
      have rt2 := fun ds os => cell_regrown ((Arr.to' At hW).c 2 (by omega)) ds os
      have rt3 := fun ds os => cell_regrown ((Arr.to' At hW).c 3 (by omega)) ds os
      simp only [List.take_succ_cons, List.take_zero]
      repeat (go_big_quiet_step (first | (go_at_call 42; with_reducible first | exact Calls.regrown_of (C1 _) | exact Calls.regrown_of (C2 _) | exact Calls.regrown_of (C10 _) | exact Calls.regrown_of (C16 _)) | (go_at_call 45; with_reducible first | exact Calls.regrown_of (C3 _) | exact Calls.regrown_of (C12 _) | exact Calls.regrown_of (C13 _) | exact Calls.regrown_of (C18 _)) | (go_at_call 58; with_reducible first | exact Calls.regrown_of (C4 _)) | (go_at_call 46; with_reducible first | exact Calls.regrown_of (C5 _) | exact Calls.regrown_of (C7 _) | exact Calls.regrown_of (C14 _) | exact Calls.regrown_of (C19 _)) | (go_at_call 57; with_reducible first | exact Calls.regrown_of (C6 _)) | (go_at_call 59; with_reducible first | exact Calls.regrown_of (C8 _) | exact Calls.regrown_of (C9 _) | exact Calls.regrown_of (C11 _) | exact Calls.regrown_of (C15 _) | exact Calls.regrown_of (C17 _) | exact Calls.regrown_of (C20 _))))
      exact wpQuiet_nil rfl
    intro v6 w16 hb1 hb2
    simp only [List.drop_succ_cons, List.drop_zero, Act.put, List.setIfInBounds_toArray, List.set_cons_succ, List.set_cons_zero]
    have Ep := Arr.to' Ap hb1
    have lp_v6 := Ep.lt
    have Bp := Arr.to' (Arr.al' Ep (.cells #[.int .u64 0, .int .u64 0, .int .u64 0, .int .u64 0] 24)) hb2
    have Eo := Arr.to' Ao hb1
    have lo_v6 := Eo.lt
    have Bo := Arr.to' (Arr.al' Eo (.cells #[.int .u64 0, .int .u64 0, .int .u64 0, .int .u64 0] 24)) hb2
    have Es := Arr.to' As hb1
    have ls_v6 := Es.lt
    have Bs := Arr.to' (Arr.al' Es (.cells #[.int .u64 0, .int .u64 0, .int .u64 0, .int .u64 0] 24)) hb2
    have Eu := Arr.to' Au hb1
    have lu_v6 := Eu.lt
    have Bu := Arr.to' (Arr.al' Eu (.cells #[.int .u64 0, .int .u64 0, .int .u64 0, .int .u64 0] 24)) hb2
    have Er := Arr.to' Ar hb1
    have lr_v6 := Er.lt
    have Br := Arr.to' (Arr.al' Er (.cells #[.int .u64 0, .int .u64 0, .int .u64 0, .int .u64 0] 24)) hb2
    have Et := Arr.to' At hb1
    have lt_v6 := Et.lt
    have Bt := Arr.to' (Arr.al' Et (.cells #[.int .u64 0, .int .u64 0, .int .u64 0, .int .u64 0] 24)) hb2
    have Bx := (Arr.mk4 (w := (v6.alloc (.cells #[.int .u64 0, .int .u64 0, .int .u64 0, .int .u64 0] 24))) (f := fun _ => .int .u64 0) (b := v6.heap.size) (by simp [go_sem]) (by simp [go_sem]) (by simp [go_sem]) (by simp [go_sem]) (by simp [go_sem]) (by simp [go_sem]) (by simp [go_sem]) (by simp [go_sem])).below hb2 (by go_size)
    have lB_v6 := (Bel.call hB hb1).size
    have hB' := Bel.call (Bel.al (Bel.call hB hb1) (.cells #[.int .u64 0, .int .u64 0, .int .u64 0, .int .u64 0] 24)) hb2
    clear hb1 hb2 Ep Eo Es Eu Er Et Ap Ao As Au Ar At hB
    have Ap := Bp
    have Ao := Bo
    have As := Bs
    have Au := Bu
    have Ar := Br
    have At := Bt
    have Ax := Bx
    have hB := hB'
    clear Bp Bo Bs Bu Br Bt Bx hB'
    have cx := Ax.c
    have zx := Ax.z
    have Bp := Arr.st4o (b' := v6.heap.size) Ap (by have := Ap.lt; have := Ax.lt; omega) (x)
    have Bo := Arr.st4o (b' := v6.heap.size) Ao (by have := Ao.lt; have := Ax.lt; omega) (x)
    have Bs := Arr.st4o (b' := v6.heap.size) As (by have := As.lt; have := Ax.lt; omega) (x)
    have Bu := Arr.st4o (b' := v6.heap.size) Au (by have := Au.lt; have := Ax.lt; omega) (x)
    have Br := Arr.st4o (b' := v6.heap.size) Ar (by have := Ar.lt; have := Ax.lt; omega) (x)
    have Bt := Arr.st4o (b' := v6.heap.size) At (by have := At.lt; have := Ax.lt; omega) (x)
    have Bx := Arr.st4 Ax (x)
    have hB' := Bel.st4 hB (b := v6.heap.size) (by have := hB.size; omega) (x)
    clear Ap Ao As Au Ar At Ax hB
    have Ap := Bp
    have Ao := Bo
    have As := Bs
    have Au := Bu
    have Ar := Br
    have At := Bt
    have Ax := Bx
    have hB := hB'
    clear Bp Bo Bs Bu Br Bt Bx hB'
    go_wp2_with fail
    apply wp_region_alloc_tail 10 (by kernel_rfl) (by kernel_rfl) (by kernel_rfl) (.cells #[.int .u64 0, .int .u64 0, .int .u64 0, .int .u64 0] 24) _ rfl (fun _ _ => by simp [go_sem])
    · intro W hW
      have rr0 := fun ds os => cell_regrown ((Arr.to' Ar hW).c 0 (by omega)) ds os
      have rr1 := fun ds os => cell_regrown ((Arr.to' Ar hW).c 1 (by omega)) ds os
      have rr2 := fun ds os => cell_regrown ((Arr.to' Ar hW).c 2 (by omega)) ds os
      have rr3 := fun ds os => cell_regrown ((Arr.to' Ar hW).c 3 (by omega)) ds os
      have rt0 := fun ds os => cell_regrown ((Arr.to' At hW).c 0 (by omega)) ds os
      have rt1 := fun ds os => cell_regrown ((Arr.to' At hW).c 1 (by omega)) ds os
      have rt2 := fun ds os => cell_regrown ((Arr.to' At hW).c 2 (by omega)) ds os
      have rt3 := fun ds os => cell_regrown ((Arr.to' At hW).c 3 (by omega)) ds os
      have rx0 := fun ds os => cell_regrown ((Arr.to' Ax hW).c 0 (by omega)) ds os
      have rx1 := fun ds os => cell_regrown ((Arr.to' Ax hW).c 1 (by omega)) ds os
      have rx2 := fun ds os => cell_regrown ((Arr.to' Ax hW).c 2 (by omega)) ds os
      have rx3 := fun ds os => cell_regrown ((Arr.to' Ax hW).c 3 (by omega)) ds os
      have ru0 := fun ds os => cell_regrown ((Arr.to' Au hW).c 0 (by omega)) ds os
      have ru1 := fun ds os => cell_regrown ((Arr.to' Au hW).c 1 (by omega)) ds os
      have ru2 := fun ds os => cell_regrown ((Arr.to' Au hW).c 2 (by omega)) ds os
      have ru3 := fun ds os => cell_regrown ((Arr.to' Au hW).c 3 (by omega)) ds os
      simp only [List.take_succ_cons, List.take_zero]
      repeat (go_big_quiet_step (first | (go_at_call 42; with_reducible first | exact Calls.regrown_of (C1 _) | exact Calls.regrown_of (C2 _) | exact Calls.regrown_of (C10 _) | exact Calls.regrown_of (C16 _)) | (go_at_call 45; with_reducible first | exact Calls.regrown_of (C3 _) | exact Calls.regrown_of (C12 _) | exact Calls.regrown_of (C13 _) | exact Calls.regrown_of (C18 _)) | (go_at_call 58; with_reducible first | exact Calls.regrown_of (C4 _)) | (go_at_call 46; with_reducible first | exact Calls.regrown_of (C5 _) | exact Calls.regrown_of (C7 _) | exact Calls.regrown_of (C14 _) | exact Calls.regrown_of (C19 _)) | (go_at_call 57; with_reducible first | exact Calls.regrown_of (C6 _)) | (go_at_call 59; with_reducible first | exact Calls.regrown_of (C8 _) | exact Calls.regrown_of (C9 _) | exact Calls.regrown_of (C11 _) | exact Calls.regrown_of (C15 _) | exact Calls.regrown_of (C17 _) | exact Calls.regrown_of (C20 _))))
      exact wpQuiet_nil rfl
    intro v7 w17 hb1 hb2
    simp only [List.drop_succ_cons, List.drop_zero, Act.put, List.setIfInBounds_toArray, List.set_cons_succ, List.set_cons_zero]
    have Ep := Arr.to' Ap hb1
    have lp_v7 := Ep.lt
    have Bp := Arr.to' (Arr.al' Ep (.cells #[.int .u64 0, .int .u64 0, .int .u64 0, .int .u64 0] 24)) hb2
    have Eo := Arr.to' Ao hb1
    have lo_v7 := Eo.lt
    have Bo := Arr.to' (Arr.al' Eo (.cells #[.int .u64 0, .int .u64 0, .int .u64 0, .int .u64 0] 24)) hb2
    have Es := Arr.to' As hb1
    have ls_v7 := Es.lt
    have Bs := Arr.to' (Arr.al' Es (.cells #[.int .u64 0, .int .u64 0, .int .u64 0, .int .u64 0] 24)) hb2
    have Eu := Arr.to' Au hb1
    have lu_v7 := Eu.lt
    have Bu := Arr.to' (Arr.al' Eu (.cells #[.int .u64 0, .int .u64 0, .int .u64 0, .int .u64 0] 24)) hb2
    have Er := Arr.to' Ar hb1
    have lr_v7 := Er.lt
    have Br := Arr.to' (Arr.al' Er (.cells #[.int .u64 0, .int .u64 0, .int .u64 0, .int .u64 0] 24)) hb2
    have Et := Arr.to' At hb1
    have lt_v7 := Et.lt
    have Bt := Arr.to' (Arr.al' Et (.cells #[.int .u64 0, .int .u64 0, .int .u64 0, .int .u64 0] 24)) hb2
    have Ex := Arr.to' Ax hb1
    have lx_v7 := Ex.lt
    have Bx := Arr.to' (Arr.al' Ex (.cells #[.int .u64 0, .int .u64 0, .int .u64 0, .int .u64 0] 24)) hb2
    have By := (Arr.mk4 (w := (v7.alloc (.cells #[.int .u64 0, .int .u64 0, .int .u64 0, .int .u64 0] 24))) (f := fun _ => .int .u64 0) (b := v7.heap.size) (by simp [go_sem]) (by simp [go_sem]) (by simp [go_sem]) (by simp [go_sem]) (by simp [go_sem]) (by simp [go_sem]) (by simp [go_sem]) (by simp [go_sem])).below hb2 (by go_size)
    have lB_v7 := (Bel.call hB hb1).size
    have hB' := Bel.call (Bel.al (Bel.call hB hb1) (.cells #[.int .u64 0, .int .u64 0, .int .u64 0, .int .u64 0] 24)) hb2
    clear hb1 hb2 Ep Eo Es Eu Er Et Ex Ap Ao As Au Ar At Ax hB
    have Ap := Bp
    have Ao := Bo
    have As := Bs
    have Au := Bu
    have Ar := Br
    have At := Bt
    have Ax := Bx
    have Ay := By
    have hB := hB'
    clear Bp Bo Bs Bu Br Bt Bx By hB'
    have cy := Ay.c
    have zy := Ay.z
    have Bp := Arr.st4o (b' := v7.heap.size) Ap (by have := Ap.lt; have := Ay.lt; omega) (y)
    have Bo := Arr.st4o (b' := v7.heap.size) Ao (by have := Ao.lt; have := Ay.lt; omega) (y)
    have Bs := Arr.st4o (b' := v7.heap.size) As (by have := As.lt; have := Ay.lt; omega) (y)
    have Bu := Arr.st4o (b' := v7.heap.size) Au (by have := Au.lt; have := Ay.lt; omega) (y)
    have Br := Arr.st4o (b' := v7.heap.size) Ar (by have := Ar.lt; have := Ay.lt; omega) (y)
    have Bt := Arr.st4o (b' := v7.heap.size) At (by have := At.lt; have := Ay.lt; omega) (y)
    have Bx := Arr.st4o (b' := v7.heap.size) Ax (by have := Ax.lt; have := Ay.lt; omega) (y)
    have By := Arr.st4 Ay (y)
    have hB' := Bel.st4 hB (b := v7.heap.size) (by have := hB.size; omega) (y)
    clear Ap Ao As Au Ar At Ax Ay hB
    have Ap := Bp
    have Ao := Bo
    have As := Bs
    have Au := Bu
    have Ar := Br
    have At := Bt
    have Ax := Bx
    have Ay := By
    have hB := hB'
    clear Bp Bo Bs Bu Br Bt Bx By hB'
    have rp0 := Ap.cg 0 (by omega) (.int .u64 (lim (X) 0)) rfl
    have rp1 := Ap.cg 1 (by omega) (.int .u64 (lim (X) 1)) rfl
    have rp2 := Ap.cg 2 (by omega) (.int .u64 (lim (X) 2)) rfl
    have rp3 := Ap.cg 3 (by omega) (.int .u64 (lim (X) 3)) rfl
    have rp4 := Ap.cg 4 (by omega) (.int .u64 (lim (Y) 0)) rfl
    have rp5 := Ap.cg 5 (by omega) (.int .u64 (lim (Y) 1)) rfl
    have rp6 := Ap.cg 6 (by omega) (.int .u64 (lim (Y) 2)) rfl
    have rp7 := Ap.cg 7 (by omega) (.int .u64 (lim (Y) 3)) rfl
    have rp8 := Ap.cg 8 (by omega) (.bool false) rfl
    have rp9 := Ap.cg 9 (by omega) (.int .u64 (lim (Z) 0)) rfl
    have rp10 := Ap.cg 10 (by omega) (.int .u64 (lim (Z) 1)) rfl
    have rp11 := Ap.cg 11 (by omega) (.int .u64 (lim (Z) 2)) rfl
    have rp12 := Ap.cg 12 (by omega) (.int .u64 (lim (Z) 3)) rfl
    have rx0 := fun ds os => cell_regrown (Ax.c 0 (by omega)) ds os
    have rx1 := fun ds os => cell_regrown (Ax.c 1 (by omega)) ds os
    have rx2 := fun ds os => cell_regrown (Ax.c 2 (by omega)) ds os
    have rx3 := fun ds os => cell_regrown (Ax.c 3 (by omega)) ds os
    have ry0 := fun ds os => cell_regrown (Ay.c 0 (by omega)) ds os
    have ry1 := fun ds os => cell_regrown (Ay.c 1 (by omega)) ds os
    have ry2 := fun ds os => cell_regrown (Ay.c 2 (by omega)) ds os
    have ry3 := fun ds os => cell_regrown (Ay.c 3 (by omega)) ds os
    go_wp2_with fail
    refine wp_region_below_tail 11 (by kernel_rfl) (by kernel_rfl) ?_
    simp only [List.take_succ_cons, List.take_zero, List.drop_succ_cons, List.drop_zero]
    repeat (go_big_quiet_step (first | (go_at_call 42; with_reducible first | exact Calls.regrown_of (C1 _) | exact Calls.regrown_of (C2 _) | exact Calls.regrown_of (C10 _) | exact Calls.regrown_of (C16 _)) | (go_at_call 45; with_reducible first | exact Calls.regrown_of (C3 _) | exact Calls.regrown_of (C12 _) | exact Calls.regrown_of (C13 _) | exact Calls.regrown_of (C18 _)) | (go_at_call 58; with_reducible first | exact Calls.regrown_of (C4 _)) | (go_at_call 46; with_reducible first | exact Calls.regrown_of (C5 _) | exact Calls.regrown_of (C7 _) | exact Calls.regrown_of (C14 _) | exact Calls.regrown_of (C19 _)) | (go_at_call 57; with_reducible first | exact Calls.regrown_of (C6 _)) | (go_at_call 59; with_reducible first | exact Calls.regrown_of (C8 _) | exact Calls.regrown_of (C9 _) | exact Calls.regrown_of (C11 _) | exact Calls.regrown_of (C15 _) | exact Calls.regrown_of (C17 _) | exact Calls.regrown_of (C20 _))))
    refine wpQuiet_nil ?_
    intro w8 hw'
    obtain ⟨⟨dq, osq⟩, hw''⟩ := hw'
    have hb := below_of hw''
    clear hw''
    have Bo := Arr.to' Ao hb
    have hB' := Bel.call hB hb
    clear hb cy zy rp0 rp1 rp2 rp3 rp4 rp5 rp6 rp7 rp8 rp9 rp10 rp11 rp12 rx0 rx1 rx2 rx3 ry0 ry1 ry2 ry3 Ap Ao As Au Ar At Ax Ay hB
    have Ao := Bo
    have hB := hB'
    clear Bo hB'
    have hS := hB.size
    have co_0 := Ao.cv 0 (by omega) (.int .u64 0) rfl
    have co_1 := Ao.cv 1 (by omega) (.int .u64 0) rfl
    have co_2 := Ao.cv 2 (by omega) (.int .u64 0) rfl
    have co_3 := Ao.cv 3 (by omega) (.int .u64 0) rfl
    have co_4 := Ao.cv 4 (by omega) (.int .u64 0) rfl
    have co_5 := Ao.cv 5 (by omega) (.int .u64 0) rfl
    have co_6 := Ao.cv 6 (by omega) (.int .u64 0) rfl
    have co_7 := Ao.cv 7 (by omega) (.int .u64 0) rfl
    have co_8 := Ao.cv 8 (by omega) (.bool false) rfl
    have co_9 := Ao.cv 9 (by omega) (.int .u64 0) rfl
    have co_10 := Ao.cv 10 (by omega) (.int .u64 0) rfl
    have co_11 := Ao.cv 11 (by omega) (.int .u64 0) rfl
    have co_12 := Ao.cv 12 (by omega) (.int .u64 0) rfl
    have zo := Ao.z
    go_wp2_with fail
    refine bodyPost_ret (v := jv x y false z) (by simp [results, Tryz.results32, go_sem, co_0, co_1, co_2, co_3, co_4, co_5, co_6, co_7, co_8, co_9, co_10, co_11, co_12]) rfl ⟨rfl, ?_⟩
    go_grown
end Go.Proofs.YtgekafmojedlkaaGreat
