/- What Decode answers, of point and of the reference. -/
import Derived.Test.YtgekafmojedlkaaJ30
import Derived.Test.YtgekafmojedlkaaJ1
import Derived.Test.YtgekafmojedlkaaJ44
import Derived.Test.YtgekafmojedlkaaJ9
set_option linter.all false
set_option maxRecDepth 100000
namespace Go.Proofs.Ytgekafmojedlkaa
open Go.RowKit Go.Sort
/-- A row of cells. -/
def lv (L : List Value) (j : Nat) : Value := L.getD j (.bool false)
set_option maxHeartbeats 8000000 in
theorem from_no (s u : ByteArray) (x y er f : Int) (w : World)
    (C1 : ∀ W, Calls Try.prog 42 #[.string s] W fun e w' => e = .returned (.tuple #[nv x, .int .i64 er]) ∧ Below W.heap.size W w')
    (C2 : ∀ W, Calls Try.prog 42 #[.string u] W fun e w' => e = .returned (.tuple #[nv y, .int .i64 f]) ∧ Below W.heap.size W w')
    (C3 : ∀ W, Calls Try.prog 11 #[pv x y false] W fun e w' => e = .returned (.bool false) ∧ Below W.heap.size W w') :
    Calls Try.prog 22 #[.string s, .string u] w fun e w' => e = .returned (.tuple #[.agg #[.int .u64 0, .int .u64 0, .int .u64 0, .int .u64 0, .int .u64 0, .int .u64 0, .int .u64 0, .int .u64 0, .bool false], .int .i64 15]) ∧ Below w.heap.size w w' := by
  go_enter Try.func22, Try.ntmps22
  have Bo := Arr.mk9p (w := ((w.alloc (.cells #[.int .u64 0, .int .u64 0, .int .u64 0, .int .u64 0, .int .u64 0, .int .u64 0, .int .u64 0, .int .u64 0, .bool false] 26)).alloc (.cells #[.int .u64 0, .int .u64 0, .int .u64 0, .int .u64 0, .int .u64 0, .int .u64 0, .int .u64 0, .int .u64 0, .bool false] 26))) (f := zx 8) (b := w.heap.size) (by simp [go_sem, px, sx, zx]) (by simp [go_sem, px, sx, zx]) (by simp [go_sem, px, sx, zx]) (by simp [go_sem, px, sx, zx]) (by simp [go_sem, px, sx, zx]) (by simp [go_sem, px, sx, zx]) (by simp [go_sem, px, sx, zx]) (by simp [go_sem, px, sx, zx]) (by simp [go_sem, px, sx, zx]) (by simp [go_sem, px, sx, zx])
  have Bp := Arr.mk9p (w := ((w.alloc (.cells #[.int .u64 0, .int .u64 0, .int .u64 0, .int .u64 0, .int .u64 0, .int .u64 0, .int .u64 0, .int .u64 0, .bool false] 26)).alloc (.cells #[.int .u64 0, .int .u64 0, .int .u64 0, .int .u64 0, .int .u64 0, .int .u64 0, .int .u64 0, .int .u64 0, .bool false] 26))) (f := zx 8) (b := w.heap.size + 1) (by simp [go_sem, px, sx, zx]) (by simp [go_sem, px, sx, zx]) (by simp [go_sem, px, sx, zx]) (by simp [go_sem, px, sx, zx]) (by simp [go_sem, px, sx, zx]) (by simp [go_sem, px, sx, zx]) (by simp [go_sem, px, sx, zx]) (by simp [go_sem, px, sx, zx]) (by simp [go_sem, px, sx, zx]) (by simp [go_sem, px, sx, zx])
  have hB' : Below w.heap.size w ((w.alloc (.cells #[.int .u64 0, .int .u64 0, .int .u64 0, .int .u64 0, .int .u64 0, .int .u64 0, .int .u64 0, .int .u64 0, .bool false] 26)).alloc (.cells #[.int .u64 0, .int .u64 0, .int .u64 0, .int .u64 0, .int .u64 0, .int .u64 0, .int .u64 0, .int .u64 0, .bool false] 26)) := by go_grown
  have Ao := Bo
  have Ap := Bp
  have hB := hB'
  clear Bo Bp hB'
  go_wp2_with fail
  refine (C1 _).mono ?_
  rintro e w1 ⟨rfl, hb⟩
  have Bo := Arr.to' Ao hb
  have Bp := Arr.to' Ap hb
  have hB' := Bel.call hB hb
  clear hb Ao Ap hB
  have Ao := Bo
  have Ap := Bp
  have hB := hB'
  clear Bo Bp hB'
  have cp_0 := Ap.cv 0 (by omega) (.int .u64 0) rfl
  have cp_1 := Ap.cv 1 (by omega) (.int .u64 0) rfl
  have cp_2 := Ap.cv 2 (by omega) (.int .u64 0) rfl
  have cp_3 := Ap.cv 3 (by omega) (.int .u64 0) rfl
  have cp_4 := Ap.cv 4 (by omega) (.int .u64 0) rfl
  have cp_5 := Ap.cv 5 (by omega) (.int .u64 0) rfl
  have cp_6 := Ap.cv 6 (by omega) (.int .u64 0) rfl
  have cp_7 := Ap.cv 7 (by omega) (.int .u64 0) rfl
  have cp_8 := Ap.cv 8 (by omega) (.bool false) rfl
  have zp := Ap.z
  have Bp : Arr (((((w1).setCell ⟨w.heap.size + 1, 0, none⟩ (.int .u64 (lim (x) 0))).setCell ⟨w.heap.size + 1, 1, none⟩ (.int .u64 (lim (x) 1))).setCell ⟨w.heap.size + 1, 2, none⟩ (.int .u64 (lim (x) 2))).setCell ⟨w.heap.size + 1, 3, none⟩ (.int .u64 (lim (x) 3))) (w.heap.size + 1) 9 (lv [.int .u64 (lim (x) 0), .int .u64 (lim (x) 1), .int .u64 (lim (x) 2), .int .u64 (lim (x) 3), .int .u64 0, .int .u64 0, .int .u64 0, .int .u64 0, .bool false]) := ((((Ap.set 0 (by omega) _).set 1 (by omega) _).set 2 (by omega) _).set 3 (by omega) _).congr (by intro j hj; have h : j = 0 ∨ j = 1 ∨ j = 2 ∨ j = 3 ∨ j = 4 ∨ j = 5 ∨ j = 6 ∨ j = 7 ∨ j = 8 := (by omega); rcases h with h | h | h | h | h | h | h | h | h <;> subst h <;> rfl)
  have Bo := Arr.other (Arr.other (Arr.other (Arr.other (b' := w.heap.size + 1) (k := 0) Ao (by have := Ao.lt; have := Ap.lt; omega) (.int .u64 (lim (x) 0))) (b' := w.heap.size + 1) (k := 1) (by have := Ao.lt; have := Ap.lt; omega) (.int .u64 (lim (x) 1))) (b' := w.heap.size + 1) (k := 2) (by have := Ao.lt; have := Ap.lt; omega) (.int .u64 (lim (x) 2))) (b' := w.heap.size + 1) (k := 3) (by have := Ao.lt; have := Ap.lt; omega) (.int .u64 (lim (x) 3))
  have hB' := (Bel.st (b := w.heap.size + 1) (k := 3) (Bel.st (b := w.heap.size + 1) (k := 2) (Bel.st (b := w.heap.size + 1) (k := 1) (Bel.st (b := w.heap.size + 1) (k := 0) hB (by have := hB.size; omega) (.int .u64 (lim (x) 0))) (by have := hB.size; omega) (.int .u64 (lim (x) 1))) (by have := hB.size; omega) (.int .u64 (lim (x) 2))) (by have := hB.size; omega) (.int .u64 (lim (x) 3)))
  clear Ao Ap hB
  have Ao := Bo
  have Ap := Bp
  have hB := hB'
  clear Bo Bp hB'
  go_wp2_with fail
  refine (C2 _).mono ?_
  rintro e w12 ⟨rfl, hb⟩
  have Bo := Arr.to' Ao hb
  have Bp := Arr.to' Ap hb
  have hB' := Bel.call hB hb
  clear hb cp_0 cp_1 cp_2 cp_3 cp_4 cp_5 cp_6 cp_7 cp_8 zp Ao Ap hB
  have Ao := Bo
  have Ap := Bp
  have hB := hB'
  clear Bo Bp hB'
  have cp_0 := Ap.cv 0 (by omega) (.int .u64 (lim (x) 0)) rfl
  have cp_1 := Ap.cv 1 (by omega) (.int .u64 (lim (x) 1)) rfl
  have cp_2 := Ap.cv 2 (by omega) (.int .u64 (lim (x) 2)) rfl
  have cp_3 := Ap.cv 3 (by omega) (.int .u64 (lim (x) 3)) rfl
  have cp_4 := Ap.cv 4 (by omega) (.int .u64 0) rfl
  have cp_5 := Ap.cv 5 (by omega) (.int .u64 0) rfl
  have cp_6 := Ap.cv 6 (by omega) (.int .u64 0) rfl
  have cp_7 := Ap.cv 7 (by omega) (.int .u64 0) rfl
  have cp_8 := Ap.cv 8 (by omega) (.bool false) rfl
  have zp := Ap.z
  have Bp : Arr (((((w12).setCell ⟨w.heap.size + 1, 4, none⟩ (.int .u64 (lim (y) 0))).setCell ⟨w.heap.size + 1, 5, none⟩ (.int .u64 (lim (y) 1))).setCell ⟨w.heap.size + 1, 6, none⟩ (.int .u64 (lim (y) 2))).setCell ⟨w.heap.size + 1, 7, none⟩ (.int .u64 (lim (y) 3))) (w.heap.size + 1) 9 (lv [.int .u64 (lim (x) 0), .int .u64 (lim (x) 1), .int .u64 (lim (x) 2), .int .u64 (lim (x) 3), .int .u64 (lim (y) 0), .int .u64 (lim (y) 1), .int .u64 (lim (y) 2), .int .u64 (lim (y) 3), .bool false]) := ((((Ap.set 4 (by omega) _).set 5 (by omega) _).set 6 (by omega) _).set 7 (by omega) _).congr (by intro j hj; have h : j = 0 ∨ j = 1 ∨ j = 2 ∨ j = 3 ∨ j = 4 ∨ j = 5 ∨ j = 6 ∨ j = 7 ∨ j = 8 := (by omega); rcases h with h | h | h | h | h | h | h | h | h <;> subst h <;> rfl)
  have Bo := Arr.other (Arr.other (Arr.other (Arr.other (b' := w.heap.size + 1) (k := 4) Ao (by have := Ao.lt; have := Ap.lt; omega) (.int .u64 (lim (y) 0))) (b' := w.heap.size + 1) (k := 5) (by have := Ao.lt; have := Ap.lt; omega) (.int .u64 (lim (y) 1))) (b' := w.heap.size + 1) (k := 6) (by have := Ao.lt; have := Ap.lt; omega) (.int .u64 (lim (y) 2))) (b' := w.heap.size + 1) (k := 7) (by have := Ao.lt; have := Ap.lt; omega) (.int .u64 (lim (y) 3))
  have hB' := (Bel.st (b := w.heap.size + 1) (k := 7) (Bel.st (b := w.heap.size + 1) (k := 6) (Bel.st (b := w.heap.size + 1) (k := 5) (Bel.st (b := w.heap.size + 1) (k := 4) hB (by have := hB.size; omega) (.int .u64 (lim (y) 0))) (by have := hB.size; omega) (.int .u64 (lim (y) 1))) (by have := hB.size; omega) (.int .u64 (lim (y) 2))) (by have := hB.size; omega) (.int .u64 (lim (y) 3)))
  clear Ao Ap hB
  have Ao := Bo
  have Ap := Bp
  have hB := hB'
  clear Bo Bp hB'
  have cp_0 := Ap.cv 0 (by omega) (.int .u64 (lim (x) 0)) rfl
  have cp_1 := Ap.cv 1 (by omega) (.int .u64 (lim (x) 1)) rfl
  have cp_2 := Ap.cv 2 (by omega) (.int .u64 (lim (x) 2)) rfl
  have cp_3 := Ap.cv 3 (by omega) (.int .u64 (lim (x) 3)) rfl
  have cp_4 := Ap.cv 4 (by omega) (.int .u64 (lim (y) 0)) rfl
  have cp_5 := Ap.cv 5 (by omega) (.int .u64 (lim (y) 1)) rfl
  have cp_6 := Ap.cv 6 (by omega) (.int .u64 (lim (y) 2)) rfl
  have cp_7 := Ap.cv 7 (by omega) (.int .u64 (lim (y) 3)) rfl
  have cp_8 := Ap.cv 8 (by omega) (.bool false) rfl
  go_wp2_with fail
  refine (C3 _).mono ?_
  rintro e w13 ⟨rfl, hb⟩
  have Bo := Arr.to' Ao hb
  have Bp := Arr.to' Ap hb
  have hB' := Bel.call hB hb
  clear hb cp_0 cp_1 cp_2 cp_3 cp_4 cp_5 cp_6 cp_7 cp_8 zp Ao Ap hB
  have Ao := Bo
  have Ap := Bp
  have hB := hB'
  clear Bo Bp hB'
  have cp_0 := Ap.cv 0 (by omega) (.int .u64 (lim (x) 0)) rfl
  have cp_1 := Ap.cv 1 (by omega) (.int .u64 (lim (x) 1)) rfl
  have cp_2 := Ap.cv 2 (by omega) (.int .u64 (lim (x) 2)) rfl
  have cp_3 := Ap.cv 3 (by omega) (.int .u64 (lim (x) 3)) rfl
  have cp_4 := Ap.cv 4 (by omega) (.int .u64 (lim (y) 0)) rfl
  have cp_5 := Ap.cv 5 (by omega) (.int .u64 (lim (y) 1)) rfl
  have cp_6 := Ap.cv 6 (by omega) (.int .u64 (lim (y) 2)) rfl
  have cp_7 := Ap.cv 7 (by omega) (.int .u64 (lim (y) 3)) rfl
  have cp_8 := Ap.cv 8 (by omega) (.bool false) rfl
  have hS := hB.size
  have co_0 := Ao.cv 0 (by omega) (.int .u64 0) rfl
  have co_1 := Ao.cv 1 (by omega) (.int .u64 0) rfl
  have co_2 := Ao.cv 2 (by omega) (.int .u64 0) rfl
  have co_3 := Ao.cv 3 (by omega) (.int .u64 0) rfl
  have co_4 := Ao.cv 4 (by omega) (.int .u64 0) rfl
  have co_5 := Ao.cv 5 (by omega) (.int .u64 0) rfl
  have co_6 := Ao.cv 6 (by omega) (.int .u64 0) rfl
  have co_7 := Ao.cv 7 (by omega) (.int .u64 0) rfl
  have co_8 := Ao.cv 8 (by omega) (.bool false) rfl
  have zo := Ao.z
  go_wp2_with fail
  refine bodyPost_ret (v := .tuple #[.agg #[.int .u64 0, .int .u64 0, .int .u64 0, .int .u64 0, .int .u64 0, .int .u64 0, .int .u64 0, .int .u64 0, .bool false], .int .i64 15]) (by simp [results, Try.results22, go_sem, co_0, co_1, co_2, co_3, co_4, co_5, co_6, co_7, co_8]) rfl ⟨rfl, ?_⟩
  go_grown
set_option maxHeartbeats 8000000 in
theorem from_yes (s u : ByteArray) (x y er f : Int) (w : World)
    (C1 : ∀ W, Calls Try.prog 42 #[.string s] W fun e w' => e = .returned (.tuple #[nv x, .int .i64 er]) ∧ Below W.heap.size W w')
    (C2 : ∀ W, Calls Try.prog 42 #[.string u] W fun e w' => e = .returned (.tuple #[nv y, .int .i64 f]) ∧ Below W.heap.size W w')
    (C3 : ∀ W, Calls Try.prog 11 #[pv x y false] W fun e w' => e = .returned (.bool true) ∧ Below W.heap.size W w') :
    Calls Try.prog 22 #[.string s, .string u] w fun e w' => e = .returned (.tuple #[pv x y false, .int .i64 0]) ∧ Below w.heap.size w w' := by
  go_enter Try.func22, Try.ntmps22
  have Bo := Arr.mk9p (w := ((w.alloc (.cells #[.int .u64 0, .int .u64 0, .int .u64 0, .int .u64 0, .int .u64 0, .int .u64 0, .int .u64 0, .int .u64 0, .bool false] 26)).alloc (.cells #[.int .u64 0, .int .u64 0, .int .u64 0, .int .u64 0, .int .u64 0, .int .u64 0, .int .u64 0, .int .u64 0, .bool false] 26))) (f := zx 8) (b := w.heap.size) (by simp [go_sem, px, sx, zx]) (by simp [go_sem, px, sx, zx]) (by simp [go_sem, px, sx, zx]) (by simp [go_sem, px, sx, zx]) (by simp [go_sem, px, sx, zx]) (by simp [go_sem, px, sx, zx]) (by simp [go_sem, px, sx, zx]) (by simp [go_sem, px, sx, zx]) (by simp [go_sem, px, sx, zx]) (by simp [go_sem, px, sx, zx])
  have Bp := Arr.mk9p (w := ((w.alloc (.cells #[.int .u64 0, .int .u64 0, .int .u64 0, .int .u64 0, .int .u64 0, .int .u64 0, .int .u64 0, .int .u64 0, .bool false] 26)).alloc (.cells #[.int .u64 0, .int .u64 0, .int .u64 0, .int .u64 0, .int .u64 0, .int .u64 0, .int .u64 0, .int .u64 0, .bool false] 26))) (f := zx 8) (b := w.heap.size + 1) (by simp [go_sem, px, sx, zx]) (by simp [go_sem, px, sx, zx]) (by simp [go_sem, px, sx, zx]) (by simp [go_sem, px, sx, zx]) (by simp [go_sem, px, sx, zx]) (by simp [go_sem, px, sx, zx]) (by simp [go_sem, px, sx, zx]) (by simp [go_sem, px, sx, zx]) (by simp [go_sem, px, sx, zx]) (by simp [go_sem, px, sx, zx])
  have hB' : Below w.heap.size w ((w.alloc (.cells #[.int .u64 0, .int .u64 0, .int .u64 0, .int .u64 0, .int .u64 0, .int .u64 0, .int .u64 0, .int .u64 0, .bool false] 26)).alloc (.cells #[.int .u64 0, .int .u64 0, .int .u64 0, .int .u64 0, .int .u64 0, .int .u64 0, .int .u64 0, .int .u64 0, .bool false] 26)) := by go_grown
  have Ao := Bo
  have Ap := Bp
  have hB := hB'
  clear Bo Bp hB'
  go_wp2_with fail
  refine (C1 _).mono ?_
  rintro e w1 ⟨rfl, hb⟩
  have Bo := Arr.to' Ao hb
  have Bp := Arr.to' Ap hb
  have hB' := Bel.call hB hb
  clear hb Ao Ap hB
  have Ao := Bo
  have Ap := Bp
  have hB := hB'
  clear Bo Bp hB'
  have cp_0 := Ap.cv 0 (by omega) (.int .u64 0) rfl
  have cp_1 := Ap.cv 1 (by omega) (.int .u64 0) rfl
  have cp_2 := Ap.cv 2 (by omega) (.int .u64 0) rfl
  have cp_3 := Ap.cv 3 (by omega) (.int .u64 0) rfl
  have cp_4 := Ap.cv 4 (by omega) (.int .u64 0) rfl
  have cp_5 := Ap.cv 5 (by omega) (.int .u64 0) rfl
  have cp_6 := Ap.cv 6 (by omega) (.int .u64 0) rfl
  have cp_7 := Ap.cv 7 (by omega) (.int .u64 0) rfl
  have cp_8 := Ap.cv 8 (by omega) (.bool false) rfl
  have zp := Ap.z
  have Bp : Arr (((((w1).setCell ⟨w.heap.size + 1, 0, none⟩ (.int .u64 (lim (x) 0))).setCell ⟨w.heap.size + 1, 1, none⟩ (.int .u64 (lim (x) 1))).setCell ⟨w.heap.size + 1, 2, none⟩ (.int .u64 (lim (x) 2))).setCell ⟨w.heap.size + 1, 3, none⟩ (.int .u64 (lim (x) 3))) (w.heap.size + 1) 9 (lv [.int .u64 (lim (x) 0), .int .u64 (lim (x) 1), .int .u64 (lim (x) 2), .int .u64 (lim (x) 3), .int .u64 0, .int .u64 0, .int .u64 0, .int .u64 0, .bool false]) := ((((Ap.set 0 (by omega) _).set 1 (by omega) _).set 2 (by omega) _).set 3 (by omega) _).congr (by intro j hj; have h : j = 0 ∨ j = 1 ∨ j = 2 ∨ j = 3 ∨ j = 4 ∨ j = 5 ∨ j = 6 ∨ j = 7 ∨ j = 8 := (by omega); rcases h with h | h | h | h | h | h | h | h | h <;> subst h <;> rfl)
  have Bo := Arr.other (Arr.other (Arr.other (Arr.other (b' := w.heap.size + 1) (k := 0) Ao (by have := Ao.lt; have := Ap.lt; omega) (.int .u64 (lim (x) 0))) (b' := w.heap.size + 1) (k := 1) (by have := Ao.lt; have := Ap.lt; omega) (.int .u64 (lim (x) 1))) (b' := w.heap.size + 1) (k := 2) (by have := Ao.lt; have := Ap.lt; omega) (.int .u64 (lim (x) 2))) (b' := w.heap.size + 1) (k := 3) (by have := Ao.lt; have := Ap.lt; omega) (.int .u64 (lim (x) 3))
  have hB' := (Bel.st (b := w.heap.size + 1) (k := 3) (Bel.st (b := w.heap.size + 1) (k := 2) (Bel.st (b := w.heap.size + 1) (k := 1) (Bel.st (b := w.heap.size + 1) (k := 0) hB (by have := hB.size; omega) (.int .u64 (lim (x) 0))) (by have := hB.size; omega) (.int .u64 (lim (x) 1))) (by have := hB.size; omega) (.int .u64 (lim (x) 2))) (by have := hB.size; omega) (.int .u64 (lim (x) 3)))
  clear Ao Ap hB
  have Ao := Bo
  have Ap := Bp
  have hB := hB'
  clear Bo Bp hB'
  go_wp2_with fail
  refine (C2 _).mono ?_
  rintro e w12 ⟨rfl, hb⟩
  have Bo := Arr.to' Ao hb
  have Bp := Arr.to' Ap hb
  have hB' := Bel.call hB hb
  clear hb cp_0 cp_1 cp_2 cp_3 cp_4 cp_5 cp_6 cp_7 cp_8 zp Ao Ap hB
  have Ao := Bo
  have Ap := Bp
  have hB := hB'
  clear Bo Bp hB'
  have cp_0 := Ap.cv 0 (by omega) (.int .u64 (lim (x) 0)) rfl
  have cp_1 := Ap.cv 1 (by omega) (.int .u64 (lim (x) 1)) rfl
  have cp_2 := Ap.cv 2 (by omega) (.int .u64 (lim (x) 2)) rfl
  have cp_3 := Ap.cv 3 (by omega) (.int .u64 (lim (x) 3)) rfl
  have cp_4 := Ap.cv 4 (by omega) (.int .u64 0) rfl
  have cp_5 := Ap.cv 5 (by omega) (.int .u64 0) rfl
  have cp_6 := Ap.cv 6 (by omega) (.int .u64 0) rfl
  have cp_7 := Ap.cv 7 (by omega) (.int .u64 0) rfl
  have cp_8 := Ap.cv 8 (by omega) (.bool false) rfl
  have zp := Ap.z
  have Bp : Arr (((((w12).setCell ⟨w.heap.size + 1, 4, none⟩ (.int .u64 (lim (y) 0))).setCell ⟨w.heap.size + 1, 5, none⟩ (.int .u64 (lim (y) 1))).setCell ⟨w.heap.size + 1, 6, none⟩ (.int .u64 (lim (y) 2))).setCell ⟨w.heap.size + 1, 7, none⟩ (.int .u64 (lim (y) 3))) (w.heap.size + 1) 9 (lv [.int .u64 (lim (x) 0), .int .u64 (lim (x) 1), .int .u64 (lim (x) 2), .int .u64 (lim (x) 3), .int .u64 (lim (y) 0), .int .u64 (lim (y) 1), .int .u64 (lim (y) 2), .int .u64 (lim (y) 3), .bool false]) := ((((Ap.set 4 (by omega) _).set 5 (by omega) _).set 6 (by omega) _).set 7 (by omega) _).congr (by intro j hj; have h : j = 0 ∨ j = 1 ∨ j = 2 ∨ j = 3 ∨ j = 4 ∨ j = 5 ∨ j = 6 ∨ j = 7 ∨ j = 8 := (by omega); rcases h with h | h | h | h | h | h | h | h | h <;> subst h <;> rfl)
  have Bo := Arr.other (Arr.other (Arr.other (Arr.other (b' := w.heap.size + 1) (k := 4) Ao (by have := Ao.lt; have := Ap.lt; omega) (.int .u64 (lim (y) 0))) (b' := w.heap.size + 1) (k := 5) (by have := Ao.lt; have := Ap.lt; omega) (.int .u64 (lim (y) 1))) (b' := w.heap.size + 1) (k := 6) (by have := Ao.lt; have := Ap.lt; omega) (.int .u64 (lim (y) 2))) (b' := w.heap.size + 1) (k := 7) (by have := Ao.lt; have := Ap.lt; omega) (.int .u64 (lim (y) 3))
  have hB' := (Bel.st (b := w.heap.size + 1) (k := 7) (Bel.st (b := w.heap.size + 1) (k := 6) (Bel.st (b := w.heap.size + 1) (k := 5) (Bel.st (b := w.heap.size + 1) (k := 4) hB (by have := hB.size; omega) (.int .u64 (lim (y) 0))) (by have := hB.size; omega) (.int .u64 (lim (y) 1))) (by have := hB.size; omega) (.int .u64 (lim (y) 2))) (by have := hB.size; omega) (.int .u64 (lim (y) 3)))
  clear Ao Ap hB
  have Ao := Bo
  have Ap := Bp
  have hB := hB'
  clear Bo Bp hB'
  have cp_0 := Ap.cv 0 (by omega) (.int .u64 (lim (x) 0)) rfl
  have cp_1 := Ap.cv 1 (by omega) (.int .u64 (lim (x) 1)) rfl
  have cp_2 := Ap.cv 2 (by omega) (.int .u64 (lim (x) 2)) rfl
  have cp_3 := Ap.cv 3 (by omega) (.int .u64 (lim (x) 3)) rfl
  have cp_4 := Ap.cv 4 (by omega) (.int .u64 (lim (y) 0)) rfl
  have cp_5 := Ap.cv 5 (by omega) (.int .u64 (lim (y) 1)) rfl
  have cp_6 := Ap.cv 6 (by omega) (.int .u64 (lim (y) 2)) rfl
  have cp_7 := Ap.cv 7 (by omega) (.int .u64 (lim (y) 3)) rfl
  have cp_8 := Ap.cv 8 (by omega) (.bool false) rfl
  go_wp2_with fail
  refine (C3 _).mono ?_
  rintro e w13 ⟨rfl, hb⟩
  have Bo := Arr.to' Ao hb
  have Bp := Arr.to' Ap hb
  have hB' := Bel.call hB hb
  clear hb cp_0 cp_1 cp_2 cp_3 cp_4 cp_5 cp_6 cp_7 cp_8 zp Ao Ap hB
  have Ao := Bo
  have Ap := Bp
  have hB := hB'
  clear Bo Bp hB'
  have cp_0 := Ap.cv 0 (by omega) (.int .u64 (lim (x) 0)) rfl
  have cp_1 := Ap.cv 1 (by omega) (.int .u64 (lim (x) 1)) rfl
  have cp_2 := Ap.cv 2 (by omega) (.int .u64 (lim (x) 2)) rfl
  have cp_3 := Ap.cv 3 (by omega) (.int .u64 (lim (x) 3)) rfl
  have cp_4 := Ap.cv 4 (by omega) (.int .u64 (lim (y) 0)) rfl
  have cp_5 := Ap.cv 5 (by omega) (.int .u64 (lim (y) 1)) rfl
  have cp_6 := Ap.cv 6 (by omega) (.int .u64 (lim (y) 2)) rfl
  have cp_7 := Ap.cv 7 (by omega) (.int .u64 (lim (y) 3)) rfl
  have cp_8 := Ap.cv 8 (by omega) (.bool false) rfl
  have hS := hB.size
  have co_0 := Ao.cv 0 (by omega) (.int .u64 0) rfl
  have co_1 := Ao.cv 1 (by omega) (.int .u64 0) rfl
  have co_2 := Ao.cv 2 (by omega) (.int .u64 0) rfl
  have co_3 := Ao.cv 3 (by omega) (.int .u64 0) rfl
  have co_4 := Ao.cv 4 (by omega) (.int .u64 0) rfl
  have co_5 := Ao.cv 5 (by omega) (.int .u64 0) rfl
  have co_6 := Ao.cv 6 (by omega) (.int .u64 0) rfl
  have co_7 := Ao.cv 7 (by omega) (.int .u64 0) rfl
  have co_8 := Ao.cv 8 (by omega) (.bool false) rfl
  have zo := Ao.z
  go_wp2_with fail
  refine bodyPost_ret (v := .tuple #[pv x y false, .int .i64 0]) (by simp [results, Try.results22, go_sem, co_0, co_1, co_2, co_3, co_4, co_5, co_6, co_7, co_8]) rfl ⟨rfl, ?_⟩
  go_grown
set_option maxHeartbeats 8000000 in
theorem dec_0 (s : ByteArray) (hs : s.size ≤ maxLen) (hE : (s.toList == ([] : List UInt8)) = true) (w : World) :
    Calls Try.prog 7 #[.string s] w fun e w' => e = .returned (.tuple #[.agg #[.int .u64 0, .int .u64 0, .int .u64 0, .int .u64 0, .int .u64 0, .int .u64 0, .int .u64 0, .int .u64 0, .bool false], .int .i64 11]) ∧ Below w.heap.size w w' := by
  unfold maxLen at hs
  go_enter Try.func7, Try.ntmps7
  have Bo := Arr.mk9p (w := (w.alloc (.cells #[.int .u64 0, .int .u64 0, .int .u64 0, .int .u64 0, .int .u64 0, .int .u64 0, .int .u64 0, .int .u64 0, .bool false] 26))) (f := zx 8) (b := w.heap.size) (by simp [go_sem, px, sx, zx]) (by simp [go_sem, px, sx, zx]) (by simp [go_sem, px, sx, zx]) (by simp [go_sem, px, sx, zx]) (by simp [go_sem, px, sx, zx]) (by simp [go_sem, px, sx, zx]) (by simp [go_sem, px, sx, zx]) (by simp [go_sem, px, sx, zx]) (by simp [go_sem, px, sx, zx]) (by simp [go_sem, px, sx, zx])
  have hB' : Below w.heap.size w (w.alloc (.cells #[.int .u64 0, .int .u64 0, .int .u64 0, .int .u64 0, .int .u64 0, .int .u64 0, .int .u64 0, .int .u64 0, .bool false] 26)) := by go_grown
  have Ao := Bo
  have hB := hB'
  clear Bo hB'
  have hS := hB.size
  have co_0 := Ao.cv 0 (by omega) (.int .u64 0) rfl
  have co_1 := Ao.cv 1 (by omega) (.int .u64 0) rfl
  have co_2 := Ao.cv 2 (by omega) (.int .u64 0) rfl
  have co_3 := Ao.cv 3 (by omega) (.int .u64 0) rfl
  have co_4 := Ao.cv 4 (by omega) (.int .u64 0) rfl
  have co_5 := Ao.cv 5 (by omega) (.int .u64 0) rfl
  have co_6 := Ao.cv 6 (by omega) (.int .u64 0) rfl
  have co_7 := Ao.cv 7 (by omega) (.int .u64 0) rfl
  have co_8 := Ao.cv 8 (by omega) (.bool false) rfl
  have zo := Ao.z
  go_wp2_with fail
  refine bodyPost_ret (v := .tuple #[.agg #[.int .u64 0, .int .u64 0, .int .u64 0, .int .u64 0, .int .u64 0, .int .u64 0, .int .u64 0, .int .u64 0, .bool false], .int .i64 11]) (by simp [results, Try.results7, go_sem, co_0, co_1, co_2, co_3, co_4, co_5, co_6, co_7, co_8]) rfl ⟨rfl, ?_⟩
  go_grown
set_option maxHeartbeats 8000000 in
theorem rdec_0 (s : ByteArray) (hs : s.size ≤ maxLen) (hE : (s.toList == ([] : List UInt8)) = true) (w : World) :
    Calls Try.prog 8 #[.string s] w fun e w' => e = .returned (.tuple #[.agg #[.int .u64 0, .int .u64 0, .int .u64 0, .int .u64 0, .int .u64 0, .int .u64 0, .int .u64 0, .int .u64 0, .bool false], .int .i64 11]) ∧ Below w.heap.size w w' := by
  unfold maxLen at hs
  go_enter Try.func8, Try.ntmps8
  have Bo := Arr.mk9p (w := (w.alloc (.cells #[.int .u64 0, .int .u64 0, .int .u64 0, .int .u64 0, .int .u64 0, .int .u64 0, .int .u64 0, .int .u64 0, .bool false] 26))) (f := zx 8) (b := w.heap.size) (by simp [go_sem, px, sx, zx]) (by simp [go_sem, px, sx, zx]) (by simp [go_sem, px, sx, zx]) (by simp [go_sem, px, sx, zx]) (by simp [go_sem, px, sx, zx]) (by simp [go_sem, px, sx, zx]) (by simp [go_sem, px, sx, zx]) (by simp [go_sem, px, sx, zx]) (by simp [go_sem, px, sx, zx]) (by simp [go_sem, px, sx, zx])
  have hB' : Below w.heap.size w (w.alloc (.cells #[.int .u64 0, .int .u64 0, .int .u64 0, .int .u64 0, .int .u64 0, .int .u64 0, .int .u64 0, .int .u64 0, .bool false] 26)) := by go_grown
  have Ao := Bo
  have hB := hB'
  clear Bo hB'
  have hS := hB.size
  have co_0 := Ao.cv 0 (by omega) (.int .u64 0) rfl
  have co_1 := Ao.cv 1 (by omega) (.int .u64 0) rfl
  have co_2 := Ao.cv 2 (by omega) (.int .u64 0) rfl
  have co_3 := Ao.cv 3 (by omega) (.int .u64 0) rfl
  have co_4 := Ao.cv 4 (by omega) (.int .u64 0) rfl
  have co_5 := Ao.cv 5 (by omega) (.int .u64 0) rfl
  have co_6 := Ao.cv 6 (by omega) (.int .u64 0) rfl
  have co_7 := Ao.cv 7 (by omega) (.int .u64 0) rfl
  have co_8 := Ao.cv 8 (by omega) (.bool false) rfl
  have zo := Ao.z
  go_wp2_with fail
  refine bodyPost_ret (v := .tuple #[.agg #[.int .u64 0, .int .u64 0, .int .u64 0, .int .u64 0, .int .u64 0, .int .u64 0, .int .u64 0, .int .u64 0, .bool false], .int .i64 11]) (by simp [results, Try.results8, go_sem, co_0, co_1, co_2, co_3, co_4, co_5, co_6, co_7, co_8]) rfl ⟨rfl, ?_⟩
  go_grown
set_option maxHeartbeats 8000000 in
theorem dec_1 (s : ByteArray) (hs : s.size ≤ maxLen) (h0 : 0 < s.size) (hE : (s.toList == ([] : List UInt8)) = false) (hb : (bt s 0 == 4) = false) (w : World) :
    Calls Try.prog 7 #[.string s] w fun e w' => e = .returned (.tuple #[.agg #[.int .u64 0, .int .u64 0, .int .u64 0, .int .u64 0, .int .u64 0, .int .u64 0, .int .u64 0, .int .u64 0, .bool false], .int .i64 10]) ∧ Below w.heap.size w w' := by
  unfold maxLen at hs
  have ix : ∀ W, (Instr.index 9 (.string s) (.int .i64 0)).run Try.prog W = .ok (.int .u8 (bt s 0)) W := fun W => idxS s 0 h0 W
  go_enter Try.func7, Try.ntmps7
  have Bo := Arr.mk9p (w := (w.alloc (.cells #[.int .u64 0, .int .u64 0, .int .u64 0, .int .u64 0, .int .u64 0, .int .u64 0, .int .u64 0, .int .u64 0, .bool false] 26))) (f := zx 8) (b := w.heap.size) (by simp [go_sem, px, sx, zx]) (by simp [go_sem, px, sx, zx]) (by simp [go_sem, px, sx, zx]) (by simp [go_sem, px, sx, zx]) (by simp [go_sem, px, sx, zx]) (by simp [go_sem, px, sx, zx]) (by simp [go_sem, px, sx, zx]) (by simp [go_sem, px, sx, zx]) (by simp [go_sem, px, sx, zx]) (by simp [go_sem, px, sx, zx])
  have hB' : Below w.heap.size w (w.alloc (.cells #[.int .u64 0, .int .u64 0, .int .u64 0, .int .u64 0, .int .u64 0, .int .u64 0, .int .u64 0, .int .u64 0, .bool false] 26)) := by go_grown
  have Ao := Bo
  have hB := hB'
  clear Bo hB'
  have hS := hB.size
  have co_0 := Ao.cv 0 (by omega) (.int .u64 0) rfl
  have co_1 := Ao.cv 1 (by omega) (.int .u64 0) rfl
  have co_2 := Ao.cv 2 (by omega) (.int .u64 0) rfl
  have co_3 := Ao.cv 3 (by omega) (.int .u64 0) rfl
  have co_4 := Ao.cv 4 (by omega) (.int .u64 0) rfl
  have co_5 := Ao.cv 5 (by omega) (.int .u64 0) rfl
  have co_6 := Ao.cv 6 (by omega) (.int .u64 0) rfl
  have co_7 := Ao.cv 7 (by omega) (.int .u64 0) rfl
  have co_8 := Ao.cv 8 (by omega) (.bool false) rfl
  have zo := Ao.z
  go_wp2_with fail
  refine bodyPost_ret (v := .tuple #[.agg #[.int .u64 0, .int .u64 0, .int .u64 0, .int .u64 0, .int .u64 0, .int .u64 0, .int .u64 0, .int .u64 0, .bool false], .int .i64 10]) (by simp [results, Try.results7, go_sem, co_0, co_1, co_2, co_3, co_4, co_5, co_6, co_7, co_8]) rfl ⟨rfl, ?_⟩
  go_grown
set_option maxHeartbeats 8000000 in
theorem dec_2 (s : ByteArray) (hs : s.size ≤ maxLen) (h0 : 0 < s.size) (hE : (s.toList == ([] : List UInt8)) = false) (hb : (bt s 0 == 4) = true) (hn : (s.size : Int) < 65) (w : World) :
    Calls Try.prog 7 #[.string s] w fun e w' => e = .returned (.tuple #[.agg #[.int .u64 0, .int .u64 0, .int .u64 0, .int .u64 0, .int .u64 0, .int .u64 0, .int .u64 0, .int .u64 0, .bool false], .int .i64 11]) ∧ Below w.heap.size w w' := by
  unfold maxLen at hs
  have ix : ∀ W, (Instr.index 9 (.string s) (.int .i64 0)).run Try.prog W = .ok (.int .u8 (bt s 0)) W := fun W => idxS s 0 h0 W
  go_enter Try.func7, Try.ntmps7
  have hn' : ¬ (65 : Int) < (s.size : Int) := by omega
  have hb' : bt s 0 = 4 := by simpa using hb
  have Bo := Arr.mk9p (w := (w.alloc (.cells #[.int .u64 0, .int .u64 0, .int .u64 0, .int .u64 0, .int .u64 0, .int .u64 0, .int .u64 0, .int .u64 0, .bool false] 26))) (f := zx 8) (b := w.heap.size) (by simp [go_sem, px, sx, zx]) (by simp [go_sem, px, sx, zx]) (by simp [go_sem, px, sx, zx]) (by simp [go_sem, px, sx, zx]) (by simp [go_sem, px, sx, zx]) (by simp [go_sem, px, sx, zx]) (by simp [go_sem, px, sx, zx]) (by simp [go_sem, px, sx, zx]) (by simp [go_sem, px, sx, zx]) (by simp [go_sem, px, sx, zx])
  have hB' : Below w.heap.size w (w.alloc (.cells #[.int .u64 0, .int .u64 0, .int .u64 0, .int .u64 0, .int .u64 0, .int .u64 0, .int .u64 0, .int .u64 0, .bool false] 26)) := by go_grown
  have Ao := Bo
  have hB := hB'
  clear Bo hB'
  have hS := hB.size
  have co_0 := Ao.cv 0 (by omega) (.int .u64 0) rfl
  have co_1 := Ao.cv 1 (by omega) (.int .u64 0) rfl
  have co_2 := Ao.cv 2 (by omega) (.int .u64 0) rfl
  have co_3 := Ao.cv 3 (by omega) (.int .u64 0) rfl
  have co_4 := Ao.cv 4 (by omega) (.int .u64 0) rfl
  have co_5 := Ao.cv 5 (by omega) (.int .u64 0) rfl
  have co_6 := Ao.cv 6 (by omega) (.int .u64 0) rfl
  have co_7 := Ao.cv 7 (by omega) (.int .u64 0) rfl
  have co_8 := Ao.cv 8 (by omega) (.bool false) rfl
  have zo := Ao.z
  go_wp2_with fail
  refine bodyPost_ret (v := .tuple #[.agg #[.int .u64 0, .int .u64 0, .int .u64 0, .int .u64 0, .int .u64 0, .int .u64 0, .int .u64 0, .int .u64 0, .bool false], .int .i64 11]) (by simp [results, Try.results7, go_sem, co_0, co_1, co_2, co_3, co_4, co_5, co_6, co_7, co_8]) rfl ⟨rfl, ?_⟩
  go_grown
set_option maxHeartbeats 8000000 in
theorem dec_3 (s : ByteArray) (hs : s.size ≤ maxLen) (h0 : 0 < s.size) (hE : (s.toList == ([] : List UInt8)) = false) (hb : (bt s 0 == 4) = true) (hn : 65 < (s.size : Int)) (w : World) :
    Calls Try.prog 7 #[.string s] w fun e w' => e = .returned (.tuple #[.agg #[.int .u64 0, .int .u64 0, .int .u64 0, .int .u64 0, .int .u64 0, .int .u64 0, .int .u64 0, .int .u64 0, .bool false], .int .i64 12]) ∧ Below w.heap.size w w' := by
  unfold maxLen at hs
  have ix : ∀ W, (Instr.index 9 (.string s) (.int .i64 0)).run Try.prog W = .ok (.int .u8 (bt s 0)) W := fun W => idxS s 0 h0 W
  go_enter Try.func7, Try.ntmps7
  have hn' : ¬ (s.size : Int) < 65 := by omega
  have hb' : bt s 0 = 4 := by simpa using hb
  have Bo := Arr.mk9p (w := (w.alloc (.cells #[.int .u64 0, .int .u64 0, .int .u64 0, .int .u64 0, .int .u64 0, .int .u64 0, .int .u64 0, .int .u64 0, .bool false] 26))) (f := zx 8) (b := w.heap.size) (by simp [go_sem, px, sx, zx]) (by simp [go_sem, px, sx, zx]) (by simp [go_sem, px, sx, zx]) (by simp [go_sem, px, sx, zx]) (by simp [go_sem, px, sx, zx]) (by simp [go_sem, px, sx, zx]) (by simp [go_sem, px, sx, zx]) (by simp [go_sem, px, sx, zx]) (by simp [go_sem, px, sx, zx]) (by simp [go_sem, px, sx, zx])
  have hB' : Below w.heap.size w (w.alloc (.cells #[.int .u64 0, .int .u64 0, .int .u64 0, .int .u64 0, .int .u64 0, .int .u64 0, .int .u64 0, .int .u64 0, .bool false] 26)) := by go_grown
  have Ao := Bo
  have hB := hB'
  clear Bo hB'
  have hS := hB.size
  have co_0 := Ao.cv 0 (by omega) (.int .u64 0) rfl
  have co_1 := Ao.cv 1 (by omega) (.int .u64 0) rfl
  have co_2 := Ao.cv 2 (by omega) (.int .u64 0) rfl
  have co_3 := Ao.cv 3 (by omega) (.int .u64 0) rfl
  have co_4 := Ao.cv 4 (by omega) (.int .u64 0) rfl
  have co_5 := Ao.cv 5 (by omega) (.int .u64 0) rfl
  have co_6 := Ao.cv 6 (by omega) (.int .u64 0) rfl
  have co_7 := Ao.cv 7 (by omega) (.int .u64 0) rfl
  have co_8 := Ao.cv 8 (by omega) (.bool false) rfl
  have zo := Ao.z
  go_wp2_with fail
  refine bodyPost_ret (v := .tuple #[.agg #[.int .u64 0, .int .u64 0, .int .u64 0, .int .u64 0, .int .u64 0, .int .u64 0, .int .u64 0, .int .u64 0, .bool false], .int .i64 12]) (by simp [results, Try.results7, go_sem, co_0, co_1, co_2, co_3, co_4, co_5, co_6, co_7, co_8]) rfl ⟨rfl, ?_⟩
  go_grown
set_option maxHeartbeats 8000000 in
theorem rdec_1 (s : ByteArray) (hs : s.size ≤ maxLen) (h0 : 0 < s.size) (hE : (s.toList == ([] : List UInt8)) = false) (hb : (bt s 0 == 4) = false) (w : World) :
    Calls Try.prog 8 #[.string s] w fun e w' => e = .returned (.tuple #[.agg #[.int .u64 0, .int .u64 0, .int .u64 0, .int .u64 0, .int .u64 0, .int .u64 0, .int .u64 0, .int .u64 0, .bool false], .int .i64 10]) ∧ Below w.heap.size w w' := by
  unfold maxLen at hs
  have ix : ∀ W, (Instr.index 9 (.string s) (.int .i64 0)).run Try.prog W = .ok (.int .u8 (bt s 0)) W := fun W => idxS s 0 h0 W
  go_enter Try.func8, Try.ntmps8
  have Bo := Arr.mk9p (w := (w.alloc (.cells #[.int .u64 0, .int .u64 0, .int .u64 0, .int .u64 0, .int .u64 0, .int .u64 0, .int .u64 0, .int .u64 0, .bool false] 26))) (f := zx 8) (b := w.heap.size) (by simp [go_sem, px, sx, zx]) (by simp [go_sem, px, sx, zx]) (by simp [go_sem, px, sx, zx]) (by simp [go_sem, px, sx, zx]) (by simp [go_sem, px, sx, zx]) (by simp [go_sem, px, sx, zx]) (by simp [go_sem, px, sx, zx]) (by simp [go_sem, px, sx, zx]) (by simp [go_sem, px, sx, zx]) (by simp [go_sem, px, sx, zx])
  have hB' : Below w.heap.size w (w.alloc (.cells #[.int .u64 0, .int .u64 0, .int .u64 0, .int .u64 0, .int .u64 0, .int .u64 0, .int .u64 0, .int .u64 0, .bool false] 26)) := by go_grown
  have Ao := Bo
  have hB := hB'
  clear Bo hB'
  have hS := hB.size
  have co_0 := Ao.cv 0 (by omega) (.int .u64 0) rfl
  have co_1 := Ao.cv 1 (by omega) (.int .u64 0) rfl
  have co_2 := Ao.cv 2 (by omega) (.int .u64 0) rfl
  have co_3 := Ao.cv 3 (by omega) (.int .u64 0) rfl
  have co_4 := Ao.cv 4 (by omega) (.int .u64 0) rfl
  have co_5 := Ao.cv 5 (by omega) (.int .u64 0) rfl
  have co_6 := Ao.cv 6 (by omega) (.int .u64 0) rfl
  have co_7 := Ao.cv 7 (by omega) (.int .u64 0) rfl
  have co_8 := Ao.cv 8 (by omega) (.bool false) rfl
  have zo := Ao.z
  go_wp2_with fail
  refine bodyPost_ret (v := .tuple #[.agg #[.int .u64 0, .int .u64 0, .int .u64 0, .int .u64 0, .int .u64 0, .int .u64 0, .int .u64 0, .int .u64 0, .bool false], .int .i64 10]) (by simp [results, Try.results8, go_sem, co_0, co_1, co_2, co_3, co_4, co_5, co_6, co_7, co_8]) rfl ⟨rfl, ?_⟩
  go_grown
set_option maxHeartbeats 8000000 in
theorem rdec_2 (s : ByteArray) (hs : s.size ≤ maxLen) (h0 : 0 < s.size) (hE : (s.toList == ([] : List UInt8)) = false) (hb : (bt s 0 == 4) = true) (hn : (s.size : Int) < 65) (w : World) :
    Calls Try.prog 8 #[.string s] w fun e w' => e = .returned (.tuple #[.agg #[.int .u64 0, .int .u64 0, .int .u64 0, .int .u64 0, .int .u64 0, .int .u64 0, .int .u64 0, .int .u64 0, .bool false], .int .i64 11]) ∧ Below w.heap.size w w' := by
  unfold maxLen at hs
  have ix : ∀ W, (Instr.index 9 (.string s) (.int .i64 0)).run Try.prog W = .ok (.int .u8 (bt s 0)) W := fun W => idxS s 0 h0 W
  go_enter Try.func8, Try.ntmps8
  have hn' : ¬ (65 : Int) < (s.size : Int) := by omega
  have hb' : bt s 0 = 4 := by simpa using hb
  have Bo := Arr.mk9p (w := (w.alloc (.cells #[.int .u64 0, .int .u64 0, .int .u64 0, .int .u64 0, .int .u64 0, .int .u64 0, .int .u64 0, .int .u64 0, .bool false] 26))) (f := zx 8) (b := w.heap.size) (by simp [go_sem, px, sx, zx]) (by simp [go_sem, px, sx, zx]) (by simp [go_sem, px, sx, zx]) (by simp [go_sem, px, sx, zx]) (by simp [go_sem, px, sx, zx]) (by simp [go_sem, px, sx, zx]) (by simp [go_sem, px, sx, zx]) (by simp [go_sem, px, sx, zx]) (by simp [go_sem, px, sx, zx]) (by simp [go_sem, px, sx, zx])
  have hB' : Below w.heap.size w (w.alloc (.cells #[.int .u64 0, .int .u64 0, .int .u64 0, .int .u64 0, .int .u64 0, .int .u64 0, .int .u64 0, .int .u64 0, .bool false] 26)) := by go_grown
  have Ao := Bo
  have hB := hB'
  clear Bo hB'
  have hS := hB.size
  have co_0 := Ao.cv 0 (by omega) (.int .u64 0) rfl
  have co_1 := Ao.cv 1 (by omega) (.int .u64 0) rfl
  have co_2 := Ao.cv 2 (by omega) (.int .u64 0) rfl
  have co_3 := Ao.cv 3 (by omega) (.int .u64 0) rfl
  have co_4 := Ao.cv 4 (by omega) (.int .u64 0) rfl
  have co_5 := Ao.cv 5 (by omega) (.int .u64 0) rfl
  have co_6 := Ao.cv 6 (by omega) (.int .u64 0) rfl
  have co_7 := Ao.cv 7 (by omega) (.int .u64 0) rfl
  have co_8 := Ao.cv 8 (by omega) (.bool false) rfl
  have zo := Ao.z
  go_wp2_with fail
  refine bodyPost_ret (v := .tuple #[.agg #[.int .u64 0, .int .u64 0, .int .u64 0, .int .u64 0, .int .u64 0, .int .u64 0, .int .u64 0, .int .u64 0, .bool false], .int .i64 11]) (by simp [results, Try.results8, go_sem, co_0, co_1, co_2, co_3, co_4, co_5, co_6, co_7, co_8]) rfl ⟨rfl, ?_⟩
  go_grown
set_option maxHeartbeats 8000000 in
theorem rdec_3 (s : ByteArray) (hs : s.size ≤ maxLen) (h0 : 0 < s.size) (hE : (s.toList == ([] : List UInt8)) = false) (hb : (bt s 0 == 4) = true) (hn : 65 < (s.size : Int)) (w : World) :
    Calls Try.prog 8 #[.string s] w fun e w' => e = .returned (.tuple #[.agg #[.int .u64 0, .int .u64 0, .int .u64 0, .int .u64 0, .int .u64 0, .int .u64 0, .int .u64 0, .int .u64 0, .bool false], .int .i64 12]) ∧ Below w.heap.size w w' := by
  unfold maxLen at hs
  have ix : ∀ W, (Instr.index 9 (.string s) (.int .i64 0)).run Try.prog W = .ok (.int .u8 (bt s 0)) W := fun W => idxS s 0 h0 W
  go_enter Try.func8, Try.ntmps8
  have hn' : ¬ (s.size : Int) < 65 := by omega
  have hb' : bt s 0 = 4 := by simpa using hb
  have Bo := Arr.mk9p (w := (w.alloc (.cells #[.int .u64 0, .int .u64 0, .int .u64 0, .int .u64 0, .int .u64 0, .int .u64 0, .int .u64 0, .int .u64 0, .bool false] 26))) (f := zx 8) (b := w.heap.size) (by simp [go_sem, px, sx, zx]) (by simp [go_sem, px, sx, zx]) (by simp [go_sem, px, sx, zx]) (by simp [go_sem, px, sx, zx]) (by simp [go_sem, px, sx, zx]) (by simp [go_sem, px, sx, zx]) (by simp [go_sem, px, sx, zx]) (by simp [go_sem, px, sx, zx]) (by simp [go_sem, px, sx, zx]) (by simp [go_sem, px, sx, zx])
  have hB' : Below w.heap.size w (w.alloc (.cells #[.int .u64 0, .int .u64 0, .int .u64 0, .int .u64 0, .int .u64 0, .int .u64 0, .int .u64 0, .int .u64 0, .bool false] 26)) := by go_grown
  have Ao := Bo
  have hB := hB'
  clear Bo hB'
  have hS := hB.size
  have co_0 := Ao.cv 0 (by omega) (.int .u64 0) rfl
  have co_1 := Ao.cv 1 (by omega) (.int .u64 0) rfl
  have co_2 := Ao.cv 2 (by omega) (.int .u64 0) rfl
  have co_3 := Ao.cv 3 (by omega) (.int .u64 0) rfl
  have co_4 := Ao.cv 4 (by omega) (.int .u64 0) rfl
  have co_5 := Ao.cv 5 (by omega) (.int .u64 0) rfl
  have co_6 := Ao.cv 6 (by omega) (.int .u64 0) rfl
  have co_7 := Ao.cv 7 (by omega) (.int .u64 0) rfl
  have co_8 := Ao.cv 8 (by omega) (.bool false) rfl
  have zo := Ao.z
  go_wp2_with fail
  refine bodyPost_ret (v := .tuple #[.agg #[.int .u64 0, .int .u64 0, .int .u64 0, .int .u64 0, .int .u64 0, .int .u64 0, .int .u64 0, .int .u64 0, .bool false], .int .i64 12]) (by simp [results, Try.results8, go_sem, co_0, co_1, co_2, co_3, co_4, co_5, co_6, co_7, co_8]) rfl ⟨rfl, ?_⟩
  go_grown
set_option maxHeartbeats 8000000 in
theorem dec_4 (s : ByteArray) (hs : s.size ≤ maxLen) (h0 : 0 < s.size) (hE : (s.toList == ([] : List UInt8)) = false) (hb : (bt s 0 == 4) = true) (hn : (s.size : Int) = 65) (x y er : Int) (i : Bool) (w : World)
    (C1 : ∀ W, Calls Try.prog 22 #[.string (s.extract 1 33), .string (s.extract 33 65)] W fun e w' => e = .returned (.tuple #[pv x y i, .int .i64 er]) ∧ Below W.heap.size W w') :
    Calls Try.prog 7 #[.string s] w fun e w' => e = .returned (.tuple #[pv x y i, .int .i64 er]) ∧ Below w.heap.size w w' := by
  unfold maxLen at hs
  have ix : ∀ W, (Instr.index 9 (.string s) (.int .i64 0)).run Try.prog W = .ok (.int .u8 (bt s 0)) W := fun W => idxS s 0 h0 W
  go_enter Try.func7, Try.ntmps7
  have hn' : ¬ (s.size : Int) < 65 := by omega
  have hn'' : ¬ (65 : Int) < (s.size : Int) := by omega
  have hb' : bt s 0 = 4 := by simpa using hb
  have sl1 : ∀ W, (Instr.slice 9 (.string s) (some (.int .i64 1)) (some (.int .i64 33)) none).run Try.prog W = .ok (.string (s.extract 1 33)) W := fun W => run_slice_string W 9 s .i64 .i64 1 33 Try.underlying9 (by omega) (by omega) (by omega)
  have sl2 : ∀ W, (Instr.slice 9 (.string s) (some (.int .i64 33)) none none).run Try.prog W = .ok (.string (s.extract 33 65)) W := fun W => by rw [show 65 = s.size by omega]; exact run_slice_string_l W 9 s Try.underlying9 .i64 33 (by omega) (by omega)
  go_wp2_with fail
  have Bo := Arr.mk9p (w := (w.alloc (.cells #[.int .u64 0, .int .u64 0, .int .u64 0, .int .u64 0, .int .u64 0, .int .u64 0, .int .u64 0, .int .u64 0, .bool false] 26))) (f := zx 8) (b := w.heap.size) (by simp [go_sem, px, sx, zx]) (by simp [go_sem, px, sx, zx]) (by simp [go_sem, px, sx, zx]) (by simp [go_sem, px, sx, zx]) (by simp [go_sem, px, sx, zx]) (by simp [go_sem, px, sx, zx]) (by simp [go_sem, px, sx, zx]) (by simp [go_sem, px, sx, zx]) (by simp [go_sem, px, sx, zx]) (by simp [go_sem, px, sx, zx])
  have hB' : Below w.heap.size w (w.alloc (.cells #[.int .u64 0, .int .u64 0, .int .u64 0, .int .u64 0, .int .u64 0, .int .u64 0, .int .u64 0, .int .u64 0, .bool false] 26)) := by go_grown
  have Ao := Bo
  have hB := hB'
  clear Bo hB'
  apply wp_region_pure_tail0 5 2 #[true, true, true, true, true, false, false, false, false] #[true, true, true, true, true, true, true, false, false] (by kernel_rfl) (by intro c d v a w h; cases d <;> exact h) (by kernel_rfl)
  · simp only [List.take_succ_cons, List.take_zero]
    repeat (go_big_quiet_step (first | (go_at_call 22; with_reducible exact Calls.regrown_of (C1 _))))
    exact wpQuiet_nil rfl
  · exact ⟨_, Or.inl ⟨rfl, fun _ => rfl⟩, _, Or.inl ⟨rfl, fun _ => rfl⟩, rfl⟩
  intro w1 hb1
  simp only [List.drop_succ_cons, List.drop_zero, Act.put, List.setIfInBounds_toArray, List.set_cons_succ, List.set_cons_zero]
  have Bo := Arr.to' Ao hb1
  have hB' := Bel.call hB hb1
  clear Ao hB hb1
  have Ao := Bo
  have hB := hB'
  clear Bo hB'
  have hS := hB.size
  have co_0 := Ao.cv 0 (by omega) (.int .u64 0) rfl
  have co_1 := Ao.cv 1 (by omega) (.int .u64 0) rfl
  have co_2 := Ao.cv 2 (by omega) (.int .u64 0) rfl
  have co_3 := Ao.cv 3 (by omega) (.int .u64 0) rfl
  have co_4 := Ao.cv 4 (by omega) (.int .u64 0) rfl
  have co_5 := Ao.cv 5 (by omega) (.int .u64 0) rfl
  have co_6 := Ao.cv 6 (by omega) (.int .u64 0) rfl
  have co_7 := Ao.cv 7 (by omega) (.int .u64 0) rfl
  have co_8 := Ao.cv 8 (by omega) (.bool false) rfl
  have zo := Ao.z
  go_wp2_with fail
  refine bodyPost_ret (v := .tuple #[pv x y i, .int .i64 er]) (by simp [results, Try.results7, go_sem, co_0, co_1, co_2, co_3, co_4, co_5, co_6, co_7, co_8]) rfl ⟨rfl, ?_⟩
  go_grown
set_option maxHeartbeats 8000000 in
theorem rdec_no (s : ByteArray) (hs : s.size ≤ maxLen) (h0 : 0 < s.size) (hE : (s.toList == ([] : List UInt8)) = false) (hb : (bt s 0 == 4) = true) (hn : (s.size : Int) = 65) (x y er f : Int) (w : World)
    (C1 : ∀ W, Calls Try.prog 23 #[.string (s.extract 1 33)] W fun e w' => e = .returned (.tuple #[nv x, .int .i64 er]) ∧ Below W.heap.size W w')
    (C2 : ∀ W, Calls Try.prog 23 #[.string (s.extract 33 65)] W fun e w' => e = .returned (.tuple #[nv y, .int .i64 f]) ∧ Below W.heap.size W w')
    (C3 : ∀ W, Calls Try.prog 12 #[pv x y false] W fun e w' => e = .returned (.bool false) ∧ Below W.heap.size W w') :
    Calls Try.prog 8 #[.string s] w fun e w' => e = .returned (.tuple #[.agg #[.int .u64 0, .int .u64 0, .int .u64 0, .int .u64 0, .int .u64 0, .int .u64 0, .int .u64 0, .int .u64 0, .bool false], .int .i64 15]) ∧ Below w.heap.size w w' := by
  unfold maxLen at hs
  have ix : ∀ W, (Instr.index 9 (.string s) (.int .i64 0)).run Try.prog W = .ok (.int .u8 (bt s 0)) W := fun W => idxS s 0 h0 W
  go_enter Try.func8, Try.ntmps8
  have hn' : ¬ (s.size : Int) < 65 := by omega
  have hn'' : ¬ (65 : Int) < (s.size : Int) := by omega
  have hb' : bt s 0 = 4 := by simpa using hb
  have sl1 : ∀ W, (Instr.slice 9 (.string s) (some (.int .i64 1)) (some (.int .i64 33)) none).run Try.prog W = .ok (.string (s.extract 1 33)) W := fun W => run_slice_string W 9 s .i64 .i64 1 33 Try.underlying9 (by omega) (by omega) (by omega)
  have sl2 : ∀ W, (Instr.slice 9 (.string s) (some (.int .i64 33)) none none).run Try.prog W = .ok (.string (s.extract 33 65)) W := fun W => by rw [show 65 = s.size by omega]; exact run_slice_string_l W 9 s Try.underlying9 .i64 33 (by omega) (by omega)
  have Bo := Arr.mk9p (w := (w.alloc (.cells #[.int .u64 0, .int .u64 0, .int .u64 0, .int .u64 0, .int .u64 0, .int .u64 0, .int .u64 0, .int .u64 0, .bool false] 26))) (f := zx 8) (b := w.heap.size) (by simp [go_sem, px, sx, zx]) (by simp [go_sem, px, sx, zx]) (by simp [go_sem, px, sx, zx]) (by simp [go_sem, px, sx, zx]) (by simp [go_sem, px, sx, zx]) (by simp [go_sem, px, sx, zx]) (by simp [go_sem, px, sx, zx]) (by simp [go_sem, px, sx, zx]) (by simp [go_sem, px, sx, zx]) (by simp [go_sem, px, sx, zx])
  have hB' : Below w.heap.size w (w.alloc (.cells #[.int .u64 0, .int .u64 0, .int .u64 0, .int .u64 0, .int .u64 0, .int .u64 0, .int .u64 0, .int .u64 0, .bool false] 26)) := by go_grown
  have Ao := Bo
  have hB := hB'
  clear Bo hB'
  go_wp2_with fail
  refine (C1 _).mono ?_
  rintro e w1 ⟨rfl, hb⟩
  have Bo := Arr.to' Ao hb
  have hB' := Bel.call hB hb
  clear hb Ao hB
  have Ao := Bo
  have hB := hB'
  clear Bo hB'
  have lo_2 := Ao.lt
  have lB_2 := hB.size
  have Bo := (Arr.al' Ao (.cells #[.int .u64 (lim (x) 0), .int .u64 (lim (x) 1), .int .u64 (lim (x) 2), .int .u64 (lim (x) 3)] 24))
  have Bx := Arr.mk4 (w := (w1.alloc (.cells #[.int .u64 (lim (x) 0), .int .u64 (lim (x) 1), .int .u64 (lim (x) 2), .int .u64 (lim (x) 3)] 24))) (f := fun j => .int .u64 (lim (x) j)) (b := w1.heap.size) (by simp [go_sem]) (by simp [go_sem]) (by simp [go_sem]) (by simp [go_sem]) (by simp [go_sem]) (by simp [go_sem]) (by simp [go_sem]) (by simp [go_sem])
  have hB' := (Bel.al hB (.cells #[.int .u64 (lim (x) 0), .int .u64 (lim (x) 1), .int .u64 (lim (x) 2), .int .u64 (lim (x) 3)] 24))
  clear Ao hB
  have Ao := Bo
  have Ax := Bx
  have hB := hB'
  clear Bo Bx hB'
  go_wp2_with fail
  refine (C2 _).mono ?_
  rintro e w2 ⟨rfl, hb⟩
  have Bo := Arr.to' Ao hb
  have Bx := Arr.to' Ax hb
  have hB' := Bel.call hB hb
  clear hb Ao Ax hB
  have Ao := Bo
  have Ax := Bx
  have hB := hB'
  clear Bo Bx hB'
  have lx := Ax.lt
  have cx' := (Arr.al' Ax (.cells #[.int .u64 (lim (y) 0), .int .u64 (lim (y) 1), .int .u64 (lim (y) 2), .int .u64 (lim (y) 3)] 24)).c
  go_wp2_with fail
  refine (C3 _).mono ?_
  rintro e w9 ⟨rfl, hb⟩
  clear cx'
  have lo_3 := Ao.lt
  have lx_3 := Ax.lt
  have lB_3 := hB.size
  have Bo := (Arr.al' (Arr.al' Ao (.cells #[.int .u64 (lim (y) 0), .int .u64 (lim (y) 1), .int .u64 (lim (y) 2), .int .u64 (lim (y) 3)] 24)) (.cells #[.int .u64 (lim (x) 0), .int .u64 (lim (x) 1), .int .u64 (lim (x) 2), .int .u64 (lim (x) 3), .int .u64 (lim (y) 0), .int .u64 (lim (y) 1), .int .u64 (lim (y) 2), .int .u64 (lim (y) 3), .bool false] 26))
  have Bx := (Arr.al' (Arr.al' Ax (.cells #[.int .u64 (lim (y) 0), .int .u64 (lim (y) 1), .int .u64 (lim (y) 2), .int .u64 (lim (y) 3)] 24)) (.cells #[.int .u64 (lim (x) 0), .int .u64 (lim (x) 1), .int .u64 (lim (x) 2), .int .u64 (lim (x) 3), .int .u64 (lim (y) 0), .int .u64 (lim (y) 1), .int .u64 (lim (y) 2), .int .u64 (lim (y) 3), .bool false] 26))
  have By := Arr.mk4 (w := ((w2.alloc (.cells #[.int .u64 (lim (y) 0), .int .u64 (lim (y) 1), .int .u64 (lim (y) 2), .int .u64 (lim (y) 3)] 24)).alloc (.cells #[.int .u64 (lim (x) 0), .int .u64 (lim (x) 1), .int .u64 (lim (x) 2), .int .u64 (lim (x) 3), .int .u64 (lim (y) 0), .int .u64 (lim (y) 1), .int .u64 (lim (y) 2), .int .u64 (lim (y) 3), .bool false] 26))) (f := fun j => .int .u64 (lim (y) j)) (b := w2.heap.size) (by simp [go_sem]) (by simp [go_sem]) (by simp [go_sem]) (by simp [go_sem]) (by simp [go_sem]) (by simp [go_sem]) (by simp [go_sem]) (by simp [go_sem])
  have Ba := Arr.mk9p (w := ((w2.alloc (.cells #[.int .u64 (lim (y) 0), .int .u64 (lim (y) 1), .int .u64 (lim (y) 2), .int .u64 (lim (y) 3)] 24)).alloc (.cells #[.int .u64 (lim (x) 0), .int .u64 (lim (x) 1), .int .u64 (lim (x) 2), .int .u64 (lim (x) 3), .int .u64 (lim (y) 0), .int .u64 (lim (y) 1), .int .u64 (lim (y) 2), .int .u64 (lim (y) 3), .bool false] 26))) (f := px (x) (y) false) (b := w2.heap.size + 1) (by simp [go_sem, px, sx, zx]) (by simp [go_sem, px, sx, zx]) (by simp [go_sem, px, sx, zx]) (by simp [go_sem, px, sx, zx]) (by simp [go_sem, px, sx, zx]) (by simp [go_sem, px, sx, zx]) (by simp [go_sem, px, sx, zx]) (by simp [go_sem, px, sx, zx]) (by simp [go_sem, px, sx, zx]) (by simp [go_sem, px, sx, zx])
  have hB' := (Bel.al (Bel.al hB (.cells #[.int .u64 (lim (y) 0), .int .u64 (lim (y) 1), .int .u64 (lim (y) 2), .int .u64 (lim (y) 3)] 24)) (.cells #[.int .u64 (lim (x) 0), .int .u64 (lim (x) 1), .int .u64 (lim (x) 2), .int .u64 (lim (x) 3), .int .u64 (lim (y) 0), .int .u64 (lim (y) 1), .int .u64 (lim (y) 2), .int .u64 (lim (y) 3), .bool false] 26))
  clear Ao Ax hB
  have Ao := Bo
  have Ax := Bx
  have Ay := By
  have Aa := Ba
  have hB := hB'
  clear Bo Bx By Ba hB'
  have Bo := Arr.to' Ao hb
  have Bx := Arr.to' Ax hb
  have By := Arr.to' Ay hb
  have Ba := Arr.to' Aa hb
  have hB' := Bel.call hB hb
  clear hb Ao Ax Ay Aa hB
  have Ao := Bo
  have Ax := Bx
  have Ay := By
  have Aa := Ba
  have hB := hB'
  clear Bo Bx By Ba hB'
  have ca_0 := Aa.cv 0 (by omega) (.int .u64 (lim (x) 0)) rfl
  have ca_1 := Aa.cv 1 (by omega) (.int .u64 (lim (x) 1)) rfl
  have ca_2 := Aa.cv 2 (by omega) (.int .u64 (lim (x) 2)) rfl
  have ca_3 := Aa.cv 3 (by omega) (.int .u64 (lim (x) 3)) rfl
  have ca_4 := Aa.cv 4 (by omega) (.int .u64 (lim (y) 0)) rfl
  have ca_5 := Aa.cv 5 (by omega) (.int .u64 (lim (y) 1)) rfl
  have ca_6 := Aa.cv 6 (by omega) (.int .u64 (lim (y) 2)) rfl
  have ca_7 := Aa.cv 7 (by omega) (.int .u64 (lim (y) 3)) rfl
  have ca_8 := Aa.cv 8 (by omega) (.bool false) rfl
  have hS := hB.size
  have co_0 := Ao.cv 0 (by omega) (.int .u64 0) rfl
  have co_1 := Ao.cv 1 (by omega) (.int .u64 0) rfl
  have co_2 := Ao.cv 2 (by omega) (.int .u64 0) rfl
  have co_3 := Ao.cv 3 (by omega) (.int .u64 0) rfl
  have co_4 := Ao.cv 4 (by omega) (.int .u64 0) rfl
  have co_5 := Ao.cv 5 (by omega) (.int .u64 0) rfl
  have co_6 := Ao.cv 6 (by omega) (.int .u64 0) rfl
  have co_7 := Ao.cv 7 (by omega) (.int .u64 0) rfl
  have co_8 := Ao.cv 8 (by omega) (.bool false) rfl
  have zo := Ao.z
  go_wp2_with fail
  refine bodyPost_ret (v := .tuple #[.agg #[.int .u64 0, .int .u64 0, .int .u64 0, .int .u64 0, .int .u64 0, .int .u64 0, .int .u64 0, .int .u64 0, .bool false], .int .i64 15]) (by simp [results, Try.results8, go_sem, co_0, co_1, co_2, co_3, co_4, co_5, co_6, co_7, co_8]) rfl ⟨rfl, ?_⟩
  go_grown
set_option maxHeartbeats 8000000 in
theorem rdec_yes (s : ByteArray) (hs : s.size ≤ maxLen) (h0 : 0 < s.size) (hE : (s.toList == ([] : List UInt8)) = false) (hb : (bt s 0 == 4) = true) (hn : (s.size : Int) = 65) (x y er f : Int) (w : World)
    (C1 : ∀ W, Calls Try.prog 23 #[.string (s.extract 1 33)] W fun e w' => e = .returned (.tuple #[nv x, .int .i64 er]) ∧ Below W.heap.size W w')
    (C2 : ∀ W, Calls Try.prog 23 #[.string (s.extract 33 65)] W fun e w' => e = .returned (.tuple #[nv y, .int .i64 f]) ∧ Below W.heap.size W w')
    (C3 : ∀ W, Calls Try.prog 12 #[pv x y false] W fun e w' => e = .returned (.bool true) ∧ Below W.heap.size W w') :
    Calls Try.prog 8 #[.string s] w fun e w' => e = .returned (.tuple #[pv x y false, .int .i64 0]) ∧ Below w.heap.size w w' := by
  unfold maxLen at hs
  have ix : ∀ W, (Instr.index 9 (.string s) (.int .i64 0)).run Try.prog W = .ok (.int .u8 (bt s 0)) W := fun W => idxS s 0 h0 W
  go_enter Try.func8, Try.ntmps8
  have hn' : ¬ (s.size : Int) < 65 := by omega
  have hn'' : ¬ (65 : Int) < (s.size : Int) := by omega
  have hb' : bt s 0 = 4 := by simpa using hb
  have sl1 : ∀ W, (Instr.slice 9 (.string s) (some (.int .i64 1)) (some (.int .i64 33)) none).run Try.prog W = .ok (.string (s.extract 1 33)) W := fun W => run_slice_string W 9 s .i64 .i64 1 33 Try.underlying9 (by omega) (by omega) (by omega)
  have sl2 : ∀ W, (Instr.slice 9 (.string s) (some (.int .i64 33)) none none).run Try.prog W = .ok (.string (s.extract 33 65)) W := fun W => by rw [show 65 = s.size by omega]; exact run_slice_string_l W 9 s Try.underlying9 .i64 33 (by omega) (by omega)
  have Bo := Arr.mk9p (w := (w.alloc (.cells #[.int .u64 0, .int .u64 0, .int .u64 0, .int .u64 0, .int .u64 0, .int .u64 0, .int .u64 0, .int .u64 0, .bool false] 26))) (f := zx 8) (b := w.heap.size) (by simp [go_sem, px, sx, zx]) (by simp [go_sem, px, sx, zx]) (by simp [go_sem, px, sx, zx]) (by simp [go_sem, px, sx, zx]) (by simp [go_sem, px, sx, zx]) (by simp [go_sem, px, sx, zx]) (by simp [go_sem, px, sx, zx]) (by simp [go_sem, px, sx, zx]) (by simp [go_sem, px, sx, zx]) (by simp [go_sem, px, sx, zx])
  have hB' : Below w.heap.size w (w.alloc (.cells #[.int .u64 0, .int .u64 0, .int .u64 0, .int .u64 0, .int .u64 0, .int .u64 0, .int .u64 0, .int .u64 0, .bool false] 26)) := by go_grown
  have Ao := Bo
  have hB := hB'
  clear Bo hB'
  go_wp2_with fail
  refine (C1 _).mono ?_
  rintro e w1 ⟨rfl, hb⟩
  have Bo := Arr.to' Ao hb
  have hB' := Bel.call hB hb
  clear hb Ao hB
  have Ao := Bo
  have hB := hB'
  clear Bo hB'
  have lo_2 := Ao.lt
  have lB_2 := hB.size
  have Bo := (Arr.al' Ao (.cells #[.int .u64 (lim (x) 0), .int .u64 (lim (x) 1), .int .u64 (lim (x) 2), .int .u64 (lim (x) 3)] 24))
  have Bx := Arr.mk4 (w := (w1.alloc (.cells #[.int .u64 (lim (x) 0), .int .u64 (lim (x) 1), .int .u64 (lim (x) 2), .int .u64 (lim (x) 3)] 24))) (f := fun j => .int .u64 (lim (x) j)) (b := w1.heap.size) (by simp [go_sem]) (by simp [go_sem]) (by simp [go_sem]) (by simp [go_sem]) (by simp [go_sem]) (by simp [go_sem]) (by simp [go_sem]) (by simp [go_sem])
  have hB' := (Bel.al hB (.cells #[.int .u64 (lim (x) 0), .int .u64 (lim (x) 1), .int .u64 (lim (x) 2), .int .u64 (lim (x) 3)] 24))
  clear Ao hB
  have Ao := Bo
  have Ax := Bx
  have hB := hB'
  clear Bo Bx hB'
  go_wp2_with fail
  refine (C2 _).mono ?_
  rintro e w2 ⟨rfl, hb⟩
  have Bo := Arr.to' Ao hb
  have Bx := Arr.to' Ax hb
  have hB' := Bel.call hB hb
  clear hb Ao Ax hB
  have Ao := Bo
  have Ax := Bx
  have hB := hB'
  clear Bo Bx hB'
  have lx := Ax.lt
  have cx' := (Arr.al' Ax (.cells #[.int .u64 (lim (y) 0), .int .u64 (lim (y) 1), .int .u64 (lim (y) 2), .int .u64 (lim (y) 3)] 24)).c
  go_wp2_with fail
  refine (C3 _).mono ?_
  rintro e w9 ⟨rfl, hb⟩
  clear cx'
  have lo_3 := Ao.lt
  have lx_3 := Ax.lt
  have lB_3 := hB.size
  have Bo := (Arr.al' (Arr.al' Ao (.cells #[.int .u64 (lim (y) 0), .int .u64 (lim (y) 1), .int .u64 (lim (y) 2), .int .u64 (lim (y) 3)] 24)) (.cells #[.int .u64 (lim (x) 0), .int .u64 (lim (x) 1), .int .u64 (lim (x) 2), .int .u64 (lim (x) 3), .int .u64 (lim (y) 0), .int .u64 (lim (y) 1), .int .u64 (lim (y) 2), .int .u64 (lim (y) 3), .bool false] 26))
  have Bx := (Arr.al' (Arr.al' Ax (.cells #[.int .u64 (lim (y) 0), .int .u64 (lim (y) 1), .int .u64 (lim (y) 2), .int .u64 (lim (y) 3)] 24)) (.cells #[.int .u64 (lim (x) 0), .int .u64 (lim (x) 1), .int .u64 (lim (x) 2), .int .u64 (lim (x) 3), .int .u64 (lim (y) 0), .int .u64 (lim (y) 1), .int .u64 (lim (y) 2), .int .u64 (lim (y) 3), .bool false] 26))
  have By := Arr.mk4 (w := ((w2.alloc (.cells #[.int .u64 (lim (y) 0), .int .u64 (lim (y) 1), .int .u64 (lim (y) 2), .int .u64 (lim (y) 3)] 24)).alloc (.cells #[.int .u64 (lim (x) 0), .int .u64 (lim (x) 1), .int .u64 (lim (x) 2), .int .u64 (lim (x) 3), .int .u64 (lim (y) 0), .int .u64 (lim (y) 1), .int .u64 (lim (y) 2), .int .u64 (lim (y) 3), .bool false] 26))) (f := fun j => .int .u64 (lim (y) j)) (b := w2.heap.size) (by simp [go_sem]) (by simp [go_sem]) (by simp [go_sem]) (by simp [go_sem]) (by simp [go_sem]) (by simp [go_sem]) (by simp [go_sem]) (by simp [go_sem])
  have Ba := Arr.mk9p (w := ((w2.alloc (.cells #[.int .u64 (lim (y) 0), .int .u64 (lim (y) 1), .int .u64 (lim (y) 2), .int .u64 (lim (y) 3)] 24)).alloc (.cells #[.int .u64 (lim (x) 0), .int .u64 (lim (x) 1), .int .u64 (lim (x) 2), .int .u64 (lim (x) 3), .int .u64 (lim (y) 0), .int .u64 (lim (y) 1), .int .u64 (lim (y) 2), .int .u64 (lim (y) 3), .bool false] 26))) (f := px (x) (y) false) (b := w2.heap.size + 1) (by simp [go_sem, px, sx, zx]) (by simp [go_sem, px, sx, zx]) (by simp [go_sem, px, sx, zx]) (by simp [go_sem, px, sx, zx]) (by simp [go_sem, px, sx, zx]) (by simp [go_sem, px, sx, zx]) (by simp [go_sem, px, sx, zx]) (by simp [go_sem, px, sx, zx]) (by simp [go_sem, px, sx, zx]) (by simp [go_sem, px, sx, zx])
  have hB' := (Bel.al (Bel.al hB (.cells #[.int .u64 (lim (y) 0), .int .u64 (lim (y) 1), .int .u64 (lim (y) 2), .int .u64 (lim (y) 3)] 24)) (.cells #[.int .u64 (lim (x) 0), .int .u64 (lim (x) 1), .int .u64 (lim (x) 2), .int .u64 (lim (x) 3), .int .u64 (lim (y) 0), .int .u64 (lim (y) 1), .int .u64 (lim (y) 2), .int .u64 (lim (y) 3), .bool false] 26))
  clear Ao Ax hB
  have Ao := Bo
  have Ax := Bx
  have Ay := By
  have Aa := Ba
  have hB := hB'
  clear Bo Bx By Ba hB'
  have Bo := Arr.to' Ao hb
  have Bx := Arr.to' Ax hb
  have By := Arr.to' Ay hb
  have Ba := Arr.to' Aa hb
  have hB' := Bel.call hB hb
  clear hb Ao Ax Ay Aa hB
  have Ao := Bo
  have Ax := Bx
  have Ay := By
  have Aa := Ba
  have hB := hB'
  clear Bo Bx By Ba hB'
  have ca_0 := Aa.cv 0 (by omega) (.int .u64 (lim (x) 0)) rfl
  have ca_1 := Aa.cv 1 (by omega) (.int .u64 (lim (x) 1)) rfl
  have ca_2 := Aa.cv 2 (by omega) (.int .u64 (lim (x) 2)) rfl
  have ca_3 := Aa.cv 3 (by omega) (.int .u64 (lim (x) 3)) rfl
  have ca_4 := Aa.cv 4 (by omega) (.int .u64 (lim (y) 0)) rfl
  have ca_5 := Aa.cv 5 (by omega) (.int .u64 (lim (y) 1)) rfl
  have ca_6 := Aa.cv 6 (by omega) (.int .u64 (lim (y) 2)) rfl
  have ca_7 := Aa.cv 7 (by omega) (.int .u64 (lim (y) 3)) rfl
  have ca_8 := Aa.cv 8 (by omega) (.bool false) rfl
  have hS := hB.size
  have co_0 := Ao.cv 0 (by omega) (.int .u64 0) rfl
  have co_1 := Ao.cv 1 (by omega) (.int .u64 0) rfl
  have co_2 := Ao.cv 2 (by omega) (.int .u64 0) rfl
  have co_3 := Ao.cv 3 (by omega) (.int .u64 0) rfl
  have co_4 := Ao.cv 4 (by omega) (.int .u64 0) rfl
  have co_5 := Ao.cv 5 (by omega) (.int .u64 0) rfl
  have co_6 := Ao.cv 6 (by omega) (.int .u64 0) rfl
  have co_7 := Ao.cv 7 (by omega) (.int .u64 0) rfl
  have co_8 := Ao.cv 8 (by omega) (.bool false) rfl
  have zo := Ao.z
  go_wp2_with fail
  refine bodyPost_ret (v := .tuple #[pv x y false, .int .i64 0]) (by simp [results, Try.results8, go_sem, co_0, co_1, co_2, co_3, co_4, co_5, co_6, co_7, co_8]) rfl ⟨rfl, ?_⟩
  go_grown
end Go.Proofs.Ytgekafmojedlkaa
