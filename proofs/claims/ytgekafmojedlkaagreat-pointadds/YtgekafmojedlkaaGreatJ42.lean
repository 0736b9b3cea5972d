/- The reference's triples: raised, twice. -/
import Derived.Test.YtgekafmojedlkaaGreatJ24
import Derived.Test.YtgekafmojedlkaaGreatJ2
import Derived.Test.YtgekafmojedlkaaGreatJ1
set_option linter.all false
set_option maxRecDepth 100000
namespace Go.Proofs.YtgekafmojedlkaaGreat
open Go.RowKit Go.Sort
/-- The twelve cells of a triple. -/
def trx (X Y Z : Int) : Nat → Value
  | 0 => .int .u64 (lim X 0)
  | 1 => .int .u64 (lim X 1)
  | 2 => .int .u64 (lim X 2)
  | 3 => .int .u64 (lim X 3)
  | 4 => .int .u64 (lim Y 0)
  | 5 => .int .u64 (lim Y 1)
  | 6 => .int .u64 (lim Y 2)
  | 7 => .int .u64 (lim Y 3)
  | 8 => .int .u64 (lim Z 0)
  | 9 => .int .u64 (lim Z 1)
  | 10 => .int .u64 (lim Z 2)
  | 11 => .int .u64 (lim Z 3)
  | _ => .bool false
def trz (_ : Nat) : Value := .int .u64 0
/-- A triple as the translation holds it. -/
abbrev tv (X Y Z : Int) : Value := .agg #[.int .u64 (lim (X) 0), .int .u64 (lim (X) 1), .int .u64 (lim (X) 2), .int .u64 (lim (X) 3), .int .u64 (lim (Y) 0), .int .u64 (lim (Y) 1), .int .u64 (lim (Y) 2), .int .u64 (lim (Y) 3), .int .u64 (lim (Z) 0), .int .u64 (lim (Z) 1), .int .u64 (lim (Z) 2), .int .u64 (lim (Z) 3)]
theorem Arr.mk12 {w : World} {b : Nat} {f : Nat → Value} (h0 : w.cell? ⟨b, 0, none⟩ = some (f 0)) (h1 : w.cell? ⟨b, 1, none⟩ = some (f 1)) (h2 : w.cell? ⟨b, 2, none⟩ = some (f 2)) (h3 : w.cell? ⟨b, 3, none⟩ = some (f 3)) (h4 : w.cell? ⟨b, 4, none⟩ = some (f 4)) (h5 : w.cell? ⟨b, 5, none⟩ = some (f 5)) (h6 : w.cell? ⟨b, 6, none⟩ = some (f 6)) (h7 : w.cell? ⟨b, 7, none⟩ = some (f 7)) (h8 : w.cell? ⟨b, 8, none⟩ = some (f 8)) (h9 : w.cell? ⟨b, 9, none⟩ = some (f 9)) (h10 : w.cell? ⟨b, 10, none⟩ = some (f 10)) (h11 : w.cell? ⟨b, 11, none⟩ = some (f 11)) (z : ∀ j, j < 12 → w.frozen? ⟨b, j, none⟩ = false) : Arr w b 12 f := by
  intro j hj
  refine ⟨?_, z j hj⟩
  have h : j = 0 ∨ j = 1 ∨ j = 2 ∨ j = 3 ∨ j = 4 ∨ j = 5 ∨ j = 6 ∨ j = 7 ∨ j = 8 ∨ j = 9 ∨ j = 10 ∨ j = 11 := by omega
  rcases h with h | h | h | h | h | h | h | h | h | h | h | h <;> subst h <;> assumption
/-- Twelve stores. -/
abbrev st12 (w : World) (b : Nat) (X Y Z : Int) : World := ((((((((((((w).setCell ⟨b, 0, none⟩ (.int .u64 (lim (X) 0))).setCell ⟨b, 1, none⟩ (.int .u64 (lim (X) 1))).setCell ⟨b, 2, none⟩ (.int .u64 (lim (X) 2))).setCell ⟨b, 3, none⟩ (.int .u64 (lim (X) 3))).setCell ⟨b, 4, none⟩ (.int .u64 (lim (Y) 0))).setCell ⟨b, 5, none⟩ (.int .u64 (lim (Y) 1))).setCell ⟨b, 6, none⟩ (.int .u64 (lim (Y) 2))).setCell ⟨b, 7, none⟩ (.int .u64 (lim (Y) 3))).setCell ⟨b, 8, none⟩ (.int .u64 (lim (Z) 0))).setCell ⟨b, 9, none⟩ (.int .u64 (lim (Z) 1))).setCell ⟨b, 10, none⟩ (.int .u64 (lim (Z) 2))).setCell ⟨b, 11, none⟩ (.int .u64 (lim (Z) 3))
theorem Arr.st12 {w : World} {b : Nat} {f : Nat → Value} (h : Arr w b 12 f) (X Y Z : Int) : Arr (st12 w b X Y Z) b 12 (trx X Y Z) := by
  have h := h.set 0 (by omega) (.int .u64 (lim (X) 0))
  have h := h.set 1 (by omega) (.int .u64 (lim (X) 1))
  have h := h.set 2 (by omega) (.int .u64 (lim (X) 2))
  have h := h.set 3 (by omega) (.int .u64 (lim (X) 3))
  have h := h.set 4 (by omega) (.int .u64 (lim (Y) 0))
  have h := h.set 5 (by omega) (.int .u64 (lim (Y) 1))
  have h := h.set 6 (by omega) (.int .u64 (lim (Y) 2))
  have h := h.set 7 (by omega) (.int .u64 (lim (Y) 3))
  have h := h.set 8 (by omega) (.int .u64 (lim (Z) 0))
  have h := h.set 9 (by omega) (.int .u64 (lim (Z) 1))
  have h := h.set 10 (by omega) (.int .u64 (lim (Z) 2))
  have h := h.set 11 (by omega) (.int .u64 (lim (Z) 3))
  refine h.congr ?_
  intro j hj
  have h : j = 0 ∨ j = 1 ∨ j = 2 ∨ j = 3 ∨ j = 4 ∨ j = 5 ∨ j = 6 ∨ j = 7 ∨ j = 8 ∨ j = 9 ∨ j = 10 ∨ j = 11 := by omega
  rcases h with h | h | h | h | h | h | h | h | h | h | h | h <;> subst h <;> simp [trx]
theorem Arr.st12o {w : World} {b b' n : Nat} {f : Nat → Value} (h : Arr w b n f) (hne : b' ≠ b) (X Y Z : Int) : Arr (Go.Proofs.YtgekafmojedlkaaGreat.st12 w b' X Y Z) b n f := ((((((((((((h.other hne _).other hne _).other hne _).other hne _).other hne _).other hne _).other hne _).other hne _).other hne _).other hne _).other hne _).other hne _)
theorem Bel.st12 {w W : World} (h : Below w.heap.size w W) {b : Nat} (hle : w.heap.size ≤ b) (X Y Z : Int) : Below w.heap.size w (Go.Proofs.YtgekafmojedlkaaGreat.st12 W b X Y Z) := (Bel.st (Bel.st (Bel.st (Bel.st (Bel.st (Bel.st (Bel.st (Bel.st (Bel.st (Bel.st (Bel.st (Bel.st h hle _) hle _) hle _) hle _) hle _) hle _) hle _) hle _) hle _) hle _) hle _) hle _)
attribute [local go_sem] eq24
set_option maxHeartbeats 8000000 in
theorem raised_none (X Y : Int) (w : World) : Calls Tryz.prog 29 #[pv X Y true] w fun e w' => e = .returned (.agg #[.int .u64 1, .int .u64 0, .int .u64 0, .int .u64 0, .int .u64 1, .int .u64 0, .int .u64 0, .int .u64 0, .int .u64 0, .int .u64 0, .int .u64 0, .int .u64 0]) ∧ Below w.heap.size w w' := by
  go_enter Tryz.func29, Tryz.ntmps29
  have Bp : Arr (((w.alloc (.cells #[.int .u64 (lim (X) 0), .int .u64 (lim (X) 1), .int .u64 (lim (X) 2), .int .u64 (lim (X) 3), .int .u64 (lim (Y) 0), .int .u64 (lim (Y) 1), .int .u64 (lim (Y) 2), .int .u64 (lim (Y) 3), .bool true] 26)).alloc (.cells #[.int .u64 0, .int .u64 0, .int .u64 0, .int .u64 0, .int .u64 0, .int .u64 0, .int .u64 0, .int .u64 0, .int .u64 0, .int .u64 0, .int .u64 0, .int .u64 0] 49))) (w.heap.size) 9 (px (X) (Y) true) := by refine Arr.mk9p ?_ ?_ ?_ ?_ ?_ ?_ ?_ ?_ ?_ ?_ <;> simp [go_sem, px, sx, zx, trx, trz]
  have Bo : Arr (((w.alloc (.cells #[.int .u64 (lim (X) 0), .int .u64 (lim (X) 1), .int .u64 (lim (X) 2), .int .u64 (lim (X) 3), .int .u64 (lim (Y) 0), .int .u64 (lim (Y) 1), .int .u64 (lim (Y) 2), .int .u64 (lim (Y) 3), .bool true] 26)).alloc (.cells #[.int .u64 0, .int .u64 0, .int .u64 0, .int .u64 0, .int .u64 0, .int .u64 0, .int .u64 0, .int .u64 0, .int .u64 0, .int .u64 0, .int .u64 0, .int .u64 0] 49))) (w.heap.size + 1) 12 (trz) := by refine Arr.mk12 ?_ ?_ ?_ ?_ ?_ ?_ ?_ ?_ ?_ ?_ ?_ ?_ ?_ <;> simp [go_sem, px, sx, zx, trx, trz]
  have hB' : Below w.heap.size w ((w.alloc (.cells #[.int .u64 (lim (X) 0), .int .u64 (lim (X) 1), .int .u64 (lim (X) 2), .int .u64 (lim (X) 3), .int .u64 (lim (Y) 0), .int .u64 (lim (Y) 1), .int .u64 (lim (Y) 2), .int .u64 (lim (Y) 3), .bool true] 26)).alloc (.cells #[.int .u64 0, .int .u64 0, .int .u64 0, .int .u64 0, .int .u64 0, .int .u64 0, .int .u64 0, .int .u64 0, .int .u64 0, .int .u64 0, .int .u64 0, .int .u64 0] 49)) := by go_grown
  have Ap := Bp
  have Ao := Bo
  have hB := hB'
  clear Bp Bo hB'
  have cp_0 := Ap.cv 0 (by omega) (.int .u64 (lim (X) 0)) rfl
  have cp_1 := Ap.cv 1 (by omega) (.int .u64 (lim (X) 1)) rfl
  have cp_2 := Ap.cv 2 (by omega) (.int .u64 (lim (X) 2)) rfl
  have cp_3 := Ap.cv 3 (by omega) (.int .u64 (lim (X) 3)) rfl
  have cp_4 := Ap.cv 4 (by omega) (.int .u64 (lim (Y) 0)) rfl
  have cp_5 := Ap.cv 5 (by omega) (.int .u64 (lim (Y) 1)) rfl
  have cp_6 := Ap.cv 6 (by omega) (.int .u64 (lim (Y) 2)) rfl
  have cp_7 := Ap.cv 7 (by omega) (.int .u64 (lim (Y) 3)) rfl
  have cp_8 := Ap.cv 8 (by omega) (.bool true) rfl
  have hS := hB.size
  have co_0 := Ao.cv 0 (by omega) (.int .u64 0) rfl
  have co_1 := Ao.cv 1 (by omega) (.int .u64 0) rfl
  have co_2 := Ao.cv 2 (by omega) (.int .u64 0) rfl
  have co_3 := Ao.cv 3 (by omega) (.int .u64 0) rfl
  have co_4 := Ao.cv 4 (by omega) (.int .u64 0) rfl
  have co_5 := Ao.cv 5 (by omega) (.int .u64 0) rfl
  have co_6 := Ao.cv 6 (by omega) (.int .u64 0) rfl
  have co_7 := Ao.cv 7 (by omega) (.int .u64 0) rfl
  have co_8 := Ao.cv 8 (by omega) (.int .u64 0) rfl
  have co_9 := Ao.cv 9 (by omega) (.int .u64 0) rfl
  have co_10 := Ao.cv 10 (by omega) (.int .u64 0) rfl
  have co_11 := Ao.cv 11 (by omega) (.int .u64 0) rfl
  have zo := Ao.z
  go_wp2_with fail
  refine bodyPost_ret (v := .agg #[.int .u64 1, .int .u64 0, .int .u64 0, .int .u64 0, .int .u64 1, .int .u64 0, .int .u64 0, .int .u64 0, .int .u64 0, .int .u64 0, .int .u64 0, .int .u64 0]) (by simp [results, Tryz.results29, go_sem, co_0, co_1, co_2, co_3, co_4, co_5, co_6, co_7, co_8, co_9, co_10, co_11]) rfl ⟨rfl, ?_⟩
  go_grown
set_option maxHeartbeats 8000000 in
theorem raised_core (X Y : Int) (w : World) : Calls Tryz.prog 29 #[pv X Y false] w fun e w' => e = .returned (.agg #[.int .u64 (lim (X) 0), .int .u64 (lim (X) 1), .int .u64 (lim (X) 2), .int .u64 (lim (X) 3), .int .u64 (lim (Y) 0), .int .u64 (lim (Y) 1), .int .u64 (lim (Y) 2), .int .u64 (lim (Y) 3), .int .u64 1, .int .u64 0, .int .u64 0, .int .u64 0]) ∧ Below w.heap.size w w' := by
  go_enter Tryz.func29, Tryz.ntmps29
  have Bp : Arr (((w.alloc (.cells #[.int .u64 (lim (X) 0), .int .u64 (lim (X) 1), .int .u64 (lim (X) 2), .int .u64 (lim (X) 3), .int .u64 (lim (Y) 0), .int .u64 (lim (Y) 1), .int .u64 (lim (Y) 2), .int .u64 (lim (Y) 3), .bool false] 26)).alloc (.cells #[.int .u64 0, .int .u64 0, .int .u64 0, .int .u64 0, .int .u64 0, .int .u64 0, .int .u64 0, .int .u64 0, .int .u64 0, .int .u64 0, .int .u64 0, .int .u64 0] 49))) (w.heap.size) 9 (px (X) (Y) false) := by refine Arr.mk9p ?_ ?_ ?_ ?_ ?_ ?_ ?_ ?_ ?_ ?_ <;> simp [go_sem, px, sx, zx, trx, trz]
  have Bo : Arr (((w.alloc (.cells #[.int .u64 (lim (X) 0), .int .u64 (lim (X) 1), .int .u64 (lim (X) 2), .int .u64 (lim (X) 3), .int .u64 (lim (Y) 0), .int .u64 (lim (Y) 1), .int .u64 (lim (Y) 2), .int .u64 (lim (Y) 3), .bool false] 26)).alloc (.cells #[.int .u64 0, .int .u64 0, .int .u64 0, .int .u64 0, .int .u64 0, .int .u64 0, .int .u64 0, .int .u64 0, .int .u64 0, .int .u64 0, .int .u64 0, .int .u64 0] 49))) (w.heap.size + 1) 12 (trz) := by refine Arr.mk12 ?_ ?_ ?_ ?_ ?_ ?_ ?_ ?_ ?_ ?_ ?_ ?_ ?_ <;> simp [go_sem, px, sx, zx, trx, trz]
  have hB' : Below w.heap.size w ((w.alloc (.cells #[.int .u64 (lim (X) 0), .int .u64 (lim (X) 1), .int .u64 (lim (X) 2), .int .u64 (lim (X) 3), .int .u64 (lim (Y) 0), .int .u64 (lim (Y) 1), .int .u64 (lim (Y) 2), .int .u64 (lim (Y) 3), .bool false] 26)).alloc (.cells #[.int .u64 0, .int .u64 0, .int .u64 0, .int .u64 0, .int .u64 0, .int .u64 0, .int .u64 0, .int .u64 0, .int .u64 0, .int .u64 0, .int .u64 0, .int .u64 0] 49)) := by go_grown
  have Ap := Bp
  have Ao := Bo
  have hB := hB'
  clear Bp Bo hB'
  have cp_0 := Ap.cv 0 (by omega) (.int .u64 (lim (X) 0)) rfl
  have cp_1 := Ap.cv 1 (by omega) (.int .u64 (lim (X) 1)) rfl
  have cp_2 := Ap.cv 2 (by omega) (.int .u64 (lim (X) 2)) rfl
  have cp_3 := Ap.cv 3 (by omega) (.int .u64 (lim (X) 3)) rfl
  have cp_4 := Ap.cv 4 (by omega) (.int .u64 (lim (Y) 0)) rfl
  have cp_5 := Ap.cv 5 (by omega) (.int .u64 (lim (Y) 1)) rfl
  have cp_6 := Ap.cv 6 (by omega) (.int .u64 (lim (Y) 2)) rfl
  have cp_7 := Ap.cv 7 (by omega) (.int .u64 (lim (Y) 3)) rfl
  have cp_8 := Ap.cv 8 (by omega) (.bool false) rfl
  have hS := hB.size
  have co_0 := Ao.cv 0 (by omega) (.int .u64 0) rfl
  have co_1 := Ao.cv 1 (by omega) (.int .u64 0) rfl
  have co_2 := Ao.cv 2 (by omega) (.int .u64 0) rfl
  have co_3 := Ao.cv 3 (by omega) (.int .u64 0) rfl
  have co_4 := Ao.cv 4 (by omega) (.int .u64 0) rfl
  have co_5 := Ao.cv 5 (by omega) (.int .u64 0) rfl
  have co_6 := Ao.cv 6 (by omega) (.int .u64 0) rfl
  have co_7 := Ao.cv 7 (by omega) (.int .u64 0) rfl
  have co_8 := Ao.cv 8 (by omega) (.int .u64 0) rfl
  have co_9 := Ao.cv 9 (by omega) (.int .u64 0) rfl
  have co_10 := Ao.cv 10 (by omega) (.int .u64 0) rfl
  have co_11 := Ao.cv 11 (by omega) (.int .u64 0) rfl
  have zo := Ao.z
  go_wp2_with fail
  refine bodyPost_ret (v := .agg #[.int .u64 (lim (X) 0), .int .u64 (lim (X) 1), .int .u64 (lim (X) 2), .int .u64 (lim (X) 3), .int .u64 (lim (Y) 0), .int .u64 (lim (Y) 1), .int .u64 (lim (Y) 2), .int .u64 (lim (Y) 3), .int .u64 1, .int .u64 0, .int .u64 0, .int .u64 0]) (by simp [results, Tryz.results29, go_sem, co_0, co_1, co_2, co_3, co_4, co_5, co_6, co_7, co_8, co_9, co_10, co_11]) rfl ⟨rfl, ?_⟩
  go_grown
set_option maxHeartbeats 8000000 in
theorem twice_z (x y z : Int) (hz : (lim z 0 == 0 && (lim z 1 == 0 && (lim z 2 == 0 && lim z 3 == 0))) = true) (w : World) : Calls Tryz.prog 52 #[tv x y z] w fun e w' => e = .returned (.agg #[.int .u64 1, .int .u64 0, .int .u64 0, .int .u64 0, .int .u64 1, .int .u64 0, .int .u64 0, .int .u64 0, .int .u64 0, .int .u64 0, .int .u64 0, .int .u64 0]) ∧ Below w.heap.size w w' := by
  go_enter Tryz.func52, Tryz.ntmps52
  have Ba : Arr (((w.alloc (.cells #[.int .u64 (lim (x) 0), .int .u64 (lim (x) 1), .int .u64 (lim (x) 2), .int .u64 (lim (x) 3), .int .u64 (lim (y) 0), .int .u64 (lim (y) 1), .int .u64 (lim (y) 2), .int .u64 (lim (y) 3), .int .u64 (lim (z) 0), .int .u64 (lim (z) 1), .int .u64 (lim (z) 2), .int .u64 (lim (z) 3)] 49)).alloc (.cells #[.int .u64 0, .int .u64 0, .int .u64 0, .int .u64 0, .int .u64 0, .int .u64 0, .int .u64 0, .int .u64 0, .int .u64 0, .int .u64 0, .int .u64 0, .int .u64 0] 49))) (w.heap.size) 12 (trx (x) (y) (z)) := by refine Arr.mk12 ?_ ?_ ?_ ?_ ?_ ?_ ?_ ?_ ?_ ?_ ?_ ?_ ?_ <;> simp [go_sem, px, sx, zx, trx, trz]
  have Bo : Arr (((w.alloc (.cells #[.int .u64 (lim (x) 0), .int .u64 (lim (x) 1), .int .u64 (lim (x) 2), .int .u64 (lim (x) 3), .int .u64 (lim (y) 0), .int .u64 (lim (y) 1), .int .u64 (lim (y) 2), .int .u64 (lim (y) 3), .int .u64 (lim (z) 0), .int .u64 (lim (z) 1), .int .u64 (lim (z) 2), .int .u64 (lim (z) 3)] 49)).alloc (.cells #[.int .u64 0, .int .u64 0, .int .u64 0, .int .u64 0, .int .u64 0, .int .u64 0, .int .u64 0, .int .u64 0, .int .u64 0, .int .u64 0, .int .u64 0, .int .u64 0] 49))) (w.heap.size + 1) 12 (trz) := by refine Arr.mk12 ?_ ?_ ?_ ?_ ?_ ?_ ?_ ?_ ?_ ?_ ?_ ?_ ?_ <;> simp [go_sem, px, sx, zx, trx, trz]
  have hB' : Below w.heap.size w ((w.alloc (.cells #[.int .u64 (lim (x) 0), .int .u64 (lim (x) 1), .int .u64 (lim (x) 2), .int .u64 (lim (x) 3), .int .u64 (lim (y) 0), .int .u64 (lim (y) 1), .int .u64 (lim (y) 2), .int .u64 (lim (y) 3), .int .u64 (lim (z) 0), .int .u64 (lim (z) 1), .int .u64 (lim (z) 2), .int .u64 (lim (z) 3)] 49)).alloc (.cells #[.int .u64 0, .int .u64 0, .int .u64 0, .int .u64 0, .int .u64 0, .int .u64 0, .int .u64 0, .int .u64 0, .int .u64 0, .int .u64 0, .int .u64 0, .int .u64 0] 49)) := by go_grown
  have Aa := Ba
  have Ao := Bo
  have hB := hB'
  clear Ba Bo hB'
  have ca_0 := Aa.cv 0 (by omega) (.int .u64 (lim (x) 0)) rfl
  have ca_1 := Aa.cv 1 (by omega) (.int .u64 (lim (x) 1)) rfl
  have ca_2 := Aa.cv 2 (by omega) (.int .u64 (lim (x) 2)) rfl
  have ca_3 := Aa.cv 3 (by omega) (.int .u64 (lim (x) 3)) rfl
  have ca_4 := Aa.cv 4 (by omega) (.int .u64 (lim (y) 0)) rfl
  have ca_5 := Aa.cv 5 (by omega) (.int .u64 (lim (y) 1)) rfl
  have ca_6 := Aa.cv 6 (by omega) (.int .u64 (lim (y) 2)) rfl
  have ca_7 := Aa.cv 7 (by omega) (.int .u64 (lim (y) 3)) rfl
  have ca_8 := Aa.cv 8 (by omega) (.int .u64 (lim (z) 0)) rfl
  have ca_9 := Aa.cv 9 (by omega) (.int .u64 (lim (z) 1)) rfl
  have ca_10 := Aa.cv 10 (by omega) (.int .u64 (lim (z) 2)) rfl
  have ca_11 := Aa.cv 11 (by omega) (.int .u64 (lim (z) 3)) rfl
  have hS := hB.size
  have co_0 := Ao.cv 0 (by omega) (.int .u64 0) rfl
  have co_1 := Ao.cv 1 (by omega) (.int .u64 0) rfl
  have co_2 := Ao.cv 2 (by omega) (.int .u64 0) rfl
  have co_3 := Ao.cv 3 (by omega) (.int .u64 0) rfl
  have co_4 := Ao.cv 4 (by omega) (.int .u64 0) rfl
  have co_5 := Ao.cv 5 (by omega) (.int .u64 0) rfl
  have co_6 := Ao.cv 6 (by omega) (.int .u64 0) rfl
  have co_7 := Ao.cv 7 (by omega) (.int .u64 0) rfl
  have co_8 := Ao.cv 8 (by omega) (.int .u64 0) rfl
  have co_9 := Ao.cv 9 (by omega) (.int .u64 0) rfl
  have co_10 := Ao.cv 10 (by omega) (.int .u64 0) rfl
  have co_11 := Ao.cv 11 (by omega) (.int .u64 0) rfl
  have zo := Ao.z
  go_wp2_with fail
  refine bodyPost_ret (v := .agg #[.int .u64 1, .int .u64 0, .int .u64 0, .int .u64 0, .int .u64 1, .int .u64 0, .int .u64 0, .int .u64 0, .int .u64 0, .int .u64 0, .int .u64 0, .int .u64 0]) (by simp [results, Tryz.results52, go_sem, co_0, co_1, co_2, co_3, co_4, co_5, co_6, co_7, co_8, co_9, co_10, co_11]) rfl ⟨rfl, ?_⟩
  go_grown
set_option maxHeartbeats 8000000 in
theorem twice_y (x y z : Int) (hz : (lim z 0 == 0 && (lim z 1 == 0 && (lim z 2 == 0 && lim z 3 == 0))) = false) (hy : (lim y 0 == 0 && (lim y 1 == 0 && (lim y 2 == 0 && lim y 3 == 0))) = true) (w : World) : Calls Tryz.prog 52 #[tv x y z] w fun e w' => e = .returned (.agg #[.int .u64 1, .int .u64 0, .int .u64 0, .int .u64 0, .int .u64 1, .int .u64 0, .int .u64 0, .int .u64 0, .int .u64 0, .int .u64 0, .int .u64 0, .int .u64 0]) ∧ Below w.heap.size w w' := by
  go_enter Tryz.func52, Tryz.ntmps52
  have Ba : Arr (((w.alloc (.cells #[.int .u64 (lim (x) 0), .int .u64 (lim (x) 1), .int .u64 (lim (x) 2), .int .u64 (lim (x) 3), .int .u64 (lim (y) 0), .int .u64 (lim (y) 1), .int .u64 (lim (y) 2), .int .u64 (lim (y) 3), .int .u64 (lim (z) 0), .int .u64 (lim (z) 1), .int .u64 (lim (z) 2), .int .u64 (lim (z) 3)] 49)).alloc (.cells #[.int .u64 0, .int .u64 0, .int .u64 0, .int .u64 0, .int .u64 0, .int .u64 0, .int .u64 0, .int .u64 0, .int .u64 0, .int .u64 0, .int .u64 0, .int .u64 0] 49))) (w.heap.size) 12 (trx (x) (y) (z)) := by refine Arr.mk12 ?_ ?_ ?_ ?_ ?_ ?_ ?_ ?_ ?_ ?_ ?_ ?_ ?_ <;> simp [go_sem, px, sx, zx, trx, trz]
  have Bo : Arr (((w.alloc (.cells #[.int .u64 (lim (x) 0), .int .u64 (lim (x) 1), .int .u64 (lim (x) 2), .int .u64 (lim (x) 3), .int .u64 (lim (y) 0), .int .u64 (lim (y) 1), .int .u64 (lim (y) 2), .int .u64 (lim (y) 3), .int .u64 (lim (z) 0), .int .u64 (lim (z) 1), .int .u64 (lim (z) 2), .int .u64 (lim (z) 3)] 49)).alloc (.cells #[.int .u64 0, .int .u64 0, .int .u64 0, .int .u64 0, .int .u64 0, .int .u64 0, .int .u64 0, .int .u64 0, .int .u64 0, .int .u64 0, .int .u64 0, .int .u64 0] 49))) (w.heap.size + 1) 12 (trz) := by refine Arr.mk12 ?_ ?_ ?_ ?_ ?_ ?_ ?_ ?_ ?_ ?_ ?_ ?_ ?_ <;> simp [go_sem, px, sx, zx, trx, trz]
  have hB' : Below w.heap.size w ((w.alloc (.cells #[.int .u64 (lim (x) 0), .int .u64 (lim (x) 1), .int .u64 (lim (x) 2), .int .u64 (lim (x) 3), .int .u64 (lim (y) 0), .int .u64 (lim (y) 1), .int .u64 (lim (y) 2), .int .u64 (lim (y) 3), .int .u64 (lim (z) 0), .int .u64 (lim (z) 1), .int .u64 (lim (z) 2), .int .u64 (lim (z) 3)] 49)).alloc (.cells #[.int .u64 0, .int .u64 0, .int .u64 0, .int .u64 0, .int .u64 0, .int .u64 0, .int .u64 0, .int .u64 0, .int .u64 0, .int .u64 0, .int .u64 0, .int .u64 0] 49)) := by go_grown
  have Aa := Ba
  have Ao := Bo
  have hB := hB'
  clear Ba Bo hB'
  have ca_0 := Aa.cv 0 (by omega) (.int .u64 (lim (x) 0)) rfl
  have ca_1 := Aa.cv 1 (by omega) (.int .u64 (lim (x) 1)) rfl
  have ca_2 := Aa.cv 2 (by omega) (.int .u64 (lim (x) 2)) rfl
  have ca_3 := Aa.cv 3 (by omega) (.int .u64 (lim (x) 3)) rfl
  have ca_4 := Aa.cv 4 (by omega) (.int .u64 (lim (y) 0)) rfl
  have ca_5 := Aa.cv 5 (by omega) (.int .u64 (lim (y) 1)) rfl
  have ca_6 := Aa.cv 6 (by omega) (.int .u64 (lim (y) 2)) rfl
  have ca_7 := Aa.cv 7 (by omega) (.int .u64 (lim (y) 3)) rfl
  have ca_8 := Aa.cv 8 (by omega) (.int .u64 (lim (z) 0)) rfl
  have ca_9 := Aa.cv 9 (by omega) (.int .u64 (lim (z) 1)) rfl
  have ca_10 := Aa.cv 10 (by omega) (.int .u64 (lim (z) 2)) rfl
  have ca_11 := Aa.cv 11 (by omega) (.int .u64 (lim (z) 3)) rfl
  have hS := hB.size
  have co_0 := Ao.cv 0 (by omega) (.int .u64 0) rfl
  have co_1 := Ao.cv 1 (by omega) (.int .u64 0) rfl
  have co_2 := Ao.cv 2 (by omega) (.int .u64 0) rfl
  have co_3 := Ao.cv 3 (by omega) (.int .u64 0) rfl
  have co_4 := Ao.cv 4 (by omega) (.int .u64 0) rfl
  have co_5 := Ao.cv 5 (by omega) (.int .u64 0) rfl
  have co_6 := Ao.cv 6 (by omega) (.int .u64 0) rfl
  have co_7 := Ao.cv 7 (by omega) (.int .u64 0) rfl
  have co_8 := Ao.cv 8 (by omega) (.int .u64 0) rfl
  have co_9 := Ao.cv 9 (by omega) (.int .u64 0) rfl
  have co_10 := Ao.cv 10 (by omega) (.int .u64 0) rfl
  have co_11 := Ao.cv 11 (by omega) (.int .u64 0) rfl
  have zo := Ao.z
  go_wp2_with fail
  refine bodyPost_ret (v := .agg #[.int .u64 1, .int .u64 0, .int .u64 0, .int .u64 0, .int .u64 1, .int .u64 0, .int .u64 0, .int .u64 0, .int .u64 0, .int .u64 0, .int .u64 0, .int .u64 0]) (by simp [results, Tryz.results52, go_sem, co_0, co_1, co_2, co_3, co_4, co_5, co_6, co_7, co_8, co_9, co_10, co_11]) rfl ⟨rfl, ?_⟩
  go_grown
set_option maxHeartbeats 8000000 in
theorem twice_core (x y z z2 y2 q1 s u1 u2 u3 m m2 s2 X d1 d2 y4 y8 Y yz Z : Int) (hz : (lim z 0 == 0 && (lim z 1 == 0 && (lim z 2 == 0 && lim z 3 == 0))) = false) (hy : (lim y 0 == 0 && (lim y 1 == 0 && (lim y 2 == 0 && lim y 3 == 0))) = false) (w : World)
    (C1 : ∀ W, Calls Tryz.prog 15 #[nv z, nv z] W fun e w' => e = .returned (nv z2) ∧ Below W.heap.size W w')
    (C2 : ∀ W, Calls Tryz.prog 15 #[nv y, nv y] W fun e w' => e = .returned (nv y2) ∧ Below W.heap.size W w')
    (C3 : ∀ W, Calls Tryz.prog 15 #[nv x, nv y2] W fun e w' => e = .returned (nv q1) ∧ Below W.heap.size W w')
    (C4 : ∀ W, Calls Tryz.prog 15 #[.agg #[.int .u64 4, .int .u64 0, .int .u64 0, .int .u64 0], nv q1] W fun e w' => e = .returned (nv s) ∧ Below W.heap.size W w')
    (C5 : ∀ W, Calls Tryz.prog 16 #[nv x, nv z2] W fun e w' => e = .returned (nv u1) ∧ Below W.heap.size W w')
    (C6 : ∀ W, Calls Tryz.prog 14 #[nv x, nv z2] W fun e w' => e = .returned (nv u2) ∧ Below W.heap.size W w')
    (C7 : ∀ W, Calls Tryz.prog 15 #[nv u1, nv u2] W fun e w' => e = .returned (nv u3) ∧ Below W.heap.size W w')
    (C8 : ∀ W, Calls Tryz.prog 15 #[.agg #[.int .u64 3, .int .u64 0, .int .u64 0, .int .u64 0], nv u3] W fun e w' => e = .returned (nv m) ∧ Below W.heap.size W w')
    (C9 : ∀ W, Calls Tryz.prog 15 #[nv m, nv m] W fun e w' => e = .returned (nv m2) ∧ Below W.heap.size W w')
    (C10 : ∀ W, Calls Tryz.prog 14 #[nv s, nv s] W fun e w' => e = .returned (nv s2) ∧ Below W.heap.size W w')
    (C11 : ∀ W, Calls Tryz.prog 16 #[nv m2, nv s2] W fun e w' => e = .returned (nv X) ∧ Below W.heap.size W w')
    (C12 : ∀ W, Calls Tryz.prog 16 #[nv s, nv X] W fun e w' => e = .returned (nv d1) ∧ Below W.heap.size W w')
    (C13 : ∀ W, Calls Tryz.prog 15 #[nv m, nv d1] W fun e w' => e = .returned (nv d2) ∧ Below W.heap.size W w')
    (C14 : ∀ W, Calls Tryz.prog 15 #[nv y2, nv y2] W fun e w' => e = .returned (nv y4) ∧ Below W.heap.size W w')
    (C15 : ∀ W, Calls Tryz.prog 15 #[.agg #[.int .u64 8, .int .u64 0, .int .u64 0, .int .u64 0], nv y4] W fun e w' => e = .returned (nv y8) ∧ Below W.heap.size W w')
    (C16 : ∀ W, Calls Tryz.prog 16 #[nv d2, nv y8] W fun e w' => e = .returned (nv Y) ∧ Below W.heap.size W w')
    (C17 : ∀ W, Calls Tryz.prog 15 #[nv y, nv z] W fun e w' => e = .returned (nv yz) ∧ Below W.heap.size W w')
    (C18 : ∀ W, Calls Tryz.prog 15 #[.agg #[.int .u64 2, .int .u64 0, .int .u64 0, .int .u64 0], nv yz] W fun e w' => e = .returned (nv Z) ∧ Below W.heap.size W w') :
    Calls Tryz.prog 52 #[tv x y z] w fun e w' => e = .returned (tv X Y Z) ∧ Below w.heap.size w w' := by
  go_enter Tryz.func52, Tryz.ntmps52
  have Ba : Arr (((w.alloc (.cells #[.int .u64 (lim (x) 0), .int .u64 (lim (x) 1), .int .u64 (lim (x) 2), .int .u64 (lim (x) 3), .int .u64 (lim (y) 0), .int .u64 (lim (y) 1), .int .u64 (lim (y) 2), .int .u64 (lim (y) 3), .int .u64 (lim (z) 0), .int .u64 (lim (z) 1), .int .u64 (lim (z) 2), .int .u64 (lim (z) 3)] 49)).alloc (.cells #[.int .u64 0, .int .u64 0, .int .u64 0, .int .u64 0, .int .u64 0, .int .u64 0, .int .u64 0, .int .u64 0, .int .u64 0, .int .u64 0, .int .u64 0, .int .u64 0] 49))) (w.heap.size) 12 (trx (x) (y) (z)) := by refine Arr.mk12 ?_ ?_ ?_ ?_ ?_ ?_ ?_ ?_ ?_ ?_ ?_ ?_ ?_ <;> simp [go_sem, px, sx, zx, trx, trz]
  have Bo : Arr (((w.alloc (.cells #[.int .u64 (lim (x) 0), .int .u64 (lim (x) 1), .int .u64 (lim (x) 2), .int .u64 (lim (x) 3), .int .u64 (lim (y) 0), .int .u64 (lim (y) 1), .int .u64 (lim (y) 2), .int .u64 (lim (y) 3), .int .u64 (lim (z) 0), .int .u64 (lim (z) 1), .int .u64 (lim (z) 2), .int .u64 (lim (z) 3)] 49)).alloc (.cells #[.int .u64 0, .int .u64 0, .int .u64 0, .int .u64 0, .int .u64 0, .int .u64 0, .int .u64 0, .int .u64 0, .int .u64 0, .int .u64 0, .int .u64 0, .int .u64 0] 49))) (w.heap.size + 1) 12 (trz) := by refine Arr.mk12 ?_ ?_ ?_ ?_ ?_ ?_ ?_ ?_ ?_ ?_ ?_ ?_ ?_ <;> simp [go_sem, px, sx, zx, trx, trz]
  have hB' : Below w.heap.size w ((w.alloc (.cells #[.int .u64 (lim (x) 0), .int .u64 (lim (x) 1), .int .u64 (lim (x) 2), .int .u64 (lim (x) 3), .int .u64 (lim (y) 0), .int .u64 (lim (y) 1), .int .u64 (lim (y) 2), .int .u64 (lim (y) 3), .int .u64 (lim (z) 0), .int .u64 (lim (z) 1), .int .u64 (lim (z) 2), .int .u64 (lim (z) 3)] 49)).alloc (.cells #[.int .u64 0, .int .u64 0, .int .u64 0, .int .u64 0, .int .u64 0, .int .u64 0, .int .u64 0, .int .u64 0, .int .u64 0, .int .u64 0, .int .u64 0, .int .u64 0] 49)) := by go_grown
  have Aa := Ba
  have Ao := Bo
  have hB := hB'
  clear Ba Bo hB'
  have ca_0 := Aa.cv 0 (by omega) (.int .u64 (lim (x) 0)) rfl
  have ca_1 := Aa.cv 1 (by omega) (.int .u64 (lim (x) 1)) rfl
  have ca_2 := Aa.cv 2 (by omega) (.int .u64 (lim (x) 2)) rfl
  have ca_3 := Aa.cv 3 (by omega) (.int .u64 (lim (x) 3)) rfl
  have ca_4 := Aa.cv 4 (by omega) (.int .u64 (lim (y) 0)) rfl
  have ca_5 := Aa.cv 5 (by omega) (.int .u64 (lim (y) 1)) rfl
  have ca_6 := Aa.cv 6 (by omega) (.int .u64 (lim (y) 2)) rfl
  have ca_7 := Aa.cv 7 (by omega) (.int .u64 (lim (y) 3)) rfl
  have ca_8 := Aa.cv 8 (by omega) (.int .u64 (lim (z) 0)) rfl
  have ca_9 := Aa.cv 9 (by omega) (.int .u64 (lim (z) 1)) rfl
  have ca_10 := Aa.cv 10 (by omega) (.int .u64 (lim (z) 2)) rfl
  have ca_11 := Aa.cv 11 (by omega) (.int .u64 (lim (z) 3)) rfl
  go_wp2_with fail
  refine (C1 _).mono ?_
  rintro e w11 ⟨rfl, hb⟩
  have Ba := Arr.to' Aa hb
  have Bo := Arr.to' Ao hb
  have hB' := Bel.call hB hb
  clear hb ca_0 ca_1 ca_2 ca_3 ca_4 ca_5 ca_6 ca_7 ca_8 ca_9 ca_10 ca_11 Aa Ao hB
  have Aa := Ba
  have Ao := Bo
  have hB := hB'
  clear Ba Bo hB'
  have la_2 := Aa.lt
  have lo_2 := Ao.lt
  have lB_2 := hB.size
  have Ba := (Arr.al' Aa (.cells #[.int .u64 (lim (z2) 0), .int .u64 (lim (z2) 1), .int .u64 (lim (z2) 2), .int .u64 (lim (z2) 3)] 24))
  have Bo := (Arr.al' Ao (.cells #[.int .u64 (lim (z2) 0), .int .u64 (lim (z2) 1), .int .u64 (lim (z2) 2), .int .u64 (lim (z2) 3)] 24))
  have Bq : Arr ((w11.alloc (.cells #[.int .u64 (lim (z2) 0), .int .u64 (lim (z2) 1), .int .u64 (lim (z2) 2), .int .u64 (lim (z2) 3)] 24))) (w11.heap.size) 4 (fun j => .int .u64 (lim (z2) j)) := by refine Arr.mk4 ?_ ?_ ?_ ?_ ?_ ?_ ?_ ?_ <;> simp [go_sem]
  have hB' := (Bel.al hB (.cells #[.int .u64 (lim (z2) 0), .int .u64 (lim (z2) 1), .int .u64 (lim (z2) 2), .int .u64 (lim (z2) 3)] 24))
  clear Aa Ao hB
  have Aa := Ba
  have Ao := Bo
  have Aq := Bq
  have hB := hB'
  clear Ba Bo Bq hB'
  have ca_0 := Aa.cv 0 (by omega) (.int .u64 (lim (x) 0)) rfl
  have ca_1 := Aa.cv 1 (by omega) (.int .u64 (lim (x) 1)) rfl
  have ca_2 := Aa.cv 2 (by omega) (.int .u64 (lim (x) 2)) rfl
  have ca_3 := Aa.cv 3 (by omega) (.int .u64 (lim (x) 3)) rfl
  have ca_4 := Aa.cv 4 (by omega) (.int .u64 (lim (y) 0)) rfl
  have ca_5 := Aa.cv 5 (by omega) (.int .u64 (lim (y) 1)) rfl
  have ca_6 := Aa.cv 6 (by omega) (.int .u64 (lim (y) 2)) rfl
  have ca_7 := Aa.cv 7 (by omega) (.int .u64 (lim (y) 3)) rfl
  have ca_8 := Aa.cv 8 (by omega) (.int .u64 (lim (z) 0)) rfl
  have ca_9 := Aa.cv 9 (by omega) (.int .u64 (lim (z) 1)) rfl
  have ca_10 := Aa.cv 10 (by omega) (.int .u64 (lim (z) 2)) rfl
  have ca_11 := Aa.cv 11 (by omega) (.int .u64 (lim (z) 3)) rfl
  go_wp2_with fail
  refine (C2 _).mono ?_
  rintro e w2 ⟨rfl, hb⟩
  have Ba := Arr.to' Aa hb
  have Bo := Arr.to' Ao hb
  have Bq := Arr.to' Aq hb
  have hB' := Bel.call hB hb
  clear hb ca_0 ca_1 ca_2 ca_3 ca_4 ca_5 ca_6 ca_7 ca_8 ca_9 ca_10 ca_11 Aa Ao Aq hB
  have Aa := Ba
  have Ao := Bo
  have Aq := Bq
  have hB := hB'
  clear Ba Bo Bq hB'
  have la_3 := Aa.lt
  have lo_3 := Ao.lt
  have lq_3 := Aq.lt
  have lB_3 := hB.size
  have Ba := (Arr.al' Aa (.cells #[.int .u64 (lim (y2) 0), .int .u64 (lim (y2) 1), .int .u64 (lim (y2) 2), .int .u64 (lim (y2) 3)] 24))
  have Bo := (Arr.al' Ao (.cells #[.int .u64 (lim (y2) 0), .int .u64 (lim (y2) 1), .int .u64 (lim (y2) 2), .int .u64 (lim (y2) 3)] 24))
  have Bq := (Arr.al' Aq (.cells #[.int .u64 (lim (y2) 0), .int .u64 (lim (y2) 1), .int .u64 (lim (y2) 2), .int .u64 (lim (y2) 3)] 24))
  have Br : Arr ((w2.alloc (.cells #[.int .u64 (lim (y2) 0), .int .u64 (lim (y2) 1), .int .u64 (lim (y2) 2), .int .u64 (lim (y2) 3)] 24))) (w2.heap.size) 4 (fun j => .int .u64 (lim (y2) j)) := by refine Arr.mk4 ?_ ?_ ?_ ?_ ?_ ?_ ?_ ?_ <;> simp [go_sem]
  have hB' := (Bel.al hB (.cells #[.int .u64 (lim (y2) 0), .int .u64 (lim (y2) 1), .int .u64 (lim (y2) 2), .int .u64 (lim (y2) 3)] 24))
  clear Aa Ao Aq hB
  have Aa := Ba
  have Ao := Bo
  have Aq := Bq
  have Ar := Br
  have hB := hB'
  clear Ba Bo Bq Br hB'
  have ca_0 := Aa.cv 0 (by omega) (.int .u64 (lim (x) 0)) rfl
  have ca_1 := Aa.cv 1 (by omega) (.int .u64 (lim (x) 1)) rfl
  have ca_2 := Aa.cv 2 (by omega) (.int .u64 (lim (x) 2)) rfl
  have ca_3 := Aa.cv 3 (by omega) (.int .u64 (lim (x) 3)) rfl
  have ca_4 := Aa.cv 4 (by omega) (.int .u64 (lim (y) 0)) rfl
  have ca_5 := Aa.cv 5 (by omega) (.int .u64 (lim (y) 1)) rfl
  have ca_6 := Aa.cv 6 (by omega) (.int .u64 (lim (y) 2)) rfl
  have ca_7 := Aa.cv 7 (by omega) (.int .u64 (lim (y) 3)) rfl
  have ca_8 := Aa.cv 8 (by omega) (.int .u64 (lim (z) 0)) rfl
  have ca_9 := Aa.cv 9 (by omega) (.int .u64 (lim (z) 1)) rfl
  have ca_10 := Aa.cv 10 (by omega) (.int .u64 (lim (z) 2)) rfl
  have ca_11 := Aa.cv 11 (by omega) (.int .u64 (lim (z) 3)) rfl
  have cr := Ar.c
  go_wp2_with fail
  refine (C3 _).mono ?_
  rintro e w3 ⟨rfl, hb⟩
  have Ba := Arr.to' Aa hb
  have Bo := Arr.to' Ao hb
  have Bq := Arr.to' Aq hb
  have Br := Arr.to' Ar hb
  have hB' := Bel.call hB hb
  clear hb ca_0 ca_1 ca_2 ca_3 ca_4 ca_5 ca_6 ca_7 ca_8 ca_9 ca_10 ca_11 cr Aa Ao Aq Ar hB
  have Aa := Ba
  have Ao := Bo
  have Aq := Bq
  have Ar := Br
  have hB := hB'
  clear Ba Bo Bq Br hB'
  go_wp2_with fail
  refine (C4 _).mono ?_
  rintro e w14 ⟨rfl, hb⟩
  have Ba := Arr.to' Aa hb
  have Bo := Arr.to' Ao hb
  have Bq := Arr.to' Aq hb
  have Br := Arr.to' Ar hb
  have hB' := Bel.call hB hb
  clear hb Aa Ao Aq Ar hB
  have Aa := Ba
  have Ao := Bo
  have Aq := Bq
  have Ar := Br
  have hB := hB'
  clear Ba Bo Bq Br hB'
  have la_4 := Aa.lt
  have lo_4 := Ao.lt
  have lq_4 := Aq.lt
  have lr_4 := Ar.lt
  have lB_4 := hB.size
  have Ba := (Arr.al' Aa (.cells #[.int .u64 (lim (s) 0), .int .u64 (lim (s) 1), .int .u64 (lim (s) 2), .int .u64 (lim (s) 3)] 24))
  have Bo := (Arr.al' Ao (.cells #[.int .u64 (lim (s) 0), .int .u64 (lim (s) 1), .int .u64 (lim (s) 2), .int .u64 (lim (s) 3)] 24))
  have Bq := (Arr.al' Aq (.cells #[.int .u64 (lim (s) 0), .int .u64 (lim (s) 1), .int .u64 (lim (s) 2), .int .u64 (lim (s) 3)] 24))
  have Br := (Arr.al' Ar (.cells #[.int .u64 (lim (s) 0), .int .u64 (lim (s) 1), .int .u64 (lim (s) 2), .int .u64 (lim (s) 3)] 24))
  have Bs : Arr ((w14.alloc (.cells #[.int .u64 (lim (s) 0), .int .u64 (lim (s) 1), .int .u64 (lim (s) 2), .int .u64 (lim (s) 3)] 24))) (w14.heap.size) 4 (fun j => .int .u64 (lim (s) j)) := by refine Arr.mk4 ?_ ?_ ?_ ?_ ?_ ?_ ?_ ?_ <;> simp [go_sem]
  have hB' := (Bel.al hB (.cells #[.int .u64 (lim (s) 0), .int .u64 (lim (s) 1), .int .u64 (lim (s) 2), .int .u64 (lim (s) 3)] 24))
  clear Aa Ao Aq Ar hB
  have Aa := Ba
  have Ao := Bo
  have Aq := Bq
  have Ar := Br
  have As := Bs
  have hB := hB'
  clear Ba Bo Bq Br Bs hB'
  go_wp2_with fail
  apply wp_region_alloc_tail 11 (by kernel_rfl) (by kernel_rfl) (by kernel_rfl) (.cells #[.int .u64 0, .int .u64 0, .int .u64 0, .int .u64 0] 24) _ rfl (fun _ _ => by simp [go_sem])
  · intro W hW
    have ra0 := (Arr.to' Aa hW).cg 0 (by omega) (.int .u64 (lim (x) 0)) rfl
    have ra1 := (Arr.to' Aa hW).cg 1 (by omega) (.int .u64 (lim (x) 1)) rfl
    have ra2 := (Arr.to' Aa hW).cg 2 (by omega) (.int .u64 (lim (x) 2)) rfl
    have ra3 := (Arr.to' Aa hW).cg 3 (by omega) (.int .u64 (lim (x) 3)) rfl
    have ra4 := (Arr.to' Aa hW).cg 4 (by omega) (.int .u64 (lim (y) 0)) rfl
    have ra5 := (Arr.to' Aa hW).cg 5 (by omega) (.int .u64 (lim (y) 1)) rfl
    have ra6 := (Arr.to' Aa hW).cg 6 (by omega) (.int .u64 (lim (y) 2)) rfl
    have ra7 := (Arr.to' Aa hW).cg 7 (by omega) (.int .u64 (lim (y) 3)) rfl
    have ra8 := (Arr.to' Aa hW).cg 8 (by omega) (.int .u64 (lim (z) 0)) rfl
    have ra9 := (Arr.to' Aa hW).cg 9 (by omega) (.int .u64 (lim (z) 1)) rfl
    have ra10 := (Arr.to' Aa hW).cg 10 (by omega) (.int .u64 (lim (z) 2)) rfl
    have ra11 := (Arr.to' Aa hW).cg 11 (by omega) (.int .u64 (lim (z) 3)) rfl
    have rq0 := fun ds os => cell_regrown ((Arr.to' Aq hW).c 0 (by omega)) ds os
    have rq1 := fun ds os => cell_regrown ((Arr.to' Aq hW).c 1 (by omega)) ds os
    have rq2 := fun ds os => cell_regrown ((Arr.to' Aq hW).c 2 (by omega)) ds os
    have rq3 := fun ds os => cell_regrown ((Arr.to' Aq hW).c 3 (by omega)) ds os
    simp only [List.take_succ_cons, List.take_zero]
    repeat (go_big_quiet_step (first | (go_at_call 16; with_reducible first | exact Calls.regrown_of (C5 _)) | (go_at_call 14; with_reducible first | exact Calls.regrown_of (C6 _)) | (go_at_call 15; with_reducible first | exact Calls.regrown_of (C7 _) | exact Calls.regrown_of (C8 _))))
    exact wpQuiet_nil rfl
  intro v5 w15 hb1 hb2
  simp only [List.drop_succ_cons, List.drop_zero, Act.put, List.setIfInBounds_toArray, List.set_cons_succ, List.set_cons_zero]
  have Ea := Arr.to' Aa hb1
  have la_v5 := Ea.lt
  have Ba := Arr.to' (Arr.al' Ea (.cells #[.int .u64 0, .int .u64 0, .int .u64 0, .int .u64 0] 24)) hb2
  have Eo := Arr.to' Ao hb1
  have lo_v5 := Eo.lt
  have Bo := Arr.to' (Arr.al' Eo (.cells #[.int .u64 0, .int .u64 0, .int .u64 0, .int .u64 0] 24)) hb2
  have Eq := Arr.to' Aq hb1
  have lq_v5 := Eq.lt
  have Bq := Arr.to' (Arr.al' Eq (.cells #[.int .u64 0, .int .u64 0, .int .u64 0, .int .u64 0] 24)) hb2
  have Er := Arr.to' Ar hb1
  have lr_v5 := Er.lt
  have Br := Arr.to' (Arr.al' Er (.cells #[.int .u64 0, .int .u64 0, .int .u64 0, .int .u64 0] 24)) hb2
  have Es := Arr.to' As hb1
  have ls_v5 := Es.lt
  have Bs := Arr.to' (Arr.al' Es (.cells #[.int .u64 0, .int .u64 0, .int .u64 0, .int .u64 0] 24)) hb2
  have Bm := (Arr.mk4 (w := (v5.alloc (.cells #[.int .u64 0, .int .u64 0, .int .u64 0, .int .u64 0] 24))) (f := fun _ => .int .u64 0) (b := v5.heap.size) (by simp [go_sem]) (by simp [go_sem]) (by simp [go_sem]) (by simp [go_sem]) (by simp [go_sem]) (by simp [go_sem]) (by simp [go_sem]) (by simp [go_sem])).below hb2 (by go_size)
  have lB_v5 := (Bel.call hB hb1).size
  have hB' := Bel.call (Bel.al (Bel.call hB hb1) (.cells #[.int .u64 0, .int .u64 0, .int .u64 0, .int .u64 0] 24)) hb2
  clear hb1 hb2 Ea Eo Eq Er Es Aa Ao Aq Ar As hB
  have Aa := Ba
  have Ao := Bo
  have Aq := Bq
  have Ar := Br
  have As := Bs
  have Am := Bm
  have hB := hB'
  clear Ba Bo Bq Br Bs Bm hB'
  have cm := Am.c
  have zm := Am.z
  have Ba := Arr.st4o (b' := v5.heap.size) Aa (by have := Aa.lt; have := Am.lt; omega) (m)
  have Bo := Arr.st4o (b' := v5.heap.size) Ao (by have := Ao.lt; have := Am.lt; omega) (m)
  have Bq := Arr.st4o (b' := v5.heap.size) Aq (by have := Aq.lt; have := Am.lt; omega) (m)
  have Br := Arr.st4o (b' := v5.heap.size) Ar (by have := Ar.lt; have := Am.lt; omega) (m)
  have Bs := Arr.st4o (b' := v5.heap.size) As (by have := As.lt; have := Am.lt; omega) (m)
  have Bm := Arr.st4 Am (m)
  have hB' := Bel.st4 hB (b := v5.heap.size) (by have := hB.size; omega) (m)
  clear Aa Ao Aq Ar As Am hB
  have Aa := Ba
  have Ao := Bo
  have Aq := Bq
  have Ar := Br
  have As := Bs
  have Am := Bm
  have hB := hB'
  clear Ba Bo Bq Br Bs Bm hB'
  go_wp2_with fail
  apply wp_region_alloc_tail 7 (by kernel_rfl) (by kernel_rfl) (by kernel_rfl) (.cells #[.int .u64 0, .int .u64 0, .int .u64 0, .int .u64 0] 24) _ rfl (fun _ _ => by simp [go_sem])
  · intro W hW
    have rm0 := fun ds os => cell_regrown ((Arr.to' Am hW).c 0 (by omega)) ds os
    have rm1 := fun ds os => cell_regrown ((Arr.to' Am hW).c 1 (by omega)) ds os
    have rm2 := fun ds os => cell_regrown ((Arr.to' Am hW).c 2 (by omega)) ds os
    have rm3 := fun ds os => cell_regrown ((Arr.to' Am hW).c 3 (by omega)) ds os
    have rs0 := fun ds os => cell_regrown ((Arr.to' As hW).c 0 (by omega)) ds os
    have rs1 := fun ds os => cell_regrown ((Arr.to' As hW).c 1 (by omega)) ds os
    have rs2 := fun ds os => cell_regrown ((Arr.to' As hW).c 2 (by omega)) ds os
    have rs3 := fun ds os => cell_regrown ((Arr.to' As hW).c 3 (by omega)) ds os
    simp only [List.take_succ_cons, List.take_zero]
    repeat (go_big_quiet_step (first | (go_at_call 15; with_reducible first | exact Calls.regrown_of (C9 _)) | (go_at_call 14; with_reducible first | exact Calls.regrown_of (C10 _)) | (go_at_call 16; with_reducible first | exact Calls.regrown_of (C11 _))))
    exact wpQuiet_nil rfl
  intro v6 w16 hb1 hb2
  simp only [List.drop_succ_cons, List.drop_zero, Act.put, List.setIfInBounds_toArray, List.set_cons_succ, List.set_cons_zero]
  have Ea := Arr.to' Aa hb1
  have la_v6 := Ea.lt
  have Ba := Arr.to' (Arr.al' Ea (.cells #[.int .u64 0, .int .u64 0, .int .u64 0, .int .u64 0] 24)) hb2
  have Eo := Arr.to' Ao hb1
  have lo_v6 := Eo.lt
  have Bo := Arr.to' (Arr.al' Eo (.cells #[.int .u64 0, .int .u64 0, .int .u64 0, .int .u64 0] 24)) hb2
  have Eq := Arr.to' Aq hb1
  have lq_v6 := Eq.lt
  have Bq := Arr.to' (Arr.al' Eq (.cells #[.int .u64 0, .int .u64 0, .int .u64 0, .int .u64 0] 24)) hb2
  have Er := Arr.to' Ar hb1
  have lr_v6 := Er.lt
  have Br := Arr.to' (Arr.al' Er (.cells #[.int .u64 0, .int .u64 0, .int .u64 0, .int .u64 0] 24)) hb2
  have Es := Arr.to' As hb1
  have ls_v6 := Es.lt
  have Bs := Arr.to' (Arr.al' Es (.cells #[.int .u64 0, .int .u64 0, .int .u64 0, .int .u64 0] 24)) hb2
  have Em := Arr.to' Am hb1
  have lm_v6 := Em.lt
  have Bm := Arr.to' (Arr.al' Em (.cells #[.int .u64 0, .int .u64 0, .int .u64 0, .int .u64 0] 24)) hb2
  have Bx := (Arr.mk4 (w := (v6.alloc (.cells #[.int .u64 0, .int .u64 0, .int .u64 0, .int .u64 0] 24))) (f := fun _ => .int .u64 0) (b := v6.heap.size) (by simp [go_sem]) (by simp [go_sem]) (by simp [go_sem]) (by simp [go_sem]) (by simp [go_sem]) (by simp [go_sem]) (by simp [go_sem]) (by simp [go_sem])).below hb2 (by go_size)
  have lB_v6 := (Bel.call hB hb1).size
  have hB' := Bel.call (Bel.al (Bel.call hB hb1) (.cells #[.int .u64 0, .int .u64 0, .int .u64 0, .int .u64 0] 24)) hb2
  clear hb1 hb2 Ea Eo Eq Er Es Em Aa Ao Aq Ar As Am hB
  have Aa := Ba
  have Ao := Bo
  have Aq := Bq
  have Ar := Br
  have As := Bs
  have Am := Bm
  have Ax := Bx
  have hB := hB'
  clear Ba Bo Bq Br Bs Bm Bx hB'
  have cx := Ax.c
  have zx := Ax.z
  have Ba := Arr.st4o (b' := v6.heap.size) Aa (by have := Aa.lt; have := Ax.lt; omega) (X)
  have Bo := Arr.st4o (b' := v6.heap.size) Ao (by have := Ao.lt; have := Ax.lt; omega) (X)
  have Bq := Arr.st4o (b' := v6.heap.size) Aq (by have := Aq.lt; have := Ax.lt; omega) (X)
  have Br := Arr.st4o (b' := v6.heap.size) Ar (by have := Ar.lt; have := Ax.lt; omega) (X)
  have Bs := Arr.st4o (b' := v6.heap.size) As (by have := As.lt; have := Ax.lt; omega) (X)
  have Bm := Arr.st4o (b' := v6.heap.size) Am (by have := Am.lt; have := Ax.lt; omega) (X)
  have Bx := Arr.st4 Ax (X)
  have hB' := Bel.st4 hB (b := v6.heap.size) (by have := hB.size; omega) (X)
  clear Aa Ao Aq Ar As Am Ax hB
  have Aa := Ba
  have Ao := Bo
  have Aq := Bq
  have Ar := Br
  have As := Bs
  have Am := Bm
  have Ax := Bx
  have hB := hB'
  clear Ba Bo Bq Br Bs Bm Bx hB'
  go_wp2_with fail
  apply wp_region_alloc_tail 11 (by kernel_rfl) (by kernel_rfl) (by kernel_rfl) (.cells #[.int .u64 0, .int .u64 0, .int .u64 0, .int .u64 0] 24) _ rfl (fun _ _ => by simp [go_sem])
  · intro W hW
    have rm0 := fun ds os => cell_regrown ((Arr.to' Am hW).c 0 (by omega)) ds os
    have rm1 := fun ds os => cell_regrown ((Arr.to' Am hW).c 1 (by omega)) ds os
    have rm2 := fun ds os => cell_regrown ((Arr.to' Am hW).c 2 (by omega)) ds os
    have rm3 := fun ds os => cell_regrown ((Arr.to' Am hW).c 3 (by omega)) ds os
    have rs0 := fun ds os => cell_regrown ((Arr.to' As hW).c 0 (by omega)) ds os
    have rs1 := fun ds os => cell_regrown ((Arr.to' As hW).c 1 (by omega)) ds os
    have rs2 := fun ds os => cell_regrown ((Arr.to' As hW).c 2 (by omega)) ds os
    have rs3 := fun ds os => cell_regrown ((Arr.to' As hW).c 3 (by omega)) ds os
    have rx0 := fun ds os => cell_regrown ((Arr.to' Ax hW).c 0 (by omega)) ds os
    have rx1 := fun ds os => cell_regrown ((Arr.to' Ax hW).c 1 (by omega)) ds os
    have rx2 := fun ds os => cell_regrown ((Arr.to' Ax hW).c 2 (by omega)) ds os
    have rx3 := fun ds os => cell_regrown ((Arr.to' Ax hW).c 3 (by omega)) ds os
    have rr0 := fun ds os => cell_regrown ((Arr.to' Ar hW).c 0 (by omega)) ds os
    have rr1 := fun ds os => cell_regrown ((Arr.to' Ar hW).c 1 (by omega)) ds os
    have rr2 := fun ds os => cell_regrown ((Arr.to' Ar hW).c 2 (by omega)) ds os
    have rr3 := fun ds os => cell_regrown ((Arr.to' Ar hW).c 3 (by omega)) ds os
    simp only [List.take_succ_cons, List.take_zero]
    repeat (go_big_quiet_step (first | (go_at_call 16; with_reducible first | exact Calls.regrown_of (C12 _) | exact Calls.regrown_of (C16 _)) | (go_at_call 15; with_reducible first | exact Calls.regrown_of (C13 _) | exact Calls.regrown_of (C14 _) | exact Calls.regrown_of (C15 _))))
    exact wpQuiet_nil rfl
  intro v7 w17 hb1 hb2
  simp only [List.drop_succ_cons, List.drop_zero, Act.put, List.setIfInBounds_toArray, List.set_cons_succ, List.set_cons_zero]
  have Ea := Arr.to' Aa hb1
  have la_v7 := Ea.lt
  have Ba := Arr.to' (Arr.al' Ea (.cells #[.int .u64 0, .int .u64 0, .int .u64 0, .int .u64 0] 24)) hb2
  have Eo := Arr.to' Ao hb1
  have lo_v7 := Eo.lt
  have Bo := Arr.to' (Arr.al' Eo (.cells #[.int .u64 0, .int .u64 0, .int .u64 0, .int .u64 0] 24)) hb2
  have Eq := Arr.to' Aq hb1
  have lq_v7 := Eq.lt
  have Bq := Arr.to' (Arr.al' Eq (.cells #[.int .u64 0, .int .u64 0, .int .u64 0, .int .u64 0] 24)) hb2
  have Er := Arr.to' Ar hb1
  have lr_v7 := Er.lt
  have Br := Arr.to' (Arr.al' Er (.cells #[.int .u64 0, .int .u64 0, .int .u64 0, .int .u64 0] 24)) hb2
  have Es := Arr.to' As hb1
  have ls_v7 := Es.lt
  have Bs := Arr.to' (Arr.al' Es (.cells #[.int .u64 0, .int .u64 0, .int .u64 0, .int .u64 0] 24)) hb2
  have Em := Arr.to' Am hb1
  have lm_v7 := Em.lt
  have Bm := Arr.to' (Arr.al' Em (.cells #[.int .u64 0, .int .u64 0, .int .u64 0, .int .u64 0] 24)) hb2
  have Ex := Arr.to' Ax hb1
  have lx_v7 := Ex.lt
  have Bx := Arr.to' (Arr.al' Ex (.cells #[.int .u64 0, .int .u64 0, .int .u64 0, .int .u64 0] 24)) hb2
  have By := (Arr.mk4 (w := (v7.alloc (.cells #[.int .u64 0, .int .u64 0, .int .u64 0, .int .u64 0] 24))) (f := fun _ => .int .u64 0) (b := v7.heap.size) (by simp [go_sem]) (by simp [go_sem]) (by simp [go_sem]) (by simp [go_sem]) (by simp [go_sem]) (by simp [go_sem]) (by simp [go_sem]) (by simp [go_sem])).below hb2 (by go_size)
  have lB_v7 := (Bel.call hB hb1).size
  have hB' := Bel.call (Bel.al (Bel.call hB hb1) (.cells #[.int .u64 0, .int .u64 0, .int .u64 0, .int .u64 0] 24)) hb2
  clear hb1 hb2 Ea Eo Eq Er Es Em Ex Aa Ao Aq Ar As Am Ax hB
  have Aa := Ba
  have Ao := Bo
  have Aq := Bq
  have Ar := Br
  have As := Bs
  have Am := Bm
  have Ax := Bx
  have Ay := By
  have hB := hB'
  clear Ba Bo Bq Br Bs Bm Bx By hB'
  have cy := Ay.c
  have zy := Ay.z
  have Ba := Arr.st4o (b' := v7.heap.size) Aa (by have := Aa.lt; have := Ay.lt; omega) (Y)
  have Bo := Arr.st4o (b' := v7.heap.size) Ao (by have := Ao.lt; have := Ay.lt; omega) (Y)
  have Bq := Arr.st4o (b' := v7.heap.size) Aq (by have := Aq.lt; have := Ay.lt; omega) (Y)
  have Br := Arr.st4o (b' := v7.heap.size) Ar (by have := Ar.lt; have := Ay.lt; omega) (Y)
  have Bs := Arr.st4o (b' := v7.heap.size) As (by have := As.lt; have := Ay.lt; omega) (Y)
  have Bm := Arr.st4o (b' := v7.heap.size) Am (by have := Am.lt; have := Ay.lt; omega) (Y)
  have Bx := Arr.st4o (b' := v7.heap.size) Ax (by have := Ax.lt; have := Ay.lt; omega) (Y)
  have By := Arr.st4 Ay (Y)
  have hB' := Bel.st4 hB (b := v7.heap.size) (by have := hB.size; omega) (Y)
  clear Aa Ao Aq Ar As Am Ax Ay hB
  have Aa := Ba
  have Ao := Bo
  have Aq := Bq
  have Ar := Br
  have As := Bs
  have Am := Bm
  have Ax := Bx
  have Ay := By
  have hB := hB'
  clear Ba Bo Bq Br Bs Bm Bx By hB'
  have ra0 := Aa.cg 0 (by omega) (.int .u64 (lim (x) 0)) rfl
  have ra1 := Aa.cg 1 (by omega) (.int .u64 (lim (x) 1)) rfl
  have ra2 := Aa.cg 2 (by omega) (.int .u64 (lim (x) 2)) rfl
  have ra3 := Aa.cg 3 (by omega) (.int .u64 (lim (x) 3)) rfl
  have ra4 := Aa.cg 4 (by omega) (.int .u64 (lim (y) 0)) rfl
  have ra5 := Aa.cg 5 (by omega) (.int .u64 (lim (y) 1)) rfl
  have ra6 := Aa.cg 6 (by omega) (.int .u64 (lim (y) 2)) rfl
  have ra7 := Aa.cg 7 (by omega) (.int .u64 (lim (y) 3)) rfl
  have ra8 := Aa.cg 8 (by omega) (.int .u64 (lim (z) 0)) rfl
  have ra9 := Aa.cg 9 (by omega) (.int .u64 (lim (z) 1)) rfl
  have ra10 := Aa.cg 10 (by omega) (.int .u64 (lim (z) 2)) rfl
  have ra11 := Aa.cg 11 (by omega) (.int .u64 (lim (z) 3)) rfl
  have rx0 := fun ds os => cell_regrown (Ax.c 0 (by omega)) ds os
  have rx1 := fun ds os => cell_regrown (Ax.c 1 (by omega)) ds os
  have rx2 := fun ds os => cell_regrown (Ax.c 2 (by omega)) ds os
  have rx3 := fun ds os => cell_regrown (Ax.c 3 (by omega)) ds os
  have ry0 := fun ds os => cell_regrown (Ay.c 0 (by omega)) ds os
  have ry1 := fun ds os => cell_regrown (Ay.c 1 (by omega)) ds os
  have ry2 := fun ds os => cell_regrown (Ay.c 2 (by omega)) ds os
  have ry3 := fun ds os => cell_regrown (Ay.c 3 (by omega)) ds os
  go_wp2_with fail
  refine wp_region_below_tail 10 (by kernel_rfl) (by kernel_rfl) ?_
  simp only [List.take_succ_cons, List.take_zero, List.drop_succ_cons, List.drop_zero]
  repeat (go_big_quiet_step (first | (go_at_call 15; with_reducible first | exact Calls.regrown_of (C17 _) | exact Calls.regrown_of (C18 _))))
  refine wpQuiet_nil ?_
  intro w8 hw'
  obtain ⟨⟨dq, osq⟩, hw''⟩ := hw'
  have hb := below_of hw''
  clear hw''
  have Bo := Arr.to' Ao hb
  have hB' := Bel.call hB hb
  clear hb cy zy ra0 ra1 ra2 ra3 ra4 ra5 ra6 ra7 ra8 ra9 ra10 ra11 rx0 rx1 rx2 rx3 ry0 ry1 ry2 ry3 Aa Ao Aq Ar As Am Ax Ay hB
  have Ao := Bo
  have hB := hB'
  clear Bo hB'
  have hS := hB.size
  have co_0 := Ao.cv 0 (by omega) (.int .u64 0) rfl
  have co_1 := Ao.cv 1 (by omega) (.int .u64 0) rfl
  have co_2 := Ao.cv 2 (by omega) (.int .u64 0) rfl
  have co_3 := Ao.cv 3 (by omega) (.int .u64 0) rfl
  have co_4 := Ao.cv 4 (by omega) (.int .u64 0) rfl
  have co_5 := Ao.cv 5 (by omega) (.int .u64 0) rfl
  have co_6 := Ao.cv 6 (by omega) (.int .u64 0) rfl
  have co_7 := Ao.cv 7 (by omega) (.int .u64 0) rfl
  have co_8 := Ao.cv 8 (by omega) (.int .u64 0) rfl
  have co_9 := Ao.cv 9 (by omega) (.int .u64 0) rfl
  have co_10 := Ao.cv 10 (by omega) (.int .u64 0) rfl
  have co_11 := Ao.cv 11 (by omega) (.int .u64 0) rfl
  have zo := Ao.z
  go_wp2_with fail
  refine bodyPost_ret (v := tv X Y Z) (by simp [results, Tryz.results52, go_sem, co_0, co_1, co_2, co_3, co_4, co_5, co_6, co_7, co_8, co_9, co_10, co_11]) rfl ⟨rfl, ?_⟩
  go_grown
end Go.Proofs.YtgekafmojedlkaaGreat
