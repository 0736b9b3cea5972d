/- The reference's triples: raised, twice. -/
import Derived.Test.YtoolbnbfbegjaaaGreatJ21
set_option linter.all false
set_option maxRecDepth 100000
namespace Go.Proofs.YtoolbnbfbegjaaaGreat
open Go.RowKit Go.Sort
def trx (X Y Z : Int) : Nat → Value
  | 0 => .int .u64 (lim X 0)
  | 1 => .int .u64 (lim X 1)
  | 2 => .int .u64 (lim X 2)
  | 3 => .int .u64 (lim X 3)
  | 4 => .int .u64 (lim Y 0)
  | 5 => .int .u64 (lim Y 1)
  | 6 => .int .u64 (lim Y 2)
  | 7 => .int .u64 (lim Y 3)
  | 8 => .int .u64 (lim Z 0)
  | 9 => .int .u64 (lim Z 1)
  | 10 => .int .u64 (lim Z 2)
  | 11 => .int .u64 (lim Z 3)
  | _ => .bool false
def trz (_ : Nat) : Value := .int .u64 0
abbrev tv (X Y Z : Int) : Value := .agg #[.int .u64 (lim (X) 0), .int .u64 (lim (X) 1), .int .u64 (lim (X) 2), .int .u64 (lim (X) 3), .int .u64 (lim (Y) 0), .int .u64 (lim (Y) 1), .int .u64 (lim (Y) 2), .int .u64 (lim (Y) 3), .int .u64 (lim (Z) 0), .int .u64 (lim (Z) 1), .int .u64 (lim (Z) 2), .int .u64 (lim (Z) 3)]
theorem Arr.g_trx {w : World} {b : Nat} {X Y Z : Int} (h : Arr w b 12 (trx X Y Z)) : (∀ (d : Nat) (os : Array Obj), (grow (redrawn w d) os).cell? ⟨b, 0, none⟩ = some (.int .u64 (lim X 0))) ∧ (∀ (d : Nat) (os : Array Obj), (grow (redrawn w d) os).cell? ⟨b, 1, none⟩ = some (.int .u64 (lim X 1))) ∧ (∀ (d : Nat) (os : Array Obj), (grow (redrawn w d) os).cell? ⟨b, 2, none⟩ = some (.int .u64 (lim X 2))) ∧ (∀ (d : Nat) (os : Array Obj), (grow (redrawn w d) os).cell? ⟨b, 3, none⟩ = some (.int .u64 (lim X 3))) ∧ (∀ (d : Nat) (os : Array Obj), (grow (redrawn w d) os).cell? ⟨b, 4, none⟩ = some (.int .u64 (lim Y 0))) ∧ (∀ (d : Nat) (os : Array Obj), (grow (redrawn w d) os).cell? ⟨b, 5, none⟩ = some (.int .u64 (lim Y 1))) ∧ (∀ (d : Nat) (os : Array Obj), (grow (redrawn w d) os).cell? ⟨b, 6, none⟩ = some (.int .u64 (lim Y 2))) ∧ (∀ (d : Nat) (os : Array Obj), (grow (redrawn w d) os).cell? ⟨b, 7, none⟩ = some (.int .u64 (lim Y 3))) ∧ (∀ (d : Nat) (os : Array Obj), (grow (redrawn w d) os).cell? ⟨b, 8, none⟩ = some (.int .u64 (lim Z 0))) ∧ (∀ (d : Nat) (os : Array Obj), (grow (redrawn w d) os).cell? ⟨b, 9, none⟩ = some (.int .u64 (lim Z 1))) ∧ (∀ (d : Nat) (os : Array Obj), (grow (redrawn w d) os).cell? ⟨b, 10, none⟩ = some (.int .u64 (lim Z 2))) ∧ (∀ (d : Nat) (os : Array Obj), (grow (redrawn w d) os).cell? ⟨b, 11, none⟩ = some (.int .u64 (lim Z 3))) := ⟨fun d os => cell_regrown (h.c 0 (by omega)) d os, fun d os => cell_regrown (h.c 1 (by omega)) d os, fun d os => cell_regrown (h.c 2 (by omega)) d os, fun d os => cell_regrown (h.c 3 (by omega)) d os, fun d os => cell_regrown (h.c 4 (by omega)) d os, fun d os => cell_regrown (h.c 5 (by omega)) d os, fun d os => cell_regrown (h.c 6 (by omega)) d os, fun d os => cell_regrown (h.c 7 (by omega)) d os, fun d os => cell_regrown (h.c 8 (by omega)) d os, fun d os => cell_regrown (h.c 9 (by omega)) d os, fun d os => cell_regrown (h.c 10 (by omega)) d os, fun d os => cell_regrown (h.c 11 (by omega)) d os⟩
theorem Arr.c_trx {w : World} {b : Nat} {X Y Z : Int} (h : Arr w b 12 (trx X Y Z)) : w.cell? ⟨b, 0, none⟩ = some (.int .u64 (lim X 0)) ∧ w.cell? ⟨b, 1, none⟩ = some (.int .u64 (lim X 1)) ∧ w.cell? ⟨b, 2, none⟩ = some (.int .u64 (lim X 2)) ∧ w.cell? ⟨b, 3, none⟩ = some (.int .u64 (lim X 3)) ∧ w.cell? ⟨b, 4, none⟩ = some (.int .u64 (lim Y 0)) ∧ w.cell? ⟨b, 5, none⟩ = some (.int .u64 (lim Y 1)) ∧ w.cell? ⟨b, 6, none⟩ = some (.int .u64 (lim Y 2)) ∧ w.cell? ⟨b, 7, none⟩ = some (.int .u64 (lim Y 3)) ∧ w.cell? ⟨b, 8, none⟩ = some (.int .u64 (lim Z 0)) ∧ w.cell? ⟨b, 9, none⟩ = some (.int .u64 (lim Z 1)) ∧ w.cell? ⟨b, 10, none⟩ = some (.int .u64 (lim Z 2)) ∧ w.cell? ⟨b, 11, none⟩ = some (.int .u64 (lim Z 3)) := ⟨h.c 0 (by omega), h.c 1 (by omega), h.c 2 (by omega), h.c 3 (by omega), h.c 4 (by omega), h.c 5 (by omega), h.c 6 (by omega), h.c 7 (by omega), h.c 8 (by omega), h.c 9 (by omega), h.c 10 (by omega), h.c 11 (by omega)⟩
theorem Arr.mk12 {w : World} {b : Nat} {f : Nat → Value} (h0 : w.cell? ⟨b, 0, none⟩ = some (f 0)) (h1 : w.cell? ⟨b, 1, none⟩ = some (f 1)) (h2 : w.cell? ⟨b, 2, none⟩ = some (f 2)) (h3 : w.cell? ⟨b, 3, none⟩ = some (f 3)) (h4 : w.cell? ⟨b, 4, none⟩ = some (f 4)) (h5 : w.cell? ⟨b, 5, none⟩ = some (f 5)) (h6 : w.cell? ⟨b, 6, none⟩ = some (f 6)) (h7 : w.cell? ⟨b, 7, none⟩ = some (f 7)) (h8 : w.cell? ⟨b, 8, none⟩ = some (f 8)) (h9 : w.cell? ⟨b, 9, none⟩ = some (f 9)) (h10 : w.cell? ⟨b, 10, none⟩ = some (f 10)) (h11 : w.cell? ⟨b, 11, none⟩ = some (f 11)) (z : ∀ j, j < 12 → w.frozen? ⟨b, j, none⟩ = false) : Arr w b 12 f := by
  intro j hj
  refine ⟨?_, z j hj⟩
  have h : j = 0 ∨ j = 1 ∨ j = 2 ∨ j = 3 ∨ j = 4 ∨ j = 5 ∨ j = 6 ∨ j = 7 ∨ j = 8 ∨ j = 9 ∨ j = 10 ∨ j = 11 := by omega
  rcases h with h | h | h | h | h | h | h | h | h | h | h | h <;> subst h <;> assumption
abbrev st12 (w : World) (b : Nat) (X Y Z : Int) : World := ((((((((((((w).setCell ⟨b, 0, none⟩ (.int .u64 (lim (X) 0))).setCell ⟨b, 1, none⟩ (.int .u64 (lim (X) 1))).setCell ⟨b, 2, none⟩ (.int .u64 (lim (X) 2))).setCell ⟨b, 3, none⟩ (.int .u64 (lim (X) 3))).setCell ⟨b, 4, none⟩ (.int .u64 (lim (Y) 0))).setCell ⟨b, 5, none⟩ (.int .u64 (lim (Y) 1))).setCell ⟨b, 6, none⟩ (.int .u64 (lim (Y) 2))).setCell ⟨b, 7, none⟩ (.int .u64 (lim (Y) 3))).setCell ⟨b, 8, none⟩ (.int .u64 (lim (Z) 0))).setCell ⟨b, 9, none⟩ (.int .u64 (lim (Z) 1))).setCell ⟨b, 10, none⟩ (.int .u64 (lim (Z) 2))).setCell ⟨b, 11, none⟩ (.int .u64 (lim (Z) 3))
theorem Arr.st12 {w : World} {b : Nat} {f : Nat → Value} (h : Arr w b 12 f) (X Y Z : Int) : Arr (st12 w b X Y Z) b 12 (trx X Y Z) := by
  have h := h.set 0 (by omega) (.int .u64 (lim (X) 0))
  have h := h.set 1 (by omega) (.int .u64 (lim (X) 1))
  have h := h.set 2 (by omega) (.int .u64 (lim (X) 2))
  have h := h.set 3 (by omega) (.int .u64 (lim (X) 3))
  have h := h.set 4 (by omega) (.int .u64 (lim (Y) 0))
  have h := h.set 5 (by omega) (.int .u64 (lim (Y) 1))
  have h := h.set 6 (by omega) (.int .u64 (lim (Y) 2))
  have h := h.set 7 (by omega) (.int .u64 (lim (Y) 3))
  have h := h.set 8 (by omega) (.int .u64 (lim (Z) 0))
  have h := h.set 9 (by omega) (.int .u64 (lim (Z) 1))
  have h := h.set 10 (by omega) (.int .u64 (lim (Z) 2))
  have h := h.set 11 (by omega) (.int .u64 (lim (Z) 3))
  refine h.congr ?_
  intro j hj
  have h : j = 0 ∨ j = 1 ∨ j = 2 ∨ j = 3 ∨ j = 4 ∨ j = 5 ∨ j = 6 ∨ j = 7 ∨ j = 8 ∨ j = 9 ∨ j = 10 ∨ j = 11 := by omega
  rcases h with h | h | h | h | h | h | h | h | h | h | h | h <;> subst h <;> simp [trx]
theorem Arr.st12o {w : World} {b b' n : Nat} {f : Nat → Value} (h : Arr w b n f) (hne : b' ≠ b) (X Y Z : Int) : Arr (Go.Proofs.YtoolbnbfbegjaaaGreat.st12 w b' X Y Z) b n f := ((((((((((((h.other hne _).other hne _).other hne _).other hne _).other hne _).other hne _).other hne _).other hne _).other hne _).other hne _).other hne _).other hne _)
theorem Bel.st12 {w W : World} (h : Below w.heap.size w W) {b : Nat} (hle : w.heap.size ≤ b) (X Y Z : Int) : Below w.heap.size w (Go.Proofs.YtoolbnbfbegjaaaGreat.st12 W b X Y Z) := (Bel.st (Bel.st (Bel.st (Bel.st (Bel.st (Bel.st (Bel.st (Bel.st (Bel.st (Bel.st (Bel.st (Bel.st h hle _) hle _) hle _) hle _) hle _) hle _) hle _) hle _) hle _) hle _) hle _) hle _)
attribute [local go_sem] eq24
set_option maxHeartbeats 8000000 in
theorem raised_none (X Y : Int) (w : World) : Calls Tryz.prog 55 #[pv X Y true] w fun e w' => e = .returned (.agg #[.int .u64 1, .int .u64 0, .int .u64 0, .int .u64 0, .int .u64 1, .int .u64 0, .int .u64 0, .int .u64 0, .int .u64 0, .int .u64 0, .int .u64 0, .int .u64 0]) ∧ Below w.heap.size w w' := by
  go_enter Tryz.func55, Tryz.ntmps55
  obtain ⟨W0, hW0⟩ : ∃ W0, W0 = ((w.alloc (.cells #[.int .u64 (lim (X) 0), .int .u64 (lim (X) 1), .int .u64 (lim (X) 2), .int .u64 (lim (X) 3), .int .u64 (lim (Y) 0), .int .u64 (lim (Y) 1), .int .u64 (lim (Y) 2), .int .u64 (lim (Y) 3), .bool true] 28)).alloc (.cells #[.int .u64 0, .int .u64 0, .int .u64 0, .int .u64 0, .int .u64 0, .int .u64 0, .int .u64 0, .int .u64 0, .int .u64 0, .int .u64 0, .int .u64 0, .int .u64 0] 81)) := ⟨_, rfl⟩
  have Ap : Arr W0 (w.heap.size) 9 (px (X) (Y) true) := by subst hW0; refine Arr.mk9p ?_ ?_ ?_ ?_ ?_ ?_ ?_ ?_ ?_ ?_ <;> simp [go_sem, px, sx, zx, trx, trz]
  have Ao : Arr W0 (w.heap.size + 1) 12 (trz) := by subst hW0; refine Arr.mk12 ?_ ?_ ?_ ?_ ?_ ?_ ?_ ?_ ?_ ?_ ?_ ?_ ?_ <;> simp [go_sem, px, sx, zx, trx, trz]
  have hB : Below w.heap.size w W0 := by subst hW0; go_grown
  subst hW0
  obtain ⟨cp_0, cp_1, cp_2, cp_3, cp_4, cp_5, cp_6, cp_7, cp_8⟩ := Arr.c_px Ap
  have hS := hB.size
  have co_0 := Ao.cv 0 (by omega) (.int .u64 0) rfl
  have co_1 := Ao.cv 1 (by omega) (.int .u64 0) rfl
  have co_2 := Ao.cv 2 (by omega) (.int .u64 0) rfl
  have co_3 := Ao.cv 3 (by omega) (.int .u64 0) rfl
  have co_4 := Ao.cv 4 (by omega) (.int .u64 0) rfl
  have co_5 := Ao.cv 5 (by omega) (.int .u64 0) rfl
  have co_6 := Ao.cv 6 (by omega) (.int .u64 0) rfl
  have co_7 := Ao.cv 7 (by omega) (.int .u64 0) rfl
  have co_8 := Ao.cv 8 (by omega) (.int .u64 0) rfl
  have co_9 := Ao.cv 9 (by omega) (.int .u64 0) rfl
  have co_10 := Ao.cv 10 (by omega) (.int .u64 0) rfl
  have co_11 := Ao.cv 11 (by omega) (.int .u64 0) rfl
  have zo := Ao.z
  go_wp2_with fail
  refine bodyPost_ret (v := .agg #[.int .u64 1, .int .u64 0, .int .u64 0, .int .u64 0, .int .u64 1, .int .u64 0, .int .u64 0, .int .u64 0, .int .u64 0, .int .u64 0, .int .u64 0, .int .u64 0]) (by simp [results, Tryz.results55, go_sem, co_0, co_1, co_2, co_3, co_4, co_5, co_6, co_7, co_8, co_9, co_10, co_11]) rfl ⟨rfl, ?_⟩
  go_grown
set_option maxHeartbeats 8000000 in
theorem raised_core (X Y : Int) (w : World) : Calls Tryz.prog 55 #[pv X Y false] w fun e w' => e = .returned (.agg #[.int .u64 (lim (X) 0), .int .u64 (lim (X) 1), .int .u64 (lim (X) 2), .int .u64 (lim (X) 3), .int .u64 (lim (Y) 0), .int .u64 (lim (Y) 1), .int .u64 (lim (Y) 2), .int .u64 (lim (Y) 3), .int .u64 1, .int .u64 0, .int .u64 0, .int .u64 0]) ∧ Below w.heap.size w w' := by
  go_enter Tryz.func55, Tryz.ntmps55
  obtain ⟨W0, hW0⟩ : ∃ W0, W0 = ((w.alloc (.cells #[.int .u64 (lim (X) 0), .int .u64 (lim (X) 1), .int .u64 (lim (X) 2), .int .u64 (lim (X) 3), .int .u64 (lim (Y) 0), .int .u64 (lim (Y) 1), .int .u64 (lim (Y) 2), .int .u64 (lim (Y) 3), .bool false] 28)).alloc (.cells #[.int .u64 0, .int .u64 0, .int .u64 0, .int .u64 0, .int .u64 0, .int .u64 0, .int .u64 0, .int .u64 0, .int .u64 0, .int .u64 0, .int .u64 0, .int .u64 0] 81)) := ⟨_, rfl⟩
  have Ap : Arr W0 (w.heap.size) 9 (px (X) (Y) false) := by subst hW0; refine Arr.mk9p ?_ ?_ ?_ ?_ ?_ ?_ ?_ ?_ ?_ ?_ <;> simp [go_sem, px, sx, zx, trx, trz]
  have Ao : Arr W0 (w.heap.size + 1) 12 (trz) := by subst hW0; refine Arr.mk12 ?_ ?_ ?_ ?_ ?_ ?_ ?_ ?_ ?_ ?_ ?_ ?_ ?_ <;> simp [go_sem, px, sx, zx, trx, trz]
  have hB : Below w.heap.size w W0 := by subst hW0; go_grown
  subst hW0
  obtain ⟨cp_0, cp_1, cp_2, cp_3, cp_4, cp_5, cp_6, cp_7, cp_8⟩ := Arr.c_px Ap
  have hS := hB.size
  have co_0 := Ao.cv 0 (by omega) (.int .u64 0) rfl
  have co_1 := Ao.cv 1 (by omega) (.int .u64 0) rfl
  have co_2 := Ao.cv 2 (by omega) (.int .u64 0) rfl
  have co_3 := Ao.cv 3 (by omega) (.int .u64 0) rfl
  have co_4 := Ao.cv 4 (by omega) (.int .u64 0) rfl
  have co_5 := Ao.cv 5 (by omega) (.int .u64 0) rfl
  have co_6 := Ao.cv 6 (by omega) (.int .u64 0) rfl
  have co_7 := Ao.cv 7 (by omega) (.int .u64 0) rfl
  have co_8 := Ao.cv 8 (by omega) (.int .u64 0) rfl
  have co_9 := Ao.cv 9 (by omega) (.int .u64 0) rfl
  have co_10 := Ao.cv 10 (by omega) (.int .u64 0) rfl
  have co_11 := Ao.cv 11 (by omega) (.int .u64 0) rfl
  have zo := Ao.z
  go_wp2_with fail
  refine bodyPost_ret (v := .agg #[.int .u64 (lim (X) 0), .int .u64 (lim (X) 1), .int .u64 (lim (X) 2), .int .u64 (lim (X) 3), .int .u64 (lim (Y) 0), .int .u64 (lim (Y) 1), .int .u64 (lim (Y) 2), .int .u64 (lim (Y) 3), .int .u64 1, .int .u64 0, .int .u64 0, .int .u64 0]) (by simp [results, Tryz.results55, go_sem, co_0, co_1, co_2, co_3, co_4, co_5, co_6, co_7, co_8, co_9, co_10, co_11]) rfl ⟨rfl, ?_⟩
  go_grown
set_option maxHeartbeats 8000000 in
theorem twice_z (x y z : Int) (hz : (lim z 0 == 0 && (lim z 1 == 0 && (lim z 2 == 0 && lim z 3 == 0))) = true) (w : World) : Calls Tryz.prog 90 #[tv x y z] w fun e w' => e = .returned (.agg #[.int .u64 1, .int .u64 0, .int .u64 0, .int .u64 0, .int .u64 1, .int .u64 0, .int .u64 0, .int .u64 0, .int .u64 0, .int .u64 0, .int .u64 0, .int .u64 0]) ∧ Below w.heap.size w w' := by
  go_enter Tryz.func90, Tryz.ntmps90
  obtain ⟨W0, hW0⟩ : ∃ W0, W0 = ((w.alloc (.cells #[.int .u64 (lim (x) 0), .int .u64 (lim (x) 1), .int .u64 (lim (x) 2), .int .u64 (lim (x) 3), .int .u64 (lim (y) 0), .int .u64 (lim (y) 1), .int .u64 (lim (y) 2), .int .u64 (lim (y) 3), .int .u64 (lim (z) 0), .int .u64 (lim (z) 1), .int .u64 (lim (z) 2), .int .u64 (lim (z) 3)] 81)).alloc (.cells #[.int .u64 0, .int .u64 0, .int .u64 0, .int .u64 0, .int .u64 0, .int .u64 0, .int .u64 0, .int .u64 0, .int .u64 0, .int .u64 0, .int .u64 0, .int .u64 0] 81)) := ⟨_, rfl⟩
  have Aa : Arr W0 (w.heap.size) 12 (trx (x) (y) (z)) := by subst hW0; refine Arr.mk12 ?_ ?_ ?_ ?_ ?_ ?_ ?_ ?_ ?_ ?_ ?_ ?_ ?_ <;> simp [go_sem, px, sx, zx, trx, trz]
  have Ao : Arr W0 (w.heap.size + 1) 12 (trz) := by subst hW0; refine Arr.mk12 ?_ ?_ ?_ ?_ ?_ ?_ ?_ ?_ ?_ ?_ ?_ ?_ ?_ <;> simp [go_sem, px, sx, zx, trx, trz]
  have hB : Below w.heap.size w W0 := by subst hW0; go_grown
  subst hW0
  obtain ⟨ca_0, ca_1, ca_2, ca_3, ca_4, ca_5, ca_6, ca_7, ca_8, ca_9, ca_10, ca_11⟩ := Arr.c_trx Aa
  have hS := hB.size
  have co_0 := Ao.cv 0 (by omega) (.int .u64 0) rfl
  have co_1 := Ao.cv 1 (by omega) (.int .u64 0) rfl
  have co_2 := Ao.cv 2 (by omega) (.int .u64 0) rfl
  have co_3 := Ao.cv 3 (by omega) (.int .u64 0) rfl
  have co_4 := Ao.cv 4 (by omega) (.int .u64 0) rfl
  have co_5 := Ao.cv 5 (by omega) (.int .u64 0) rfl
  have co_6 := Ao.cv 6 (by omega) (.int .u64 0) rfl
  have co_7 := Ao.cv 7 (by omega) (.int .u64 0) rfl
  have co_8 := Ao.cv 8 (by omega) (.int .u64 0) rfl
  have co_9 := Ao.cv 9 (by omega) (.int .u64 0) rfl
  have co_10 := Ao.cv 10 (by omega) (.int .u64 0) rfl
  have co_11 := Ao.cv 11 (by omega) (.int .u64 0) rfl
  have zo := Ao.z
  go_wp2_with fail
  refine bodyPost_ret (v := .agg #[.int .u64 1, .int .u64 0, .int .u64 0, .int .u64 0, .int .u64 1, .int .u64 0, .int .u64 0, .int .u64 0, .int .u64 0, .int .u64 0, .int .u64 0, .int .u64 0]) (by simp [results, Tryz.results90, go_sem, co_0, co_1, co_2, co_3, co_4, co_5, co_6, co_7, co_8, co_9, co_10, co_11]) rfl ⟨rfl, ?_⟩
  go_grown
set_option maxHeartbeats 8000000 in
theorem twice_core (x y z z2 y2 q1 s u1 u2 u3 m m2 s2 X d1 d2 y4 y8 Y yz Z : Int) (hz : (lim z 0 == 0 && (lim z 1 == 0 && (lim z 2 == 0 && lim z 3 == 0))) = false) (hy : (lim y 0 == 0 && (lim y 1 == 0 && (lim y 2 == 0 && lim y 3 == 0))) = false) (w : World)
    (C1 : ∀ W, Calls Tryz.prog 73 #[nv z, nv z] W fun e w' => e = .returned (nv z2) ∧ Below W.heap.size W w')
    (C2 : ∀ W, Calls Tryz.prog 73 #[nv y, nv y] W fun e w' => e = .returned (nv y2) ∧ Below W.heap.size W w')
    (C3 : ∀ W, Calls Tryz.prog 73 #[nv x, nv y2] W fun e w' => e = .returned (nv q1) ∧ Below W.heap.size W w')
    (C4 : ∀ W, Calls Tryz.prog 73 #[.agg #[.int .u64 4, .int .u64 0, .int .u64 0, .int .u64 0], nv q1] W fun e w' => e = .returned (nv s) ∧ Below W.heap.size W w')
    (C5 : ∀ W, Calls Tryz.prog 74 #[nv x, nv z2] W fun e w' => e = .returned (nv u1) ∧ Below W.heap.size W w')
    (C6 : ∀ W, Calls Tryz.prog 72 #[nv x, nv z2] W fun e w' => e = .returned (nv u2) ∧ Below W.heap.size W w')
    (C7 : ∀ W, Calls Tryz.prog 73 #[nv u1, nv u2] W fun e w' => e = .returned (nv u3) ∧ Below W.heap.size W w')
    (C8 : ∀ W, Calls Tryz.prog 73 #[.agg #[.int .u64 3, .int .u64 0, .int .u64 0, .int .u64 0], nv u3] W fun e w' => e = .returned (nv m) ∧ Below W.heap.size W w')
    (C9 : ∀ W, Calls Tryz.prog 73 #[nv m, nv m] W fun e w' => e = .returned (nv m2) ∧ Below W.heap.size W w')
    (C10 : ∀ W, Calls Tryz.prog 72 #[nv s, nv s] W fun e w' => e = .returned (nv s2) ∧ Below W.heap.size W w')
    (C11 : ∀ W, Calls Tryz.prog 74 #[nv m2, nv s2] W fun e w' => e = .returned (nv X) ∧ Below W.heap.size W w')
    (C12 : ∀ W, Calls Tryz.prog 74 #[nv s, nv X] W fun e w' => e = .returned (nv d1) ∧ Below W.heap.size W w')
    (C13 : ∀ W, Calls Tryz.prog 73 #[nv m, nv d1] W fun e w' => e = .returned (nv d2) ∧ Below W.heap.size W w')
    (C14 : ∀ W, Calls Tryz.prog 73 #[nv y2, nv y2] W fun e w' => e = .returned (nv y4) ∧ Below W.heap.size W w')
    (C15 : ∀ W, Calls Tryz.prog 73 #[.agg #[.int .u64 8, .int .u64 0, .int .u64 0, .int .u64 0], nv y4] W fun e w' => e = .returned (nv y8) ∧ Below W.heap.size W w')
    (C16 : ∀ W, Calls Tryz.prog 74 #[nv d2, nv y8] W fun e w' => e = .returned (nv Y) ∧ Below W.heap.size W w')
    (C17 : ∀ W, Calls Tryz.prog 73 #[nv y, nv z] W fun e w' => e = .returned (nv yz) ∧ Below W.heap.size W w')
    (C18 : ∀ W, Calls Tryz.prog 73 #[.agg #[.int .u64 2, .int .u64 0, .int .u64 0, .int .u64 0], nv yz] W fun e w' => e = .returned (nv Z) ∧ Below W.heap.size W w') :
    Calls Tryz.prog 90 #[tv x y z] w fun e w' => e = .returned (tv X Y Z) ∧ Below w.heap.size w w' := by
  go_enter Tryz.func90, Tryz.ntmps90
  obtain ⟨W0, hW0⟩ : ∃ W0, W0 = ((w.alloc (.cells #[.int .u64 (lim (x) 0), .int .u64 (lim (x) 1), .int .u64 (lim (x) 2), .int .u64 (lim (x) 3), .int .u64 (lim (y) 0), .int .u64 (lim (y) 1), .int .u64 (lim (y) 2), .int .u64 (lim (y) 3), .int .u64 (lim (z) 0), .int .u64 (lim (z) 1), .int .u64 (lim (z) 2), .int .u64 (lim (z) 3)] 81)).alloc (.cells #[.int .u64 0, .int .u64 0, .int .u64 0, .int .u64 0, .int .u64 0, .int .u64 0, .int .u64 0, .int .u64 0, .int .u64 0, .int .u64 0, .int .u64 0, .int .u64 0] 81)) := ⟨_, rfl⟩
  have Aa : Arr W0 (w.heap.size) 12 (trx (x) (y) (z)) := by subst hW0; refine Arr.mk12 ?_ ?_ ?_ ?_ ?_ ?_ ?_ ?_ ?_ ?_ ?_ ?_ ?_ <;> simp [go_sem, px, sx, zx, trx, trz]
  have Ao : Arr W0 (w.heap.size + 1) 12 (trz) := by subst hW0; refine Arr.mk12 ?_ ?_ ?_ ?_ ?_ ?_ ?_ ?_ ?_ ?_ ?_ ?_ ?_ <;> simp [go_sem, px, sx, zx, trx, trz]
  have hB : Below w.heap.size w W0 := by subst hW0; go_grown
  subst hW0
  obtain ⟨ca_0, ca_1, ca_2, ca_3, ca_4, ca_5, ca_6, ca_7, ca_8, ca_9, ca_10, ca_11⟩ := Arr.c_trx Aa
  go_wp2_with fail
  refine (C1 _).mono ?_
  rintro e w11 ⟨rfl, hb⟩
  replace Aa := Arr.to' Aa hb
  replace Ao := Arr.to' Ao hb
  replace hB := Bel.call hB hb
  clear hb ca_0 ca_1 ca_2 ca_3 ca_4 ca_5 ca_6 ca_7 ca_8 ca_9 ca_10 ca_11
  have la_2 := Aa.lt
  have lo_2 := Ao.lt
  have lB_2 := hB.size
  replace Aa := (Arr.al' Aa (.cells #[.int .u64 (lim (z2) 0), .int .u64 (lim (z2) 1), .int .u64 (lim (z2) 2), .int .u64 (lim (z2) 3)] 24))
  replace Ao := (Arr.al' Ao (.cells #[.int .u64 (lim (z2) 0), .int .u64 (lim (z2) 1), .int .u64 (lim (z2) 2), .int .u64 (lim (z2) 3)] 24))
  have Aq : Arr ((w11.alloc (.cells #[.int .u64 (lim (z2) 0), .int .u64 (lim (z2) 1), .int .u64 (lim (z2) 2), .int .u64 (lim (z2) 3)] 24))) (w11.heap.size) 4 (fun j => .int .u64 (lim (z2) j)) := by refine Arr.mk4 ?_ ?_ ?_ ?_ ?_ ?_ ?_ ?_ <;> simp [go_sem]
  replace hB := (Bel.al hB (.cells #[.int .u64 (lim (z2) 0), .int .u64 (lim (z2) 1), .int .u64 (lim (z2) 2), .int .u64 (lim (z2) 3)] 24))
  obtain ⟨ca_0, ca_1, ca_2, ca_3, ca_4, ca_5, ca_6, ca_7, ca_8, ca_9, ca_10, ca_11⟩ := Arr.c_trx Aa
  go_wp2_with fail
  refine (C2 _).mono ?_
  rintro e w2 ⟨rfl, hb⟩
  replace Aa := Arr.to' Aa hb
  replace Ao := Arr.to' Ao hb
  replace Aq := Arr.to' Aq hb
  replace hB := Bel.call hB hb
  clear hb ca_0 ca_1 ca_2 ca_3 ca_4 ca_5 ca_6 ca_7 ca_8 ca_9 ca_10 ca_11
  have la_3 := Aa.lt
  have lo_3 := Ao.lt
  have lq_3 := Aq.lt
  have lB_3 := hB.size
  replace Aa := (Arr.al' Aa (.cells #[.int .u64 (lim (y2) 0), .int .u64 (lim (y2) 1), .int .u64 (lim (y2) 2), .int .u64 (lim (y2) 3)] 24))
  replace Ao := (Arr.al' Ao (.cells #[.int .u64 (lim (y2) 0), .int .u64 (lim (y2) 1), .int .u64 (lim (y2) 2), .int .u64 (lim (y2) 3)] 24))
  replace Aq := (Arr.al' Aq (.cells #[.int .u64 (lim (y2) 0), .int .u64 (lim (y2) 1), .int .u64 (lim (y2) 2), .int .u64 (lim (y2) 3)] 24))
  have Ar : Arr ((w2.alloc (.cells #[.int .u64 (lim (y2) 0), .int .u64 (lim (y2) 1), .int .u64 (lim (y2) 2), .int .u64 (lim (y2) 3)] 24))) (w2.heap.size) 4 (fun j => .int .u64 (lim (y2) j)) := by refine Arr.mk4 ?_ ?_ ?_ ?_ ?_ ?_ ?_ ?_ <;> simp [go_sem]
  replace hB := (Bel.al hB (.cells #[.int .u64 (lim (y2) 0), .int .u64 (lim (y2) 1), .int .u64 (lim (y2) 2), .int .u64 (lim (y2) 3)] 24))
  obtain ⟨ca_0, ca_1, ca_2, ca_3, ca_4, ca_5, ca_6, ca_7, ca_8, ca_9, ca_10, ca_11⟩ := Arr.c_trx Aa
  have cr := Ar.c
  go_wp2_with fail
  refine (C3 _).mono ?_
  rintro e w3 ⟨rfl, hb⟩
  replace Aa := Arr.to' Aa hb
  replace Ao := Arr.to' Ao hb
  replace Aq := Arr.to' Aq hb
  replace Ar := Arr.to' Ar hb
  replace hB := Bel.call hB hb
  clear hb ca_0 ca_1 ca_2 ca_3 ca_4 ca_5 ca_6 ca_7 ca_8 ca_9 ca_10 ca_11 cr
  go_wp2_with fail
  refine (C4 _).mono ?_
  rintro e w14 ⟨rfl, hb⟩
  replace Aa := Arr.to' Aa hb
  replace Ao := Arr.to' Ao hb
  replace Aq := Arr.to' Aq hb
  replace Ar := Arr.to' Ar hb
  replace hB := Bel.call hB hb
  clear hb
  have la_4 := Aa.lt
  have lo_4 := Ao.lt
  have lq_4 := Aq.lt
  have lr_4 := Ar.lt
  have lB_4 := hB.size
  replace Aa := (Arr.al' Aa (.cells #[.int .u64 (lim (s) 0), .int .u64 (lim (s) 1), .int .u64 (lim (s) 2), .int .u64 (lim (s) 3)] 24))
  replace Ao := (Arr.al' Ao (.cells #[.int .u64 (lim (s) 0), .int .u64 (lim (s) 1), .int .u64 (lim (s) 2), .int .u64 (lim (s) 3)] 24))
  replace Aq := (Arr.al' Aq (.cells #[.int .u64 (lim (s) 0), .int .u64 (lim (s) 1), .int .u64 (lim (s) 2), .int .u64 (lim (s) 3)] 24))
  replace Ar := (Arr.al' Ar (.cells #[.int .u64 (lim (s) 0), .int .u64 (lim (s) 1), .int .u64 (lim (s) 2), .int .u64 (lim (s) 3)] 24))
  have As : Arr ((w14.alloc (.cells #[.int .u64 (lim (s) 0), .int .u64 (lim (s) 1), .int .u64 (lim (s) 2), .int .u64 (lim (s) 3)] 24))) (w14.heap.size) 4 (fun j => .int .u64 (lim (s) j)) := by refine Arr.mk4 ?_ ?_ ?_ ?_ ?_ ?_ ?_ ?_ <;> simp [go_sem]
  replace hB := (Bel.al hB (.cells #[.int .u64 (lim (s) 0), .int .u64 (lim (s) 1), .int .u64 (lim (s) 2), .int .u64 (lim (s) 3)] 24))
  go_wp2_with fail
  apply wp_region_alloc_tail 11 (by kernel_rfl) (by kernel_rfl) (by kernel_rfl) (.cells #[.int .u64 0, .int .u64 0, .int .u64 0, .int .u64 0] 24) _ rfl (fun _ _ => by simp [go_sem])
  · intro W hW
    obtain ⟨ra0, ra1, ra2, ra3, ra4, ra5, ra6, ra7, ra8, ra9, ra10, ra11⟩ := Arr.g_trx (Arr.to' Aa hW)
    obtain ⟨rq0, rq1, rq2, rq3⟩ := Arr.g4 (Arr.to' Aq hW)
    simp only [List.take_succ_cons, List.take_zero]
    repeat (go_big_quiet_step (first | (go_at_call 74; with_reducible first | exact Calls.regrown_of (C5 _)) | (go_at_call 72; with_reducible first | exact Calls.regrown_of (C6 _)) | (go_at_call 73; with_reducible first | exact Calls.regrown_of (C7 _) | exact Calls.regrown_of (C8 _))))
    exact wpQuiet_nil rfl
  intro v5 w15 hb1 hb2
  simp only [List.drop_succ_cons, List.drop_zero, Act.put, List.setIfInBounds_toArray, List.set_cons_succ, List.set_cons_zero]
  have Ea := Arr.to' Aa hb1
  have la_v5 := Ea.lt
  have Ba := Arr.to' (Arr.al' Ea _) hb2
  have Eo := Arr.to' Ao hb1
  have lo_v5 := Eo.lt
  have Bo := Arr.to' (Arr.al' Eo _) hb2
  have Eq := Arr.to' Aq hb1
  have lq_v5 := Eq.lt
  have Bq := Arr.to' (Arr.al' Eq _) hb2
  have Er := Arr.to' Ar hb1
  have lr_v5 := Er.lt
  have Br := Arr.to' (Arr.al' Er _) hb2
  have Es := Arr.to' As hb1
  have ls_v5 := Es.lt
  have Bs := Arr.to' (Arr.al' Es _) hb2
  have Bm := (Arr.mk4 (w := (v5.alloc (.cells #[.int .u64 0, .int .u64 0, .int .u64 0, .int .u64 0] 24))) (f := fun _ => .int .u64 0) (b := v5.heap.size) (by simp [go_sem]) (by simp [go_sem]) (by simp [go_sem]) (by simp [go_sem]) (by simp [go_sem]) (by simp [go_sem]) (by simp [go_sem]) (by simp [go_sem])).below hb2 (by go_size)
  have lB_v5 := (Bel.call hB hb1).size
  have hB' := Bel.call (Bel.al (Bel.call hB hb1) _) hb2
  clear hb1 hb2 Ea Eo Eq Er Es Aa Ao Aq Ar As hB
  have Aa := Ba
  have Ao := Bo
  have Aq := Bq
  have Ar := Br
  have As := Bs
  have Am := Bm
  have hB := hB'
  clear Ba Bo Bq Br Bs Bm hB'
  have cm := Am.c
  have zm := Am.z
  have Ba := Arr.st4o (b' := v5.heap.size) Aa (by have := Aa.lt; have := Am.lt; omega) (m)
  have Bo := Arr.st4o (b' := v5.heap.size) Ao (by have := Ao.lt; have := Am.lt; omega) (m)
  have Bq := Arr.st4o (b' := v5.heap.size) Aq (by have := Aq.lt; have := Am.lt; omega) (m)
  have Br := Arr.st4o (b' := v5.heap.size) Ar (by have := Ar.lt; have := Am.lt; omega) (m)
  have Bs := Arr.st4o (b' := v5.heap.size) As (by have := As.lt; have := Am.lt; omega) (m)
  have Bm := Arr.st4 Am (m)
  have hB' := Bel.st4 hB (b := v5.heap.size) (by have := hB.size; omega) (m)
  clear Aa Ao Aq Ar As Am hB
  have Aa := Ba
  have Ao := Bo
  have Aq := Bq
  have Ar := Br
  have As := Bs
  have Am := Bm
  have hB := hB'
  clear Ba Bo Bq Br Bs Bm hB'
  go_wp2_with fail
  apply wp_region_alloc_tail 7 (by kernel_rfl) (by kernel_rfl) (by kernel_rfl) (.cells #[.int .u64 0, .int .u64 0, .int .u64 0, .int .u64 0] 24) _ rfl (fun _ _ => by simp [go_sem])
  · intro W hW
    obtain ⟨rm0, rm1, rm2, rm3⟩ := Arr.g4 (Arr.to' Am hW)
    obtain ⟨rs0, rs1, rs2, rs3⟩ := Arr.g4 (Arr.to' As hW)
    simp only [List.take_succ_cons, List.take_zero]
    repeat (go_big_quiet_step (first | (go_at_call 73; with_reducible first | exact Calls.regrown_of (C9 _)) | (go_at_call 72; with_reducible first | exact Calls.regrown_of (C10 _)) | (go_at_call 74; with_reducible first | exact Calls.regrown_of (C11 _))))
    exact wpQuiet_nil rfl
  intro v6 w16 hb1 hb2
  simp only [List.drop_succ_cons, List.drop_zero, Act.put, List.setIfInBounds_toArray, List.set_cons_succ, List.set_cons_zero]
  have Ea := Arr.to' Aa hb1
  have la_v6 := Ea.lt
  have Ba := Arr.to' (Arr.al' Ea _) hb2
  have Eo := Arr.to' Ao hb1
  have lo_v6 := Eo.lt
  have Bo := Arr.to' (Arr.al' Eo _) hb2
  have Eq := Arr.to' Aq hb1
  have lq_v6 := Eq.lt
  have Bq := Arr.to' (Arr.al' Eq _) hb2
  have Er := Arr.to' Ar hb1
  have lr_v6 := Er.lt
  have Br := Arr.to' (Arr.al' Er _) hb2
  have Es := Arr.to' As hb1
  have ls_v6 := Es.lt
  have Bs := Arr.to' (Arr.al' Es _) hb2
  have Em := Arr.to' Am hb1
  have lm_v6 := Em.lt
  have Bm := Arr.to' (Arr.al' Em _) hb2
  have Bx := (Arr.mk4 (w := (v6.alloc (.cells #[.int .u64 0, .int .u64 0, .int .u64 0, .int .u64 0] 24))) (f := fun _ => .int .u64 0) (b := v6.heap.size) (by simp [go_sem]) (by simp [go_sem]) (by simp [go_sem]) (by simp [go_sem]) (by simp [go_sem]) (by simp [go_sem]) (by simp [go_sem]) (by simp [go_sem])).below hb2 (by go_size)
  have lB_v6 := (Bel.call hB hb1).size
  have hB' := Bel.call (Bel.al (Bel.call hB hb1) _) hb2
  clear hb1 hb2 Ea Eo Eq Er Es Em Aa Ao Aq Ar As Am hB
  have Aa := Ba
  have Ao := Bo
  have Aq := Bq
  have Ar := Br
  have As := Bs
  have Am := Bm
  have Ax := Bx
  have hB := hB'
  clear Ba Bo Bq Br Bs Bm Bx hB'
  have cx := Ax.c
  have zx := Ax.z
  have Ba := Arr.st4o (b' := v6.heap.size) Aa (by have := Aa.lt; have := Ax.lt; omega) (X)
  have Bo := Arr.st4o (b' := v6.heap.size) Ao (by have := Ao.lt; have := Ax.lt; omega) (X)
  have Bq := Arr.st4o (b' := v6.heap.size) Aq (by have := Aq.lt; have := Ax.lt; omega) (X)
  have Br := Arr.st4o (b' := v6.heap.size) Ar (by have := Ar.lt; have := Ax.lt; omega) (X)
  have Bs := Arr.st4o (b' := v6.heap.size) As (by have := As.lt; have := Ax.lt; omega) (X)
  have Bm := Arr.st4o (b' := v6.heap.size) Am (by have := Am.lt; have := Ax.lt; omega) (X)
  have Bx := Arr.st4 Ax (X)
  have hB' := Bel.st4 hB (b := v6.heap.size) (by have := hB.size; omega) (X)
  clear Aa Ao Aq Ar As Am Ax hB
  have Aa := Ba
  have Ao := Bo
  have Aq := Bq
  have Ar := Br
  have As := Bs
  have Am := Bm
  have Ax := Bx
  have hB := hB'
  clear Ba Bo Bq Br Bs Bm Bx hB'
  go_wp2_with fail
  apply wp_region_alloc_tail 11 (by kernel_rfl) (by kernel_rfl) (by kernel_rfl) (.cells #[.int .u64 0, .int .u64 0, .int .u64 0, .int .u64 0] 24) _ rfl (fun _ _ => by simp [go_sem])
  · intro W hW
    obtain ⟨rm0, rm1, rm2, rm3⟩ := Arr.g4 (Arr.to' Am hW)
    obtain ⟨rs0, rs1, rs2, rs3⟩ := Arr.g4 (Arr.to' As hW)
    obtain ⟨rx0, rx1, rx2, rx3⟩ := Arr.g4 (Arr.to' Ax hW)
    obtain ⟨rr0, rr1, rr2, rr3⟩ := Arr.g4 (Arr.to' Ar hW)
    simp only [List.take_succ_cons, List.take_zero]
    repeat (go_big_quiet_step (first | (go_at_call 74; with_reducible first | exact Calls.regrown_of (C12 _) | exact Calls.regrown_of (C16 _)) | (go_at_call 73; with_reducible first | exact Calls.regrown_of (C13 _) | exact Calls.regrown_of (C14 _) | exact Calls.regrown_of (C15 _))))
    exact wpQuiet_nil rfl
  intro v7 w17 hb1 hb2
  simp only [List.drop_succ_cons, List.drop_zero, Act.put, List.setIfInBounds_toArray, List.set_cons_succ, List.set_cons_zero]
  have Ea := Arr.to' Aa hb1
  have la_v7 := Ea.lt
  have Ba := Arr.to' (Arr.al' Ea _) hb2
  have Eo := Arr.to' Ao hb1
  have lo_v7 := Eo.lt
  have Bo := Arr.to' (Arr.al' Eo _) hb2
  have Eq := Arr.to' Aq hb1
  have lq_v7 := Eq.lt
  have Bq := Arr.to' (Arr.al' Eq _) hb2
  have Er := Arr.to' Ar hb1
  have lr_v7 := Er.lt
  have Br := Arr.to' (Arr.al' Er _) hb2
  have Es := Arr.to' As hb1
  have ls_v7 := Es.lt
  have Bs := Arr.to' (Arr.al' Es _) hb2
  have Em := Arr.to' Am hb1
  have lm_v7 := Em.lt
  have Bm := Arr.to' (Arr.al' Em _) hb2
  have Ex := Arr.to' Ax hb1
  have lx_v7 := Ex.lt
  have Bx := Arr.to' (Arr.al' Ex _) hb2
  have By := (Arr.mk4 (w := (v7.alloc (.cells #[.int .u64 0, .int .u64 0, .int .u64 0, .int .u64 0] 24))) (f := fun _ => .int .u64 0) (b := v7.heap.size) (by simp [go_sem]) (by simp [go_sem]) (by simp [go_sem]) (by simp [go_sem]) (by simp [go_sem]) (by simp [go_sem]) (by simp [go_sem]) (by simp [go_sem])).below hb2 (by go_size)
  have lB_v7 := (Bel.call hB hb1).size
  have hB' := Bel.call (Bel.al (Bel.call hB hb1) _) hb2
  clear hb1 hb2 Ea Eo Eq Er Es Em Ex Aa Ao Aq Ar As Am Ax hB
  have Aa := Ba
  have Ao := Bo
  have Aq := Bq
  have Ar := Br
  have As := Bs
  have Am := Bm
  have Ax := Bx
  have Ay := By
  have hB := hB'
  clear Ba Bo Bq Br Bs Bm Bx By hB'
  have cy := Ay.c
  have zy := Ay.z
  have Ba := Arr.st4o (b' := v7.heap.size) Aa (by have := Aa.lt; have := Ay.lt; omega) (Y)
  have Bo := Arr.st4o (b' := v7.heap.size) Ao (by have := Ao.lt; have := Ay.lt; omega) (Y)
  have Bq := Arr.st4o (b' := v7.heap.size) Aq (by have := Aq.lt; have := Ay.lt; omega) (Y)
  have Br := Arr.st4o (b' := v7.heap.size) Ar (by have := Ar.lt; have := Ay.lt; omega) (Y)
  have Bs := Arr.st4o (b' := v7.heap.size) As (by have := As.lt; have := Ay.lt; omega) (Y)
  have Bm := Arr.st4o (b' := v7.heap.size) Am (by have := Am.lt; have := Ay.lt; omega) (Y)
  have Bx := Arr.st4o (b' := v7.heap.size) Ax (by have := Ax.lt; have := Ay.lt; omega) (Y)
  have By := Arr.st4 Ay (Y)
  have hB' := Bel.st4 hB (b := v7.heap.size) (by have := hB.size; omega) (Y)
  clear Aa Ao Aq Ar As Am Ax Ay hB
  have Aa := Ba
  have Ao := Bo
  have Aq := Bq
  have Ar := Br
  have As := Bs
  have Am := Bm
  have Ax := Bx
  have Ay := By
  have hB := hB'
  clear Ba Bo Bq Br Bs Bm Bx By hB'
  obtain ⟨ra0, ra1, ra2, ra3, ra4, ra5, ra6, ra7, ra8, ra9, ra10, ra11⟩ := Arr.g_trx Aa
  obtain ⟨rx0, rx1, rx2, rx3⟩ := Arr.g4 Ax
  obtain ⟨ry0, ry1, ry2, ry3⟩ := Arr.g4 Ay
  go_wp2_with fail
  refine wp_region_below_tail 10 (by kernel_rfl) (by kernel_rfl) ?_
  simp only [List.take_succ_cons, List.take_zero, List.drop_succ_cons, List.drop_zero]
  repeat (go_big_quiet_step (first | (go_at_call 73; with_reducible first | exact Calls.regrown_of (C17 _) | exact Calls.regrown_of (C18 _))))
  refine wpQuiet_nil ?_
  intro w8 hw'
  obtain ⟨⟨dq, osq⟩, hw''⟩ := hw'
  have hb := below_of hw''
  clear hw''
  replace Ao := Arr.to' Ao hb
  replace hB := Bel.call hB hb
  clear hb cy zy ra0 ra1 ra2 ra3 ra4 ra5 ra6 ra7 ra8 ra9 ra10 ra11 rx0 rx1 rx2 rx3 ry0 ry1 ry2 ry3 Aa Aq Ar As Am Ax Ay
  have hS := hB.size
  have co_0 := Ao.cv 0 (by omega) (.int .u64 0) rfl
  have co_1 := Ao.cv 1 (by omega) (.int .u64 0) rfl
  have co_2 := Ao.cv 2 (by omega) (.int .u64 0) rfl
  have co_3 := Ao.cv 3 (by omega) (.int .u64 0) rfl
  have co_4 := Ao.cv 4 (by omega) (.int .u64 0) rfl
  have co_5 := Ao.cv 5 (by omega) (.int .u64 0) rfl
  have co_6 := Ao.cv 6 (by omega) (.int .u64 0) rfl
  have co_7 := Ao.cv 7 (by omega) (.int .u64 0) rfl
  have co_8 := Ao.cv 8 (by omega) (.int .u64 0) rfl
  have co_9 := Ao.cv 9 (by omega) (.int .u64 0) rfl
  have co_10 := Ao.cv 10 (by omega) (.int .u64 0) rfl
  have co_11 := Ao.cv 11 (by omega) (.int .u64 0) rfl
  have zo := Ao.z
  go_wp2_with fail
  refine bodyPost_ret (v := tv X Y Z) (by simp [results, Tryz.results90, go_sem, co_0, co_1, co_2, co_3, co_4, co_5, co_6, co_7, co_8, co_9, co_10, co_11]) rfl ⟨rfl, ?_⟩
  go_grown
end Go.Proofs.YtoolbnbfbegjaaaGreat
