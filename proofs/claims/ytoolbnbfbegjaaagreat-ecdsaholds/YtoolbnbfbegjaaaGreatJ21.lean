/- Texts joined: A6, Y1, Y7, Y6. -/
import Derived.Test.YtoolbnbfbegjaaaGreatJ20
import Derived.Test.YtoolbnbfbegjaaaGreatJ1
set_option linter.all false
set_option maxRecDepth 100000
namespace Go.Proofs.YtoolbnbfbegjaaaGreat
open Go.RowKit Go.Sort
theorem k23 (w : World) : Calls Tryz.prog 116 #[] w fun e w' => e = .returned (.agg #[.int .u64 18446744073709551615, .int .u64 4294967295, .int .u64 0, .int .u64 18446744069414584321]) ∧ Below w.heap.size w w' := by
  go_enter Tryz.func116, Tryz.ntmps116
  go_wp2
  go_returns
  exact ⟨rfl, by go_grown⟩
theorem k24 (w : World) : Calls Tryz.prog 22 #[] w fun e w' => e = .returned (.agg #[.int .u64 18446744073709551615, .int .u64 4294967295, .int .u64 0, .int .u64 18446744069414584321]) ∧ Below w.heap.size w w' := by
  go_enter Tryz.func22, Tryz.ntmps22
  go_wp2
  go_returns
  exact ⟨rfl, by go_grown⟩
theorem k26 (w : World) : Calls Tryz.prog 19 #[] w fun e w' => e = .returned (.agg #[.int .u64 17562291160714782033, .int .u64 13611842547513532036, .int .u64 18446744073709551615, .int .u64 18446744069414584320]) ∧ Below w.heap.size w w' := by
  go_enter Tryz.func19, Tryz.ntmps19
  go_wp2
  go_returns
  exact ⟨rfl, by go_grown⟩
end Go.Proofs.YtoolbnbfbegjaaaGreat
set_option maxRecDepth 100000
namespace Go.Proofs.YtoolbnbfbegjaaaGreat
open Go.RowKit Go.Sort
def pp : Int := 115792089210356248762697446949407573530086143415290314195533631308867097853951
theorem nv_pp : nv pp = .agg #[.int .u64 18446744073709551615, .int .u64 4294967295, .int .u64 0, .int .u64 18446744069414584321] := by
  have h0 : lim pp 0 = 18446744073709551615 := by decide
  have h1 : lim pp 1 = 4294967295 := by decide
  have h2 : lim pp 2 = 0 := by decide
  have h3 : lim pp 3 = 18446744069414584321 := by decide
  simp only [nv, h0, h1, h2, h3]
def Inn (N : Int) : Prop := 0 ≤ N ∧ N < top256
theorem inn_pp : Inn pp := ⟨by decide, by decide⟩
theorem pp_pos : 0 < pp := by decide
def fa (A B : Int) : Int := (A + B) % pp
def fs (A B : Int) : Int := (A - B) % pp
def fm (A B : Int) : Int := A * B % pp
theorem inn_mod (N : Int) : Inn (N % pp) := ⟨Int.emod_nonneg _ (by decide), Int.lt_trans (Int.emod_lt_of_pos _ pp_pos) (by decide)⟩
theorem inn_fa (A B : Int) : Inn (fa A B) := inn_mod _
theorem inn_fs (A B : Int) : Inn (fs A B) := inn_mod _
theorem inn_fm (A B : Int) : Inn (fm A B) := inn_mod _
theorem inn_lit (c : Int) (h0 : 0 ≤ c) (h1 : c < 18446744073709551616) : Inn c := ⟨h0, Int.lt_trans h1 (by decide)⟩
theorem p46 (w : World) : Calls Tryz.prog 116 #[] w fun e w' => e = .returned (nv pp) ∧ Below w.heap.size w w' := by rw [nv_pp]; exact k23 w
theorem p49 (w : World) : Calls Tryz.prog 22 #[] w fun e w' => e = .returned (nv pp) ∧ Below w.heap.size w w' := by rw [nv_pp]; exact k24 w
theorem below_of {w w' : World} {d : Nat} {os : Array Obj} (h : w' = grow (redrawn w d) os) : Below w.heap.size w w' := by rw [h]; exact below_regrown _ _ _
theorem Bel.st4 {w W : World} (h : Below w.heap.size w W) {b : Nat} (hle : w.heap.size ≤ b) (X : Int) : Below w.heap.size w (Go.Proofs.YtoolbnbfbegjaaaGreat.st4 W b X) := Bel.st (Bel.st (Bel.st (Bel.st h hle _) hle _) hle _) hle _
theorem Arr.cv {w : World} {b n : Nat} {f : Nat → Value} (h : Arr w b n f) (j : Nat) (hj : j < n) (v : Value) (hv : f j = v) : w.cell? ⟨b, j, none⟩ = some v := by rw [← hv]; exact h.c j hj
theorem Arr.cg {w : World} {b n : Nat} {f : Nat → Value} (h : Arr w b n f) (j : Nat) (hj : j < n) (v : Value) (hv : f j = v) : ∀ (d : Nat) (os : Array Obj), (grow (redrawn w d) os).cell? ⟨b, j, none⟩ = some v := fun d os => cell_regrown (h.cv j hj v hv) d os
def px (X Y : Int) (i : Bool) : Nat → Value
  | 0 => .int .u64 (lim X 0)
  | 1 => .int .u64 (lim X 1)
  | 2 => .int .u64 (lim X 2)
  | 3 => .int .u64 (lim X 3)
  | 4 => .int .u64 (lim Y 0)
  | 5 => .int .u64 (lim Y 1)
  | 6 => .int .u64 (lim Y 2)
  | 7 => .int .u64 (lim Y 3)
  | _ => .bool i
def sx (X Y : Int) (i : Bool) (Z : Int) : Nat → Value
  | 0 => .int .u64 (lim X 0)
  | 1 => .int .u64 (lim X 1)
  | 2 => .int .u64 (lim X 2)
  | 3 => .int .u64 (lim X 3)
  | 4 => .int .u64 (lim Y 0)
  | 5 => .int .u64 (lim Y 1)
  | 6 => .int .u64 (lim Y 2)
  | 7 => .int .u64 (lim Y 3)
  | 8 => .bool i
  | 9 => .int .u64 (lim Z 0)
  | 10 => .int .u64 (lim Z 1)
  | 11 => .int .u64 (lim Z 2)
  | 12 => .int .u64 (lim Z 3)
  | _ => .bool i
def zx (k j : Nat) : Value := if j = k then .bool false else .int .u64 0
abbrev pv (X Y : Int) (i : Bool) : Value := .agg #[.int .u64 (lim (X) 0), .int .u64 (lim (X) 1), .int .u64 (lim (X) 2), .int .u64 (lim (X) 3), .int .u64 (lim (Y) 0), .int .u64 (lim (Y) 1), .int .u64 (lim (Y) 2), .int .u64 (lim (Y) 3), .bool i]
abbrev jv (X Y : Int) (i : Bool) (Z : Int) : Value := .agg #[.int .u64 (lim (X) 0), .int .u64 (lim (X) 1), .int .u64 (lim (X) 2), .int .u64 (lim (X) 3), .int .u64 (lim (Y) 0), .int .u64 (lim (Y) 1), .int .u64 (lim (Y) 2), .int .u64 (lim (Y) 3), .bool i, .int .u64 (lim (Z) 0), .int .u64 (lim (Z) 1), .int .u64 (lim (Z) 2), .int .u64 (lim (Z) 3)]
theorem Arr.mk9p {w : World} {b : Nat} {f : Nat → Value} (h0 : w.cell? ⟨b, 0, none⟩ = some (f 0)) (h1 : w.cell? ⟨b, 1, none⟩ = some (f 1)) (h2 : w.cell? ⟨b, 2, none⟩ = some (f 2)) (h3 : w.cell? ⟨b, 3, none⟩ = some (f 3)) (h4 : w.cell? ⟨b, 4, none⟩ = some (f 4)) (h5 : w.cell? ⟨b, 5, none⟩ = some (f 5)) (h6 : w.cell? ⟨b, 6, none⟩ = some (f 6)) (h7 : w.cell? ⟨b, 7, none⟩ = some (f 7)) (h8 : w.cell? ⟨b, 8, none⟩ = some (f 8)) (z : ∀ j, j < 9 → w.frozen? ⟨b, j, none⟩ = false) : Arr w b 9 f := by
  intro j hj
  refine ⟨?_, z j hj⟩
  have h : j = 0 ∨ j = 1 ∨ j = 2 ∨ j = 3 ∨ j = 4 ∨ j = 5 ∨ j = 6 ∨ j = 7 ∨ j = 8 := by omega
  rcases h with h | h | h | h | h | h | h | h | h <;> subst h <;> assumption
theorem Arr.mk13 {w : World} {b : Nat} {f : Nat → Value} (h0 : w.cell? ⟨b, 0, none⟩ = some (f 0)) (h1 : w.cell? ⟨b, 1, none⟩ = some (f 1)) (h2 : w.cell? ⟨b, 2, none⟩ = some (f 2)) (h3 : w.cell? ⟨b, 3, none⟩ = some (f 3)) (h4 : w.cell? ⟨b, 4, none⟩ = some (f 4)) (h5 : w.cell? ⟨b, 5, none⟩ = some (f 5)) (h6 : w.cell? ⟨b, 6, none⟩ = some (f 6)) (h7 : w.cell? ⟨b, 7, none⟩ = some (f 7)) (h8 : w.cell? ⟨b, 8, none⟩ = some (f 8)) (h9 : w.cell? ⟨b, 9, none⟩ = some (f 9)) (h10 : w.cell? ⟨b, 10, none⟩ = some (f 10)) (h11 : w.cell? ⟨b, 11, none⟩ = some (f 11)) (h12 : w.cell? ⟨b, 12, none⟩ = some (f 12)) (z : ∀ j, j < 13 → w.frozen? ⟨b, j, none⟩ = false) : Arr w b 13 f := by
  intro j hj
  refine ⟨?_, z j hj⟩
  have h : j = 0 ∨ j = 1 ∨ j = 2 ∨ j = 3 ∨ j = 4 ∨ j = 5 ∨ j = 6 ∨ j = 7 ∨ j = 8 ∨ j = 9 ∨ j = 10 ∨ j = 11 ∨ j = 12 := by omega
  rcases h with h | h | h | h | h | h | h | h | h | h | h | h | h <;> subst h <;> assumption
theorem Arr.g4 {w : World} {b : Nat} {f : Nat → Value} (h : Arr w b 4 f) : (∀ (d : Nat) (os : Array Obj), (grow (redrawn w d) os).cell? ⟨b, 0, none⟩ = some (f 0)) ∧ (∀ (d : Nat) (os : Array Obj), (grow (redrawn w d) os).cell? ⟨b, 1, none⟩ = some (f 1)) ∧ (∀ (d : Nat) (os : Array Obj), (grow (redrawn w d) os).cell? ⟨b, 2, none⟩ = some (f 2)) ∧ (∀ (d : Nat) (os : Array Obj), (grow (redrawn w d) os).cell? ⟨b, 3, none⟩ = some (f 3)) := ⟨fun d os => cell_regrown (h.c 0 (by omega)) d os, fun d os => cell_regrown (h.c 1 (by omega)) d os, fun d os => cell_regrown (h.c 2 (by omega)) d os, fun d os => cell_regrown (h.c 3 (by omega)) d os⟩
theorem Arr.g_px {w : World} {b : Nat} {X Y : Int} {i : Bool} (h : Arr w b 9 (px X Y i)) : (∀ (d : Nat) (os : Array Obj), (grow (redrawn w d) os).cell? ⟨b, 0, none⟩ = some (.int .u64 (lim X 0))) ∧ (∀ (d : Nat) (os : Array Obj), (grow (redrawn w d) os).cell? ⟨b, 1, none⟩ = some (.int .u64 (lim X 1))) ∧ (∀ (d : Nat) (os : Array Obj), (grow (redrawn w d) os).cell? ⟨b, 2, none⟩ = some (.int .u64 (lim X 2))) ∧ (∀ (d : Nat) (os : Array Obj), (grow (redrawn w d) os).cell? ⟨b, 3, none⟩ = some (.int .u64 (lim X 3))) ∧ (∀ (d : Nat) (os : Array Obj), (grow (redrawn w d) os).cell? ⟨b, 4, none⟩ = some (.int .u64 (lim Y 0))) ∧ (∀ (d : Nat) (os : Array Obj), (grow (redrawn w d) os).cell? ⟨b, 5, none⟩ = some (.int .u64 (lim Y 1))) ∧ (∀ (d : Nat) (os : Array Obj), (grow (redrawn w d) os).cell? ⟨b, 6, none⟩ = some (.int .u64 (lim Y 2))) ∧ (∀ (d : Nat) (os : Array Obj), (grow (redrawn w d) os).cell? ⟨b, 7, none⟩ = some (.int .u64 (lim Y 3))) ∧ (∀ (d : Nat) (os : Array Obj), (grow (redrawn w d) os).cell? ⟨b, 8, none⟩ = some (.bool i)) := ⟨fun d os => cell_regrown (h.c 0 (by omega)) d os, fun d os => cell_regrown (h.c 1 (by omega)) d os, fun d os => cell_regrown (h.c 2 (by omega)) d os, fun d os => cell_regrown (h.c 3 (by omega)) d os, fun d os => cell_regrown (h.c 4 (by omega)) d os, fun d os => cell_regrown (h.c 5 (by omega)) d os, fun d os => cell_regrown (h.c 6 (by omega)) d os, fun d os => cell_regrown (h.c 7 (by omega)) d os, fun d os => cell_regrown (h.c 8 (by omega)) d os⟩
theorem Arr.c_px {w : World} {b : Nat} {X Y : Int} {i : Bool} (h : Arr w b 9 (px X Y i)) : w.cell? ⟨b, 0, none⟩ = some (.int .u64 (lim X 0)) ∧ w.cell? ⟨b, 1, none⟩ = some (.int .u64 (lim X 1)) ∧ w.cell? ⟨b, 2, none⟩ = some (.int .u64 (lim X 2)) ∧ w.cell? ⟨b, 3, none⟩ = some (.int .u64 (lim X 3)) ∧ w.cell? ⟨b, 4, none⟩ = some (.int .u64 (lim Y 0)) ∧ w.cell? ⟨b, 5, none⟩ = some (.int .u64 (lim Y 1)) ∧ w.cell? ⟨b, 6, none⟩ = some (.int .u64 (lim Y 2)) ∧ w.cell? ⟨b, 7, none⟩ = some (.int .u64 (lim Y 3)) ∧ w.cell? ⟨b, 8, none⟩ = some (.bool i) := ⟨h.c 0 (by omega), h.c 1 (by omega), h.c 2 (by omega), h.c 3 (by omega), h.c 4 (by omega), h.c 5 (by omega), h.c 6 (by omega), h.c 7 (by omega), h.c 8 (by omega)⟩
theorem Arr.g_sx {w : World} {b : Nat} {X Y : Int} {i : Bool} {Z : Int} (h : Arr w b 13 (sx X Y i Z)) : (∀ (d : Nat) (os : Array Obj), (grow (redrawn w d) os).cell? ⟨b, 0, none⟩ = some (.int .u64 (lim X 0))) ∧ (∀ (d : Nat) (os : Array Obj), (grow (redrawn w d) os).cell? ⟨b, 1, none⟩ = some (.int .u64 (lim X 1))) ∧ (∀ (d : Nat) (os : Array Obj), (grow (redrawn w d) os).cell? ⟨b, 2, none⟩ = some (.int .u64 (lim X 2))) ∧ (∀ (d : Nat) (os : Array Obj), (grow (redrawn w d) os).cell? ⟨b, 3, none⟩ = some (.int .u64 (lim X 3))) ∧ (∀ (d : Nat) (os : Array Obj), (grow (redrawn w d) os).cell? ⟨b, 4, none⟩ = some (.int .u64 (lim Y 0))) ∧ (∀ (d : Nat) (os : Array Obj), (grow (redrawn w d) os).cell? ⟨b, 5, none⟩ = some (.int .u64 (lim Y 1))) ∧ (∀ (d : Nat) (os : Array Obj), (grow (redrawn w d) os).cell? ⟨b, 6, none⟩ = some (.int .u64 (lim Y 2))) ∧ (∀ (d : Nat) (os : Array Obj), (grow (redrawn w d) os).cell? ⟨b, 7, none⟩ = some (.int .u64 (lim Y 3))) ∧ (∀ (d : Nat) (os : Array Obj), (grow (redrawn w d) os).cell? ⟨b, 8, none⟩ = some (.bool i)) ∧ (∀ (d : Nat) (os : Array Obj), (grow (redrawn w d) os).cell? ⟨b, 9, none⟩ = some (.int .u64 (lim Z 0))) ∧ (∀ (d : Nat) (os : Array Obj), (grow (redrawn w d) os).cell? ⟨b, 10, none⟩ = some (.int .u64 (lim Z 1))) ∧ (∀ (d : Nat) (os : Array Obj), (grow (redrawn w d) os).cell? ⟨b, 11, none⟩ = some (.int .u64 (lim Z 2))) ∧ (∀ (d : Nat) (os : Array Obj), (grow (redrawn w d) os).cell? ⟨b, 12, none⟩ = some (.int .u64 (lim Z 3))) := ⟨fun d os => cell_regrown (h.c 0 (by omega)) d os, fun d os => cell_regrown (h.c 1 (by omega)) d os, fun d os => cell_regrown (h.c 2 (by omega)) d os, fun d os => cell_regrown (h.c 3 (by omega)) d os, fun d os => cell_regrown (h.c 4 (by omega)) d os, fun d os => cell_regrown (h.c 5 (by omega)) d os, fun d os => cell_regrown (h.c 6 (by omega)) d os, fun d os => cell_regrown (h.c 7 (by omega)) d os, fun d os => cell_regrown (h.c 8 (by omega)) d os, fun d os => cell_regrown (h.c 9 (by omega)) d os, fun d os => cell_regrown (h.c 10 (by omega)) d os, fun d os => cell_regrown (h.c 11 (by omega)) d os, fun d os => cell_regrown (h.c 12 (by omega)) d os⟩
theorem Arr.c_sx {w : World} {b : Nat} {X Y : Int} {i : Bool} {Z : Int} (h : Arr w b 13 (sx X Y i Z)) : w.cell? ⟨b, 0, none⟩ = some (.int .u64 (lim X 0)) ∧ w.cell? ⟨b, 1, none⟩ = some (.int .u64 (lim X 1)) ∧ w.cell? ⟨b, 2, none⟩ = some (.int .u64 (lim X 2)) ∧ w.cell? ⟨b, 3, none⟩ = some (.int .u64 (lim X 3)) ∧ w.cell? ⟨b, 4, none⟩ = some (.int .u64 (lim Y 0)) ∧ w.cell? ⟨b, 5, none⟩ = some (.int .u64 (lim Y 1)) ∧ w.cell? ⟨b, 6, none⟩ = some (.int .u64 (lim Y 2)) ∧ w.cell? ⟨b, 7, none⟩ = some (.int .u64 (lim Y 3)) ∧ w.cell? ⟨b, 8, none⟩ = some (.bool i) ∧ w.cell? ⟨b, 9, none⟩ = some (.int .u64 (lim Z 0)) ∧ w.cell? ⟨b, 10, none⟩ = some (.int .u64 (lim Z 1)) ∧ w.cell? ⟨b, 11, none⟩ = some (.int .u64 (lim Z 2)) ∧ w.cell? ⟨b, 12, none⟩ = some (.int .u64 (lim Z 3)) := ⟨h.c 0 (by omega), h.c 1 (by omega), h.c 2 (by omega), h.c 3 (by omega), h.c 4 (by omega), h.c 5 (by omega), h.c 6 (by omega), h.c 7 (by omega), h.c 8 (by omega), h.c 9 (by omega), h.c 10 (by omega), h.c 11 (by omega), h.c 12 (by omega)⟩
theorem Arr.g_zp {w : World} {b : Nat}  (h : Arr w b 9 (zx 8)) : (∀ (d : Nat) (os : Array Obj), (grow (redrawn w d) os).cell? ⟨b, 0, none⟩ = some (.int .u64 0)) ∧ (∀ (d : Nat) (os : Array Obj), (grow (redrawn w d) os).cell? ⟨b, 1, none⟩ = some (.int .u64 0)) ∧ (∀ (d : Nat) (os : Array Obj), (grow (redrawn w d) os).cell? ⟨b, 2, none⟩ = some (.int .u64 0)) ∧ (∀ (d : Nat) (os : Array Obj), (grow (redrawn w d) os).cell? ⟨b, 3, none⟩ = some (.int .u64 0)) ∧ (∀ (d : Nat) (os : Array Obj), (grow (redrawn w d) os).cell? ⟨b, 4, none⟩ = some (.int .u64 0)) ∧ (∀ (d : Nat) (os : Array Obj), (grow (redrawn w d) os).cell? ⟨b, 5, none⟩ = some (.int .u64 0)) ∧ (∀ (d : Nat) (os : Array Obj), (grow (redrawn w d) os).cell? ⟨b, 6, none⟩ = some (.int .u64 0)) ∧ (∀ (d : Nat) (os : Array Obj), (grow (redrawn w d) os).cell? ⟨b, 7, none⟩ = some (.int .u64 0)) ∧ (∀ (d : Nat) (os : Array Obj), (grow (redrawn w d) os).cell? ⟨b, 8, none⟩ = some (.bool false)) := ⟨fun d os => cell_regrown (h.c 0 (by omega)) d os, fun d os => cell_regrown (h.c 1 (by omega)) d os, fun d os => cell_regrown (h.c 2 (by omega)) d os, fun d os => cell_regrown (h.c 3 (by omega)) d os, fun d os => cell_regrown (h.c 4 (by omega)) d os, fun d os => cell_regrown (h.c 5 (by omega)) d os, fun d os => cell_regrown (h.c 6 (by omega)) d os, fun d os => cell_regrown (h.c 7 (by omega)) d os, fun d os => cell_regrown (h.c 8 (by omega)) d os⟩
theorem Arr.c_zp {w : World} {b : Nat}  (h : Arr w b 9 (zx 8)) : w.cell? ⟨b, 0, none⟩ = some (.int .u64 0) ∧ w.cell? ⟨b, 1, none⟩ = some (.int .u64 0) ∧ w.cell? ⟨b, 2, none⟩ = some (.int .u64 0) ∧ w.cell? ⟨b, 3, none⟩ = some (.int .u64 0) ∧ w.cell? ⟨b, 4, none⟩ = some (.int .u64 0) ∧ w.cell? ⟨b, 5, none⟩ = some (.int .u64 0) ∧ w.cell? ⟨b, 6, none⟩ = some (.int .u64 0) ∧ w.cell? ⟨b, 7, none⟩ = some (.int .u64 0) ∧ w.cell? ⟨b, 8, none⟩ = some (.bool false) := ⟨h.c 0 (by omega), h.c 1 (by omega), h.c 2 (by omega), h.c 3 (by omega), h.c 4 (by omega), h.c 5 (by omega), h.c 6 (by omega), h.c 7 (by omega), h.c 8 (by omega)⟩
theorem Arr.g_zs {w : World} {b : Nat}  (h : Arr w b 13 (zx 8)) : (∀ (d : Nat) (os : Array Obj), (grow (redrawn w d) os).cell? ⟨b, 0, none⟩ = some (.int .u64 0)) ∧ (∀ (d : Nat) (os : Array Obj), (grow (redrawn w d) os).cell? ⟨b, 1, none⟩ = some (.int .u64 0)) ∧ (∀ (d : Nat) (os : Array Obj), (grow (redrawn w d) os).cell? ⟨b, 2, none⟩ = some (.int .u64 0)) ∧ (∀ (d : Nat) (os : Array Obj), (grow (redrawn w d) os).cell? ⟨b, 3, none⟩ = some (.int .u64 0)) ∧ (∀ (d : Nat) (os : Array Obj), (grow (redrawn w d) os).cell? ⟨b, 4, none⟩ = some (.int .u64 0)) ∧ (∀ (d : Nat) (os : Array Obj), (grow (redrawn w d) os).cell? ⟨b, 5, none⟩ = some (.int .u64 0)) ∧ (∀ (d : Nat) (os : Array Obj), (grow (redrawn w d) os).cell? ⟨b, 6, none⟩ = some (.int .u64 0)) ∧ (∀ (d : Nat) (os : Array Obj), (grow (redrawn w d) os).cell? ⟨b, 7, none⟩ = some (.int .u64 0)) ∧ (∀ (d : Nat) (os : Array Obj), (grow (redrawn w d) os).cell? ⟨b, 8, none⟩ = some (.bool false)) ∧ (∀ (d : Nat) (os : Array Obj), (grow (redrawn w d) os).cell? ⟨b, 9, none⟩ = some (.int .u64 0)) ∧ (∀ (d : Nat) (os : Array Obj), (grow (redrawn w d) os).cell? ⟨b, 10, none⟩ = some (.int .u64 0)) ∧ (∀ (d : Nat) (os : Array Obj), (grow (redrawn w d) os).cell? ⟨b, 11, none⟩ = some (.int .u64 0)) ∧ (∀ (d : Nat) (os : Array Obj), (grow (redrawn w d) os).cell? ⟨b, 12, none⟩ = some (.int .u64 0)) := ⟨fun d os => cell_regrown (h.c 0 (by omega)) d os, fun d os => cell_regrown (h.c 1 (by omega)) d os, fun d os => cell_regrown (h.c 2 (by omega)) d os, fun d os => cell_regrown (h.c 3 (by omega)) d os, fun d os => cell_regrown (h.c 4 (by omega)) d os, fun d os => cell_regrown (h.c 5 (by omega)) d os, fun d os => cell_regrown (h.c 6 (by omega)) d os, fun d os => cell_regrown (h.c 7 (by omega)) d os, fun d os => cell_regrown (h.c 8 (by omega)) d os, fun d os => cell_regrown (h.c 9 (by omega)) d os, fun d os => cell_regrown (h.c 10 (by omega)) d os, fun d os => cell_regrown (h.c 11 (by omega)) d os, fun d os => cell_regrown (h.c 12 (by omega)) d os⟩
theorem Arr.c_zs {w : World} {b : Nat}  (h : Arr w b 13 (zx 8)) : w.cell? ⟨b, 0, none⟩ = some (.int .u64 0) ∧ w.cell? ⟨b, 1, none⟩ = some (.int .u64 0) ∧ w.cell? ⟨b, 2, none⟩ = some (.int .u64 0) ∧ w.cell? ⟨b, 3, none⟩ = some (.int .u64 0) ∧ w.cell? ⟨b, 4, none⟩ = some (.int .u64 0) ∧ w.cell? ⟨b, 5, none⟩ = some (.int .u64 0) ∧ w.cell? ⟨b, 6, none⟩ = some (.int .u64 0) ∧ w.cell? ⟨b, 7, none⟩ = some (.int .u64 0) ∧ w.cell? ⟨b, 8, none⟩ = some (.bool false) ∧ w.cell? ⟨b, 9, none⟩ = some (.int .u64 0) ∧ w.cell? ⟨b, 10, none⟩ = some (.int .u64 0) ∧ w.cell? ⟨b, 11, none⟩ = some (.int .u64 0) ∧ w.cell? ⟨b, 12, none⟩ = some (.int .u64 0) := ⟨h.c 0 (by omega), h.c 1 (by omega), h.c 2 (by omega), h.c 3 (by omega), h.c 4 (by omega), h.c 5 (by omega), h.c 6 (by omega), h.c 7 (by omega), h.c 8 (by omega), h.c 9 (by omega), h.c 10 (by omega), h.c 11 (by omega), h.c 12 (by omega)⟩
set_option maxHeartbeats 2000000 in
theorem xadd_core (A B R : Int) (w : World)
    (D : ∀ W, Calls Tryz.prog 92 #[nv A, nv B, nv pp] W fun e w' => e = .returned (nv R) ∧ Below W.heap.size W w') :
    Calls Tryz.prog 113 #[nv A, nv B] w fun e w' => e = .returned (nv R) ∧ Below w.heap.size w w' := by
  go_enter Tryz.func113, Tryz.ntmps113
  go_wp2_with fail
  obtain ⟨W0, hW0⟩ : ∃ W0, W0 = (((w.alloc (.cells #[.int .u64 (lim (A) 0), .int .u64 (lim (A) 1), .int .u64 (lim (A) 2), .int .u64 (lim (A) 3)] 24)).alloc (.cells #[.int .u64 (lim (B) 0), .int .u64 (lim (B) 1), .int .u64 (lim (B) 2), .int .u64 (lim (B) 3)] 24)).alloc (.cells #[.int .u64 0, .int .u64 0, .int .u64 0, .int .u64 0] 24)) := ⟨_, rfl⟩
  have Aa : Arr W0 (w.heap.size) 4 (fun j => .int .u64 (lim (A) j)) := by subst hW0; refine Arr.mk4 ?_ ?_ ?_ ?_ ?_ ?_ ?_ ?_ <;> simp [go_sem]
  have Ab : Arr W0 (w.heap.size + 1) 4 (fun j => .int .u64 (lim (B) j)) := by subst hW0; refine Arr.mk4 ?_ ?_ ?_ ?_ ?_ ?_ ?_ ?_ <;> simp [go_sem]
  have Az : Arr W0 (w.heap.size + 1 + 1) 4 (fun _ => .int .u64 0) := by subst hW0; refine Arr.mk4 ?_ ?_ ?_ ?_ ?_ ?_ ?_ ?_ <;> simp [go_sem]
  have hB : Below w.heap.size w W0 := by subst hW0; go_grown
  subst hW0
  obtain ⟨ra0, ra1, ra2, ra3⟩ := Arr.g4 Aa
  obtain ⟨rb0, rb1, rb2, rb3⟩ := Arr.g4 Ab
  refine wp_region_below_tail 4 (by kernel_rfl) (by kernel_rfl) ?_
  simp only [List.take_succ_cons, List.take_zero, List.drop_succ_cons, List.drop_zero]
  repeat (go_big_quiet_step (first | (go_at_call 116; exact Calls.regrown_of (p46 _)) | (go_at_call 92; exact Calls.regrown_of (D _))))
  refine wpQuiet_nil ?_
  intro w1 hw'
  obtain ⟨⟨dq, osq⟩, hw''⟩ := hw'
  have hb := below_of hw''
  clear hw''
  replace Az := Arr.to' Az hb
  replace hB := Bel.call hB hb
  clear hb ra0 ra1 ra2 ra3 rb0 rb1 rb2 rb3 Aa Ab D
  have hS := hB.size
  have cz := Az.c
  have zz := Az.z
  go_wp2_with fail
  refine bodyPost_ret (v := nv R) (by simp [results, Tryz.results113, go_sem, cz]) rfl ⟨rfl, ?_⟩
  go_grown
theorem xadd (A B : Int) (iA : Inn A) (iB : Inn B) (w : World) : Calls Tryz.prog 113 #[nv A, nv B] w fun e w' => e = .returned (nv (fa A B)) ∧ Below w.heap.size w w' := by
  refine xadd_core A B _ w fun W => ?_
  have := madd_any A B pp iA.1 iA.2 iB.1 iB.2 inn_pp.1 inn_pp.2 W
  rw [md_pos _ pp_pos] at this
  exact this
set_option maxHeartbeats 2000000 in
theorem xsub_core (A B R : Int) (w : World)
    (D : ∀ W, Calls Tryz.prog 64 #[nv A, nv B, nv pp] W fun e w' => e = .returned (nv R) ∧ Below W.heap.size W w') :
    Calls Tryz.prog 112 #[nv A, nv B] w fun e w' => e = .returned (nv R) ∧ Below w.heap.size w w' := by
  go_enter Tryz.func112, Tryz.ntmps112
  go_wp2_with fail
  obtain ⟨W0, hW0⟩ : ∃ W0, W0 = (((w.alloc (.cells #[.int .u64 (lim (A) 0), .int .u64 (lim (A) 1), .int .u64 (lim (A) 2), .int .u64 (lim (A) 3)] 24)).alloc (.cells #[.int .u64 (lim (B) 0), .int .u64 (lim (B) 1), .int .u64 (lim (B) 2), .int .u64 (lim (B) 3)] 24)).alloc (.cells #[.int .u64 0, .int .u64 0, .int .u64 0, .int .u64 0] 24)) := ⟨_, rfl⟩
  have Aa : Arr W0 (w.heap.size) 4 (fun j => .int .u64 (lim (A) j)) := by subst hW0; refine Arr.mk4 ?_ ?_ ?_ ?_ ?_ ?_ ?_ ?_ <;> simp [go_sem]
  have Ab : Arr W0 (w.heap.size + 1) 4 (fun j => .int .u64 (lim (B) j)) := by subst hW0; refine Arr.mk4 ?_ ?_ ?_ ?_ ?_ ?_ ?_ ?_ <;> simp [go_sem]
  have Az : Arr W0 (w.heap.size + 1 + 1) 4 (fun _ => .int .u64 0) := by subst hW0; refine Arr.mk4 ?_ ?_ ?_ ?_ ?_ ?_ ?_ ?_ <;> simp [go_sem]
  have hB : Below w.heap.size w W0 := by subst hW0; go_grown
  subst hW0
  obtain ⟨ra0, ra1, ra2, ra3⟩ := Arr.g4 Aa
  obtain ⟨rb0, rb1, rb2, rb3⟩ := Arr.g4 Ab
  refine wp_region_below_tail 4 (by kernel_rfl) (by kernel_rfl) ?_
  simp only [List.take_succ_cons, List.take_zero, List.drop_succ_cons, List.drop_zero]
  repeat (go_big_quiet_step (first | (go_at_call 116; exact Calls.regrown_of (p46 _)) | (go_at_call 64; exact Calls.regrown_of (D _))))
  refine wpQuiet_nil ?_
  intro w1 hw'
  obtain ⟨⟨dq, osq⟩, hw''⟩ := hw'
  have hb := below_of hw''
  clear hw''
  replace Az := Arr.to' Az hb
  replace hB := Bel.call hB hb
  clear hb ra0 ra1 ra2 ra3 rb0 rb1 rb2 rb3 Aa Ab D
  have hS := hB.size
  have cz := Az.c
  have zz := Az.z
  go_wp2_with fail
  refine bodyPost_ret (v := nv R) (by simp [results, Tryz.results112, go_sem, cz]) rfl ⟨rfl, ?_⟩
  go_grown
theorem xsub (A B : Int) (iA : Inn A) (iB : Inn B) (w : World) : Calls Tryz.prog 112 #[nv A, nv B] w fun e w' => e = .returned (nv (fs A B)) ∧ Below w.heap.size w w' := by
  refine xsub_core A B _ w fun W => ?_
  have := msub_any A B pp iA.1 iA.2 iB.1 iB.2 inn_pp.1 inn_pp.2 W
  rw [md_pos _ pp_pos] at this
  exact this
set_option maxHeartbeats 2000000 in
theorem xmul_core (A B R : Int) (w : World)
    (D : ∀ W, Calls Tryz.prog 94 #[nv A, nv B, nv pp] W fun e w' => e = .returned (nv R) ∧ Below W.heap.size W w') :
    Calls Tryz.prog 111 #[nv A, nv B] w fun e w' => e = .returned (nv R) ∧ Below w.heap.size w w' := by
  go_enter Tryz.func111, Tryz.ntmps111
  go_wp2_with fail
  obtain ⟨W0, hW0⟩ : ∃ W0, W0 = (((w.alloc (.cells #[.int .u64 (lim (A) 0), .int .u64 (lim (A) 1), .int .u64 (lim (A) 2), .int .u64 (lim (A) 3)] 24)).alloc (.cells #[.int .u64 (lim (B) 0), .int .u64 (lim (B) 1), .int .u64 (lim (B) 2), .int .u64 (lim (B) 3)] 24)).alloc (.cells #[.int .u64 0, .int .u64 0, .int .u64 0, .int .u64 0] 24)) := ⟨_, rfl⟩
  have Aa : Arr W0 (w.heap.size) 4 (fun j => .int .u64 (lim (A) j)) := by subst hW0; refine Arr.mk4 ?_ ?_ ?_ ?_ ?_ ?_ ?_ ?_ <;> simp [go_sem]
  have Ab : Arr W0 (w.heap.size + 1) 4 (fun j => .int .u64 (lim (B) j)) := by subst hW0; refine Arr.mk4 ?_ ?_ ?_ ?_ ?_ ?_ ?_ ?_ <;> simp [go_sem]
  have Az : Arr W0 (w.heap.size + 1 + 1) 4 (fun _ => .int .u64 0) := by subst hW0; refine Arr.mk4 ?_ ?_ ?_ ?_ ?_ ?_ ?_ ?_ <;> simp [go_sem]
  have hB : Below w.heap.size w W0 := by subst hW0; go_grown
  subst hW0
  obtain ⟨ra0, ra1, ra2, ra3⟩ := Arr.g4 Aa
  obtain ⟨rb0, rb1, rb2, rb3⟩ := Arr.g4 Ab
  refine wp_region_below_tail 4 (by kernel_rfl) (by kernel_rfl) ?_
  simp only [List.take_succ_cons, List.take_zero, List.drop_succ_cons, List.drop_zero]
  repeat (go_big_quiet_step (first | (go_at_call 116; exact Calls.regrown_of (p46 _)) | (go_at_call 94; exact Calls.regrown_of (D _))))
  refine wpQuiet_nil ?_
  intro w1 hw'
  obtain ⟨⟨dq, osq⟩, hw''⟩ := hw'
  have hb := below_of hw''
  clear hw''
  replace Az := Arr.to' Az hb
  replace hB := Bel.call hB hb
  clear hb ra0 ra1 ra2 ra3 rb0 rb1 rb2 rb3 Aa Ab D
  have hS := hB.size
  have cz := Az.c
  have zz := Az.z
  go_wp2_with fail
  refine bodyPost_ret (v := nv R) (by simp [results, Tryz.results111, go_sem, cz]) rfl ⟨rfl, ?_⟩
  go_grown
theorem xmul (A B : Int) (iA : Inn A) (iB : Inn B) (w : World) : Calls Tryz.prog 111 #[nv A, nv B] w fun e w' => e = .returned (nv (fm A B)) ∧ Below w.heap.size w w' := by
  refine xmul_core A B _ w fun W => ?_
  have := mmul_any A B pp iA.1 iA.2 iB.1 iB.2 inn_pp.1 inn_pp.2 W
  rw [md_pos _ pp_pos] at this
  exact this
set_option maxHeartbeats 2000000 in
theorem p29 (w : World) : Calls Tryz.prog 71 #[] w fun e w' => e = .returned (nv pp) ∧ Below w.heap.size w w' := by
  go_enter Tryz.func71, Tryz.ntmps71
  obtain ⟨W0, hW0⟩ : ∃ W0, W0 = (w.alloc (.cells #[.int .u64 0, .int .u64 0, .int .u64 0, .int .u64 0] 24)) := ⟨_, rfl⟩
  have Az : Arr W0 (w.heap.size) 4 (fun _ => .int .u64 0) := by subst hW0; refine Arr.mk4 ?_ ?_ ?_ ?_ ?_ ?_ ?_ ?_ <;> simp [go_sem]
  have hB : Below w.heap.size w W0 := by subst hW0; go_grown
  subst hW0
  go_wp2_with fail
  refine (p49 _).mono ?_
  rintro e w1 ⟨rfl, hb⟩
  replace Az := Arr.to' Az hb
  replace hB := Bel.call hB hb
  clear hb
  have hS := hB.size
  have cz := Az.c
  have zz := Az.z
  go_wp2_with fail
  refine bodyPost_ret (v := nv pp) (by simp [results, Tryz.results71, go_sem, cz]) rfl ⟨rfl, ?_⟩
  go_grown
set_option maxHeartbeats 2000000 in
theorem radd_core (A B R : Int) (w : World)
    (D : ∀ W, Calls Tryz.prog 23 #[nv A, nv B, nv pp] W fun e w' => e = .returned (nv R) ∧ Below W.heap.size W w') :
    Calls Tryz.prog 72 #[nv A, nv B] w fun e w' => e = .returned (nv R) ∧ Below w.heap.size w w' := by
  go_enter Tryz.func72, Tryz.ntmps72
  go_wp2_with fail
  obtain ⟨W0, hW0⟩ : ∃ W0, W0 = (((w.alloc (.cells #[.int .u64 (lim (A) 0), .int .u64 (lim (A) 1), .int .u64 (lim (A) 2), .int .u64 (lim (A) 3)] 24)).alloc (.cells #[.int .u64 (lim (B) 0), .int .u64 (lim (B) 1), .int .u64 (lim (B) 2), .int .u64 (lim (B) 3)] 24)).alloc (.cells #[.int .u64 0, .int .u64 0, .int .u64 0, .int .u64 0] 24)) := ⟨_, rfl⟩
  have Aa : Arr W0 (w.heap.size) 4 (fun j => .int .u64 (lim (A) j)) := by subst hW0; refine Arr.mk4 ?_ ?_ ?_ ?_ ?_ ?_ ?_ ?_ <;> simp [go_sem]
  have Ab : Arr W0 (w.heap.size + 1) 4 (fun j => .int .u64 (lim (B) j)) := by subst hW0; refine Arr.mk4 ?_ ?_ ?_ ?_ ?_ ?_ ?_ ?_ <;> simp [go_sem]
  have Az : Arr W0 (w.heap.size + 1 + 1) 4 (fun _ => .int .u64 0) := by subst hW0; refine Arr.mk4 ?_ ?_ ?_ ?_ ?_ ?_ ?_ ?_ <;> simp [go_sem]
  have hB : Below w.heap.size w W0 := by subst hW0; go_grown
  subst hW0
  obtain ⟨ra0, ra1, ra2, ra3⟩ := Arr.g4 Aa
  obtain ⟨rb0, rb1, rb2, rb3⟩ := Arr.g4 Ab
  refine wp_region_below_tail 4 (by kernel_rfl) (by kernel_rfl) ?_
  simp only [List.take_succ_cons, List.take_zero, List.drop_succ_cons, List.drop_zero]
  repeat (go_big_quiet_step (first | (go_at_call 71; exact Calls.regrown_of (p29 _)) | (go_at_call 23; exact Calls.regrown_of (D _))))
  refine wpQuiet_nil ?_
  intro w1 hw'
  obtain ⟨⟨dq, osq⟩, hw''⟩ := hw'
  have hb := below_of hw''
  clear hw''
  replace Az := Arr.to' Az hb
  replace hB := Bel.call hB hb
  clear hb ra0 ra1 ra2 ra3 rb0 rb1 rb2 rb3 Aa Ab D
  have hS := hB.size
  have cz := Az.c
  have zz := Az.z
  go_wp2_with fail
  refine bodyPost_ret (v := nv R) (by simp [results, Tryz.results72, go_sem, cz]) rfl ⟨rfl, ?_⟩
  go_grown
theorem radd (A B : Int) (iA : Inn A) (iB : Inn B) (w : World) : Calls Tryz.prog 72 #[nv A, nv B] w fun e w' => e = .returned (nv (fa A B)) ∧ Below w.heap.size w w' := by
  refine radd_core A B _ w fun W => ?_
  have := ref2Add_any A B pp iA.1 iA.2 iB.1 iB.2 inn_pp.1 inn_pp.2 W
  rw [md_pos _ pp_pos] at this
  exact this
set_option maxHeartbeats 2000000 in
theorem rsub_core (A B R : Int) (w : World)
    (D : ∀ W, Calls Tryz.prog 25 #[nv A, nv B, nv pp] W fun e w' => e = .returned (nv R) ∧ Below W.heap.size W w') :
    Calls Tryz.prog 74 #[nv A, nv B] w fun e w' => e = .returned (nv R) ∧ Below w.heap.size w w' := by
  go_enter Tryz.func74, Tryz.ntmps74
  go_wp2_with fail
  obtain ⟨W0, hW0⟩ : ∃ W0, W0 = (((w.alloc (.cells #[.int .u64 (lim (A) 0), .int .u64 (lim (A) 1), .int .u64 (lim (A) 2), .int .u64 (lim (A) 3)] 24)).alloc (.cells #[.int .u64 (lim (B) 0), .int .u64 (lim (B) 1), .int .u64 (lim (B) 2), .int .u64 (lim (B) 3)] 24)).alloc (.cells #[.int .u64 0, .int .u64 0, .int .u64 0, .int .u64 0] 24)) := ⟨_, rfl⟩
  have Aa : Arr W0 (w.heap.size) 4 (fun j => .int .u64 (lim (A) j)) := by subst hW0; refine Arr.mk4 ?_ ?_ ?_ ?_ ?_ ?_ ?_ ?_ <;> simp [go_sem]
  have Ab : Arr W0 (w.heap.size + 1) 4 (fun j => .int .u64 (lim (B) j)) := by subst hW0; refine Arr.mk4 ?_ ?_ ?_ ?_ ?_ ?_ ?_ ?_ <;> simp [go_sem]
  have Az : Arr W0 (w.heap.size + 1 + 1) 4 (fun _ => .int .u64 0) := by subst hW0; refine Arr.mk4 ?_ ?_ ?_ ?_ ?_ ?_ ?_ ?_ <;> simp [go_sem]
  have hB : Below w.heap.size w W0 := by subst hW0; go_grown
  subst hW0
  obtain ⟨ra0, ra1, ra2, ra3⟩ := Arr.g4 Aa
  obtain ⟨rb0, rb1, rb2, rb3⟩ := Arr.g4 Ab
  refine wp_region_below_tail 4 (by kernel_rfl) (by kernel_rfl) ?_
  simp only [List.take_succ_cons, List.take_zero, List.drop_succ_cons, List.drop_zero]
  repeat (go_big_quiet_step (first | (go_at_call 71; exact Calls.regrown_of (p29 _)) | (go_at_call 25; exact Calls.regrown_of (D _))))
  refine wpQuiet_nil ?_
  intro w1 hw'
  obtain ⟨⟨dq, osq⟩, hw''⟩ := hw'
  have hb := below_of hw''
  clear hw''
  replace Az := Arr.to' Az hb
  replace hB := Bel.call hB hb
  clear hb ra0 ra1 ra2 ra3 rb0 rb1 rb2 rb3 Aa Ab D
  have hS := hB.size
  have cz := Az.c
  have zz := Az.z
  go_wp2_with fail
  refine bodyPost_ret (v := nv R) (by simp [results, Tryz.results74, go_sem, cz]) rfl ⟨rfl, ?_⟩
  go_grown
theorem rsub (A B : Int) (iA : Inn A) (iB : Inn B) (w : World) : Calls Tryz.prog 74 #[nv A, nv B] w fun e w' => e = .returned (nv (fs A B)) ∧ Below w.heap.size w w' := by
  refine rsub_core A B _ w fun W => ?_
  have := ref2Sub_any A B pp iA.1 iA.2 iB.1 iB.2 inn_pp.1 inn_pp.2 W
  rw [md_pos _ pp_pos] at this
  exact this
set_option maxHeartbeats 2000000 in
theorem rmul_core (A B R : Int) (w : World)
    (D : ∀ W, Calls Tryz.prog 24 #[nv A, nv B, nv pp] W fun e w' => e = .returned (nv R) ∧ Below W.heap.size W w') :
    Calls Tryz.prog 73 #[nv A, nv B] w fun e w' => e = .returned (nv R) ∧ Below w.heap.size w w' := by
  go_enter Tryz.func73, Tryz.ntmps73
  go_wp2_with fail
  obtain ⟨W0, hW0⟩ : ∃ W0, W0 = (((w.alloc (.cells #[.int .u64 (lim (A) 0), .int .u64 (lim (A) 1), .int .u64 (lim (A) 2), .int .u64 (lim (A) 3)] 24)).alloc (.cells #[.int .u64 (lim (B) 0), .int .u64 (lim (B) 1), .int .u64 (lim (B) 2), .int .u64 (lim (B) 3)] 24)).alloc (.cells #[.int .u64 0, .int .u64 0, .int .u64 0, .int .u64 0] 24)) := ⟨_, rfl⟩
  have Aa : Arr W0 (w.heap.size) 4 (fun j => .int .u64 (lim (A) j)) := by subst hW0; refine Arr.mk4 ?_ ?_ ?_ ?_ ?_ ?_ ?_ ?_ <;> simp [go_sem]
  have Ab : Arr W0 (w.heap.size + 1) 4 (fun j => .int .u64 (lim (B) j)) := by subst hW0; refine Arr.mk4 ?_ ?_ ?_ ?_ ?_ ?_ ?_ ?_ <;> simp [go_sem]
  have Az : Arr W0 (w.heap.size + 1 + 1) 4 (fun _ => .int .u64 0) := by subst hW0; refine Arr.mk4 ?_ ?_ ?_ ?_ ?_ ?_ ?_ ?_ <;> simp [go_sem]
  have hB : Below w.heap.size w W0 := by subst hW0; go_grown
  subst hW0
  obtain ⟨ra0, ra1, ra2, ra3⟩ := Arr.g4 Aa
  obtain ⟨rb0, rb1, rb2, rb3⟩ := Arr.g4 Ab
  refine wp_region_below_tail 4 (by kernel_rfl) (by kernel_rfl) ?_
  simp only [List.take_succ_cons, List.take_zero, List.drop_succ_cons, List.drop_zero]
  repeat (go_big_quiet_step (first | (go_at_call 71; exact Calls.regrown_of (p29 _)) | (go_at_call 24; exact Calls.regrown_of (D _))))
  refine wpQuiet_nil ?_
  intro w1 hw'
  obtain ⟨⟨dq, osq⟩, hw''⟩ := hw'
  have hb := below_of hw''
  clear hw''
  replace Az := Arr.to' Az hb
  replace hB := Bel.call hB hb
  clear hb ra0 ra1 ra2 ra3 rb0 rb1 rb2 rb3 Aa Ab D
  have hS := hB.size
  have cz := Az.c
  have zz := Az.z
  go_wp2_with fail
  refine bodyPost_ret (v := nv R) (by simp [results, Tryz.results73, go_sem, cz]) rfl ⟨rfl, ?_⟩
  go_grown
theorem rmul (A B : Int) (iA : Inn A) (iB : Inn B) (w : World) : Calls Tryz.prog 73 #[nv A, nv B] w fun e w' => e = .returned (nv (fm A B)) ∧ Below w.heap.size w w' := by
  refine rmul_core A B _ w fun W => ?_
  have := refMul_any A B pp iA.1 iA.2 iB.1 iB.2 inn_pp.1 inn_pp.2 W
  rw [md_pos _ pp_pos] at this
  exact this
set_option maxHeartbeats 2000000 in
theorem xsq (A : Int) (iA : Inn A) (w : World) : Calls Tryz.prog 104 #[nv A] w fun e w' => e = .returned (nv (fm A A)) ∧ Below w.heap.size w w' := by
  go_enter Tryz.func104, Tryz.ntmps104
  obtain ⟨W0, hW0⟩ : ∃ W0, W0 = ((w.alloc (.cells #[.int .u64 (lim (A) 0), .int .u64 (lim (A) 1), .int .u64 (lim (A) 2), .int .u64 (lim (A) 3)] 24)).alloc (.cells #[.int .u64 0, .int .u64 0, .int .u64 0, .int .u64 0] 24)) := ⟨_, rfl⟩
  have Aa : Arr W0 (w.heap.size) 4 (fun j => .int .u64 (lim (A) j)) := by subst hW0; refine Arr.mk4 ?_ ?_ ?_ ?_ ?_ ?_ ?_ ?_ <;> simp [go_sem]
  have Az : Arr W0 (w.heap.size + 1) 4 (fun _ => .int .u64 0) := by subst hW0; refine Arr.mk4 ?_ ?_ ?_ ?_ ?_ ?_ ?_ ?_ <;> simp [go_sem]
  have hB : Below w.heap.size w W0 := by subst hW0; go_grown
  subst hW0
  have ca := Aa.c
  go_wp2_with fail
  refine (xmul A A iA iA _).mono ?_
  rintro e w1 ⟨rfl, hb⟩
  replace Az := Arr.to' Az hb
  replace hB := Bel.call hB hb
  clear hb ca Aa
  have hS := hB.size
  have cz := Az.c
  have zz := Az.z
  go_wp2_with fail
  refine bodyPost_ret (v := nv (fm A A)) (by simp [results, Tryz.results104, go_sem, cz]) rfl ⟨rfl, ?_⟩
  go_grown
set_option maxHeartbeats 2000000 in
theorem xtw (A : Int) (iA : Inn A) (w : World) : Calls Tryz.prog 114 #[nv A] w fun e w' => e = .returned (nv (fa A A)) ∧ Below w.heap.size w w' := by
  go_enter Tryz.func114, Tryz.ntmps114
  obtain ⟨W0, hW0⟩ : ∃ W0, W0 = ((w.alloc (.cells #[.int .u64 (lim (A) 0), .int .u64 (lim (A) 1), .int .u64 (lim (A) 2), .int .u64 (lim (A) 3)] 24)).alloc (.cells #[.int .u64 0, .int .u64 0, .int .u64 0, .int .u64 0] 24)) := ⟨_, rfl⟩
  have Aa : Arr W0 (w.heap.size) 4 (fun j => .int .u64 (lim (A) j)) := by subst hW0; refine Arr.mk4 ?_ ?_ ?_ ?_ ?_ ?_ ?_ ?_ <;> simp [go_sem]
  have Az : Arr W0 (w.heap.size + 1) 4 (fun _ => .int .u64 0) := by subst hW0; refine Arr.mk4 ?_ ?_ ?_ ?_ ?_ ?_ ?_ ?_ <;> simp [go_sem]
  have hB : Below w.heap.size w W0 := by subst hW0; go_grown
  subst hW0
  have ca := Aa.c
  go_wp2_with fail
  refine (xadd A A iA iA _).mono ?_
  rintro e w1 ⟨rfl, hb⟩
  replace Az := Arr.to' Az hb
  replace hB := Bel.call hB hb
  clear hb ca Aa
  have hS := hB.size
  have cz := Az.c
  have zz := Az.z
  go_wp2_with fail
  refine bodyPost_ret (v := nv (fa A A)) (by simp [results, Tryz.results114, go_sem, cz]) rfl ⟨rfl, ?_⟩
  go_grown
set_option maxHeartbeats 2000000 in
theorem xth (A : Int) (iA : Inn A) (w : World) : Calls Tryz.prog 110 #[nv A] w fun e w' => e = .returned (nv (fa (fa A A) A)) ∧ Below w.heap.size w w' := by
  go_enter Tryz.func110, Tryz.ntmps110
  go_wp2_with fail
  obtain ⟨W0, hW0⟩ : ∃ W0, W0 = ((w.alloc (.cells #[.int .u64 (lim (A) 0), .int .u64 (lim (A) 1), .int .u64 (lim (A) 2), .int .u64 (lim (A) 3)] 24)).alloc (.cells #[.int .u64 0, .int .u64 0, .int .u64 0, .int .u64 0] 24)) := ⟨_, rfl⟩
  have Aa : Arr W0 (w.heap.size) 4 (fun j => .int .u64 (lim (A) j)) := by subst hW0; refine Arr.mk4 ?_ ?_ ?_ ?_ ?_ ?_ ?_ ?_ <;> simp [go_sem]
  have Az : Arr W0 (w.heap.size + 1) 4 (fun _ => .int .u64 0) := by subst hW0; refine Arr.mk4 ?_ ?_ ?_ ?_ ?_ ?_ ?_ ?_ <;> simp [go_sem]
  have hB : Below w.heap.size w W0 := by subst hW0; go_grown
  subst hW0
  obtain ⟨ra0, ra1, ra2, ra3⟩ := Arr.g4 Aa
  refine wp_region_below_tail 4 (by kernel_rfl) (by kernel_rfl) ?_
  simp only [List.take_succ_cons, List.take_zero, List.drop_succ_cons, List.drop_zero]
  repeat (go_big_quiet_step (first | (go_at_call 114; exact Calls.regrown_of (xtw A iA _)) | (go_at_call 113; exact Calls.regrown_of (xadd (fa A A) A (inn_fa _ _) iA _))))
  refine wpQuiet_nil ?_
  intro w1 hw'
  obtain ⟨⟨dq, osq⟩, hw''⟩ := hw'
  have hb := below_of hw''
  clear hw''
  replace Az := Arr.to' Az hb
  replace hB := Bel.call hB hb
  clear hb ra0 ra1 ra2 ra3 Aa
  have hS := hB.size
  have cz := Az.c
  have zz := Az.z
  go_wp2_with fail
  refine bodyPost_ret (v := nv (fa (fa A A) A)) (by simp [results, Tryz.results110, go_sem, cz]) rfl ⟨rfl, ?_⟩
  go_grown
end Go.Proofs.YtoolbnbfbegjaaaGreat
set_option maxRecDepth 100000
namespace Go.Proofs.YtoolbnbfbegjaaaGreat
open Go.RowKit Go.Shelf Go.Sort
attribute [local go_sem] Oper.semAt_some
theorem ko_below {W W' : World} (hb : Below W.heap.size W W') : KeepsOthers W W' := KeepsOthers.of_grownBy (gby hb) (fun j o e _ => by cases e)
theorem kb_below {b : Nat} {W W' : World} (hb : Below W.heap.size W W') : KB b W W' := fun f h => h.below hb h.lt
theorem arr_kept {W W' : World} {b n : Nat} {f : Nat → Value} {row : Option Nat} (h : Arr W b n f) (hg : W.grownBy W' row) (hr : ∀ r, row = some r → ∃ o : Obj, W.heap[r]? = some o ∧ o.isCells = false) : Arr W' b n f := fun j hj =>
  ⟨cell_kept (h j hj).1 hg hr, (frozen_kept (h j hj).1 hg hr).trans (h j hj).2⟩
theorem bv_t : bv true = .int .u64 1 := rfl
theorem bv_f : bv false = .int .u64 0 := rfl
def up2 (J K : Int) (L k : Nat) : List (Bool × Bool) := (List.range k).map fun j => (bitB J (L - 1 - j), bitB K (L - 1 - j))
theorem up2_succ (J K : Int) (L k : Nat) : up2 J K L (k + 1) = up2 J K L k ++ [(bitB J (L - 1 - k), bitB K (L - 1 - k))] := by simp [up2, List.range_succ]
theorem up2_len (J K : Int) (L k : Nat) : (up2 J K L k).length = k := by simp [up2]
theorem up2_pre (J K : Int) (L k : Nat) (h : k ≤ L) : up2 J K L k <+: up2 J K L L := by
  refine ⟨((List.range' k (L - k)).map fun j => (bitB J (L - 1 - j), bitB K (L - 1 - j))), ?_⟩
  unfold up2
  rw [← List.map_append]
  congr 1
  have h2 := @List.range'_append_1 0 k (L - k)
  rw [Nat.zero_add] at h2
  rw [List.range_eq_range', List.range_eq_range', h2]
  congr 1; omega
def KB2 (b c : Nat) (W W' : World) : Prop := KB b W W' ∧ KB c W W'
theorem KB2.t {b c : Nat} {A B D : World} (h1 : KB2 b c A B) (h2 : KB2 b c B D) : KB2 b c A D := ⟨h1.1.t h2.1, h1.2.t h2.2⟩
theorem kb2_below {b c : Nat} {W W' : World} (hb : Below W.heap.size W W') : KB2 b c W W' := ⟨kb_below hb, kb_below hb⟩
attribute [local go_sem] bv_t bv_f
set_option maxHeartbeats 4000000 in
theorem pbits1_in (J K : Int) (L1 L2 L : Nat) (n l Bj Bk : Nat) (hn : 1 ≤ n) (Jv Jx : List (Bool × Bool) → World → Prop) (h1 : L1 ≤ 256) (h2 : L2 ≤ 256) (hL : L ≤ 256) (hmax : (if L1 < L2 then (L2 : Int) else (L1 : Int)) = (L : Int)) {B : Nat} (hJ : AbidesFrom B Jv)
    (C1 : ∀ W, Calls Tryz.prog 108 #[nv J] W fun e w' => e = .returned (.int .i64 (L1 : Int)) ∧ Below W.heap.size W w')
    (C2 : ∀ W, Calls Tryz.prog 108 #[nv K] W fun e w' => e = .returned (.int .i64 (L2 : Int)) ∧ Below W.heap.size W w')
    (CJ : ∀ (k : Nat) W, k < 256 → Calls Tryz.prog 109 #[nv J, .int .i64 k] W fun e w' => e = .returned (bv (bitB J k)) ∧ Below W.heap.size W w')
    (CK : ∀ (k : Nat) W, k < 256 → Calls Tryz.prog 109 #[nv K, .int .i64 k] W fun e w' => e = .returned (bv (bitB K k)) ∧ Below W.heap.size W w')
    (hY : ∀ pre x W, Jv pre W → pre.length < 257 → YieldAt Fence.wide (n - 1) Tryz.prog l #[bv x.1, bv x.2] W fun e W' =>
      (e = .returned (.bool true) ∧ Jv (pre ++ [x]) W' ∧ KB2 Bj Bk W W') ∨ (e = .returned (.bool false) ∧ Jx (pre ++ [x]) W'))
    (W : World) (hA : Arr W Bj 4 (fun j => .int .u64 (lim J j))) (hD : Arr W Bk 4 (fun j => .int .u64 (lim K j))) (h0 : Jv [] W) :
    CallsIn Fence.wide n Tryz.prog 107 #[.func (.yield l) #[] #[], .pointer (some ⟨Bj, 0, none⟩), .pointer (some ⟨Bk, 0, none⟩)] W fun e W' => (∃ v, e = .returned v) ∧
      ((∃ ys, ys = up2 J K L L ∧ Jv ys W') ∨ (∃ pre, pre <+: up2 J K L L ∧ Jx pre W')) := by
  have hd : 1 ≤ n := hn
  have HH : Hid ((if L1 < L2 then (L2 : Int) else (L1 : Int)) = (L : Int)) := hmax
  clear hmax
  refine callsIn_of_wp Tryz.func107 rfl trivial ?_ rfl
  simp only [Tryz.ntmps107, List.size_toArray, List.length_cons, List.length_nil, Nat.reduceAdd, Nat.reduceSub, Array.replicate_succ, Array.replicate_zero, List.push_toArray, List.append_toArray, List.nil_append, List.cons_append]
  have n1 : (L1 : Int) ≤ 256 := by omega
  have n2 : (L2 : Int) ≤ 256 := by omega
  have n0 : (0 : Int) ≤ (L1 : Int) := by omega
  have n3 : (0 : Int) ≤ (L2 : Int) := by omega
  have rj0 := fun ds os => cell_regrown (hA.c 0 (by omega)) ds os
  have rk0 := fun ds os => cell_regrown (hD.c 0 (by omega)) ds os
  have rj1 := fun ds os => cell_regrown (hA.c 1 (by omega)) ds os
  have rk1 := fun ds os => cell_regrown (hD.c 1 (by omega)) ds os
  have rj2 := fun ds os => cell_regrown (hA.c 2 (by omega)) ds os
  have rk2 := fun ds os => cell_regrown (hD.c 2 (by omega)) ds os
  have rj3 := fun ds os => cell_regrown (hA.c 3 (by omega)) ds os
  have rk3 := fun ds os => cell_regrown (hD.c 3 (by omega)) ds os
  gi_wp2
  refine wpIn_region_below_tailw 6 (by kernel_rfl) (by kernel_rfl) ?_
  simp only [List.take_succ_cons, List.take_zero, List.drop_succ_cons, List.drop_zero]
  repeat (go_big_quiet_step (first | (go_at_call 108; with_reducible first | exact Calls.regrown_of (C1 _) | exact Calls.regrown_of (C2 _))))
  refine wpQuiet_nil ?_
  intro w1 hw'
  obtain ⟨⟨dq, osq⟩, hw''⟩ := hw'
  have hb1 := below_of hw''
  clear hw'' rj0 rj1 rj2 rj3 rk0 rk1 rk2 rk3
  have hA1 := hA.below hb1 hA.lt
  have hD1 := hD.below hb1 hD.lt
  have h01 := hJ _ _ _ none h0 (gby hb1) (fun r e => by cases e)
  clear hA hD h0 hb1 C1 C2
  rw [HH.out]
  clear HH n0 n1 n2 n3 h1 h2
  gi_wp2
  gi_loopw [4] (fun i wr => ∃ k : Nat, k ≤ L ∧ i = .int .i64 ((L : Int) - 1 - (k : Int)) ∧ Jv (up2 J K L k) wr ∧ Arr wr Bj 4 (fun j => .int .u64 (lim J j)) ∧ Arr wr Bk 4 (fun j => .int .u64 (lim K j))) (fun i _ => (intOf i + 1).toNat)
  case atStart => exact ⟨0, by omega, by go_num, h01, hA1, hD1⟩
  case round =>
    clear h01 hA1 hD1
    obtain ⟨k, hk, rfl, hJs, hA, hD⟩ := hrel
    by_cases hlt : k < L
    · obtain ⟨m, hm⟩ : ∃ m : Nat, (L : Int) - 1 - (k : Int) = (m : Int) := ⟨L - 1 - k, by omega⟩
      have em : m = L - 1 - k := by omega
      have HM : Hid (m = L - 1 - k) := em
      have HK : Hid (L = m + 1 + k) := (by omega : L = m + 1 + k)
      rw [hm]
      have m0 : (0 : Int) ≤ (m : Int) := by omega
      have m1 : (m : Int) ≤ 255 := by omega
      have cj := fun W => CJ m W (by omega)
      have ck := fun W => CK m W (by omega)
      have hk3 : (up2 J K L k).length < 257 := by rw [up2_len]; omega
      have hpre := up2_pre J K L (k + 1) hlt
      rw [up2_succ, ← em] at hpre
      have hus := up2_succ J K L k
      rw [← em] at hus
      have HU : Hid (up2 J K L (k + 1) = up2 J K L k ++ [(bitB J m, bitB K m)]) := hus
      clear em hm hus
      have rj0 := fun ds os => cell_regrown (hA.c 0 (by omega)) ds os
      have rk0 := fun ds os => cell_regrown (hD.c 0 (by omega)) ds os
      have rj1 := fun ds os => cell_regrown (hA.c 1 (by omega)) ds os
      have rk1 := fun ds os => cell_regrown (hD.c 1 (by omega)) ds os
      have rj2 := fun ds os => cell_regrown (hA.c 2 (by omega)) ds os
      have rk2 := fun ds os => cell_regrown (hD.c 2 (by omega)) ds os
      have rj3 := fun ds os => cell_regrown (hA.c 3 (by omega)) ds os
      have rk3 := fun ds os => cell_regrown (hD.c 3 (by omega)) ds os
      gi_wp2
      refine wpIn_region_below_tailw 7 (by kernel_rfl) (by kernel_rfl) ?_
      simp only [List.take_succ_cons, List.take_zero, List.drop_succ_cons, List.drop_zero]
      repeat (go_big_quiet_step (first | (go_at_call 109; with_reducible first | exact Calls.regrown_of (cj _) | exact Calls.regrown_of (ck _))))
      refine wpQuiet_nil ?_
      intro w2 hw'
      obtain ⟨⟨dq, osq⟩, hw''⟩ := hw'
      have hb2 := below_of hw''
      clear hw'' rj0 rj1 rj2 rj3 rk0 rk1 rk2 rk3
      obtain ⟨fn, tmps, assign, body, hy, hR⟩ := hY (up2 J K L k) (bitB J m, bitB K m) w2 (hJ _ _ _ none hJs (gby hb2) (fun r e => by cases e)) hk3
      gi_wp2
      refine hR.mono ?_
      rintro e W3 (⟨rfl, hJ3, hb3⟩ | ⟨rfl, hJx3⟩)
      · have hA3 := hb3.1 _ (hA.below hb2 hA.lt)
        have hD3 := hb3.2 _ (hD.below hb2 hD.lt)
        gi_wp2
        go_roundw
        case rel => exact ⟨k + 1, by omega, by have := HK.out; go_num, by rw [HU.out]; exact hJ3, hA3, hD3⟩
        case measure => first | (simp [intOf]; done) | (simp [intOf]; omega)
      · gi_wp2
        refine bodyPost_ret (results_none rfl _ _ _) rfl ?_
        exact ⟨⟨_, rfl⟩, .inr ⟨_, hpre, hJx3⟩⟩
    · have e : k = L := by omega
      subst e
      gi_wp2
      go_end0
      exact ⟨⟨_, rfl⟩, .inl ⟨_, rfl, hJs⟩⟩
theorem pbits_seq (J K : Int) (L1 L2 L n Bj Bk : Nat) (hn : 1 ≤ n) (h1 : L1 ≤ 256) (h2 : L2 ≤ 256) (hL : L ≤ 256) (hmax : (if L1 < L2 then (L2 : Int) else (L1 : Int)) = (L : Int)) (w0 : World)
    (C1 : ∀ W, Calls Tryz.prog 108 #[nv J] W fun e w' => e = .returned (.int .i64 (L1 : Int)) ∧ Below W.heap.size W w')
    (C2 : ∀ W, Calls Tryz.prog 108 #[nv K] W fun e w' => e = .returned (.int .i64 (L2 : Int)) ∧ Below W.heap.size W w')
    (CJ : ∀ (k : Nat) W, k < 256 → Calls Tryz.prog 109 #[nv J, .int .i64 k] W fun e w' => e = .returned (bv (bitB J k)) ∧ Below W.heap.size W w')
    (CK : ∀ (k : Nat) W, k < 256 → Calls Tryz.prog 109 #[nv K, .int .i64 k] W fun e w' => e = .returned (bv (bitB K k)) ∧ Below W.heap.size W w')
    (hA : Arr w0 Bj 4 (fun j => .int .u64 (lim J j))) (hD : Arr w0 Bk 4 (fun j => .int .u64 (lim K j))) :
    SeqStopsK Fence.wide n Tryz.prog 107 #[.pointer (some ⟨Bj, 0, none⟩), .pointer (some ⟨Bk, 0, none⟩)] (fun b : Bool × Bool => #[bv b.1, bv b.2]) (KB2 Bj Bk) (fun ys => ys = up2 J K L L) (fun pre => pre <+: up2 J K L L) 257 w0 :=
  fun l Jv Jx W hW hJ _ hY h0 =>
    pbits1_in J K L1 L2 L n l Bj Bk hn Jv Jx h1 h2 hL hmax hJ C1 C2 CJ CK hY W (hA.below hW hA.lt) (hD.below hW hD.lt) h0
set_option maxHeartbeats 1000000 in
theorem pbits_any (J K : Int) (w : World) : Calls Tryz.prog 85 #[nv J, nv K] w fun e w' => e = .returned (.func (.func 107) #[] #[.pointer (some ⟨w.heap.size, 0, none⟩), .pointer (some ⟨w.heap.size + 1, 0, none⟩)]) ∧ w' = (w.alloc (.cells #[.int .u64 (lim (J) 0), .int .u64 (lim (J) 1), .int .u64 (lim (J) 2), .int .u64 (lim (J) 3)] 24)).alloc (.cells #[.int .u64 (lim (K) 0), .int .u64 (lim (K) 1), .int .u64 (lim (K) 2), .int .u64 (lim (K) 3)] 24) := by
  go_enter Tryz.func85, Tryz.ntmps85
  go_wp2
  go_ret
  exact ⟨rfl, rfl⟩
end Go.Proofs.YtoolbnbfbegjaaaGreat
set_option maxRecDepth 100000
namespace Go.Proofs.YtoolbnbfbegjaaaGreat
open Go.RowKit Go.Sort
attribute [local go_sem] eq24
set_option maxHeartbeats 4000000 in
theorem rconst_any (w : World) : Calls Tryz.prog 75 #[] w fun e w' => e = .returned (.agg #[.int .u64 4309448131093880907, .int .u64 7285987128567378166, .int .u64 12964664127075681980, .int .u64 6540974713487397863]) ∧ Below w.heap.size w w' := by
  go_enter Tryz.func75, Tryz.ntmps75
  obtain ⟨W0, hW0⟩ : ∃ W0, W0 = (w.alloc (.cells #[.int .u64 0, .int .u64 0, .int .u64 0, .int .u64 0] 24)) := ⟨_, rfl⟩
  have Ao : Arr W0 (w.heap.size) 4 (fun _ => .int .u64 0) := by subst hW0; refine Arr.mk4 ?_ ?_ ?_ ?_ ?_ ?_ ?_ ?_ <;> simp [go_sem]
  have hB : Below w.heap.size w W0 := by subst hW0; go_grown
  subst hW0
  have hS := hB.size
  have co := Ao.c
  have zo := Ao.z
  go_wp2_with fail
  refine bodyPost_ret (v := .agg #[.int .u64 4309448131093880907, .int .u64 7285987128567378166, .int .u64 12964664127075681980, .int .u64 6540974713487397863]) (by simp [results, Tryz.results75, go_sem, co]) rfl ⟨rfl, ?_⟩
  go_grown
set_option maxHeartbeats 4000000 in
theorem ron_n0 (X Y : Int) (hX : (lim X 0 == 0 && (lim X 1 == 0 && (lim X 2 == 0 && lim X 3 == 0))) = false) (w : World) : Calls Tryz.prog 42 #[pv X Y true] w fun e w' => e = .returned (.bool (false)) ∧ Below w.heap.size w w' := by
  go_enter Tryz.func42, Tryz.ntmps42
  obtain ⟨W0, hW0⟩ : ∃ W0, W0 = (w.alloc (.cells #[.int .u64 (lim (X) 0), .int .u64 (lim (X) 1), .int .u64 (lim (X) 2), .int .u64 (lim (X) 3), .int .u64 (lim (Y) 0), .int .u64 (lim (Y) 1), .int .u64 (lim (Y) 2), .int .u64 (lim (Y) 3), .bool true] 28)) := ⟨_, rfl⟩
  have Ap : Arr W0 (w.heap.size) 9 (px (X) (Y) true) := by subst hW0; refine Arr.mk9p ?_ ?_ ?_ ?_ ?_ ?_ ?_ ?_ ?_ ?_ <;> simp [go_sem, px, sx, zx]
  have hB : Below w.heap.size w W0 := by subst hW0; go_grown
  subst hW0
  obtain ⟨cp_0, cp_1, cp_2, cp_3, cp_4, cp_5, cp_6, cp_7, cp_8⟩ := Arr.c_px Ap
  go_wp2_with fail
  go_ret
  exact ⟨rfl, hB⟩
set_option maxHeartbeats 4000000 in
theorem ron_n1 (X Y : Int) (hX : (lim X 0 == 0 && (lim X 1 == 0 && (lim X 2 == 0 && lim X 3 == 0))) = true) (w : World) : Calls Tryz.prog 42 #[pv X Y true] w fun e w' => e = .returned (.bool (lim Y 0 == 0 && (lim Y 1 == 0 && (lim Y 2 == 0 && lim Y 3 == 0)))) ∧ Below w.heap.size w w' := by
  go_enter Tryz.func42, Tryz.ntmps42
  obtain ⟨W0, hW0⟩ : ∃ W0, W0 = (w.alloc (.cells #[.int .u64 (lim (X) 0), .int .u64 (lim (X) 1), .int .u64 (lim (X) 2), .int .u64 (lim (X) 3), .int .u64 (lim (Y) 0), .int .u64 (lim (Y) 1), .int .u64 (lim (Y) 2), .int .u64 (lim (Y) 3), .bool true] 28)) := ⟨_, rfl⟩
  have Ap : Arr W0 (w.heap.size) 9 (px (X) (Y) true) := by subst hW0; refine Arr.mk9p ?_ ?_ ?_ ?_ ?_ ?_ ?_ ?_ ?_ ?_ <;> simp [go_sem, px, sx, zx]
  have hB : Below w.heap.size w W0 := by subst hW0; go_grown
  subst hW0
  obtain ⟨cp_0, cp_1, cp_2, cp_3, cp_4, cp_5, cp_6, cp_7, cp_8⟩ := Arr.c_px Ap
  go_wp2_with fail
  go_ret
  exact ⟨rfl, hB⟩
set_option maxHeartbeats 8000000 in
theorem ron_x0 (X Y : Int) (w : World)
    (C1 : ∀ W, Calls Tryz.prog 71 #[] W fun e w' => e = .returned (nv pp) ∧ Below W.heap.size W w')
    (C2 : ∀ W, Calls Tryz.prog 21 #[nv X, nv pp] W fun e w' => e = .returned (.int .i64 0) ∧ Below W.heap.size W w') :
    Calls Tryz.prog 42 #[pv X Y false] w fun e w' => e = .returned (.bool false) ∧ Below w.heap.size w w' := by
  go_enter Tryz.func42, Tryz.ntmps42
  go_wp2_with fail
  obtain ⟨W0, hW0⟩ : ∃ W0, W0 = (w.alloc (.cells #[.int .u64 (lim (X) 0), .int .u64 (lim (X) 1), .int .u64 (lim (X) 2), .int .u64 (lim (X) 3), .int .u64 (lim (Y) 0), .int .u64 (lim (Y) 1), .int .u64 (lim (Y) 2), .int .u64 (lim (Y) 3), .bool false] 28)) := ⟨_, rfl⟩
  have Ap : Arr W0 (w.heap.size) 9 (px (X) (Y) false) := by subst hW0; refine Arr.mk9p ?_ ?_ ?_ ?_ ?_ ?_ ?_ ?_ ?_ ?_ <;> simp [go_sem, px, sx, zx]
  have hB : Below w.heap.size w W0 := by subst hW0; go_grown
  subst hW0
  obtain ⟨rp0, rp1, rp2, rp3, rp4, rp5, rp6, rp7, rp8⟩ := Arr.g_px Ap
  refine wp_region_quiet_below (by kernel_rfl) (by kernel_rfl) ?_
  repeat (go_big_quiet_step (first | (go_at_call 71; with_reducible first | exact Calls.regrown_of (C1 _)) | (go_at_call 21; with_reducible first | exact Calls.regrown_of (C2 _))))
  refine wpQuiet_nil ?_
  intro w1 hw'
  obtain ⟨⟨dq, osq⟩, hw''⟩ := hw'
  have hb := below_of hw''
  clear hw''
  replace hB := Bel.call hB hb
  clear hb rp0 rp1 rp2 rp3 rp4 rp5 rp6 rp7 rp8 Ap
  go_wp2_with fail
  go_ret
  exact ⟨rfl, hB⟩
set_option maxHeartbeats 8000000 in
theorem ron_y0 (X Y : Int) (w : World)
    (C1 : ∀ W, Calls Tryz.prog 71 #[] W fun e w' => e = .returned (nv pp) ∧ Below W.heap.size W w')
    (C2 : ∀ W, Calls Tryz.prog 21 #[nv X, nv pp] W fun e w' => e = .returned (.int .i64 (-1)) ∧ Below W.heap.size W w')
    (C3 : ∀ W, Calls Tryz.prog 21 #[nv Y, nv pp] W fun e w' => e = .returned (.int .i64 0) ∧ Below W.heap.size W w') :
    Calls Tryz.prog 42 #[pv X Y false] w fun e w' => e = .returned (.bool false) ∧ Below w.heap.size w w' := by
  go_enter Tryz.func42, Tryz.ntmps42
  go_wp2_with fail
  obtain ⟨W0, hW0⟩ : ∃ W0, W0 = (w.alloc (.cells #[.int .u64 (lim (X) 0), .int .u64 (lim (X) 1), .int .u64 (lim (X) 2), .int .u64 (lim (X) 3), .int .u64 (lim (Y) 0), .int .u64 (lim (Y) 1), .int .u64 (lim (Y) 2), .int .u64 (lim (Y) 3), .bool false] 28)) := ⟨_, rfl⟩
  have Ap : Arr W0 (w.heap.size) 9 (px (X) (Y) false) := by subst hW0; refine Arr.mk9p ?_ ?_ ?_ ?_ ?_ ?_ ?_ ?_ ?_ ?_ <;> simp [go_sem, px, sx, zx]
  have hB : Below w.heap.size w W0 := by subst hW0; go_grown
  subst hW0
  obtain ⟨rp0, rp1, rp2, rp3, rp4, rp5, rp6, rp7, rp8⟩ := Arr.g_px Ap
  refine wp_region_quiet_below (by kernel_rfl) (by kernel_rfl) ?_
  repeat (go_big_quiet_step (first | (go_at_call 71; with_reducible first | exact Calls.regrown_of (C1 _)) | (go_at_call 21; with_reducible first | exact Calls.regrown_of (C2 _) | exact Calls.regrown_of (C3 _))))
  refine wpQuiet_nil ?_
  intro w1 hw'
  obtain ⟨⟨dq, osq⟩, hw''⟩ := hw'
  have hb := below_of hw''
  clear hw''
  replace hB := Bel.call hB hb
  clear hb rp0 rp1 rp2 rp3 rp4 rp5 rp6 rp7 rp8 Ap
  go_wp2_with fail
  go_ret
  exact ⟨rfl, hB⟩
set_option maxHeartbeats 8000000 in
theorem ron_x1 (X Y : Int) (w : World)
    (C1 : ∀ W, Calls Tryz.prog 71 #[] W fun e w' => e = .returned (nv pp) ∧ Below W.heap.size W w')
    (C2 : ∀ W, Calls Tryz.prog 21 #[nv X, nv pp] W fun e w' => e = .returned (.int .i64 1) ∧ Below W.heap.size W w') :
    Calls Tryz.prog 42 #[pv X Y false] w fun e w' => e = .returned (.bool false) ∧ Below w.heap.size w w' := by
  go_enter Tryz.func42, Tryz.ntmps42
  go_wp2_with fail
  obtain ⟨W0, hW0⟩ : ∃ W0, W0 = (w.alloc (.cells #[.int .u64 (lim (X) 0), .int .u64 (lim (X) 1), .int .u64 (lim (X) 2), .int .u64 (lim (X) 3), .int .u64 (lim (Y) 0), .int .u64 (lim (Y) 1), .int .u64 (lim (Y) 2), .int .u64 (lim (Y) 3), .bool false] 28)) := ⟨_, rfl⟩
  have Ap : Arr W0 (w.heap.size) 9 (px (X) (Y) false) := by subst hW0; refine Arr.mk9p ?_ ?_ ?_ ?_ ?_ ?_ ?_ ?_ ?_ ?_ <;> simp [go_sem, px, sx, zx]
  have hB : Below w.heap.size w W0 := by subst hW0; go_grown
  subst hW0
  obtain ⟨rp0, rp1, rp2, rp3, rp4, rp5, rp6, rp7, rp8⟩ := Arr.g_px Ap
  refine wp_region_quiet_below (by kernel_rfl) (by kernel_rfl) ?_
  repeat (go_big_quiet_step (first | (go_at_call 71; with_reducible first | exact Calls.regrown_of (C1 _)) | (go_at_call 21; with_reducible first | exact Calls.regrown_of (C2 _))))
  refine wpQuiet_nil ?_
  intro w1 hw'
  obtain ⟨⟨dq, osq⟩, hw''⟩ := hw'
  have hb := below_of hw''
  clear hw''
  replace hB := Bel.call hB hb
  clear hb rp0 rp1 rp2 rp3 rp4 rp5 rp6 rp7 rp8 Ap
  go_wp2_with fail
  go_ret
  exact ⟨rfl, hB⟩
set_option maxHeartbeats 8000000 in
theorem ron_y1 (X Y : Int) (w : World)
    (C1 : ∀ W, Calls Tryz.prog 71 #[] W fun e w' => e = .returned (nv pp) ∧ Below W.heap.size W w')
    (C2 : ∀ W, Calls Tryz.prog 21 #[nv X, nv pp] W fun e w' => e = .returned (.int .i64 (-1)) ∧ Below W.heap.size W w')
    (C3 : ∀ W, Calls Tryz.prog 21 #[nv Y, nv pp] W fun e w' => e = .returned (.int .i64 1) ∧ Below W.heap.size W w') :
    Calls Tryz.prog 42 #[pv X Y false] w fun e w' => e = .returned (.bool false) ∧ Below w.heap.size w w' := by
  go_enter Tryz.func42, Tryz.ntmps42
  go_wp2_with fail
  obtain ⟨W0, hW0⟩ : ∃ W0, W0 = (w.alloc (.cells #[.int .u64 (lim (X) 0), .int .u64 (lim (X) 1), .int .u64 (lim (X) 2), .int .u64 (lim (X) 3), .int .u64 (lim (Y) 0), .int .u64 (lim (Y) 1), .int .u64 (lim (Y) 2), .int .u64 (lim (Y) 3), .bool false] 28)) := ⟨_, rfl⟩
  have Ap : Arr W0 (w.heap.size) 9 (px (X) (Y) false) := by subst hW0; refine Arr.mk9p ?_ ?_ ?_ ?_ ?_ ?_ ?_ ?_ ?_ ?_ <;> simp [go_sem, px, sx, zx]
  have hB : Below w.heap.size w W0 := by subst hW0; go_grown
  subst hW0
  obtain ⟨rp0, rp1, rp2, rp3, rp4, rp5, rp6, rp7, rp8⟩ := Arr.g_px Ap
  refine wp_region_quiet_below (by kernel_rfl) (by kernel_rfl) ?_
  repeat (go_big_quiet_step (first | (go_at_call 71; with_reducible first | exact Calls.regrown_of (C1 _)) | (go_at_call 21; with_reducible first | exact Calls.regrown_of (C2 _) | exact Calls.regrown_of (C3 _))))
  refine wpQuiet_nil ?_
  intro w1 hw'
  obtain ⟨⟨dq, osq⟩, hw''⟩ := hw'
  have hb := below_of hw''
  clear hw''
  replace hB := Bel.call hB hb
  clear hb rp0 rp1 rp2 rp3 rp4 rp5 rp6 rp7 rp8 Ap
  go_wp2_with fail
  go_ret
  exact ⟨rfl, hB⟩
set_option maxHeartbeats 8000000 in
theorem ron_core (X Y a1 a2 a3 h s : Int) (w : World)
    (C1 : ∀ W, Calls Tryz.prog 71 #[] W fun e w' => e = .returned (nv pp) ∧ Below W.heap.size W w')
    (C2 : ∀ W, Calls Tryz.prog 21 #[nv X, nv pp] W fun e w' => e = .returned (.int .i64 (-1)) ∧ Below W.heap.size W w')
    (C3 : ∀ W, Calls Tryz.prog 21 #[nv Y, nv pp] W fun e w' => e = .returned (.int .i64 (-1)) ∧ Below W.heap.size W w')
    (C4 : ∀ W, Calls Tryz.prog 73 #[nv X, nv X] W fun e w' => e = .returned (nv a1) ∧ Below W.heap.size W w')
    (C5 : ∀ W, Calls Tryz.prog 74 #[nv a1, .agg #[.int .u64 3, .int .u64 0, .int .u64 0, .int .u64 0]] W fun e w' => e = .returned (nv a2) ∧ Below W.heap.size W w')
    (C6 : ∀ W, Calls Tryz.prog 73 #[nv X, nv a2] W fun e w' => e = .returned (nv a3) ∧ Below W.heap.size W w')
    (C7 : ∀ W, Calls Tryz.prog 75 #[] W fun e w' => e = .returned (.agg #[.int .u64 4309448131093880907, .int .u64 7285987128567378166, .int .u64 12964664127075681980, .int .u64 6540974713487397863]) ∧ Below W.heap.size W w')
    (C8 : ∀ W, Calls Tryz.prog 72 #[nv a3, .agg #[.int .u64 4309448131093880907, .int .u64 7285987128567378166, .int .u64 12964664127075681980, .int .u64 6540974713487397863]] W fun e w' => e = .returned (nv h) ∧ Below W.heap.size W w')
    (C9 : ∀ W, Calls Tryz.prog 73 #[nv Y, nv Y] W fun e w' => e = .returned (nv s) ∧ Below W.heap.size W w') :
    Calls Tryz.prog 42 #[pv X Y false] w fun e w' => e = .returned (.bool (lim s 0 == lim h 0 && (lim s 1 == lim h 1 && (lim s 2 == lim h 2 && lim s 3 == lim h 3)))) ∧ Below w.heap.size w w' := by
  go_enter Tryz.func42, Tryz.ntmps42
  go_wp2_with fail
  obtain ⟨W0, hW0⟩ : ∃ W0, W0 = (w.alloc (.cells #[.int .u64 (lim (X) 0), .int .u64 (lim (X) 1), .int .u64 (lim (X) 2), .int .u64 (lim (X) 3), .int .u64 (lim (Y) 0), .int .u64 (lim (Y) 1), .int .u64 (lim (Y) 2), .int .u64 (lim (Y) 3), .bool false] 28)) := ⟨_, rfl⟩
  have Ap : Arr W0 (w.heap.size) 9 (px (X) (Y) false) := by subst hW0; refine Arr.mk9p ?_ ?_ ?_ ?_ ?_ ?_ ?_ ?_ ?_ ?_ <;> simp [go_sem, px, sx, zx]
  have hB : Below w.heap.size w W0 := by subst hW0; go_grown
  subst hW0
  obtain ⟨rp0, rp1, rp2, rp3, rp4, rp5, rp6, rp7, rp8⟩ := Arr.g_px Ap
  refine wp_region_quiet_below (by kernel_rfl) (by kernel_rfl) ?_
  repeat (go_big_quiet_step (first | (go_at_call 71; with_reducible first | exact Calls.regrown_of (C1 _)) | (go_at_call 21; with_reducible first | exact Calls.regrown_of (C2 _) | exact Calls.regrown_of (C3 _)) | (go_at_call 73; with_reducible first | exact Calls.regrown_of (C4 _) | exact Calls.regrown_of (C6 _) | exact Calls.regrown_of (C9 _)) | (go_at_call 74; with_reducible first | exact Calls.regrown_of (C5 _)) | (go_at_call 75; with_reducible first | exact Calls.regrown_of (C7 _)) | (go_at_call 72; with_reducible first | exact Calls.regrown_of (C8 _))))
  refine wpQuiet_nil ?_
  intro w1 hw'
  obtain ⟨⟨dq, osq⟩, hw''⟩ := hw'
  have hb := below_of hw''
  clear hw''
  replace Ap := Arr.to' Ap hb
  replace hB := Bel.call hB hb
  clear hb rp0 rp1 rp2 rp3 rp4 rp5 rp6 rp7 rp8
  go_wp2_with fail
  apply wp_region_alloc_tail 12 (by kernel_rfl) (by kernel_rfl) (by kernel_rfl) (.cells #[.int .u64 0, .int .u64 0, .int .u64 0, .int .u64 0] 24) _ rfl (fun _ _ => by simp [go_sem])
  · intro W hW
    obtain ⟨rp0, rp1, rp2, rp3, rp4, rp5, rp6, rp7, rp8⟩ := Arr.g_px (Arr.to' Ap hW)
    simp only [List.take_succ_cons, List.take_zero]
    repeat (go_big_quiet_step (first | (go_at_call 71; with_reducible first | exact Calls.regrown_of (C1 _)) | (go_at_call 21; with_reducible first | exact Calls.regrown_of (C2 _) | exact Calls.regrown_of (C3 _)) | (go_at_call 73; with_reducible first | exact Calls.regrown_of (C4 _) | exact Calls.regrown_of (C6 _) | exact Calls.regrown_of (C9 _)) | (go_at_call 74; with_reducible first | exact Calls.regrown_of (C5 _)) | (go_at_call 75; with_reducible first | exact Calls.regrown_of (C7 _)) | (go_at_call 72; with_reducible first | exact Calls.regrown_of (C8 _))))
    exact wpQuiet_nil rfl
  intro v2 w12 hb1 hb2
  simp only [List.drop_succ_cons, List.drop_zero, Act.put, List.setIfInBounds_toArray, List.set_cons_succ, List.set_cons_zero]
  have Ep := Arr.to' Ap hb1
  have lp_v2 := Ep.lt
  have Bp := Arr.to' (Arr.al' Ep _) hb2
  have Bx := (Arr.mk4 (w := (v2.alloc (.cells #[.int .u64 0, .int .u64 0, .int .u64 0, .int .u64 0] 24))) (f := fun _ => .int .u64 0) (b := v2.heap.size) (by simp [go_sem]) (by simp [go_sem]) (by simp [go_sem]) (by simp [go_sem]) (by simp [go_sem]) (by simp [go_sem]) (by simp [go_sem]) (by simp [go_sem])).below hb2 (by go_size)
  have lB_v2 := (Bel.call hB hb1).size
  have hB' := Bel.call (Bel.al (Bel.call hB hb1) _) hb2
  clear hb1 hb2 Ep Ap hB
  have Ap := Bp
  have Ax := Bx
  have hB := hB'
  clear Bp Bx hB'
  have cx := Ax.c
  have zx := Ax.z
  have Bp := Arr.st4o (b' := v2.heap.size) Ap (by have := Ap.lt; have := Ax.lt; omega) (h)
  have Bx := Arr.st4 Ax (h)
  have hB' := Bel.st4 hB (b := v2.heap.size) (by have := hB.size; omega) (h)
  clear Ap Ax hB
  have Ap := Bp
  have Ax := Bx
  have hB := hB'
  clear Bp Bx hB'
  obtain ⟨rp0, rp1, rp2, rp3, rp4, rp5, rp6, rp7, rp8⟩ := Arr.g_px Ap
  obtain ⟨rx0, rx1, rx2, rx3⟩ := Arr.g4 Ax
  go_wp2_with fail
  refine wp_region_quiet_below (by kernel_rfl) (by kernel_rfl) ?_
  repeat (go_big_quiet_step (first | (go_at_call 71; with_reducible first | exact Calls.regrown_of (C1 _)) | (go_at_call 21; with_reducible first | exact Calls.regrown_of (C2 _) | exact Calls.regrown_of (C3 _)) | (go_at_call 73; with_reducible first | exact Calls.regrown_of (C4 _) | exact Calls.regrown_of (C6 _) | exact Calls.regrown_of (C9 _)) | (go_at_call 74; with_reducible first | exact Calls.regrown_of (C5 _)) | (go_at_call 75; with_reducible first | exact Calls.regrown_of (C7 _)) | (go_at_call 72; with_reducible first | exact Calls.regrown_of (C8 _))))
  refine wpQuiet_nil ?_
  intro w3 hw'
  obtain ⟨⟨dq, osq⟩, hw''⟩ := hw'
  have hb := below_of hw''
  clear hw''
  replace hB := Bel.call hB hb
  clear hb cx zx rp0 rp1 rp2 rp3 rp4 rp5 rp6 rp7 rp8 rx0 rx1 rx2 rx3 Ap Ax
  go_wp2_with fail
  go_ret
  exact ⟨rfl, hB⟩
end Go.Proofs.YtoolbnbfbegjaaaGreat
