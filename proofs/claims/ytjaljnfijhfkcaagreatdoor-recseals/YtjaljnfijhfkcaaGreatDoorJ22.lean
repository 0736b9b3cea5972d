/- The reference: Protect. -/
import Derived.Test.YtjaljnfijhfkcaaGreatDoorJ21
set_option linter.all false
set_option maxRecDepth 100000
namespace Go.Proofs.YtjaljnfijhfkcaaGreatDoor
open Go.RowKit Go.Sort Lin
/-- A row of bytes 0 that has been made. -/
def zrV (p : Nat) (v : Value) (w : World) : Prop := ∃ g, v = .slice (some ⟨g, 0, none⟩) p p ∧ g < w.heap.size ∧ ∀ j, j < p → w.cell? ⟨g, j, none⟩ = some (.int .u8 0)
theorem zrV.st {p : Nat} {v : Value} {w w' : World} (h : zrV p v w) (hb : Below w.heap.size w w') : zrV p v w' := by
  obtain ⟨g, h1, h2, h3⟩ := h
  exact ⟨g, h1, Nat.lt_of_lt_of_le h2 hb.size, fun j hj => (hb.cell (p := ⟨g, j, none⟩) h2).trans (h3 j hj)⟩
theorem zrV.conv {p : Nat} {v : Value} {w : World} (h : zrV p v w) : (convert 50 9 v).run Tryz.prog w = .ok (.string (zS p)) w := by
  obtain ⟨g, rfl, _, h3⟩ := h
  refine convC w g p p (List.replicate p 0) (by simp) (fun j u hu => ?_)
  have hj : j < p := by have := (List.getElem?_eq_some_iff.1 hu).1; simpa using this
  rw [Addr.add_mid, Nat.zero_add, h3 j hj, ← hu]
  simp [hj]
theorem zrV.mk (p : Nat) (hp : p ≤ 100000) (w : World) : ∃ w' v, (Instr.makeSlice 50 (.int .i64 (p : Int)) (.int .i64 (p : Int))).run Tryz.prog w = .ok v w' ∧ Below w.heap.size w w' ∧ zrV p v w' := by
  obtain ⟨i0, hi, hi2⟩ := Option.map_eq_some_iff.1 Tryz.info5
  have z0 : i0.zero = some (.int .u8 0) := by injection hi2
  have z1 : i0.size = 1 := by injection hi2 with _ h; injection h
  have z2 : i0.bytes = 1 := by injection hi2 with _ h; injection h
  have mk := run_make (P := Tryz.prog) w 50 5 i0 (.int .u8 0) Tryz.underlying50 hi z0 .i64 .i64 p p (by omega) (by omega) (by rw [z2]; omega) (by omega)
  rw [Int.toNat_natCast, z1, Nat.mul_one] at mk
  refine ⟨_, _, mk, (Below.refl _ w).alloc (Nat.le_refl _) _, w.heap.size, rfl, by simp, fun j hj => ?_⟩
  rw [World.cell?_alloc_at (w := w) _ 5 _ j rfl]
  simp [madeCells, Value.cells, hj, Nat.mod_one]
def rpV (rb : Nat) (b S1 Y Z X : ByteArray) (k : Int) (p : Nat) : Nat → Value → World → Prop
  | 0, v, _ => v = .pointer (some ⟨rb, 1, none⟩)
  | 1, v, _ => v = .string b
  | 2, v, _ => v = .pointer (some ⟨rb, 0, none⟩)
  | 3, v, _ => v = .int .i64 k
  | 4, v, _ => v = .int .u8 (k % 256)
  | 5, v, w => rowV k v w
  | 6, v, _ => v = .string S1
  | 7, v, _ => v = .string Y
  | 8, v, _ => v = .int .i64 (p : Int)
  | 9, v, w => zrV p v w
  | 10, v, _ => v = .string Z
  | _, v, _ => v = .string X
theorem rpV.st (rb : Nat) (b S1 Y Z X : ByteArray) (k : Int) (p : Nat) (i : Nat) (v : Value) (w w' : World) (h : rpV rb b S1 Y Z X k p i v w) (hb : Below w.heap.size w w') : rpV rb b S1 Y Z X k p i v w' := by
  match i, h with
  | 0, h | 1, h | 2, h | 3, h | 4, h | 6, h | 7, h | 8, h | 10, h | 11, h => exact h
  | 5, h => exact rowV.st h hb
  | 9, h => exact zrV.st h hb
  | n + 12, h => exact h
set_option maxHeartbeats 2000000 in
theorem rProtect_1 (key iv b : ByteArray) (k q p : Int) (w : World)
    (C1 : ∀ W, Calls Tryz.prog 22 #[.int .i64 k] W fun e w' => e = .returned (.bool false) ∧ w' = W) :
    Calls Tryz.prog 11 #[sdV key iv q, rcV k b, .int .i64 p] w fun e w' => e = .returned (.tuple #[sdV key iv q, .string ⟨#[]⟩, .int .i64 23]) ∧ Below w.heap.size w w' := by
  unfold sdV rcV at *
  go_enter Tryz.func11, Tryz.ntmps11
  go_wp2_with (go_at_call 22; refine (C1 _).mono ?_; rintro e w1 ⟨rfl, rfl⟩)
  refine bodyPost_ret (v := .tuple #[sdV key iv q, .string ⟨#[]⟩, .int .i64 23]) (by simp [sdV, results, Tryz.results11, go_sem]) rfl ⟨rfl, by go_grown⟩
set_option maxHeartbeats 2000000 in
theorem rProtect_2 (key iv b : ByteArray) (k q p : Int) (hb : 16384 < b.size) (w : World)
    (C1 : ∀ W, Calls Tryz.prog 22 #[.int .i64 k] W fun e w' => e = .returned (.bool true) ∧ w' = W) :
    Calls Tryz.prog 11 #[sdV key iv q, rcV k b, .int .i64 p] w fun e w' => e = .returned (.tuple #[sdV key iv q, .string ⟨#[]⟩, .int .i64 12]) ∧ Below w.heap.size w w' := by
  unfold sdV rcV at *
  have i2 : (16384 : Int) < (b.size : Int) := by omega
  go_enter Tryz.func11, Tryz.ntmps11
  go_wp2_with (go_at_call 22; refine (C1 _).mono ?_; rintro e w1 ⟨rfl, rfl⟩)
  refine bodyPost_ret (v := .tuple #[sdV key iv q, .string ⟨#[]⟩, .int .i64 12]) (by simp [sdV, results, Tryz.results11, go_sem]) rfl ⟨rfl, by go_grown⟩
set_option maxHeartbeats 2000000 in
theorem rProtect_3 (key iv b : ByteArray) (k q p : Int) (hb : ¬ 16384 < b.size) (hp : p < 0 ∨ 16384 - (b.size : Int) < p) (w : World)
    (C1 : ∀ W, Calls Tryz.prog 22 #[.int .i64 k] W fun e w' => e = .returned (.bool true) ∧ w' = W) :
    Calls Tryz.prog 11 #[sdV key iv q, rcV k b, .int .i64 p] w fun e w' => e = .returned (.tuple #[sdV key iv q, .string ⟨#[]⟩, .int .i64 13]) ∧ Below w.heap.size w w' := by
  unfold sdV rcV at *
  have i2 : ¬ (16384 : Int) < (b.size : Int) := by omega
  have i3 : (b.size : Int) ≤ 16384 := by omega
  by_cases h3 : p < 0
  · clear hp
    go_enter Tryz.func11, Tryz.ntmps11
    go_wp2_with (go_at_call 22; refine (C1 _).mono ?_; rintro e w1 ⟨rfl, rfl⟩)
    refine bodyPost_ret (v := .tuple #[sdV key iv q, .string ⟨#[]⟩, .int .i64 13]) (by simp [sdV, results, Tryz.results11, go_sem]) rfl ⟨rfl, by go_grown⟩
  · have h4 : 16384 - (b.size : Int) < p := by omega
    have h5 : 0 ≤ p := by omega
    clear hp
    go_enter Tryz.func11, Tryz.ntmps11
    go_wp2_with (go_at_call 22; refine (C1 _).mono ?_; rintro e w1 ⟨rfl, rfl⟩)
    refine bodyPost_ret (v := .tuple #[sdV key iv q, .string ⟨#[]⟩, .int .i64 13]) (by simp [sdV, results, Tryz.results11, go_sem]) rfl ⟨rfl, by go_grown⟩
set_option maxHeartbeats 2000000 in
theorem rProtect_4 (key iv b N : ByteArray) (k q p r : Int) (hr : ¬ r = 0) (hb : ¬ 16384 < b.size) (hp : 0 ≤ p ∧ p ≤ 16384 - (b.size : Int)) (w : World)
    (C1 : ∀ W, Calls Tryz.prog 22 #[.int .i64 k] W fun e w' => e = .returned (.bool true) ∧ w' = W)
    (C2 : ∀ W, Calls Tryz.prog 9 #[sdV key iv q] W fun e w' => e = .returned (.tuple #[.string N, .int .i64 r]) ∧ Below W.heap.size W w') :
    Calls Tryz.prog 11 #[sdV key iv q, rcV k b, .int .i64 p] w fun e w' => e = .returned (.tuple #[sdV key iv q, .string ⟨#[]⟩, .int .i64 r]) ∧ Below w.heap.size w w' := by
  unfold sdV rcV at *
  have i2 : ¬ (16384 : Int) < (b.size : Int) := by omega
  have i3 : (b.size : Int) ≤ 16384 := by omega
  have h5 : 0 ≤ p := by omega
  have h6 : ¬ p < 0 := by omega
  have h7 : p ≤ 16384 - (b.size : Int) := by omega
  have h8 : ¬ 16384 - (b.size : Int) < p := by omega
  clear hp hb
  have A0 : Arr (((w.alloc (.cells #[.string key, .string iv, .int .u64 q] 24)).alloc (.cells #[.int .i64 k, .string b] 26)).alloc (.cells #[.string ⟨#[]⟩, .string ⟨#[]⟩, .int .u64 0] 24)) w.heap.size 3 (sd3 key iv q) := (Arr.al' (n := 2) (Arr.al' (n := 2) (Arr.new w _ 24 _ rfl _ 3 (sd3_at key iv q)) _) _)
  have A1 : Arr (((w.alloc (.cells #[.string key, .string iv, .int .u64 q] 24)).alloc (.cells #[.int .i64 k, .string b] 26)).alloc (.cells #[.string ⟨#[]⟩, .string ⟨#[]⟩, .int .u64 0] 24)) (w.heap.size + 1) 2 (rc2 k b) := (Arr.al' (n := 1) (Arr.new (w.alloc (.cells #[.string key, .string iv, .int .u64 q] 24)) _ 26 (w.heap.size + 1) (by simp) _ 2 (rc2_at k b)) _)
  have A2 : Arr (((w.alloc (.cells #[.string key, .string iv, .int .u64 q] 24)).alloc (.cells #[.int .i64 k, .string b] 26)).alloc (.cells #[.string ⟨#[]⟩, .string ⟨#[]⟩, .int .u64 0] 24)) (w.heap.size + 1 + 1) 3 (sd3 ⟨#[]⟩ ⟨#[]⟩ 0) := Arr.new ((w.alloc (.cells #[.string key, .string iv, .int .u64 q] 24)).alloc (.cells #[.int .i64 k, .string b] 26)) _ 24 (w.heap.size + 1 + 1) (by simp) _ 3 (sd3_at ⟨#[]⟩ ⟨#[]⟩ 0)
  have B0 : Below w.heap.size w (((w.alloc (.cells #[.string key, .string iv, .int .u64 q] 24)).alloc (.cells #[.int .i64 k, .string b] 26)).alloc (.cells #[.string ⟨#[]⟩, .string ⟨#[]⟩, .int .u64 0] 24)) := by go_grown
  go_enter Tryz.func11, Tryz.ntmps11
  go_wp2_with (go_at_call 22; refine (C1 _).mono ?_; rintro e w1 ⟨rfl, rfl⟩)
  refine (C2 _).mono ?_
  rintro e w1 ⟨rfl, b1⟩
  replace A0 : Arr _ _ 3 _ := A0.to' (n := 2) b1
  replace A1 : Arr _ _ 2 _ := A1.to' (n := 1) b1
  replace A2 : Arr _ _ 3 _ := A2.to' (n := 2) b1
  replace B0 := Bel.call B0 b1
  clear b1 C1 C2
  obtain ⟨e0, e1, e2⟩ := A0.sd
  have m0 := A1.cv 0 (by omega) (.int .i64 k) rfl
  have m1 := A1.cv 1 (by omega) (.string b) rfl
  have c20 := A2.c 0 (by omega)
  have c21 := A2.c 1 (by omega)
  have c22 := A2.c 2 (by omega)
  have z20 := A2.z 0 (by omega)
  have z21 := A2.z 1 (by omega)
  have z22 := A2.z 2 (by omega)
  go_wp2_with fail
  have G2 := A2.ssd key iv q
  have E := Bel.ssd B0 (b := w.heap.size + 1 + 1) (by omega) key iv q
  clear c20 c21 c22 z20 z21 z22
  obtain ⟨g0, g1, g2⟩ := G2.sd
  unfold ssd at g0 g1 g2 E
  refine bodyPost_ret (v := .tuple #[sdV key iv q, .string ⟨#[]⟩, .int .i64 r]) ?_ rfl ⟨rfl, E⟩
  simp [sdV, results, Tryz.results11, go_sem, g0, g1, g2]
set_option maxHeartbeats 2000000 in
theorem rProtect_5 (key iv b N : ByteArray) (k q p : Int) (hq : q = 18446744073709551615) (hb : ¬ 16384 < b.size) (hp : 0 ≤ p ∧ p ≤ 16384 - (b.size : Int)) (w : World)
    (C1 : ∀ W, Calls Tryz.prog 22 #[.int .i64 k] W fun e w' => e = .returned (.bool true) ∧ w' = W)
    (C2 : ∀ W, Calls Tryz.prog 9 #[sdV key iv q] W fun e w' => e = .returned (.tuple #[.string N, .int .i64 0]) ∧ Below W.heap.size W w') :
    Calls Tryz.prog 11 #[sdV key iv q, rcV k b, .int .i64 p] w fun e w' => e = .returned (.tuple #[sdV key iv q, .string ⟨#[]⟩, .int .i64 18]) ∧ Below w.heap.size w w' := by
  subst hq
  unfold sdV rcV at *
  have i2 : ¬ (16384 : Int) < (b.size : Int) := by omega
  have i3 : (b.size : Int) ≤ 16384 := by omega
  have h5 : 0 ≤ p := by omega
  have h6 : ¬ p < 0 := by omega
  have h7 : p ≤ 16384 - (b.size : Int) := by omega
  have h8 : ¬ 16384 - (b.size : Int) < p := by omega
  clear hp hb
  have A0 : Arr (((w.alloc (.cells #[.string key, .string iv, .int .u64 18446744073709551615] 24)).alloc (.cells #[.int .i64 k, .string b] 26)).alloc (.cells #[.string ⟨#[]⟩, .string ⟨#[]⟩, .int .u64 0] 24)) w.heap.size 3 (sd3 key iv 18446744073709551615) := (Arr.al' (n := 2) (Arr.al' (n := 2) (Arr.new w _ 24 _ rfl _ 3 (sd3_at key iv 18446744073709551615)) _) _)
  have A1 : Arr (((w.alloc (.cells #[.string key, .string iv, .int .u64 18446744073709551615] 24)).alloc (.cells #[.int .i64 k, .string b] 26)).alloc (.cells #[.string ⟨#[]⟩, .string ⟨#[]⟩, .int .u64 0] 24)) (w.heap.size + 1) 2 (rc2 k b) := (Arr.al' (n := 1) (Arr.new (w.alloc (.cells #[.string key, .string iv, .int .u64 18446744073709551615] 24)) _ 26 (w.heap.size + 1) (by simp) _ 2 (rc2_at k b)) _)
  have A2 : Arr (((w.alloc (.cells #[.string key, .string iv, .int .u64 18446744073709551615] 24)).alloc (.cells #[.int .i64 k, .string b] 26)).alloc (.cells #[.string ⟨#[]⟩, .string ⟨#[]⟩, .int .u64 0] 24)) (w.heap.size + 1 + 1) 3 (sd3 ⟨#[]⟩ ⟨#[]⟩ 0) := Arr.new ((w.alloc (.cells #[.string key, .string iv, .int .u64 18446744073709551615] 24)).alloc (.cells #[.int .i64 k, .string b] 26)) _ 24 (w.heap.size + 1 + 1) (by simp) _ 3 (sd3_at ⟨#[]⟩ ⟨#[]⟩ 0)
  have B0 : Below w.heap.size w (((w.alloc (.cells #[.string key, .string iv, .int .u64 18446744073709551615] 24)).alloc (.cells #[.int .i64 k, .string b] 26)).alloc (.cells #[.string ⟨#[]⟩, .string ⟨#[]⟩, .int .u64 0] 24)) := by go_grown
  go_enter Tryz.func11, Tryz.ntmps11
  go_wp2_with (go_at_call 22; refine (C1 _).mono ?_; rintro e w1 ⟨rfl, rfl⟩)
  refine (C2 _).mono ?_
  rintro e w1 ⟨rfl, b1⟩
  replace A0 : Arr _ _ 3 _ := A0.to' (n := 2) b1
  replace A1 : Arr _ _ 2 _ := A1.to' (n := 1) b1
  replace A2 : Arr _ _ 3 _ := A2.to' (n := 2) b1
  replace B0 := Bel.call B0 b1
  clear b1 C1 C2
  obtain ⟨e0, e1, e2⟩ := A0.sd
  have m0 := A1.cv 0 (by omega) (.int .i64 k) rfl
  have m1 := A1.cv 1 (by omega) (.string b) rfl
  have c20 := A2.c 0 (by omega)
  have c21 := A2.c 1 (by omega)
  have c22 := A2.c 2 (by omega)
  have z20 := A2.z 0 (by omega)
  have z21 := A2.z 1 (by omega)
  have z22 := A2.z 2 (by omega)
  go_wp2_with fail
  have G2 := A2.ssd key iv 18446744073709551615
  have E := Bel.ssd B0 (b := w.heap.size + 1 + 1) (by omega) key iv 18446744073709551615
  clear c20 c21 c22 z20 z21 z22
  obtain ⟨g0, g1, g2⟩ := G2.sd
  unfold ssd at g0 g1 g2 E
  refine bodyPost_ret (v := .tuple #[sdV key iv 18446744073709551615, .string ⟨#[]⟩, .int .i64 18]) ?_ rfl ⟨rfl, E⟩
  simp [sdV, results, Tryz.results11, go_sem, g0, g1, g2]
set_option maxHeartbeats 4000000 in
theorem rProtect_6 (key iv b N S1 Y Z X H S : ByteArray) (k q r : Int) (p : Nat) (hb : ¬ 16384 < b.size) (hp : (p : Int) ≤ 16384 - (b.size : Int)) (q0 : 0 ≤ q) (q1 : q < 18446744073709551615) (hS1 : mkS [k % 256] = S1) (hY : b ++ S1 = Y) (hZ : zS p = Z) (hX : Y ++ Z = X) (hH : H.size = 5) (hS : S.size ≤ 100000) (w : World)
    (C1 : ∀ W, Calls Tryz.prog 22 #[.int .i64 k] W fun e w' => e = .returned (.bool true) ∧ w' = W)
    (C2 : ∀ W, Calls Tryz.prog 9 #[sdV key iv q] W fun e w' => e = .returned (.tuple #[.string N, .int .i64 0]) ∧ Below W.heap.size W w')
    (C3 : ∀ W, Calls Tryz.prog 23 #[.int .i64 23, .int .i64 ((X.size : Int) + 16)] W fun e w' => e = .returned (.string H) ∧ Below W.heap.size W w')
    (C4 : ∀ W, Calls Tryz.prog 24 #[.string key, .string N, .string H, .string X] W fun e w' => e = .returned (.tuple #[.string S, .int .i64 r]) ∧ Below W.heap.size W w') :
    Calls Tryz.prog 11 #[sdV key iv q, rcV k b, .int .i64 (p : Int)] w fun e w' => e = .returned (.tuple #[sdV key iv (q + 1), .string (H ++ S), .int .i64 0]) ∧ Below w.heap.size w w' := by
  have zX : X.size ≤ 100000 := by rw [← hX, ← hY, ← hZ, ← hS1, ByteArray.size_append, ByteArray.size_append, mkS_size, zS_size]; simp; omega
  have xi : (X.size : Int) ≤ 100000 := by omega
  have zH : (H.size : Int) = 5 := by omega
  have zs : (S.size : Int) ≤ 100000 := by omega
  have z1 : S1.size = 1 := by rw [← hS1, mkS_size]; rfl
  have zY : b.size + S1.size ≤ 9223372036854775807 := by omega
  have zXX : Y.size + Z.size ≤ 9223372036854775807 := by rw [← hX, ByteArray.size_append] at zX; omega
  have pp : p ≤ 100000 := by omega
  have qn : ¬ q = 18446744073709551615 := by omega
  unfold sdV rcV at *
  have i2 : ¬ (16384 : Int) < (b.size : Int) := by omega
  have i3 : (b.size : Int) ≤ 16384 := by omega
  have h5 : 0 ≤ (p : Int) := by omega
  have h6 : ¬ (p : Int) < 0 := by omega
  have h7 : (p : Int) ≤ 16384 - (b.size : Int) := by omega
  have h8 : ¬ 16384 - (b.size : Int) < (p : Int) := by omega
  clear hp hb zX hH hS z1
  have A0 : Arr (((w.alloc (.cells #[.string key, .string iv, .int .u64 q] 24)).alloc (.cells #[.int .i64 k, .string b] 26)).alloc (.cells #[.string ⟨#[]⟩, .string ⟨#[]⟩, .int .u64 0] 24)) w.heap.size 3 (sd3 key iv q) := (Arr.al' (n := 2) (Arr.al' (n := 2) (Arr.new w _ 24 _ rfl _ 3 (sd3_at key iv q)) _) _)
  have A1 : Arr (((w.alloc (.cells #[.string key, .string iv, .int .u64 q] 24)).alloc (.cells #[.int .i64 k, .string b] 26)).alloc (.cells #[.string ⟨#[]⟩, .string ⟨#[]⟩, .int .u64 0] 24)) (w.heap.size + 1) 2 (rc2 k b) := (Arr.al' (n := 1) (Arr.new (w.alloc (.cells #[.string key, .string iv, .int .u64 q] 24)) _ 26 (w.heap.size + 1) (by simp) _ 2 (rc2_at k b)) _)
  have A2 : Arr (((w.alloc (.cells #[.string key, .string iv, .int .u64 q] 24)).alloc (.cells #[.int .i64 k, .string b] 26)).alloc (.cells #[.string ⟨#[]⟩, .string ⟨#[]⟩, .int .u64 0] 24)) (w.heap.size + 1 + 1) 3 (sd3 ⟨#[]⟩ ⟨#[]⟩ 0) := Arr.new ((w.alloc (.cells #[.string key, .string iv, .int .u64 q] 24)).alloc (.cells #[.int .i64 k, .string b] 26)) _ 24 (w.heap.size + 1 + 1) (by simp) _ 3 (sd3_at ⟨#[]⟩ ⟨#[]⟩ 0)
  have B0 : Below w.heap.size w (((w.alloc (.cells #[.string key, .string iv, .int .u64 q] 24)).alloc (.cells #[.int .i64 k, .string b] 26)).alloc (.cells #[.string ⟨#[]⟩, .string ⟨#[]⟩, .int .u64 0] 24)) := by go_grown
  go_enter Tryz.func11, Tryz.ntmps11
  go_wp2_with (go_at_call 22; refine (C1 _).mono ?_; rintro e w1 ⟨rfl, rfl⟩)
  refine (C2 _).mono ?_
  rintro e w1 ⟨rfl, b1⟩
  replace A0 : Arr _ _ 3 _ := A0.to' (n := 2) b1
  replace A1 : Arr _ _ 2 _ := A1.to' (n := 1) b1
  replace A2 : Arr _ _ 3 _ := A2.to' (n := 2) b1
  replace B0 := Bel.call B0 b1
  clear b1 C1 C2
  obtain ⟨e0, e1, e2⟩ := A0.sd
  have m0 := A1.cv 0 (by omega) (.int .i64 k) rfl
  have m1 := A1.cv 1 (by omega) (.string b) rfl
  go_wp2_with fail
  clear e0 e1 e2 m0 m1
  have r1 : ∀ W, Below w1.heap.size w1 W → W.cell? ⟨w.heap.size + 1, 1, none⟩ = some (.string b) := fun W hW => (A1.to' (n := 1) hW).c 1 (by omega)
  have r0 : ∀ W, Below w1.heap.size w1 W → W.cell? ⟨w.heap.size + 1, 0, none⟩ = some (.int .i64 k) := fun W hW => (A1.to' (n := 1) hW).c 0 (by omega)
  refine wp_region_rel 12 (rpV (w.heap.size + 1) b S1 Y Z X k p) (by kernel_rfl) (by kernel_rfl) (rpV.st _ _ _ _ _ _ _ _) ?_ ?_
  · intro i o ρ W hi ho hW hP hS
    have ci : i = 0 ∨ i = 1 ∨ i = 2 ∨ i = 3 ∨ i = 4 ∨ i = 5 ∨ i = 6 ∨ i = 7 ∨ i = 8 ∨ i = 9 ∨ i = 10 ∨ i = 11 := by omega
    have q1 := r1 W hW
    have q0 := r0 W hW
    rcases ci with rfl | rfl | rfl | rfl | rfl | rfl | rfl | rfl | rfl | rfl | rfl | rfl <;> cases ho
    · have h' : ρ (.tmp 4) = .pointer (some ⟨w.heap.size + 1, 0, none⟩) := hS 4 (by kernel_rfl)
      exact Stp.val (by simp [execOp, h', go_sem] <;> rfl) rfl
    · have h' : ρ (.tmp 49) = .pointer (some ⟨w.heap.size + 1, 1, none⟩) := hS 49 (by kernel_rfl)
      exact Stp.val (by simp [execOp, h', go_sem, q1] <;> rfl) rfl
    · have h' : ρ (.tmp 4) = .pointer (some ⟨w.heap.size + 1, 0, none⟩) := hS 4 (by kernel_rfl)
      exact Stp.val (by simp [execOp, h', go_sem] <;> rfl) rfl
    · have h' : ρ (.tmp 51) = .pointer (some ⟨w.heap.size + 1, 0, none⟩) := hS 51 (by kernel_rfl)
      exact Stp.val (by simp [execOp, h', go_sem, q0] <;> rfl) rfl
    · have h' : ρ (.tmp 52) = .int .i64 k := hS 52 (by kernel_rfl)
      exact Stp.val (by simp [execOp, h', go_sem] <;> rfl) rfl
    · have h' : ρ (.tmp 53) = .int .u8 (k % 256) := hS 53 (by kernel_rfl)
      exact Stp.new (w' := W.alloc (.cells #[.int .u8 (k % 256)] 5)) (by simp [execOp, h', go_sem] <;> rfl) ((Below.refl _ W).alloc (Nat.le_refl _) _) (rowV.new k W)
    · have h' : rowV k (ρ (.tmp 54)) W := hS 54 (by kernel_rfl)
      have cv := h'.conv
      rw [hS1] at cv
      exact Stp.val (by simp [execOp, Sem.run_bind, cv] <;> rfl) rfl
    · have h1 : ρ (.tmp 50) = .string b := hS 50 (by kernel_rfl)
      have h2 : ρ (.tmp 55) = .string S1 := hS 55 (by kernel_rfl)
      exact Stp.val (by simp [execOp, h1, h2, go_sem, hY, zY] <;> rfl) rfl
    · have h' : ρ (.tmp 2) = .int .i64 (p : Int) := hS 2 (by kernel_rfl)
      exact Stp.val (by simp [execOp, h', go_sem] <;> rfl) rfl
    · have h' : ρ (.tmp 57) = .int .i64 (p : Int) := hS 57 (by kernel_rfl)
      obtain ⟨w', v, hv, hb, hz⟩ := zrV.mk p pp W
      exact Stp.new (w' := w') (by simp only [execOp, h', Sem.run_bind, hv]; rfl) hb hz
    · have h' : zrV p (ρ (.tmp 58)) W := hS 58 (by kernel_rfl)
      have cv := h'.conv
      rw [hZ] at cv
      exact Stp.val (by simp [execOp, Sem.run_bind, cv] <;> rfl) rfl
    · have h1 : ρ (.tmp 56) = .string Y := hS 56 (by kernel_rfl)
      have h2 : ρ (.tmp 59) = .string Z := hS 59 (by kernel_rfl)
      exact Stp.val (by simp [execOp, h1, h2, go_sem, hX, zXX] <;> rfl) rfl
  intro x W hW hV
  have h11 : x 11 = .string X := hV 11 (by omega)
  clear hV r0 r1
  replace A0 : Arr _ _ 3 _ := A0.to' (n := 2) hW
  replace A1 : Arr _ _ 2 _ := A1.to' (n := 1) hW
  replace A2 : Arr _ _ 3 _ := A2.to' (n := 2) hW
  replace B0 := Bel.call B0 hW
  clear hW
  simp only [puts, List.take_succ_cons, List.take_zero, List.drop_succ_cons, List.drop_zero, Act.put, List.setIfInBounds_toArray, List.set_cons_succ, List.set_cons_zero]
  go_wp2_with fail
  refine (C3 _).mono ?_
  rintro e w3 ⟨rfl, b3⟩
  replace A0 : Arr _ _ 3 _ := A0.to' (n := 2) b3
  replace A1 : Arr _ _ 2 _ := A1.to' (n := 1) b3
  replace A2 : Arr _ _ 3 _ := A2.to' (n := 2) b3
  replace B0 := Bel.call B0 b3
  clear b3 C3
  obtain ⟨e0, e1, e2⟩ := A0.sd
  have m0 := A1.cv 0 (by omega) (.int .i64 k) rfl
  have m1 := A1.cv 1 (by omega) (.string b) rfl
  go_wp2_with fail
  refine (C4 _).mono ?_
  rintro e w4 ⟨rfl, b4⟩
  replace A0 : Arr _ _ 3 _ := A0.to' (n := 2) b4
  replace A1 : Arr _ _ 2 _ := A1.to' (n := 1) b4
  replace A2 : Arr _ _ 3 _ := A2.to' (n := 2) b4
  replace B0 := Bel.call B0 b4
  clear b4 C4 e0 e1 e2 m0 m1
  obtain ⟨e0, e1, e2⟩ := A0.sd
  have m0 := A1.cv 0 (by omega) (.int .i64 k) rfl
  have m1 := A1.cv 1 (by omega) (.string b) rfl
  have y2 := A0.z 2 (by omega)
  have hne : w.heap.size < w4.heap.size := A0.lt (n := 2)
  go_upto_region 16 with fail
  have A0' : Arr (w4.setCell ⟨w.heap.size, 2, none⟩ (.int .u64 (q + 1))) w.heap.size 3 (sd3 key iv (q + 1)) := (A0.set 2 (by omega) _).congr (by
    intro j hj
    have : j = 0 ∨ j = 1 ∨ j = 2 := by omega
    rcases this with rfl | rfl | rfl <;> simp [sd3])
  replace A2 : Arr (w4.setCell ⟨w.heap.size, 2, none⟩ (.int .u64 (q + 1))) (w.heap.size + 1 + 1) 3 (sd3 ⟨#[]⟩ ⟨#[]⟩ 0) := A2.other (by omega) _
  replace B0 := Bel.st B0 (b := w.heap.size) (k := 2) (Nat.le_refl _) (.int .u64 (q + 1))
  clear A0 A1 e0 e1 e2 m0 m1 y2
  generalize w4.setCell ⟨w.heap.size, 2, none⟩ (.int .u64 (q + 1)) = w5 at *
  obtain ⟨e0, e1, e2⟩ := A0'.sd
  have c20 := A2.c 0 (by omega)
  have c21 := A2.c 1 (by omega)
  have c22 := A2.c 2 (by omega)
  have z20 := A2.z 0 (by omega)
  have z21 := A2.z 1 (by omega)
  have z22 := A2.z 2 (by omega)
  go_wp2_with fail
  have G2 := A2.ssd key iv (q + 1)
  have E := Bel.ssd B0 (b := w.heap.size + 1 + 1) (by omega) key iv (q + 1)
  clear c20 c21 c22 z20 z21 z22
  obtain ⟨g0, g1, g2⟩ := G2.sd
  unfold ssd at g0 g1 g2 E
  refine bodyPost_ret (v := .tuple #[sdV key iv (q + 1), .string (H ++ S), .int .i64 0]) ?_ rfl ⟨rfl, E⟩
  simp [sdV, results, Tryz.results11, go_sem, g0, g1, g2]
theorem usE_cases (k : Int) (b : ByteArray) (p : Int) : (knB k = false ∧ usE k b p = 23) ∨ (knB k = true ∧ 16384 < b.size ∧ usE k b p = 12) ∨ (knB k = true ∧ ¬ 16384 < b.size ∧ (p < 0 ∨ 16384 - (b.size : Int) < p) ∧ usE k b p = 13) ∨ (knB k = true ∧ ¬ 16384 < b.size ∧ (0 ≤ p ∧ p ≤ 16384 - (b.size : Int)) ∧ usE k b p = 0) := by
  unfold usE
  cases h : knB k with
  | false => exact .inl ⟨rfl, rfl⟩
  | true =>
    rw [if_pos rfl]
    by_cases h2 : 16384 < b.size
    · exact .inr (.inl ⟨rfl, h2, by rw [if_pos h2]⟩)
    · rw [if_neg h2]
      by_cases h3 : p < 0 ∨ 16384 - (b.size : Int) < p
      · exact .inr (.inr (.inl ⟨rfl, h2, h3, by rw [if_pos h3]⟩))
      · exact .inr (.inr (.inr ⟨rfl, h2, by omega, by rw [if_neg h3]⟩))
theorem rProtect_any (key iv b : ByteArray) (k q p : Int) (q0 : 0 ≤ q) (q1 : q < 18446744073709551616) (w : World) :
    Calls Tryz.prog 11 #[sdV key iv q, rcV k b, .int .i64 p] w fun e w' => e = .returned (.tuple #[sdV key iv (prQ key iv q k b p), .string (prT key iv q k b p), .int .i64 (prE key iv q k b p)]) ∧ Below w.heap.size w w' := by
  have CK := fun W => rknown_any k W
  have bad : ∀ r, ¬ r = 0 → prE key iv q k b p = r → prQ key iv q k b p = q ∧ prT key iv q k b p = ⟨#[]⟩ := fun r hr e => by
    unfold prQ prT
    rw [e, if_neg hr, if_neg hr]
    exact ⟨rfl, rfl⟩
  rcases usE_cases k b p with ⟨h1, e⟩ | ⟨h1, h2, e⟩ | ⟨h1, h2, h3, e⟩ | ⟨h1, h2, h3, e⟩
  · have e' : prE key iv q k b p = 23 := by unfold prE; rw [e, if_neg (by decide)]
    obtain ⟨x, y⟩ := bad 23 (by decide) e'
    rw [h1] at CK
    rw [e', x, y]
    exact rProtect_1 key iv b k q p w CK
  · have e' : prE key iv q k b p = 12 := by unfold prE; rw [e, if_neg (by decide)]
    obtain ⟨x, y⟩ := bad 12 (by decide) e'
    rw [h1] at CK
    rw [e', x, y]
    exact rProtect_2 key iv b k q p h2 w CK
  · have e' : prE key iv q k b p = 13 := by unfold prE; rw [e, if_neg (by decide)]
    obtain ⟨x, y⟩ := bad 13 (by decide) e'
    rw [h1] at CK
    rw [e', x, y]
    exact rProtect_3 key iv b k q p h2 h3 w CK
  · rw [h1] at CK
    have CN := fun W => rNonce_any key iv q q0 q1 W
    have hE : prE key iv q k b p = diE key iv q := by unfold prE; rw [if_pos e]
    by_cases h4 : noE key iv = 0
    · obtain ⟨hk, hi⟩ := noE_0 h4
      have eN : noR key iv q = noS iv q := by unfold noR; rw [if_pos h4]
      rw [h4, eN] at CN
      by_cases h5 : q = 18446744073709551615
      · have e' : prE key iv q k b p = 18 := by rw [hE]; unfold diE; rw [if_pos h4, if_pos h5]
        obtain ⟨x, y⟩ := bad 18 (by decide) e'
        rw [e', x, y]
        exact rProtect_5 key iv b _ k q p h5 h2 h3 w CK CN
      · have e' : prE key iv q k b p = 0 := by rw [hE]; unfold diE; rw [if_pos h4, if_neg h5]
        unfold prQ prT
        rw [e', if_pos rfl, if_pos rfl]
        obtain ⟨n, rfl⟩ : ∃ n : Nat, p = (n : Int) := ⟨p.toNat, by omega⟩
        rw [Int.toNat_natCast]
        have zX := wiS_size k b n
        have zS' := seS_size' key (noS iv q) (hdS 23 (((wiS k b n).size : Int) + 16)) (wiS k b n)
        refine rProtect_6 key iv b _ _ _ _ (wiS k b n) _ _ k q 0 n h2 h3.2 q0 (by omega) rfl rfl rfl rfl (hdS_size _ _) (by omega) w CK CN (fun W => rhead_any _ _ (by omega) (by omega) W) (fun W => ?_)
        have := rSeal_any key (noS iv q) (hdS 23 (((wiS k b n).size : Int) + 16)) (wiS k b n) (by rw [noS_size]; omega) (by rw [hdS_size]; omega) (by omega) W
        have r := rfg_ok hk (noS_size iv q)
        unfold seR at this
        rwa [r, if_pos rfl] at this
    · have e' : prE key iv q k b p = noE key iv := by rw [hE]; unfold diE; rw [if_neg h4]
      obtain ⟨x, y⟩ := bad _ h4 e'
      rw [e', x, y]
      exact rProtect_4 key iv b _ k q p _ h4 h2 h3 w CK CN
end Go.Proofs.YtjaljnfijhfkcaaGreatDoor
