/- sched.Handshake. -/
import Derived.Test.YtfglpcfacjedmaaDoorSB
import Derived.Deep.RegionHeld3
set_option linter.all false
set_option maxRecDepth 100000
namespace Go.Proofs.YtfglpcfacjedmaaDoor
open Go.RowKit Go.Sort
/-- Secrets. -/
def sec (b c s x : ByteArray) : Value := .agg #[.string b, .string c, .string s, .string x]
def sx (b c s x : ByteArray) : Nat → Value
  | 0 => .string b
  | 1 => .string c
  | 2 => .string s
  | _ => .string x
theorem sx_at (b c s x : ByteArray) (j : Nat) (hj : j < 4) : (#[.string b, .string c, .string s, .string x] : Array Value)[j]? = some (sx b c s x j) := by
  match j, hj with
  | 0, _ => rfl
  | 1, _ => rfl
  | 2, _ => rfl
  | 3, _ => rfl
theorem Arr.four {w : World} {p : Nat} {b c s x : ByteArray} (h : Arr w p 4 (sx b c s x)) : (w.cell? ⟨p, 0, none⟩ = some (.string b) ∧ w.cell? ⟨p, 1, none⟩ = some (.string c) ∧ w.cell? ⟨p, 2, none⟩ = some (.string s) ∧ w.cell? ⟨p, 3, none⟩ = some (.string x)) ∧
    (w.frozen? ⟨p, 0, none⟩ = false ∧ w.frozen? ⟨p, 1, none⟩ = false ∧ w.frozen? ⟨p, 2, none⟩ = false ∧ w.frozen? ⟨p, 3, none⟩ = false) :=
  ⟨⟨h.c 0 (by omega), h.c 1 (by omega), h.c 2 (by omega), h.c 3 (by omega)⟩, h.z 0 (by omega), h.z 1 (by omega), h.z 2 (by omega), h.z 3 (by omega)⟩
abbrev eS : ByteArray := ⟨#[]⟩
set_option maxHeartbeats 2000000 in
theorem hand_no (a b : ByteArray) (w : World)
    (C17 : ∀ W : World, Calls Tryd.prog 17 #[.slice (some ⟨W.heap.size, 0, none⟩) 2 2] (W.alloc (.cells #[.string a, .string b] 9)) fun e w' => e = .returned (.bool false) ∧ w' = W.alloc (.cells #[.string a, .string b] 9)) :
    Calls Tryd.prog 6 #[.string a, .string b] w fun e w' => e = .returned (.tuple #[sec ⟨#[]⟩ ⟨#[]⟩ ⟨#[]⟩ ⟨#[]⟩, .int .i64 10]) ∧ Below w.heap.size w w' := by
  unfold sec
  have C := C17 (w.alloc (.cells #[.string ⟨#[]⟩, .string ⟨#[]⟩, .string ⟨#[]⟩, .string ⟨#[]⟩] 23))
  rw [World.size_alloc] at C
  go_enter Tryd.func6, Tryd.ntmps6
  go_wp2_with (go_at_call 17; refine C.mono ?_; rintro e w1 ⟨rfl, rfl⟩)
  refine bodyPost_ret (v := .tuple #[.agg #[.string ⟨#[]⟩, .string ⟨#[]⟩, .string ⟨#[]⟩, .string ⟨#[]⟩], .int .i64 10]) (by simp [results, Tryd.results6, go_sem]) rfl ⟨rfl, ?_⟩
  go_grown
def L2 (x y : ByteArray) : Nat → ByteArray := g2 x y
set_option maxHeartbeats 4000000 in
theorem hand_yes (a b E B X Y : ByteArray) (w : World) (hT : Tab w)
    (C17 : ∀ W : World, Calls Tryd.prog 17 #[.slice (some ⟨W.heap.size, 0, none⟩) 2 2] (W.alloc (.cells #[.string a, .string b] 9)) fun e w' => e = .returned (.bool true) ∧ w' = W.alloc (.cells #[.string a, .string b] 9))
    (C19 : ∀ W, Tab W → Calls Tryd.prog 19 #[] W fun e w' => e = .returned (.string E) ∧ Below W.heap.size W w')
    (C18 : ∀ W, Tab W → Calls Tryd.prog 18 #[.string E, .string a, .string b] W fun e w' => e = .returned (mkr B b) ∧ Below W.heap.size W w')
    (C20 : ∀ W q, Tab W → Arr W q 2 (fun j => .string (g2 ⟨#[99, 32, 104, 115, 32, 116, 114, 97, 102, 102, 105, 99]⟩ ⟨#[115, 32, 104, 115, 32, 116, 114, 97, 102, 102, 105, 99]⟩ j)) →
      Calls Tryd.prog 20 #[mkr B b, .slice (some ⟨q, 0, none⟩) 2 2] W fun e w' => ∃ p cap, e = .returned (.slice (some ⟨p, 0, none⟩) 2 cap) ∧ W.heap.size ≤ p ∧ (w'.cell? ⟨p, 0, none⟩ = some (.string X) ∧ w'.cell? ⟨p, 1, none⟩ = some (.string Y)) ∧ Below W.heap.size W w') :
    Calls Tryd.prog 6 #[.string a, .string b] w fun e w' => e = .returned (.tuple #[sec B X Y ⟨#[]⟩, .int .i64 0]) ∧ Below w.heap.size w w' := by
  unfold sec mkr at *
  have C := C17 (w.alloc (.cells #[.string ⟨#[]⟩, .string ⟨#[]⟩, .string ⟨#[]⟩, .string ⟨#[]⟩] 23))
  rw [World.size_alloc] at C
  go_enter Tryd.func6, Tryd.ntmps6
  go_wp2_with (go_at_call 17; refine C.mono ?_; rintro e w1 ⟨rfl, rfl⟩)
  generalize hW : World.alloc (World.alloc _ _) _ = W1
  have A0 : Arr W1 w.heap.size 4 (sx ⟨#[]⟩ ⟨#[]⟩ ⟨#[]⟩ ⟨#[]⟩) := by
    rw [← hW]
    exact (Arr.new _ _ _ _ rfl _ 4 (sx_at _ _ _ _)).al' _
  have B0 : Below w.heap.size w W1 := by rw [← hW]; go_grown
  have s0 : w.heap.size < W1.heap.size := by rw [← hW]; simp; omega
  have T0 := hT.to B0
  clear hW hT C C17
  refine (C19 _ T0).mono ?_
  rintro e w1 ⟨rfl, hb⟩
  have A0 := A0.to' hb
  have B1 := Bel.call B0 hb
  have T1 := T0.to hb
  have s1 : w.heap.size < w1.heap.size := Nat.lt_of_lt_of_le s0 hb.size
  clear hb C19 B0 T0 s0
  go_wp2_with fail
  refine (C18 _ T1).mono ?_
  rintro e w2 ⟨rfl, hb⟩
  have A0 := A0.to' hb
  have B2 := Bel.call B1 hb
  have T2 := T1.to hb
  have s2 : w.heap.size < w2.heap.size := Nat.lt_of_lt_of_le s1 hb.size
  clear hb C18 B1 T1 s1
  go_wp2_with fail
  generalize hW : World.alloc (World.alloc _ _) _ = W3
  have AM : Arr W3 w2.heap.size 5 (mx B ⟨#[]⟩ ⟨#[]⟩ ⟨#[]⟩ b) := by
    rw [← hW]
    exact (Arr.new _ _ _ _ rfl _ 5 (mx_at _ _ _ _ _)).al' _
  have AL : Arr W3 (w2.heap.size + 1) 2 (fun j => .string (g2 ⟨#[99, 32, 104, 115, 32, 116, 114, 97, 102, 102, 105, 99]⟩ ⟨#[115, 32, 104, 115, 32, 116, 114, 97, 102, 102, 105, 99]⟩ j)) := by
    rw [← hW]
    exact Arr.new _ _ _ _ (by simp) _ 2 (g2_at _ _)
  have A0 : Arr W3 w.heap.size 4 (sx ⟨#[]⟩ ⟨#[]⟩ ⟨#[]⟩ ⟨#[]⟩) := by
    rw [← hW]
    exact (A0.al' _).al' _
  have hb : Below w2.heap.size w2 W3 := by rw [← hW]; go_grown
  have B3 := Bel.call B2 hb
  have T3 := T2.to hb
  have s3 : w2.heap.size < W3.heap.size := by rw [← hW]; simp; omega
  clear hW hb B2 T2
  refine (C20 _ _ T3 AL).mono ?_
  rintro e w4 ⟨p, cap, rfl, hp, ⟨c0, c1⟩, hb⟩
  have A0 := A0.to' hb
  have AM := AM.to' hb
  have B4 := Bel.call B3 hb
  clear hb C20 B3 T3 AL
  obtain ⟨⟨k0, k1, k2, k3, k4⟩, z0, z1, z2, z3, z4⟩ := AM.five
  obtain ⟨⟨j0, j1, j2, j3⟩, y0, y1, y2, y3⟩ := A0.four
  clear A0 AM
  have n1 : ¬ w2.heap.size = w.heap.size := by omega
  have n2 : ¬ p = w2.heap.size := by omega
  have n3 : ¬ p = w.heap.size := by omega
  go_wp2_with fail
  go_region_held3 (fun w' => w'.cell? ⟨p, 0, none⟩ = some (.string X) ∧ w'.cell? ⟨p, 1, none⟩ = some (.string Y)) (simp [go_sem, c0, c1, n2]) (fail)
  go_wp2_with fail
  refine bodyPost_ret (v := .tuple #[.agg #[.string B, .string X, .string Y, .string ⟨#[]⟩], .int .i64 0]) (by simp [results, Tryd.results6, go_sem, j0, j1, j2, j3]) rfl ⟨rfl, ?_⟩
  go_grown
end Go.Proofs.YtfglpcfacjedmaaDoor
