/- Read. -/
import Derived.Test.YtajdfjpcobaioaaDoorD3
set_option linter.all false
set_option maxRecDepth 100000
namespace Go.Proofs.YtajdfjpcobaioaaDoor
open Go.RowKit Go.Sort
abbrev tlv (t : Int) (b : ByteArray) : Value := .agg #[.int .i64 t, .string b]
theorem rd_0 (w : World) : Calls Tryd.prog 8 #[.string ⟨#[]⟩] w fun e w' => e = .returned (.tuple #[tlv 0 ⟨#[]⟩, .string ⟨#[]⟩, .int .i64 11]) ∧ Below w.heap.size w w' := by
  go_enter Tryd.func8, Tryd.ntmps8
  go_wp2_with fail
  exact bodyPost_ret (v := .tuple #[tlv 0 ⟨#[]⟩, .string ⟨#[]⟩, .int .i64 11]) (by simp [results, Tryd.results8, go_sem]) rfl ⟨rfl, by go_grown⟩
theorem cut1 (s : ByteArray) (hs : 0 < s.size) (hm : s.size ≤ maxLen) (W : World) : (Instr.slice 9 (.string s) (some (.int .i64 1)) none none).run Tryd.prog W = .ok (.string (s.extract 1 s.size)) W := by
  unfold maxLen at hm
  have z0 : (1 : Int) ≤ (s.size : Int) := by omega
  go_simp
theorem two_cells {w w1 : World} {a b : Value} {T : TypeId} (h : Below (w.alloc (.cells #[a, b] T)).heap.size (w.alloc (.cells #[a, b] T)) w1) : w1.cell? ⟨w.heap.size, 0, none⟩ = some a ∧ w1.cell? ⟨w.heap.size, 1, none⟩ = some b ∧ w1.frozen? ⟨w.heap.size, 0, none⟩ = false ∧ w1.frozen? ⟨w.heap.size, 1, none⟩ = false := by
  have A : Arr (w.alloc (.cells #[a, b] T)) w.heap.size 2 (fun j => if j = 0 then a else b) := Arr.new w #[a, b] T _ rfl _ 2 (fun j hj => by
    match j, hj with
    | 0, _ => rfl
    | 1, _ => rfl)
  have A1 := A.below h (by simp)
  exact ⟨A1.c 0 (by omega), A1.c 1 (by omega), A1.z 0 (by omega), A1.z 1 (by omega)⟩
theorem rd_e (s : ByteArray) (hs : 0 < s.size) (hm : s.size ≤ maxLen) (E : Int) (h0 : ¬ E = 0) (CR : ∀ W, Calls Tryd.prog 25 #[.string (s.extract 1 s.size)] W fun e w' => e = .returned (.tuple #[.int .i64 0, .string ⟨#[]⟩, .int .i64 E]) ∧ Below W.heap.size W w') (w : World) :
    Calls Tryd.prog 8 #[.string s] w fun e w' => e = .returned (.tuple #[tlv 0 ⟨#[]⟩, .string ⟨#[]⟩, .int .i64 E]) ∧ Below w.heap.size w w' := by
  have em := emp_no s hs
  have ct := cut1 s hs hm
  generalize s.extract 1 s.size = S1 at *
  go_enter Tryd.func8, Tryd.ntmps8
  go_wp2_with (go_at_call 25; refine (CR _).mono ?_; rintro e w1 ⟨rfl, hb1⟩; obtain ⟨c0, c1, z0, z1⟩ := two_cells hb1)
  exact bodyPost_ret (v := .tuple #[tlv 0 ⟨#[]⟩, .string ⟨#[]⟩, .int .i64 E]) (by simp [results, Tryd.results8, go_sem, *]) rfl ⟨rfl, Bel.st (Bel.st (Bel.call (by go_grown) hb1) (Nat.le_refl _) _) (Nat.le_refl _) _⟩
theorem rd_s (s S2 : ByteArray) (n : Int) (n0 : 0 ≤ n) (hs : 0 < s.size) (hm : s.size ≤ maxLen) (hn : (S2.size : Int) < n) (CR : ∀ W, Calls Tryd.prog 25 #[.string (s.extract 1 s.size)] W fun e w' => e = .returned (.tuple #[.int .i64 n, .string S2, .int .i64 0]) ∧ Below W.heap.size W w') (w : World) :
    Calls Tryd.prog 8 #[.string s] w fun e w' => e = .returned (.tuple #[tlv 0 ⟨#[]⟩, .string ⟨#[]⟩, .int .i64 11]) ∧ Below w.heap.size w w' := by
  have em := emp_no s hs
  have ct := cut1 s hs hm
  generalize s.extract 1 s.size = S1 at *
  go_enter Tryd.func8, Tryd.ntmps8
  go_wp2_with (go_at_call 25; refine (CR _).mono ?_; rintro e w1 ⟨rfl, hb1⟩; obtain ⟨c0, c1, z0, z1⟩ := two_cells hb1)
  exact bodyPost_ret (v := .tuple #[tlv 0 ⟨#[]⟩, .string ⟨#[]⟩, .int .i64 11]) (by simp [results, Tryd.results8, go_sem, *]) rfl ⟨rfl, Bel.st (Bel.st (Bel.call (by go_grown) hb1) (Nat.le_refl _) _) (Nat.le_refl _) _⟩
theorem rd_y (s S2 : ByteArray) (n : Nat) (hs : 0 < s.size) (hm : s.size ≤ maxLen) (hn : n ≤ S2.size) (h2 : S2.size ≤ s.size) (CR : ∀ W, Calls Tryd.prog 25 #[.string (s.extract 1 s.size)] W fun e w' => e = .returned (.tuple #[.int .i64 (n : Int), .string S2, .int .i64 0]) ∧ Below W.heap.size W w') (w : World) :
    Calls Tryd.prog 8 #[.string s] w fun e w' => e = .returned (.tuple #[tlv (bt s 0) (S2.extract 0 n), .string (S2.extract n S2.size), .int .i64 0]) ∧ Below w.heap.size w w' := by
  have em := emp_no s hs
  have ct := cut1 s hs hm
  have I := idx0 s hs
  have b0 := bt_bd s 0
  unfold maxLen at hm
  have n0 : (0 : Int) ≤ (n : Int) := by omega
  have n1 : (n : Int) ≤ (S2.size : Int) := by omega
  have n2 : (S2.size : Int) ≤ 9223372036854775807 := by omega
  generalize s.extract 1 s.size = S1 at *
  generalize bt s 0 = c at *
  go_enter Tryd.func8, Tryd.ntmps8
  go_wp2_with (go_at_call 25; refine (CR _).mono ?_; rintro e w1 ⟨rfl, hb1⟩; obtain ⟨c0, c1, z0, z1⟩ := two_cells hb1)
  go_region
  go_wp2_with fail
  exact bodyPost_ret (v := .tuple #[tlv c (S2.extract 0 n), .string (S2.extract n S2.size), .int .i64 0]) (by simp [results, Tryd.results8, go_sem, *]) rfl ⟨rfl, Bel.st (Bel.st (Bel.drew (Bel.call (by go_grown) hb1)) (Nat.le_refl _) _) (Nat.le_refl _) _⟩
end Go.Proofs.YtajdfjpcobaioaaDoor
