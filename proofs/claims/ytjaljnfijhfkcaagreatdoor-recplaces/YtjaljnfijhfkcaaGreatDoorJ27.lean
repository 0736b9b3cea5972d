/- RecSeals. -/
import Derived.Test.YtjaljnfijhfkcaaGreatDoorJ26
set_option linter.all false
set_option maxRecDepth 100000
namespace Go.Proofs.YtjaljnfijhfkcaaGreatDoor
open Go.RowKit Go.Sort Lin
set_option maxHeartbeats 4000000 in
theorem RecSeals_1 (key iv b : ByteArray) (q k p : Int) (w : World) (hc : fwB b = false ∨ (300 < p ∧ p ≤ 16384))
    (CA : ∀ W, Calls Tryz.prog 7 #[] W fun e w' => e = .returned (.bool true) ∧ Below W.heap.size W w') :
    Calls Tryz.prog 3 #[sdV key iv q, rcV k b, .int .i64 p] w fun e w' => e = .returned (.bool true) ∧ Below w.heap.size w w' := by
  have CF := fun W => few_any b W
  unfold sdV rcV
  cases hf : fwB b with
  | false =>
    rw [hf] at CF
    clear hc hf
    go_enter Tryz.func3, Tryz.ntmps3
    go_wp2_with (first | (go_at_call 6; refine (CF _).mono ?_; rintro e w1 ⟨rfl, rfl⟩) | (go_at_call 7; refine (CA _).mono ?_; rintro e w9 ⟨rfl, b9⟩))
    go_ret
    exact ⟨rfl, Bel.call (by go_grown) b9⟩
  | true =>
    rw [hf] at CF
    have h1 : 300 < p := by rcases hc with h | h; rw [h] at hf; cases hf; exact h.1
    have h2 : p ≤ 16384 := by rcases hc with h | h; rw [h] at hf; cases hf; exact h.2
    clear hc hf
    go_enter Tryz.func3, Tryz.ntmps3
    go_wp2_with (first | (go_at_call 6; refine (CF _).mono ?_; rintro e w1 ⟨rfl, rfl⟩) | (go_at_call 7; refine (CA _).mono ?_; rintro e w9 ⟨rfl, b9⟩))
    go_ret
    exact ⟨rfl, Bel.call (by go_grown) b9⟩
set_option maxHeartbeats 8000000 in
theorem RecSeals_2 (key iv b N T B2 : ByteArray) (q k p E Q P U K2 R : Int) (w : World) (hf : fwB b = true) (hp : ¬ (300 < p ∧ p ≤ 16384))
    (C1 : ∀ W, Calls Tryz.prog 8 #[sdV key iv q] W fun e w' => e = .returned (.tuple #[.string N, .int .i64 E]) ∧ Below W.heap.size W w')
    (C2 : ∀ W, Calls Tryz.prog 9 #[sdV key iv q] W fun e w' => e = .returned (.tuple #[.string N, .int .i64 E]) ∧ Below W.heap.size W w')
    (C3 : ∀ W, Calls Tryz.prog 10 #[sdV key iv q, rcV k b, .int .i64 p] W fun e w' => e = .returned (.tuple #[sdV key iv Q, .string T, .int .i64 P]) ∧ Below W.heap.size W w')
    (C4 : ∀ W, Calls Tryz.prog 11 #[sdV key iv q, rcV k b, .int .i64 p] W fun e w' => e = .returned (.tuple #[sdV key iv Q, .string T, .int .i64 P]) ∧ Below W.heap.size W w')
    (C5 : ∀ W, Calls Tryz.prog 12 #[sdV key iv q, rcV k b] W fun e w' => e = .returned (.tuple #[sdV key iv U, rcV K2 B2, .int .i64 R]) ∧ Below W.heap.size W w')
    (C6 : ∀ W, Calls Tryz.prog 13 #[sdV key iv q, rcV k b] W fun e w' => e = .returned (.tuple #[sdV key iv U, rcV K2 B2, .int .i64 R]) ∧ Below W.heap.size W w')
    (CA : ∀ W, Calls Tryz.prog 7 #[] W fun e w' => e = .returned (.bool true) ∧ Below W.heap.size W w') :
    Calls Tryz.prog 3 #[sdV key iv q, rcV k b, .int .i64 p] w fun e w' => e = .returned (.bool true) ∧ Below w.heap.size w w' := by
  have CF := fun W => few_any b W
  rw [hf] at CF
  have A0 : Arr ((w.alloc (.cells #[.string key, .string iv, .int .u64 q] 24)).alloc (.cells #[.int .i64 k, .string b] 26)) w.heap.size 3 (sd3 key iv q) :=
    Arr.al' (n := 2) (Arr.new w _ 24 _ rfl _ 3 (sd3_at key iv q)) _
  have A1 : Arr ((w.alloc (.cells #[.string key, .string iv, .int .u64 q] 24)).alloc (.cells #[.int .i64 k, .string b] 26)) (w.heap.size + 1) 2 (rc2 k b) :=
    Arr.new (w.alloc (.cells #[.string key, .string iv, .int .u64 q] 24)) _ 26 (w.heap.size + 1) (by simp) _ 2 (rc2_at k b)
  have B0 : Below w.heap.size w ((w.alloc (.cells #[.string key, .string iv, .int .u64 q] 24)).alloc (.cells #[.int .i64 k, .string b] 26)) := by go_grown
  unfold sdV rcV at *
  clear hf
  have pc : p ≤ 300 ∨ 16384 < p := by omega
  go_enter Tryz.func3, Tryz.ntmps3
  by_cases hp1 : 300 < p
  · have hp2 : 16384 < p := by omega
    have hp3 : ¬ p ≤ 16384 := by omega
    clear hp pc
    go_upto_region 3 with (first | (go_at_call 6; refine (CF _).mono ?_; rintro e w1 ⟨rfl, rfl⟩))
    generalize (w.alloc (.cells #[.string key, .string iv, .int .u64 q] 24)).alloc (.cells #[.int .i64 k, .string b] 26) = w0 at *
    obtain ⟨e0, e1, e2⟩ := A0.sd
    have m0 := A1.cv 0 (by omega) (.int .i64 k) rfl
    have m1 := A1.cv 1 (by omega) (.string b) rfl
    go_wp2_with fail
    refine (C1 _).mono ?_
    rintro e w1 ⟨rfl, b1⟩
    clear e0 e1 e2 m0 m1
    replace A0 : Arr _ _ 3 _ := A0.to' (n := 2) b1
    replace A1 : Arr _ _ 2 _ := A1.to' (n := 1) b1
    replace B0 := Bel.call B0 b1
    clear b1
    obtain ⟨e0, e1, e2⟩ := A0.sd
    have m0 := A1.cv 0 (by omega) (.int .i64 k) rfl
    have m1 := A1.cv 1 (by omega) (.string b) rfl
    go_wp2_with fail
    refine (C2 _).mono ?_
    rintro e w2 ⟨rfl, b2⟩
    clear e0 e1 e2 m0 m1
    replace A0 : Arr _ _ 3 _ := A0.to' (n := 2) b2
    replace A1 : Arr _ _ 2 _ := A1.to' (n := 1) b2
    replace B0 := Bel.call B0 b2
    clear b2
    obtain ⟨e0, e1, e2⟩ := A0.sd
    have m0 := A1.cv 0 (by omega) (.int .i64 k) rfl
    have m1 := A1.cv 1 (by omega) (.string b) rfl
    go_wp2_with fail
    refine (C3 _).mono ?_
    rintro e w3 ⟨rfl, b3⟩
    clear e0 e1 e2 m0 m1
    replace A0 : Arr _ _ 3 _ := A0.to' (n := 2) b3
    replace A1 : Arr _ _ 2 _ := A1.to' (n := 1) b3
    replace B0 := Bel.call B0 b3
    clear b3
    have X1 := Arr.new w3 _ 24 _ rfl _ 3 (sd3_at key iv Q)
    replace A0 : Arr _ _ 3 _ := A0.al' (n := 2) (.cells #[.string key, .string iv, .int .u64 Q] 24)
    replace A1 : Arr _ _ 2 _ := A1.al' (n := 1) (.cells #[.string key, .string iv, .int .u64 Q] 24)
    replace B0 := Bel.al B0 (.cells #[.string key, .string iv, .int .u64 Q] 24)
    obtain ⟨e0, e1, e2⟩ := A0.sd
    have m0 := A1.cv 0 (by omega) (.int .i64 k) rfl
    have m1 := A1.cv 1 (by omega) (.string b) rfl
    go_wp2_with fail
    refine (C4 _).mono ?_
    rintro e w4 ⟨rfl, b4⟩
    clear e0 e1 e2 m0 m1
    replace A0 : Arr _ _ 3 _ := A0.to' (n := 2) b4
    replace A1 : Arr _ _ 2 _ := A1.to' (n := 1) b4
    replace X1 : Arr _ _ 3 _ := X1.to' (n := 2) b4
    replace B0 := Bel.call B0 b4
    clear b4
    have X2 := Arr.new w4 _ 24 _ rfl _ 3 (sd3_at key iv Q)
    replace A0 : Arr _ _ 3 _ := A0.al' (n := 2) (.cells #[.string key, .string iv, .int .u64 Q] 24)
    replace A1 : Arr _ _ 2 _ := A1.al' (n := 1) (.cells #[.string key, .string iv, .int .u64 Q] 24)
    replace X1 : Arr _ _ 3 _ := X1.al' (n := 2) (.cells #[.string key, .string iv, .int .u64 Q] 24)
    replace B0 := Bel.al B0 (.cells #[.string key, .string iv, .int .u64 Q] 24)
    obtain ⟨e0, e1, e2⟩ := A0.sd
    have m0 := A1.cv 0 (by omega) (.int .i64 k) rfl
    have m1 := A1.cv 1 (by omega) (.string b) rfl
    go_wp2_with fail
    refine (C5 _).mono ?_
    rintro e w5 ⟨rfl, b5⟩
    clear e0 e1 e2 m0 m1
    replace A0 : Arr _ _ 3 _ := A0.to' (n := 2) b5
    replace A1 : Arr _ _ 2 _ := A1.to' (n := 1) b5
    replace X1 : Arr _ _ 3 _ := X1.to' (n := 2) b5
    replace X2 : Arr _ _ 3 _ := X2.to' (n := 2) b5
    replace B0 := Bel.call B0 b5
    clear b5
    have X3 := Arr.new w5 _ 24 _ rfl _ 3 (sd3_at key iv U)
    replace A0 : Arr _ _ 3 _ := A0.al' (n := 2) (.cells #[.string key, .string iv, .int .u64 U] 24)
    replace A1 : Arr _ _ 2 _ := A1.al' (n := 1) (.cells #[.string key, .string iv, .int .u64 U] 24)
    replace X1 : Arr _ _ 3 _ := X1.al' (n := 2) (.cells #[.string key, .string iv, .int .u64 U] 24)
    replace X2 : Arr _ _ 3 _ := X2.al' (n := 2) (.cells #[.string key, .string iv, .int .u64 U] 24)
    replace B0 := Bel.al B0 (.cells #[.string key, .string iv, .int .u64 U] 24)
    have X4 := Arr.new (w5.alloc (.cells #[.string key, .string iv, .int .u64 U] 24)) _ 26 (w5.heap.size + 1) (by simp) _ 2 (rc2_at K2 B2)
    replace A0 : Arr _ _ 3 _ := A0.al' (n := 2) (.cells #[.int .i64 K2, .string B2] 26)
    replace A1 : Arr _ _ 2 _ := A1.al' (n := 1) (.cells #[.int .i64 K2, .string B2] 26)
    replace X1 : Arr _ _ 3 _ := X1.al' (n := 2) (.cells #[.int .i64 K2, .string B2] 26)
    replace X2 : Arr _ _ 3 _ := X2.al' (n := 2) (.cells #[.int .i64 K2, .string B2] 26)
    replace X3 : Arr _ _ 3 _ := X3.al' (n := 2) (.cells #[.int .i64 K2, .string B2] 26)
    replace B0 := Bel.al B0 (.cells #[.int .i64 K2, .string B2] 26)
    obtain ⟨e0, e1, e2⟩ := A0.sd
    have m0 := A1.cv 0 (by omega) (.int .i64 k) rfl
    have m1 := A1.cv 1 (by omega) (.string b) rfl
    go_wp2_with fail
    refine (C6 _).mono ?_
    rintro e w6 ⟨rfl, b6⟩
    clear e0 e1 e2 m0 m1
    replace A0 : Arr _ _ 3 _ := A0.to' (n := 2) b6
    replace A1 : Arr _ _ 2 _ := A1.to' (n := 1) b6
    replace X1 : Arr _ _ 3 _ := X1.to' (n := 2) b6
    replace X2 : Arr _ _ 3 _ := X2.to' (n := 2) b6
    replace X3 : Arr _ _ 3 _ := X3.to' (n := 2) b6
    replace X4 : Arr _ _ 2 _ := X4.to' (n := 1) b6
    replace B0 := Bel.call B0 b6
    clear b6
    have X5 := Arr.new w6 _ 24 _ rfl _ 3 (sd3_at key iv U)
    replace A0 : Arr _ _ 3 _ := A0.al' (n := 2) (.cells #[.string key, .string iv, .int .u64 U] 24)
    replace A1 : Arr _ _ 2 _ := A1.al' (n := 1) (.cells #[.string key, .string iv, .int .u64 U] 24)
    replace X1 : Arr _ _ 3 _ := X1.al' (n := 2) (.cells #[.string key, .string iv, .int .u64 U] 24)
    replace X2 : Arr _ _ 3 _ := X2.al' (n := 2) (.cells #[.string key, .string iv, .int .u64 U] 24)
    replace X3 : Arr _ _ 3 _ := X3.al' (n := 2) (.cells #[.string key, .string iv, .int .u64 U] 24)
    replace X4 : Arr _ _ 2 _ := X4.al' (n := 1) (.cells #[.string key, .string iv, .int .u64 U] 24)
    replace B0 := Bel.al B0 (.cells #[.string key, .string iv, .int .u64 U] 24)
    have X6 := Arr.new (w6.alloc (.cells #[.string key, .string iv, .int .u64 U] 24)) _ 26 (w6.heap.size + 1) (by simp) _ 2 (rc2_at K2 B2)
    replace A0 : Arr _ _ 3 _ := A0.al' (n := 2) (.cells #[.int .i64 K2, .string B2] 26)
    replace A1 : Arr _ _ 2 _ := A1.al' (n := 1) (.cells #[.int .i64 K2, .string B2] 26)
    replace X1 : Arr _ _ 3 _ := X1.al' (n := 2) (.cells #[.int .i64 K2, .string B2] 26)
    replace X2 : Arr _ _ 3 _ := X2.al' (n := 2) (.cells #[.int .i64 K2, .string B2] 26)
    replace X3 : Arr _ _ 3 _ := X3.al' (n := 2) (.cells #[.int .i64 K2, .string B2] 26)
    replace X4 : Arr _ _ 2 _ := X4.al' (n := 1) (.cells #[.int .i64 K2, .string B2] 26)
    replace X5 : Arr _ _ 3 _ := X5.al' (n := 2) (.cells #[.int .i64 K2, .string B2] 26)
    replace B0 := Bel.al B0 (.cells #[.int .i64 K2, .string B2] 26)
    obtain ⟨g0, g1, g2⟩ := X1.sd
    obtain ⟨g3, g4, g5⟩ := X2.sd
    obtain ⟨g6, g7, g8⟩ := X3.sd
    obtain ⟨g9, g10, g11⟩ := X5.sd
    have n0 := X4.cv 0 (by omega) (.int .i64 K2) rfl
    have n1 := X4.cv 1 (by omega) (.string B2) rfl
    have n2 := X6.cv 0 (by omega) (.int .i64 K2) rfl
    have n3 := X6.cv 1 (by omega) (.string B2) rfl
    go_wp2_with (go_at_call 7; refine (CA _).mono ?_; rintro e w9 ⟨rfl, b9⟩)
    go_ret
    exact ⟨rfl, Bel.call B0 b9⟩
  · clear hp pc
    go_upto_region 3 with (first | (go_at_call 6; refine (CF _).mono ?_; rintro e w1 ⟨rfl, rfl⟩))
    generalize (w.alloc (.cells #[.string key, .string iv, .int .u64 q] 24)).alloc (.cells #[.int .i64 k, .string b] 26) = w0 at *
    obtain ⟨e0, e1, e2⟩ := A0.sd
    have m0 := A1.cv 0 (by omega) (.int .i64 k) rfl
    have m1 := A1.cv 1 (by omega) (.string b) rfl
    go_wp2_with fail
    refine (C1 _).mono ?_
    rintro e w1 ⟨rfl, b1⟩
    clear e0 e1 e2 m0 m1
    replace A0 : Arr _ _ 3 _ := A0.to' (n := 2) b1
    replace A1 : Arr _ _ 2 _ := A1.to' (n := 1) b1
    replace B0 := Bel.call B0 b1
    clear b1
    obtain ⟨e0, e1, e2⟩ := A0.sd
    have m0 := A1.cv 0 (by omega) (.int .i64 k) rfl
    have m1 := A1.cv 1 (by omega) (.string b) rfl
    go_wp2_with fail
    refine (C2 _).mono ?_
    rintro e w2 ⟨rfl, b2⟩
    clear e0 e1 e2 m0 m1
    replace A0 : Arr _ _ 3 _ := A0.to' (n := 2) b2
    replace A1 : Arr _ _ 2 _ := A1.to' (n := 1) b2
    replace B0 := Bel.call B0 b2
    clear b2
    obtain ⟨e0, e1, e2⟩ := A0.sd
    have m0 := A1.cv 0 (by omega) (.int .i64 k) rfl
    have m1 := A1.cv 1 (by omega) (.string b) rfl
    go_wp2_with fail
    refine (C3 _).mono ?_
    rintro e w3 ⟨rfl, b3⟩
    clear e0 e1 e2 m0 m1
    replace A0 : Arr _ _ 3 _ := A0.to' (n := 2) b3
    replace A1 : Arr _ _ 2 _ := A1.to' (n := 1) b3
    replace B0 := Bel.call B0 b3
    clear b3
    have X1 := Arr.new w3 _ 24 _ rfl _ 3 (sd3_at key iv Q)
    replace A0 : Arr _ _ 3 _ := A0.al' (n := 2) (.cells #[.string key, .string iv, .int .u64 Q] 24)
    replace A1 : Arr _ _ 2 _ := A1.al' (n := 1) (.cells #[.string key, .string iv, .int .u64 Q] 24)
    replace B0 := Bel.al B0 (.cells #[.string key, .string iv, .int .u64 Q] 24)
    obtain ⟨e0, e1, e2⟩ := A0.sd
    have m0 := A1.cv 0 (by omega) (.int .i64 k) rfl
    have m1 := A1.cv 1 (by omega) (.string b) rfl
    go_wp2_with fail
    refine (C4 _).mono ?_
    rintro e w4 ⟨rfl, b4⟩
    clear e0 e1 e2 m0 m1
    replace A0 : Arr _ _ 3 _ := A0.to' (n := 2) b4
    replace A1 : Arr _ _ 2 _ := A1.to' (n := 1) b4
    replace X1 : Arr _ _ 3 _ := X1.to' (n := 2) b4
    replace B0 := Bel.call B0 b4
    clear b4
    have X2 := Arr.new w4 _ 24 _ rfl _ 3 (sd3_at key iv Q)
    replace A0 : Arr _ _ 3 _ := A0.al' (n := 2) (.cells #[.string key, .string iv, .int .u64 Q] 24)
    replace A1 : Arr _ _ 2 _ := A1.al' (n := 1) (.cells #[.string key, .string iv, .int .u64 Q] 24)
    replace X1 : Arr _ _ 3 _ := X1.al' (n := 2) (.cells #[.string key, .string iv, .int .u64 Q] 24)
    replace B0 := Bel.al B0 (.cells #[.string key, .string iv, .int .u64 Q] 24)
    obtain ⟨e0, e1, e2⟩ := A0.sd
    have m0 := A1.cv 0 (by omega) (.int .i64 k) rfl
    have m1 := A1.cv 1 (by omega) (.string b) rfl
    go_wp2_with fail
    refine (C5 _).mono ?_
    rintro e w5 ⟨rfl, b5⟩
    clear e0 e1 e2 m0 m1
    replace A0 : Arr _ _ 3 _ := A0.to' (n := 2) b5
    replace A1 : Arr _ _ 2 _ := A1.to' (n := 1) b5
    replace X1 : Arr _ _ 3 _ := X1.to' (n := 2) b5
    replace X2 : Arr _ _ 3 _ := X2.to' (n := 2) b5
    replace B0 := Bel.call B0 b5
    clear b5
    have X3 := Arr.new w5 _ 24 _ rfl _ 3 (sd3_at key iv U)
    replace A0 : Arr _ _ 3 _ := A0.al' (n := 2) (.cells #[.string key, .string iv, .int .u64 U] 24)
    replace A1 : Arr _ _ 2 _ := A1.al' (n := 1) (.cells #[.string key, .string iv, .int .u64 U] 24)
    replace X1 : Arr _ _ 3 _ := X1.al' (n := 2) (.cells #[.string key, .string iv, .int .u64 U] 24)
    replace X2 : Arr _ _ 3 _ := X2.al' (n := 2) (.cells #[.string key, .string iv, .int .u64 U] 24)
    replace B0 := Bel.al B0 (.cells #[.string key, .string iv, .int .u64 U] 24)
    have X4 := Arr.new (w5.alloc (.cells #[.string key, .string iv, .int .u64 U] 24)) _ 26 (w5.heap.size + 1) (by simp) _ 2 (rc2_at K2 B2)
    replace A0 : Arr _ _ 3 _ := A0.al' (n := 2) (.cells #[.int .i64 K2, .string B2] 26)
    replace A1 : Arr _ _ 2 _ := A1.al' (n := 1) (.cells #[.int .i64 K2, .string B2] 26)
    replace X1 : Arr _ _ 3 _ := X1.al' (n := 2) (.cells #[.int .i64 K2, .string B2] 26)
    replace X2 : Arr _ _ 3 _ := X2.al' (n := 2) (.cells #[.int .i64 K2, .string B2] 26)
    replace X3 : Arr _ _ 3 _ := X3.al' (n := 2) (.cells #[.int .i64 K2, .string B2] 26)
    replace B0 := Bel.al B0 (.cells #[.int .i64 K2, .string B2] 26)
    obtain ⟨e0, e1, e2⟩ := A0.sd
    have m0 := A1.cv 0 (by omega) (.int .i64 k) rfl
    have m1 := A1.cv 1 (by omega) (.string b) rfl
    go_wp2_with fail
    refine (C6 _).mono ?_
    rintro e w6 ⟨rfl, b6⟩
    clear e0 e1 e2 m0 m1
    replace A0 : Arr _ _ 3 _ := A0.to' (n := 2) b6
    replace A1 : Arr _ _ 2 _ := A1.to' (n := 1) b6
    replace X1 : Arr _ _ 3 _ := X1.to' (n := 2) b6
    replace X2 : Arr _ _ 3 _ := X2.to' (n := 2) b6
    replace X3 : Arr _ _ 3 _ := X3.to' (n := 2) b6
    replace X4 : Arr _ _ 2 _ := X4.to' (n := 1) b6
    replace B0 := Bel.call B0 b6
    clear b6
    have X5 := Arr.new w6 _ 24 _ rfl _ 3 (sd3_at key iv U)
    replace A0 : Arr _ _ 3 _ := A0.al' (n := 2) (.cells #[.string key, .string iv, .int .u64 U] 24)
    replace A1 : Arr _ _ 2 _ := A1.al' (n := 1) (.cells #[.string key, .string iv, .int .u64 U] 24)
    replace X1 : Arr _ _ 3 _ := X1.al' (n := 2) (.cells #[.string key, .string iv, .int .u64 U] 24)
    replace X2 : Arr _ _ 3 _ := X2.al' (n := 2) (.cells #[.string key, .string iv, .int .u64 U] 24)
    replace X3 : Arr _ _ 3 _ := X3.al' (n := 2) (.cells #[.string key, .string iv, .int .u64 U] 24)
    replace X4 : Arr _ _ 2 _ := X4.al' (n := 1) (.cells #[.string key, .string iv, .int .u64 U] 24)
    replace B0 := Bel.al B0 (.cells #[.string key, .string iv, .int .u64 U] 24)
    have X6 := Arr.new (w6.alloc (.cells #[.string key, .string iv, .int .u64 U] 24)) _ 26 (w6.heap.size + 1) (by simp) _ 2 (rc2_at K2 B2)
    replace A0 : Arr _ _ 3 _ := A0.al' (n := 2) (.cells #[.int .i64 K2, .string B2] 26)
    replace A1 : Arr _ _ 2 _ := A1.al' (n := 1) (.cells #[.int .i64 K2, .string B2] 26)
    replace X1 : Arr _ _ 3 _ := X1.al' (n := 2) (.cells #[.int .i64 K2, .string B2] 26)
    replace X2 : Arr _ _ 3 _ := X2.al' (n := 2) (.cells #[.int .i64 K2, .string B2] 26)
    replace X3 : Arr _ _ 3 _ := X3.al' (n := 2) (.cells #[.int .i64 K2, .string B2] 26)
    replace X4 : Arr _ _ 2 _ := X4.al' (n := 1) (.cells #[.int .i64 K2, .string B2] 26)
    replace X5 : Arr _ _ 3 _ := X5.al' (n := 2) (.cells #[.int .i64 K2, .string B2] 26)
    replace B0 := Bel.al B0 (.cells #[.int .i64 K2, .string B2] 26)
    obtain ⟨g0, g1, g2⟩ := X1.sd
    obtain ⟨g3, g4, g5⟩ := X2.sd
    obtain ⟨g6, g7, g8⟩ := X3.sd
    obtain ⟨g9, g10, g11⟩ := X5.sd
    have n0 := X4.cv 0 (by omega) (.int .i64 K2) rfl
    have n1 := X4.cv 1 (by omega) (.string B2) rfl
    have n2 := X6.cv 0 (by omega) (.int .i64 K2) rfl
    have n3 := X6.cv 1 (by omega) (.string B2) rfl
    go_wp2_with (go_at_call 7; refine (CA _).mono ?_; rintro e w9 ⟨rfl, b9⟩)
    go_ret
    exact ⟨rfl, Bel.call B0 b9⟩
theorem upV_is (key iv : ByteArray) (q k : Int) (b : ByteArray) : ∃ K B, upV key iv q k b = rcV K B := by
  unfold upV
  split
  · exact wiV_is _
  · exact ⟨_, _, rfl⟩
theorem RecSeals_any (key iv b : ByteArray) (q k p : Int) (q0 : 0 ≤ q) (q1 : q < 18446744073709551616) (hb : b.size ≤ 9223372036854775807) (w : World) :
    Calls Tryz.prog 3 #[sdV key iv q, rcV k b, .int .i64 p] w fun e w' => e = .returned (.bool true) ∧ Below w.heap.size w w' := by
  by_cases h : fwB b = false ∨ (300 < p ∧ p ≤ 16384)
  · exact RecSeals_1 key iv b q k p w h awake_any
  · have hf : fwB b = true := by
      cases hh : fwB b with
      | true => rfl
      | false => exact absurd (.inl hh) h
    obtain ⟨K, B, e⟩ := upV_is key iv q k b
    have C5 := fun W => Unprotect_any key iv b k q q0 q1 W
    have C6 := fun W => rUnprotect_any key iv b k q q0 q1 hb W
    rw [e] at C5 C6
    exact RecSeals_2 key iv b _ _ _ q k p _ _ _ _ _ _ w hf (fun c => h (.inr c)) (fun W => Nonce_any key iv q q0 q1 W) (fun W => rNonce_any key iv q q0 q1 W) (fun W => Protect_any key iv b k q p q0 q1 W) (fun W => rProtect_any key iv b k q p q0 q1 W) C5 C6 awake_any
end Go.Proofs.YtjaljnfijhfkcaaGreatDoor
