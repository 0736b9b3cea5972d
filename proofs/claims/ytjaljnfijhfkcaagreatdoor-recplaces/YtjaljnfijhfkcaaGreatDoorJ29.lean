/- RecBack. -/
import Derived.Test.YtjaljnfijhfkcaaGreatDoorJ27
import Derived.Test.YtjaljnfijhfkcaaGreatDoorJ26
set_option linter.all false
set_option maxRecDepth 100000
namespace Go.Proofs.YtjaljnfijhfkcaaGreatDoor
open Go.RowKit Go.Sort Lin
set_option maxHeartbeats 4000000 in
theorem RecBack_1 (key iv b more : ByteArray) (q k p : Int) (w : World) (hc : fwB b = false ∨ (300 < p ∧ p ≤ 16384) ∨ 1000 < more.size)
    (CA : ∀ W, Calls Tryz.prog 7 #[] W fun e w' => e = .returned (.bool true) ∧ Below W.heap.size W w') :
    Calls Tryz.prog 4 #[sdV key iv q, rcV k b, .int .i64 p, .string more] w fun e w' => e = .returned (.bool true) ∧ Below w.heap.size w w' := by
  have CF := fun W => few_any b W
  unfold sdV rcV
  cases hf : fwB b with
  | false =>
    rw [hf] at CF
    clear hc hf
    go_enter Tryz.func4, Tryz.ntmps4
    go_wp2_with (first | (go_at_call 6; refine (CF _).mono ?_; rintro e w1 ⟨rfl, rfl⟩) | (go_at_call 7; refine (CA _).mono ?_; rintro e w9 ⟨rfl, b9⟩))
    go_ret
    exact ⟨rfl, Bel.call (by go_grown) b9⟩
  | true =>
    rw [hf] at CF
    by_cases h1 : 300 < p
    · by_cases h2 : p ≤ 16384
      · clear hc hf
        go_enter Tryz.func4, Tryz.ntmps4
        go_wp2_with (first | (go_at_call 6; refine (CF _).mono ?_; rintro e w1 ⟨rfl, rfl⟩) | (go_at_call 7; refine (CA _).mono ?_; rintro e w9 ⟨rfl, b9⟩))
        go_ret
        exact ⟨rfl, Bel.call (by go_grown) b9⟩
      · have h3 : (1000 : Int) < (more.size : Int) := by
          rcases hc with h | h | h
          · rw [h] at hf; cases hf
          · exact absurd h.2 h2
          · omega
        clear hc hf
        go_enter Tryz.func4, Tryz.ntmps4
        go_wp2_with (first | (go_at_call 6; refine (CF _).mono ?_; rintro e w1 ⟨rfl, rfl⟩) | (go_at_call 7; refine (CA _).mono ?_; rintro e w9 ⟨rfl, b9⟩))
        go_ret
        exact ⟨rfl, Bel.call (by go_grown) b9⟩
    · have h3 : (1000 : Int) < (more.size : Int) := by
        rcases hc with h | h | h
        · rw [h] at hf; cases hf
        · exact absurd h.1 h1
        · omega
      clear hc hf
      go_enter Tryz.func4, Tryz.ntmps4
      go_wp2_with (first | (go_at_call 6; refine (CF _).mono ?_; rintro e w1 ⟨rfl, rfl⟩) | (go_at_call 7; refine (CA _).mono ?_; rintro e w9 ⟨rfl, b9⟩))
      go_ret
      exact ⟨rfl, Bel.call (by go_grown) b9⟩
set_option maxHeartbeats 8000000 in
theorem RecBack_2 (key iv b more A T S : ByteArray) (q k p : Int) (q0 : 0 ≤ q) (q1 : q < 18446744073709551615) (zA : (A.size : Int) ≤ 100000) (zT : (T.size : Int) ≤ 100000) (w : World) (hf : fwB b = true) (hp : ¬ (300 < p ∧ p ≤ 16384)) (hm : more.size ≤ 1000)
    (C1 : ∀ W, Calls Tryz.prog 14 #[rcV k b] W fun e w' => e = .returned (.tuple #[.string A, .int .i64 0]) ∧ Below W.heap.size W w')
    (C2 : ∀ W, Calls Tryz.prog 15 #[.string (A ++ more)] W fun e w' => e = .returned (.tuple #[rcV k b, .string more, .int .i64 0]) ∧ Below W.heap.size W w')
    (C3 : ∀ W, Calls Tryz.prog 10 #[sdV key iv q, rcV k b, .int .i64 p] W fun e w' => e = .returned (.tuple #[sdV key iv (q + 1), .string T, .int .i64 0]) ∧ Below W.heap.size W w')
    (C4 : ∀ W, Calls Tryz.prog 15 #[.string (T ++ more)] W fun e w' => e = .returned (.tuple #[rcV 23 S, .string more, .int .i64 0]) ∧ Below W.heap.size W w')
    (C5 : ∀ W, Calls Tryz.prog 12 #[sdV key iv q, rcV 23 S] W fun e w' => e = .returned (.tuple #[sdV key iv (q + 1), rcV k b, .int .i64 0]) ∧ Below W.heap.size W w')
    (CA : ∀ W, Calls Tryz.prog 7 #[] W fun e w' => e = .returned (.bool true) ∧ Below W.heap.size W w') :
    Calls Tryz.prog 4 #[sdV key iv q, rcV k b, .int .i64 p, .string more] w fun e w' => e = .returned (.bool true) ∧ Below w.heap.size w w' := by
  have CF := fun W => few_any b W
  rw [hf] at CF
  have mi : (more.size : Int) ≤ 1000 := by omega
  have mj : ¬ (1000 : Int) < (more.size : Int) := by omega
  have A0 : Arr ((w.alloc (.cells #[.string key, .string iv, .int .u64 q] 24)).alloc (.cells #[.int .i64 k, .string b] 26)) w.heap.size 3 (sd3 key iv q) :=
    Arr.al' (n := 2) (Arr.new w _ 24 _ rfl _ 3 (sd3_at key iv q)) _
  have A1 : Arr ((w.alloc (.cells #[.string key, .string iv, .int .u64 q] 24)).alloc (.cells #[.int .i64 k, .string b] 26)) (w.heap.size + 1) 2 (rc2 k b) :=
    Arr.new (w.alloc (.cells #[.string key, .string iv, .int .u64 q] 24)) _ 26 (w.heap.size + 1) (by simp) _ 2 (rc2_at k b)
  have B0 : Below w.heap.size w ((w.alloc (.cells #[.string key, .string iv, .int .u64 q] 24)).alloc (.cells #[.int .i64 k, .string b] 26)) := by go_grown
  unfold sdV rcV at *
  clear hf
  go_enter Tryz.func4, Tryz.ntmps4
  by_cases hp1 : 300 < p
  · have hp3 : ¬ p ≤ 16384 := by omega
    clear hp hm
    go_upto_region 3 with (first | (go_at_call 6; refine (CF _).mono ?_; rintro e w1 ⟨rfl, rfl⟩))
    generalize (w.alloc (.cells #[.string key, .string iv, .int .u64 q] 24)).alloc (.cells #[.int .i64 k, .string b] 26) = w0 at *
    obtain ⟨a0c0, a0c1, a0c2⟩ := A0.sd
    have a1c0 := A1.cv 0 (by omega) (.int .i64 k) rfl
    have a1c1 := A1.cv 1 (by omega) (.string b) rfl
    go_wp2_with fail
    refine (C1 _).mono ?_
    rintro e w1 ⟨rfl, b1⟩
    clear a0c0 a0c1 a0c2 a1c0 a1c1
    replace A0 : Arr _ _ 3 _ := A0.to' (n := 2) b1
    replace A1 : Arr _ _ 2 _ := A1.to' (n := 1) b1
    replace B0 := Bel.call B0 b1
    clear b1
    obtain ⟨a0c0, a0c1, a0c2⟩ := A0.sd
    have a1c0 := A1.cv 0 (by omega) (.int .i64 k) rfl
    have a1c1 := A1.cv 1 (by omega) (.string b) rfl
    go_wp2_with fail
    refine (C2 _).mono ?_
    rintro e w2 ⟨rfl, b2⟩
    clear a0c0 a0c1 a0c2 a1c0 a1c1
    replace A0 : Arr _ _ 3 _ := A0.to' (n := 2) b2
    replace A1 : Arr _ _ 2 _ := A1.to' (n := 1) b2
    replace B0 := Bel.call B0 b2
    clear b2
    have X1 := Arr.new w2 _ 26 (w2.heap.size) (by rfl) _ 2 (rc2_at k b)
    replace A0 : Arr _ _ 3 _ := A0.al' (n := 2) (.cells #[.int .i64 k, .string b] 26)
    replace A1 : Arr _ _ 2 _ := A1.al' (n := 1) (.cells #[.int .i64 k, .string b] 26)
    replace B0 := Bel.al B0 (.cells #[.int .i64 k, .string b] 26)
    obtain ⟨a0c0, a0c1, a0c2⟩ := A0.sd
    have a1c0 := A1.cv 0 (by omega) (.int .i64 k) rfl
    have a1c1 := A1.cv 1 (by omega) (.string b) rfl
    have x1c0 := X1.cv 0 (by omega) (.int .i64 k) rfl
    have x1c1 := X1.cv 1 (by omega) (.string b) rfl
    go_wp2_with fail
    refine (C3 _).mono ?_
    rintro e w3 ⟨rfl, b3⟩
    clear a0c0 a0c1 a0c2 a1c0 a1c1 x1c0 x1c1
    replace A0 : Arr _ _ 3 _ := A0.to' (n := 2) b3
    replace A1 : Arr _ _ 2 _ := A1.to' (n := 1) b3
    replace X1 : Arr _ _ 2 _ := X1.to' (n := 1) b3
    replace B0 := Bel.call B0 b3
    clear b3
    have X2 := Arr.new w3 _ 24 (w3.heap.size) (by rfl) _ 3 (sd3_at key iv (q + 1))
    replace A0 : Arr _ _ 3 _ := A0.al' (n := 2) (.cells #[.string key, .string iv, .int .u64 (q + 1)] 24)
    replace A1 : Arr _ _ 2 _ := A1.al' (n := 1) (.cells #[.string key, .string iv, .int .u64 (q + 1)] 24)
    replace X1 : Arr _ _ 2 _ := X1.al' (n := 1) (.cells #[.string key, .string iv, .int .u64 (q + 1)] 24)
    replace B0 := Bel.al B0 (.cells #[.string key, .string iv, .int .u64 (q + 1)] 24)
    obtain ⟨a0c0, a0c1, a0c2⟩ := A0.sd
    have a1c0 := A1.cv 0 (by omega) (.int .i64 k) rfl
    have a1c1 := A1.cv 1 (by omega) (.string b) rfl
    have x1c0 := X1.cv 0 (by omega) (.int .i64 k) rfl
    have x1c1 := X1.cv 1 (by omega) (.string b) rfl
    obtain ⟨x2c0, x2c1, x2c2⟩ := X2.sd
    go_wp2_with fail
    refine (C4 _).mono ?_
    rintro e w4 ⟨rfl, b4⟩
    clear a0c0 a0c1 a0c2 a1c0 a1c1 x1c0 x1c1 x2c0 x2c1 x2c2
    replace A0 : Arr _ _ 3 _ := A0.to' (n := 2) b4
    replace A1 : Arr _ _ 2 _ := A1.to' (n := 1) b4
    replace X1 : Arr _ _ 2 _ := X1.to' (n := 1) b4
    replace X2 : Arr _ _ 3 _ := X2.to' (n := 2) b4
    replace B0 := Bel.call B0 b4
    clear b4
    have X3 := Arr.new w4 _ 26 (w4.heap.size) (by rfl) _ 2 (rc2_at 23 S)
    replace A0 : Arr _ _ 3 _ := A0.al' (n := 2) (.cells #[.int .i64 23, .string S] 26)
    replace A1 : Arr _ _ 2 _ := A1.al' (n := 1) (.cells #[.int .i64 23, .string S] 26)
    replace X1 : Arr _ _ 2 _ := X1.al' (n := 1) (.cells #[.int .i64 23, .string S] 26)
    replace X2 : Arr _ _ 3 _ := X2.al' (n := 2) (.cells #[.int .i64 23, .string S] 26)
    replace B0 := Bel.al B0 (.cells #[.int .i64 23, .string S] 26)
    obtain ⟨a0c0, a0c1, a0c2⟩ := A0.sd
    have a1c0 := A1.cv 0 (by omega) (.int .i64 k) rfl
    have a1c1 := A1.cv 1 (by omega) (.string b) rfl
    have x1c0 := X1.cv 0 (by omega) (.int .i64 k) rfl
    have x1c1 := X1.cv 1 (by omega) (.string b) rfl
    obtain ⟨x2c0, x2c1, x2c2⟩ := X2.sd
    have x3c0 := X3.cv 0 (by omega) (.int .i64 23) rfl
    have x3c1 := X3.cv 1 (by omega) (.string S) rfl
    go_wp2_with fail
    refine (C5 _).mono ?_
    rintro e w5 ⟨rfl, b5⟩
    clear a0c0 a0c1 a0c2 a1c0 a1c1 x1c0 x1c1 x2c0 x2c1 x2c2 x3c0 x3c1
    replace A0 : Arr _ _ 3 _ := A0.to' (n := 2) b5
    replace A1 : Arr _ _ 2 _ := A1.to' (n := 1) b5
    replace X1 : Arr _ _ 2 _ := X1.to' (n := 1) b5
    replace X2 : Arr _ _ 3 _ := X2.to' (n := 2) b5
    replace X3 : Arr _ _ 2 _ := X3.to' (n := 1) b5
    replace B0 := Bel.call B0 b5
    clear b5
    have X4 := Arr.new w5 _ 24 (w5.heap.size) (by rfl) _ 3 (sd3_at key iv (q + 1))
    replace A0 : Arr _ _ 3 _ := A0.al' (n := 2) (.cells #[.string key, .string iv, .int .u64 (q + 1)] 24)
    replace A1 : Arr _ _ 2 _ := A1.al' (n := 1) (.cells #[.string key, .string iv, .int .u64 (q + 1)] 24)
    replace X1 : Arr _ _ 2 _ := X1.al' (n := 1) (.cells #[.string key, .string iv, .int .u64 (q + 1)] 24)
    replace X2 : Arr _ _ 3 _ := X2.al' (n := 2) (.cells #[.string key, .string iv, .int .u64 (q + 1)] 24)
    replace X3 : Arr _ _ 2 _ := X3.al' (n := 1) (.cells #[.string key, .string iv, .int .u64 (q + 1)] 24)
    replace B0 := Bel.al B0 (.cells #[.string key, .string iv, .int .u64 (q + 1)] 24)
    have X5 := Arr.new (w5.alloc (.cells #[.string key, .string iv, .int .u64 (q + 1)] 24)) _ 26 (w5.heap.size + 1) (by simp) _ 2 (rc2_at k b)
    replace A0 : Arr _ _ 3 _ := A0.al' (n := 2) (.cells #[.int .i64 k, .string b] 26)
    replace A1 : Arr _ _ 2 _ := A1.al' (n := 1) (.cells #[.int .i64 k, .string b] 26)
    replace X1 : Arr _ _ 2 _ := X1.al' (n := 1) (.cells #[.int .i64 k, .string b] 26)
    replace X2 : Arr _ _ 3 _ := X2.al' (n := 2) (.cells #[.int .i64 k, .string b] 26)
    replace X3 : Arr _ _ 2 _ := X3.al' (n := 1) (.cells #[.int .i64 k, .string b] 26)
    replace X4 : Arr _ _ 3 _ := X4.al' (n := 2) (.cells #[.int .i64 k, .string b] 26)
    replace B0 := Bel.al B0 (.cells #[.int .i64 k, .string b] 26)
    obtain ⟨a0c0, a0c1, a0c2⟩ := A0.sd
    have a1c0 := A1.cv 0 (by omega) (.int .i64 k) rfl
    have a1c1 := A1.cv 1 (by omega) (.string b) rfl
    have x1c0 := X1.cv 0 (by omega) (.int .i64 k) rfl
    have x1c1 := X1.cv 1 (by omega) (.string b) rfl
    obtain ⟨x2c0, x2c1, x2c2⟩ := X2.sd
    have x3c0 := X3.cv 0 (by omega) (.int .i64 23) rfl
    have x3c1 := X3.cv 1 (by omega) (.string S) rfl
    obtain ⟨x4c0, x4c1, x4c2⟩ := X4.sd
    have x5c0 := X5.cv 0 (by omega) (.int .i64 k) rfl
    have x5c1 := X5.cv 1 (by omega) (.string b) rfl
    go_wp2_with (go_at_call 7; refine (CA _).mono ?_; rintro e w9 ⟨rfl, b9⟩)
    go_ret
    exact ⟨rfl, Bel.call B0 b9⟩
  · clear hp hm
    go_upto_region 3 with (first | (go_at_call 6; refine (CF _).mono ?_; rintro e w1 ⟨rfl, rfl⟩))
    generalize (w.alloc (.cells #[.string key, .string iv, .int .u64 q] 24)).alloc (.cells #[.int .i64 k, .string b] 26) = w0 at *
    obtain ⟨a0c0, a0c1, a0c2⟩ := A0.sd
    have a1c0 := A1.cv 0 (by omega) (.int .i64 k) rfl
    have a1c1 := A1.cv 1 (by omega) (.string b) rfl
    go_wp2_with fail
    refine (C1 _).mono ?_
    rintro e w1 ⟨rfl, b1⟩
    clear a0c0 a0c1 a0c2 a1c0 a1c1
    replace A0 : Arr _ _ 3 _ := A0.to' (n := 2) b1
    replace A1 : Arr _ _ 2 _ := A1.to' (n := 1) b1
    replace B0 := Bel.call B0 b1
    clear b1
    obtain ⟨a0c0, a0c1, a0c2⟩ := A0.sd
    have a1c0 := A1.cv 0 (by omega) (.int .i64 k) rfl
    have a1c1 := A1.cv 1 (by omega) (.string b) rfl
    go_wp2_with fail
    refine (C2 _).mono ?_
    rintro e w2 ⟨rfl, b2⟩
    clear a0c0 a0c1 a0c2 a1c0 a1c1
    replace A0 : Arr _ _ 3 _ := A0.to' (n := 2) b2
    replace A1 : Arr _ _ 2 _ := A1.to' (n := 1) b2
    replace B0 := Bel.call B0 b2
    clear b2
    have X1 := Arr.new w2 _ 26 (w2.heap.size) (by rfl) _ 2 (rc2_at k b)
    replace A0 : Arr _ _ 3 _ := A0.al' (n := 2) (.cells #[.int .i64 k, .string b] 26)
    replace A1 : Arr _ _ 2 _ := A1.al' (n := 1) (.cells #[.int .i64 k, .string b] 26)
    replace B0 := Bel.al B0 (.cells #[.int .i64 k, .string b] 26)
    obtain ⟨a0c0, a0c1, a0c2⟩ := A0.sd
    have a1c0 := A1.cv 0 (by omega) (.int .i64 k) rfl
    have a1c1 := A1.cv 1 (by omega) (.string b) rfl
    have x1c0 := X1.cv 0 (by omega) (.int .i64 k) rfl
    have x1c1 := X1.cv 1 (by omega) (.string b) rfl
    go_wp2_with fail
    refine (C3 _).mono ?_
    rintro e w3 ⟨rfl, b3⟩
    clear a0c0 a0c1 a0c2 a1c0 a1c1 x1c0 x1c1
    replace A0 : Arr _ _ 3 _ := A0.to' (n := 2) b3
    replace A1 : Arr _ _ 2 _ := A1.to' (n := 1) b3
    replace X1 : Arr _ _ 2 _ := X1.to' (n := 1) b3
    replace B0 := Bel.call B0 b3
    clear b3
    have X2 := Arr.new w3 _ 24 (w3.heap.size) (by rfl) _ 3 (sd3_at key iv (q + 1))
    replace A0 : Arr _ _ 3 _ := A0.al' (n := 2) (.cells #[.string key, .string iv, .int .u64 (q + 1)] 24)
    replace A1 : Arr _ _ 2 _ := A1.al' (n := 1) (.cells #[.string key, .string iv, .int .u64 (q + 1)] 24)
    replace X1 : Arr _ _ 2 _ := X1.al' (n := 1) (.cells #[.string key, .string iv, .int .u64 (q + 1)] 24)
    replace B0 := Bel.al B0 (.cells #[.string key, .string iv, .int .u64 (q + 1)] 24)
    obtain ⟨a0c0, a0c1, a0c2⟩ := A0.sd
    have a1c0 := A1.cv 0 (by omega) (.int .i64 k) rfl
    have a1c1 := A1.cv 1 (by omega) (.string b) rfl
    have x1c0 := X1.cv 0 (by omega) (.int .i64 k) rfl
    have x1c1 := X1.cv 1 (by omega) (.string b) rfl
    obtain ⟨x2c0, x2c1, x2c2⟩ := X2.sd
    go_wp2_with fail
    refine (C4 _).mono ?_
    rintro e w4 ⟨rfl, b4⟩
    clear a0c0 a0c1 a0c2 a1c0 a1c1 x1c0 x1c1 x2c0 x2c1 x2c2
    replace A0 : Arr _ _ 3 _ := A0.to' (n := 2) b4
    replace A1 : Arr _ _ 2 _ := A1.to' (n := 1) b4
    replace X1 : Arr _ _ 2 _ := X1.to' (n := 1) b4
    replace X2 : Arr _ _ 3 _ := X2.to' (n := 2) b4
    replace B0 := Bel.call B0 b4
    clear b4
    have X3 := Arr.new w4 _ 26 (w4.heap.size) (by rfl) _ 2 (rc2_at 23 S)
    replace A0 : Arr _ _ 3 _ := A0.al' (n := 2) (.cells #[.int .i64 23, .string S] 26)
    replace A1 : Arr _ _ 2 _ := A1.al' (n := 1) (.cells #[.int .i64 23, .string S] 26)
    replace X1 : Arr _ _ 2 _ := X1.al' (n := 1) (.cells #[.int .i64 23, .string S] 26)
    replace X2 : Arr _ _ 3 _ := X2.al' (n := 2) (.cells #[.int .i64 23, .string S] 26)
    replace B0 := Bel.al B0 (.cells #[.int .i64 23, .string S] 26)
    obtain ⟨a0c0, a0c1, a0c2⟩ := A0.sd
    have a1c0 := A1.cv 0 (by omega) (.int .i64 k) rfl
    have a1c1 := A1.cv 1 (by omega) (.string b) rfl
    have x1c0 := X1.cv 0 (by omega) (.int .i64 k) rfl
    have x1c1 := X1.cv 1 (by omega) (.string b) rfl
    obtain ⟨x2c0, x2c1, x2c2⟩ := X2.sd
    have x3c0 := X3.cv 0 (by omega) (.int .i64 23) rfl
    have x3c1 := X3.cv 1 (by omega) (.string S) rfl
    go_wp2_with fail
    refine (C5 _).mono ?_
    rintro e w5 ⟨rfl, b5⟩
    clear a0c0 a0c1 a0c2 a1c0 a1c1 x1c0 x1c1 x2c0 x2c1 x2c2 x3c0 x3c1
    replace A0 : Arr _ _ 3 _ := A0.to' (n := 2) b5
    replace A1 : Arr _ _ 2 _ := A1.to' (n := 1) b5
    replace X1 : Arr _ _ 2 _ := X1.to' (n := 1) b5
    replace X2 : Arr _ _ 3 _ := X2.to' (n := 2) b5
    replace X3 : Arr _ _ 2 _ := X3.to' (n := 1) b5
    replace B0 := Bel.call B0 b5
    clear b5
    have X4 := Arr.new w5 _ 24 (w5.heap.size) (by rfl) _ 3 (sd3_at key iv (q + 1))
    replace A0 : Arr _ _ 3 _ := A0.al' (n := 2) (.cells #[.string key, .string iv, .int .u64 (q + 1)] 24)
    replace A1 : Arr _ _ 2 _ := A1.al' (n := 1) (.cells #[.string key, .string iv, .int .u64 (q + 1)] 24)
    replace X1 : Arr _ _ 2 _ := X1.al' (n := 1) (.cells #[.string key, .string iv, .int .u64 (q + 1)] 24)
    replace X2 : Arr _ _ 3 _ := X2.al' (n := 2) (.cells #[.string key, .string iv, .int .u64 (q + 1)] 24)
    replace X3 : Arr _ _ 2 _ := X3.al' (n := 1) (.cells #[.string key, .string iv, .int .u64 (q + 1)] 24)
    replace B0 := Bel.al B0 (.cells #[.string key, .string iv, .int .u64 (q + 1)] 24)
    have X5 := Arr.new (w5.alloc (.cells #[.string key, .string iv, .int .u64 (q + 1)] 24)) _ 26 (w5.heap.size + 1) (by simp) _ 2 (rc2_at k b)
    replace A0 : Arr _ _ 3 _ := A0.al' (n := 2) (.cells #[.int .i64 k, .string b] 26)
    replace A1 : Arr _ _ 2 _ := A1.al' (n := 1) (.cells #[.int .i64 k, .string b] 26)
    replace X1 : Arr _ _ 2 _ := X1.al' (n := 1) (.cells #[.int .i64 k, .string b] 26)
    replace X2 : Arr _ _ 3 _ := X2.al' (n := 2) (.cells #[.int .i64 k, .string b] 26)
    replace X3 : Arr _ _ 2 _ := X3.al' (n := 1) (.cells #[.int .i64 k, .string b] 26)
    replace X4 : Arr _ _ 3 _ := X4.al' (n := 2) (.cells #[.int .i64 k, .string b] 26)
    replace B0 := Bel.al B0 (.cells #[.int .i64 k, .string b] 26)
    obtain ⟨a0c0, a0c1, a0c2⟩ := A0.sd
    have a1c0 := A1.cv 0 (by omega) (.int .i64 k) rfl
    have a1c1 := A1.cv 1 (by omega) (.string b) rfl
    have x1c0 := X1.cv 0 (by omega) (.int .i64 k) rfl
    have x1c1 := X1.cv 1 (by omega) (.string b) rfl
    obtain ⟨x2c0, x2c1, x2c2⟩ := X2.sd
    have x3c0 := X3.cv 0 (by omega) (.int .i64 23) rfl
    have x3c1 := X3.cv 1 (by omega) (.string S) rfl
    obtain ⟨x4c0, x4c1, x4c2⟩ := X4.sd
    have x5c0 := X5.cv 0 (by omega) (.int .i64 k) rfl
    have x5c1 := X5.cv 1 (by omega) (.string b) rfl
    go_wp2_with (go_at_call 7; refine (CA _).mono ?_; rintro e w9 ⟨rfl, b9⟩)
    go_ret
    exact ⟨rfl, Bel.call B0 b9⟩
set_option maxHeartbeats 8000000 in
theorem RecBack_3 (key iv b more A : ByteArray) (q k p r : Int) (hr : ¬ r = 0) (zA : (A.size : Int) ≤ 100000) (w : World) (hf : fwB b = true) (hp : ¬ (300 < p ∧ p ≤ 16384)) (hm : more.size ≤ 1000)
    (C1 : ∀ W, Calls Tryz.prog 14 #[rcV k b] W fun e w' => e = .returned (.tuple #[.string A, .int .i64 0]) ∧ Below W.heap.size W w')
    (C2 : ∀ W, Calls Tryz.prog 15 #[.string (A ++ more)] W fun e w' => e = .returned (.tuple #[rcV k b, .string more, .int .i64 0]) ∧ Below W.heap.size W w')
    (C3 : ∀ W, Calls Tryz.prog 10 #[sdV key iv q, rcV k b, .int .i64 p] W fun e w' => e = .returned (.tuple #[sdV key iv q, .string ⟨#[]⟩, .int .i64 r]) ∧ Below W.heap.size W w')
    (CA : ∀ W, Calls Tryz.prog 7 #[] W fun e w' => e = .returned (.bool true) ∧ Below W.heap.size W w') :
    Calls Tryz.prog 4 #[sdV key iv q, rcV k b, .int .i64 p, .string more] w fun e w' => e = .returned (.bool true) ∧ Below w.heap.size w w' := by
  have CF := fun W => few_any b W
  rw [hf] at CF
  have mi : (more.size : Int) ≤ 1000 := by omega
  have mj : ¬ (1000 : Int) < (more.size : Int) := by omega
  have A0 : Arr ((w.alloc (.cells #[.string key, .string iv, .int .u64 q] 24)).alloc (.cells #[.int .i64 k, .string b] 26)) w.heap.size 3 (sd3 key iv q) :=
    Arr.al' (n := 2) (Arr.new w _ 24 _ rfl _ 3 (sd3_at key iv q)) _
  have A1 : Arr ((w.alloc (.cells #[.string key, .string iv, .int .u64 q] 24)).alloc (.cells #[.int .i64 k, .string b] 26)) (w.heap.size + 1) 2 (rc2 k b) :=
    Arr.new (w.alloc (.cells #[.string key, .string iv, .int .u64 q] 24)) _ 26 (w.heap.size + 1) (by simp) _ 2 (rc2_at k b)
  have B0 : Below w.heap.size w ((w.alloc (.cells #[.string key, .string iv, .int .u64 q] 24)).alloc (.cells #[.int .i64 k, .string b] 26)) := by go_grown
  unfold sdV rcV at *
  clear hf
  go_enter Tryz.func4, Tryz.ntmps4
  by_cases hp1 : 300 < p
  · have hp3 : ¬ p ≤ 16384 := by omega
    clear hp hm
    go_upto_region 3 with (first | (go_at_call 6; refine (CF _).mono ?_; rintro e w1 ⟨rfl, rfl⟩))
    generalize (w.alloc (.cells #[.string key, .string iv, .int .u64 q] 24)).alloc (.cells #[.int .i64 k, .string b] 26) = w0 at *
    obtain ⟨a0c0, a0c1, a0c2⟩ := A0.sd
    have a1c0 := A1.cv 0 (by omega) (.int .i64 k) rfl
    have a1c1 := A1.cv 1 (by omega) (.string b) rfl
    go_wp2_with fail
    refine (C1 _).mono ?_
    rintro e w1 ⟨rfl, b1⟩
    clear a0c0 a0c1 a0c2 a1c0 a1c1
    replace A0 : Arr _ _ 3 _ := A0.to' (n := 2) b1
    replace A1 : Arr _ _ 2 _ := A1.to' (n := 1) b1
    replace B0 := Bel.call B0 b1
    clear b1
    obtain ⟨a0c0, a0c1, a0c2⟩ := A0.sd
    have a1c0 := A1.cv 0 (by omega) (.int .i64 k) rfl
    have a1c1 := A1.cv 1 (by omega) (.string b) rfl
    go_wp2_with fail
    refine (C2 _).mono ?_
    rintro e w2 ⟨rfl, b2⟩
    clear a0c0 a0c1 a0c2 a1c0 a1c1
    replace A0 : Arr _ _ 3 _ := A0.to' (n := 2) b2
    replace A1 : Arr _ _ 2 _ := A1.to' (n := 1) b2
    replace B0 := Bel.call B0 b2
    clear b2
    have X1 := Arr.new w2 _ 26 (w2.heap.size) (by rfl) _ 2 (rc2_at k b)
    replace A0 : Arr _ _ 3 _ := A0.al' (n := 2) (.cells #[.int .i64 k, .string b] 26)
    replace A1 : Arr _ _ 2 _ := A1.al' (n := 1) (.cells #[.int .i64 k, .string b] 26)
    replace B0 := Bel.al B0 (.cells #[.int .i64 k, .string b] 26)
    obtain ⟨a0c0, a0c1, a0c2⟩ := A0.sd
    have a1c0 := A1.cv 0 (by omega) (.int .i64 k) rfl
    have a1c1 := A1.cv 1 (by omega) (.string b) rfl
    have x1c0 := X1.cv 0 (by omega) (.int .i64 k) rfl
    have x1c1 := X1.cv 1 (by omega) (.string b) rfl
    go_wp2_with fail
    refine (C3 _).mono ?_
    rintro e w3 ⟨rfl, b3⟩
    clear a0c0 a0c1 a0c2 a1c0 a1c1 x1c0 x1c1
    replace A0 : Arr _ _ 3 _ := A0.to' (n := 2) b3
    replace A1 : Arr _ _ 2 _ := A1.to' (n := 1) b3
    replace X1 : Arr _ _ 2 _ := X1.to' (n := 1) b3
    replace B0 := Bel.call B0 b3
    clear b3
    have X2 := Arr.new w3 _ 24 (w3.heap.size) (by rfl) _ 3 (sd3_at key iv q)
    replace A0 : Arr _ _ 3 _ := A0.al' (n := 2) (.cells #[.string key, .string iv, .int .u64 q] 24)
    replace A1 : Arr _ _ 2 _ := A1.al' (n := 1) (.cells #[.string key, .string iv, .int .u64 q] 24)
    replace X1 : Arr _ _ 2 _ := X1.al' (n := 1) (.cells #[.string key, .string iv, .int .u64 q] 24)
    replace B0 := Bel.al B0 (.cells #[.string key, .string iv, .int .u64 q] 24)
    obtain ⟨a0c0, a0c1, a0c2⟩ := A0.sd
    have a1c0 := A1.cv 0 (by omega) (.int .i64 k) rfl
    have a1c1 := A1.cv 1 (by omega) (.string b) rfl
    have x1c0 := X1.cv 0 (by omega) (.int .i64 k) rfl
    have x1c1 := X1.cv 1 (by omega) (.string b) rfl
    obtain ⟨x2c0, x2c1, x2c2⟩ := X2.sd
    go_wp2_with (go_at_call 7; refine (CA _).mono ?_; rintro e w9 ⟨rfl, b9⟩)
    go_ret
    exact ⟨rfl, Bel.call B0 b9⟩
  · clear hp hm
    go_upto_region 3 with (first | (go_at_call 6; refine (CF _).mono ?_; rintro e w1 ⟨rfl, rfl⟩))
    generalize (w.alloc (.cells #[.string key, .string iv, .int .u64 q] 24)).alloc (.cells #[.int .i64 k, .string b] 26) = w0 at *
    obtain ⟨a0c0, a0c1, a0c2⟩ := A0.sd
    have a1c0 := A1.cv 0 (by omega) (.int .i64 k) rfl
    have a1c1 := A1.cv 1 (by omega) (.string b) rfl
    go_wp2_with fail
    refine (C1 _).mono ?_
    rintro e w1 ⟨rfl, b1⟩
    clear a0c0 a0c1 a0c2 a1c0 a1c1
    replace A0 : Arr _ _ 3 _ := A0.to' (n := 2) b1
    replace A1 : Arr _ _ 2 _ := A1.to' (n := 1) b1
    replace B0 := Bel.call B0 b1
    clear b1
    obtain ⟨a0c0, a0c1, a0c2⟩ := A0.sd
    have a1c0 := A1.cv 0 (by omega) (.int .i64 k) rfl
    have a1c1 := A1.cv 1 (by omega) (.string b) rfl
    go_wp2_with fail
    refine (C2 _).mono ?_
    rintro e w2 ⟨rfl, b2⟩
    clear a0c0 a0c1 a0c2 a1c0 a1c1
    replace A0 : Arr _ _ 3 _ := A0.to' (n := 2) b2
    replace A1 : Arr _ _ 2 _ := A1.to' (n := 1) b2
    replace B0 := Bel.call B0 b2
    clear b2
    have X1 := Arr.new w2 _ 26 (w2.heap.size) (by rfl) _ 2 (rc2_at k b)
    replace A0 : Arr _ _ 3 _ := A0.al' (n := 2) (.cells #[.int .i64 k, .string b] 26)
    replace A1 : Arr _ _ 2 _ := A1.al' (n := 1) (.cells #[.int .i64 k, .string b] 26)
    replace B0 := Bel.al B0 (.cells #[.int .i64 k, .string b] 26)
    obtain ⟨a0c0, a0c1, a0c2⟩ := A0.sd
    have a1c0 := A1.cv 0 (by omega) (.int .i64 k) rfl
    have a1c1 := A1.cv 1 (by omega) (.string b) rfl
    have x1c0 := X1.cv 0 (by omega) (.int .i64 k) rfl
    have x1c1 := X1.cv 1 (by omega) (.string b) rfl
    go_wp2_with fail
    refine (C3 _).mono ?_
    rintro e w3 ⟨rfl, b3⟩
    clear a0c0 a0c1 a0c2 a1c0 a1c1 x1c0 x1c1
    replace A0 : Arr _ _ 3 _ := A0.to' (n := 2) b3
    replace A1 : Arr _ _ 2 _ := A1.to' (n := 1) b3
    replace X1 : Arr _ _ 2 _ := X1.to' (n := 1) b3
    replace B0 := Bel.call B0 b3
    clear b3
    have X2 := Arr.new w3 _ 24 (w3.heap.size) (by rfl) _ 3 (sd3_at key iv q)
    replace A0 : Arr _ _ 3 _ := A0.al' (n := 2) (.cells #[.string key, .string iv, .int .u64 q] 24)
    replace A1 : Arr _ _ 2 _ := A1.al' (n := 1) (.cells #[.string key, .string iv, .int .u64 q] 24)
    replace X1 : Arr _ _ 2 _ := X1.al' (n := 1) (.cells #[.string key, .string iv, .int .u64 q] 24)
    replace B0 := Bel.al B0 (.cells #[.string key, .string iv, .int .u64 q] 24)
    obtain ⟨a0c0, a0c1, a0c2⟩ := A0.sd
    have a1c0 := A1.cv 0 (by omega) (.int .i64 k) rfl
    have a1c1 := A1.cv 1 (by omega) (.string b) rfl
    have x1c0 := X1.cv 0 (by omega) (.int .i64 k) rfl
    have x1c1 := X1.cv 1 (by omega) (.string b) rfl
    obtain ⟨x2c0, x2c1, x2c2⟩ := X2.sd
    go_wp2_with (go_at_call 7; refine (CA _).mono ?_; rintro e w9 ⟨rfl, b9⟩)
    go_ret
    exact ⟨rfl, Bel.call B0 b9⟩
set_option maxHeartbeats 8000000 in
theorem RecBack_4 (key iv b more A : ByteArray) (q k p r f : Int) (hr : ¬ r = 0) (hf0 : ¬ f = 0) (w : World) (hf : fwB b = true) (hp : ¬ (300 < p ∧ p ≤ 16384)) (hm : more.size ≤ 1000)
    (C1 : ∀ W, Calls Tryz.prog 14 #[rcV k b] W fun e w' => e = .returned (.tuple #[.string A, .int .i64 f]) ∧ Below W.heap.size W w')
    (C3 : ∀ W, Calls Tryz.prog 10 #[sdV key iv q, rcV k b, .int .i64 p] W fun e w' => e = .returned (.tuple #[sdV key iv q, .string ⟨#[]⟩, .int .i64 r]) ∧ Below W.heap.size W w')
    (CA : ∀ W, Calls Tryz.prog 7 #[] W fun e w' => e = .returned (.bool true) ∧ Below W.heap.size W w') :
    Calls Tryz.prog 4 #[sdV key iv q, rcV k b, .int .i64 p, .string more] w fun e w' => e = .returned (.bool true) ∧ Below w.heap.size w w' := by
  have CF := fun W => few_any b W
  rw [hf] at CF
  have mi : (more.size : Int) ≤ 1000 := by omega
  have mj : ¬ (1000 : Int) < (more.size : Int) := by omega
  have A0 : Arr ((w.alloc (.cells #[.string key, .string iv, .int .u64 q] 24)).alloc (.cells #[.int .i64 k, .string b] 26)) w.heap.size 3 (sd3 key iv q) :=
    Arr.al' (n := 2) (Arr.new w _ 24 _ rfl _ 3 (sd3_at key iv q)) _
  have A1 : Arr ((w.alloc (.cells #[.string key, .string iv, .int .u64 q] 24)).alloc (.cells #[.int .i64 k, .string b] 26)) (w.heap.size + 1) 2 (rc2 k b) :=
    Arr.new (w.alloc (.cells #[.string key, .string iv, .int .u64 q] 24)) _ 26 (w.heap.size + 1) (by simp) _ 2 (rc2_at k b)
  have B0 : Below w.heap.size w ((w.alloc (.cells #[.string key, .string iv, .int .u64 q] 24)).alloc (.cells #[.int .i64 k, .string b] 26)) := by go_grown
  unfold sdV rcV at *
  clear hf
  go_enter Tryz.func4, Tryz.ntmps4
  by_cases hp1 : 300 < p
  · have hp3 : ¬ p ≤ 16384 := by omega
    clear hp hm
    go_upto_region 3 with (first | (go_at_call 6; refine (CF _).mono ?_; rintro e w1 ⟨rfl, rfl⟩))
    generalize (w.alloc (.cells #[.string key, .string iv, .int .u64 q] 24)).alloc (.cells #[.int .i64 k, .string b] 26) = w0 at *
    obtain ⟨a0c0, a0c1, a0c2⟩ := A0.sd
    have a1c0 := A1.cv 0 (by omega) (.int .i64 k) rfl
    have a1c1 := A1.cv 1 (by omega) (.string b) rfl
    go_wp2_with fail
    refine (C1 _).mono ?_
    rintro e w1 ⟨rfl, b1⟩
    clear a0c0 a0c1 a0c2 a1c0 a1c1
    replace A0 : Arr _ _ 3 _ := A0.to' (n := 2) b1
    replace A1 : Arr _ _ 2 _ := A1.to' (n := 1) b1
    replace B0 := Bel.call B0 b1
    clear b1
    obtain ⟨a0c0, a0c1, a0c2⟩ := A0.sd
    have a1c0 := A1.cv 0 (by omega) (.int .i64 k) rfl
    have a1c1 := A1.cv 1 (by omega) (.string b) rfl
    go_wp2_with fail
    refine (C3 _).mono ?_
    rintro e w3 ⟨rfl, b3⟩
    clear a0c0 a0c1 a0c2 a1c0 a1c1
    replace A0 : Arr _ _ 3 _ := A0.to' (n := 2) b3
    replace A1 : Arr _ _ 2 _ := A1.to' (n := 1) b3
    replace B0 := Bel.call B0 b3
    clear b3
    have X2 := Arr.new w3 _ 24 (w3.heap.size) (by rfl) _ 3 (sd3_at key iv q)
    replace A0 : Arr _ _ 3 _ := A0.al' (n := 2) (.cells #[.string key, .string iv, .int .u64 q] 24)
    replace A1 : Arr _ _ 2 _ := A1.al' (n := 1) (.cells #[.string key, .string iv, .int .u64 q] 24)
    replace B0 := Bel.al B0 (.cells #[.string key, .string iv, .int .u64 q] 24)
    obtain ⟨a0c0, a0c1, a0c2⟩ := A0.sd
    have a1c0 := A1.cv 0 (by omega) (.int .i64 k) rfl
    have a1c1 := A1.cv 1 (by omega) (.string b) rfl
    obtain ⟨x2c0, x2c1, x2c2⟩ := X2.sd
    go_wp2_with (go_at_call 7; refine (CA _).mono ?_; rintro e w9 ⟨rfl, b9⟩)
    go_ret
    exact ⟨rfl, Bel.call B0 b9⟩
  · clear hp hm
    go_upto_region 3 with (first | (go_at_call 6; refine (CF _).mono ?_; rintro e w1 ⟨rfl, rfl⟩))
    generalize (w.alloc (.cells #[.string key, .string iv, .int .u64 q] 24)).alloc (.cells #[.int .i64 k, .string b] 26) = w0 at *
    obtain ⟨a0c0, a0c1, a0c2⟩ := A0.sd
    have a1c0 := A1.cv 0 (by omega) (.int .i64 k) rfl
    have a1c1 := A1.cv 1 (by omega) (.string b) rfl
    go_wp2_with fail
    refine (C1 _).mono ?_
    rintro e w1 ⟨rfl, b1⟩
    clear a0c0 a0c1 a0c2 a1c0 a1c1
    replace A0 : Arr _ _ 3 _ := A0.to' (n := 2) b1
    replace A1 : Arr _ _ 2 _ := A1.to' (n := 1) b1
    replace B0 := Bel.call B0 b1
    clear b1
    obtain ⟨a0c0, a0c1, a0c2⟩ := A0.sd
    have a1c0 := A1.cv 0 (by omega) (.int .i64 k) rfl
    have a1c1 := A1.cv 1 (by omega) (.string b) rfl
    go_wp2_with fail
    refine (C3 _).mono ?_
    rintro e w3 ⟨rfl, b3⟩
    clear a0c0 a0c1 a0c2 a1c0 a1c1
    replace A0 : Arr _ _ 3 _ := A0.to' (n := 2) b3
    replace A1 : Arr _ _ 2 _ := A1.to' (n := 1) b3
    replace B0 := Bel.call B0 b3
    clear b3
    have X2 := Arr.new w3 _ 24 (w3.heap.size) (by rfl) _ 3 (sd3_at key iv q)
    replace A0 : Arr _ _ 3 _ := A0.al' (n := 2) (.cells #[.string key, .string iv, .int .u64 q] 24)
    replace A1 : Arr _ _ 2 _ := A1.al' (n := 1) (.cells #[.string key, .string iv, .int .u64 q] 24)
    replace B0 := Bel.al B0 (.cells #[.string key, .string iv, .int .u64 q] 24)
    obtain ⟨a0c0, a0c1, a0c2⟩ := A0.sd
    have a1c0 := A1.cv 0 (by omega) (.int .i64 k) rfl
    have a1c1 := A1.cv 1 (by omega) (.string b) rfl
    obtain ⟨x2c0, x2c1, x2c2⟩ := X2.sd
    go_wp2_with (go_at_call 7; refine (CA _).mono ?_; rintro e w9 ⟨rfl, b9⟩)
    go_ret
    exact ⟨rfl, Bel.call B0 b9⟩
theorem RecBack_any (key iv b more : ByteArray) (q k p : Int) (q0 : 0 ≤ q) (q1 : q < 18446744073709551616) (w : World) :
    Calls Tryz.prog 4 #[sdV key iv q, rcV k b, .int .i64 p, .string more] w fun e w' => e = .returned (.bool true) ∧ Below w.heap.size w w' := by
  by_cases h : fwB b = false ∨ (300 < p ∧ p ≤ 16384) ∨ 1000 < more.size
  · exact RecBack_1 key iv b more q k p w h awake_any
  have hf : fwB b = true := by
    cases hh : fwB b with
    | true => rfl
    | false => exact absurd (.inl hh) h
  have hp : ¬ (300 < p ∧ p ≤ 16384) := fun c => h (.inr (.inl c))
  have hm : more.size ≤ 1000 := Nat.le_of_not_lt fun c => h (.inr (.inr c))
  have C1 := fun W => Frame_any k b W
  have C3 := fun W => Protect_any key iv b k q p q0 q1 W
  by_cases h1 : frE k b = 0
  · have hk : knB k = true ∧ b.size ≤ mst k := by
      unfold frE at h1
      split at h1
      · rename_i hk
        split at h1
        · omega
        · exact ⟨hk, by omega⟩
      · omega
    have e1 : frS k b = hdS k (b.size : Int) ++ b := by unfold frS; rw [if_pos h1]
    rw [h1, e1] at C1
    obtain ⟨u1, u2, u3, u4⟩ := uf_frame k b more hk.1 hk.2
    have C2 := fun W => Unframe_any (hdS k (b.size : Int) ++ b ++ more) W
    rw [u1, u2, u3, u4] at C2
    have zm := mst_cases k
    have zA : ((hdS k (b.size : Int) ++ b).size : Int) ≤ 100000 := by rw [ByteArray.size_append, hdS_size]; omega
    by_cases h2 : prE key iv q k b p = 0
    · obtain ⟨_, hb, p0, hpp, _, _, hq, _⟩ := prE_0 h2
      have eT : prT key iv q k b p = hdS 23 ((slS key iv q (wiS k b p.toNat)).size : Int) ++ slS key iv q (wiS k b p.toNat) := by unfold prT; rw [if_pos h2, ptS_is]
      have eQ : prQ key iv q k b p = q + 1 := by unfold prQ; rw [if_pos h2]
      rw [h2, eT, eQ] at C3
      have zt := wiS_size k b p.toNat
      have zs := slS_size key iv q (wiS k b p.toNat)
      obtain ⟨b1, b2, b3⟩ := up_back h2
      have C5 := fun W => Unprotect_any key iv (slS key iv q (wiS k b p.toNat)) 23 q q0 q1 W
      rw [b1, b2, b3] at C5
      generalize slS key iv q (wiS k b p.toNat) = S at *
      obtain ⟨v1, v2, v3, v4⟩ := uf_frame 23 S more rfl (by show _ ≤ 16640; omega)
      have C4 := fun W => Unframe_any (hdS 23 (S.size : Int) ++ S ++ more) W
      rw [v1, v2, v3, v4] at C4
      have zT : ((hdS 23 (S.size : Int) ++ S).size : Int) ≤ 100000 := by rw [ByteArray.size_append, hdS_size]; omega
      exact RecBack_2 key iv b more _ _ S q k p q0 (by omega) zA zT w hf hp hm C1 C2 C3 C4 C5 awake_any
    · have eT : prT key iv q k b p = ⟨#[]⟩ := by unfold prT; rw [if_neg h2]
      have eQ : prQ key iv q k b p = q := by unfold prQ; rw [if_neg h2]
      rw [eT, eQ] at C3
      exact RecBack_3 key iv b more _ q k p _ h2 zA w hf hp hm C1 C2 C3 awake_any
  · have h2 : ¬ prE key iv q k b p = 0 := fun c => by
      obtain ⟨hk, hb, _⟩ := prE_0 c
      apply h1
      unfold frE
      have := mst_cases k
      rw [if_pos hk, if_neg (by omega)]
    have eT : prT key iv q k b p = ⟨#[]⟩ := by unfold prT; rw [if_neg h2]
    have eQ : prQ key iv q k b p = q := by unfold prQ; rw [if_neg h2]
    rw [eT, eQ] at C3
    exact RecBack_4 key iv b more _ q k p _ _ h2 h1 w hf hp hm C1 C3 awake_any
end Go.Proofs.YtjaljnfijhfkcaaGreatDoor
