/- RecPlaces. -/
import Derived.Test.YtjaljnfijhfkcaaGreatDoorJ29
set_option linter.all false
set_option maxRecDepth 100000
namespace Go.Proofs.YtjaljnfijhfkcaaGreatDoor
open Go.RowKit Go.Sort Lin
set_option maxHeartbeats 4000000 in
theorem RecPlaces_1 (key iv b : ByteArray) (q k s : Int) (w : World) (hc : fwB b = false)
    (CA : ∀ W, Calls Tryz.prog 7 #[] W fun e w' => e = .returned (.bool true) ∧ Below W.heap.size W w') :
    Calls Tryz.prog 5 #[sdV key iv q, rcV k b, .int .u64 s] w fun e w' => e = .returned (.bool true) ∧ Below w.heap.size w w' := by
  have CF := fun W => few_any b W
  unfold sdV rcV
  rw [hc] at CF
  clear hc
  go_enter Tryz.func5, Tryz.ntmps5
  go_wp2_with (first | (go_at_call 6; refine (CF _).mono ?_; rintro e w1 ⟨rfl, rfl⟩) | (go_at_call 7; refine (CA _).mono ?_; rintro e w9 ⟨rfl, b9⟩))
  go_ret
  exact ⟨rfl, Bel.call (by go_grown) b9⟩
set_option maxHeartbeats 8000000 in
theorem RecPlaces_2 (key iv b N M T : ByteArray) (q k s Q r f : Int) (hr : ¬ r = 0) (hf0 : ¬ f = 0) (w : World) (hf : fwB b = true)
    (C1 : ∀ W, Calls Tryz.prog 8 #[sdV key iv q] W fun e w' => e = .returned (.tuple #[.string N, .int .i64 f]) ∧ Below W.heap.size W w')
    (C2 : ∀ W, Calls Tryz.prog 8 #[sdV key iv s] W fun e w' => e = .returned (.tuple #[.string M, .int .i64 f]) ∧ Below W.heap.size W w')
    (C3 : ∀ W, Calls Tryz.prog 10 #[sdV key iv q, rcV k b, .int .i64 0] W fun e w' => e = .returned (.tuple #[sdV key iv Q, .string T, .int .i64 r]) ∧ Below W.heap.size W w')
    (CA : ∀ W, Calls Tryz.prog 7 #[] W fun e w' => e = .returned (.bool true) ∧ Below W.heap.size W w') :
    Calls Tryz.prog 5 #[sdV key iv q, rcV k b, .int .u64 s] w fun e w' => e = .returned (.bool true) ∧ Below w.heap.size w w' := by
  have CF := fun W => few_any b W
  rw [hf] at CF
  have A0 : Arr (((w.alloc (.cells #[.string key, .string iv, .int .u64 q] 24)).alloc (.cells #[.int .i64 k, .string b] 26)).alloc (.cells #[.string key, .string iv, .int .u64 s] 24)) w.heap.size 3 (sd3 key iv q) := Arr.al' (n := 2) (Arr.al' (n := 2) (Arr.new w _ 24 _ rfl _ 3 (sd3_at key iv q)) _) _
  have A1 : Arr (((w.alloc (.cells #[.string key, .string iv, .int .u64 q] 24)).alloc (.cells #[.int .i64 k, .string b] 26)).alloc (.cells #[.string key, .string iv, .int .u64 s] 24)) (w.heap.size + 1) 2 (rc2 k b) := Arr.al' (n := 1) (Arr.new (w.alloc (.cells #[.string key, .string iv, .int .u64 q] 24)) _ 26 (w.heap.size + 1) (by simp) _ 2 (rc2_at k b)) _
  have A2 : Arr (((w.alloc (.cells #[.string key, .string iv, .int .u64 q] 24)).alloc (.cells #[.int .i64 k, .string b] 26)).alloc (.cells #[.string key, .string iv, .int .u64 s] 24)) (w.heap.size + 1 + 1) 3 (sd3 key iv s) := Arr.new ((w.alloc (.cells #[.string key, .string iv, .int .u64 q] 24)).alloc (.cells #[.int .i64 k, .string b] 26)) _ 24 (w.heap.size + 1 + 1) (by simp) _ 3 (sd3_at key iv s)
  have B0 : Below w.heap.size w (((w.alloc (.cells #[.string key, .string iv, .int .u64 q] 24)).alloc (.cells #[.int .i64 k, .string b] 26)).alloc (.cells #[.string key, .string iv, .int .u64 s] 24)) := by go_grown
  unfold sdV rcV at *
  clear hf
  go_enter Tryz.func5, Tryz.ntmps5
  go_upto_region 5 with (first | (go_at_call 6; refine (CF _).mono ?_; rintro e w1 ⟨rfl, rfl⟩))
  generalize (((w.alloc (.cells #[.string key, .string iv, .int .u64 q] 24)).alloc (.cells #[.int .i64 k, .string b] 26)).alloc (.cells #[.string key, .string iv, .int .u64 s] 24)) = w0 at *
  obtain ⟨a0c0, a0c1, a0c2⟩ := A0.sd
  have a1c0 := A1.cv 0 (by omega) (.int .i64 k) rfl
  have a1c1 := A1.cv 1 (by omega) (.string b) rfl
  obtain ⟨a2c0, a2c1, a2c2⟩ := A2.sd
  go_wp2_with fail
  refine (C1 _).mono ?_
  rintro e w1 ⟨rfl, b1⟩
  clear a0c0 a0c1 a0c2 a1c0 a1c1 a2c0 a2c1 a2c2
  replace A0 : Arr _ _ 3 _ := A0.to' (n := 2) b1
  replace A1 : Arr _ _ 2 _ := A1.to' (n := 1) b1
  replace A2 : Arr _ _ 3 _ := A2.to' (n := 2) b1
  replace B0 := Bel.call B0 b1
  clear b1
  obtain ⟨a0c0, a0c1, a0c2⟩ := A0.sd
  have a1c0 := A1.cv 0 (by omega) (.int .i64 k) rfl
  have a1c1 := A1.cv 1 (by omega) (.string b) rfl
  obtain ⟨a2c0, a2c1, a2c2⟩ := A2.sd
  go_wp2_with fail
  refine (C2 _).mono ?_
  rintro e w2 ⟨rfl, b2⟩
  clear a0c0 a0c1 a0c2 a1c0 a1c1 a2c0 a2c1 a2c2
  replace A0 : Arr _ _ 3 _ := A0.to' (n := 2) b2
  replace A1 : Arr _ _ 2 _ := A1.to' (n := 1) b2
  replace A2 : Arr _ _ 3 _ := A2.to' (n := 2) b2
  replace B0 := Bel.call B0 b2
  clear b2
  obtain ⟨a0c0, a0c1, a0c2⟩ := A0.sd
  have a1c0 := A1.cv 0 (by omega) (.int .i64 k) rfl
  have a1c1 := A1.cv 1 (by omega) (.string b) rfl
  obtain ⟨a2c0, a2c1, a2c2⟩ := A2.sd
  go_wp2_with fail
  refine (C3 _).mono ?_
  rintro e w3 ⟨rfl, b3⟩
  clear a0c0 a0c1 a0c2 a1c0 a1c1 a2c0 a2c1 a2c2
  replace A0 : Arr _ _ 3 _ := A0.to' (n := 2) b3
  replace A1 : Arr _ _ 2 _ := A1.to' (n := 1) b3
  replace A2 : Arr _ _ 3 _ := A2.to' (n := 2) b3
  replace B0 := Bel.call B0 b3
  clear b3
  have X1 := Arr.new w3 _ 24 (w3.heap.size) (by rfl) _ 3 (sd3_at key iv Q)
  replace A0 : Arr _ _ 3 _ := A0.al' (n := 2) (.cells #[.string key, .string iv, .int .u64 Q] 24)
  replace A1 : Arr _ _ 2 _ := A1.al' (n := 1) (.cells #[.string key, .string iv, .int .u64 Q] 24)
  replace A2 : Arr _ _ 3 _ := A2.al' (n := 2) (.cells #[.string key, .string iv, .int .u64 Q] 24)
  replace B0 := Bel.al B0 (.cells #[.string key, .string iv, .int .u64 Q] 24)
  obtain ⟨a0c0, a0c1, a0c2⟩ := A0.sd
  have a1c0 := A1.cv 0 (by omega) (.int .i64 k) rfl
  have a1c1 := A1.cv 1 (by omega) (.string b) rfl
  obtain ⟨a2c0, a2c1, a2c2⟩ := A2.sd
  obtain ⟨x1c0, x1c1, x1c2⟩ := X1.sd
  go_wp2_with (go_at_call 7; refine (CA _).mono ?_; rintro e w9 ⟨rfl, b9⟩)
  go_ret
  exact ⟨rfl, Bel.call B0 b9⟩
set_option maxHeartbeats 8000000 in
theorem RecPlaces_3 (key iv b N M T : ByteArray) (q k s Q r : Int) (hqs : q = s) (hNM : N = M) (hr : ¬ r = 0) (w : World) (hf : fwB b = true)
    (C1 : ∀ W, Calls Tryz.prog 8 #[sdV key iv q] W fun e w' => e = .returned (.tuple #[.string N, .int .i64 0]) ∧ Below W.heap.size W w')
    (C2 : ∀ W, Calls Tryz.prog 8 #[sdV key iv s] W fun e w' => e = .returned (.tuple #[.string M, .int .i64 0]) ∧ Below W.heap.size W w')
    (C3 : ∀ W, Calls Tryz.prog 10 #[sdV key iv q, rcV k b, .int .i64 0] W fun e w' => e = .returned (.tuple #[sdV key iv Q, .string T, .int .i64 r]) ∧ Below W.heap.size W w')
    (CA : ∀ W, Calls Tryz.prog 7 #[] W fun e w' => e = .returned (.bool true) ∧ Below W.heap.size W w') :
    Calls Tryz.prog 5 #[sdV key iv q, rcV k b, .int .u64 s] w fun e w' => e = .returned (.bool true) ∧ Below w.heap.size w w' := by
  subst hqs
  subst hNM
  have CF := fun W => few_any b W
  rw [hf] at CF
  have A0 : Arr (((w.alloc (.cells #[.string key, .string iv, .int .u64 q] 24)).alloc (.cells #[.int .i64 k, .string b] 26)).alloc (.cells #[.string key, .string iv, .int .u64 q] 24)) w.heap.size 3 (sd3 key iv q) := Arr.al' (n := 2) (Arr.al' (n := 2) (Arr.new w _ 24 _ rfl _ 3 (sd3_at key iv q)) _) _
  have A1 : Arr (((w.alloc (.cells #[.string key, .string iv, .int .u64 q] 24)).alloc (.cells #[.int .i64 k, .string b] 26)).alloc (.cells #[.string key, .string iv, .int .u64 q] 24)) (w.heap.size + 1) 2 (rc2 k b) := Arr.al' (n := 1) (Arr.new (w.alloc (.cells #[.string key, .string iv, .int .u64 q] 24)) _ 26 (w.heap.size + 1) (by simp) _ 2 (rc2_at k b)) _
  have A2 : Arr (((w.alloc (.cells #[.string key, .string iv, .int .u64 q] 24)).alloc (.cells #[.int .i64 k, .string b] 26)).alloc (.cells #[.string key, .string iv, .int .u64 q] 24)) (w.heap.size + 1 + 1) 3 (sd3 key iv q) := Arr.new ((w.alloc (.cells #[.string key, .string iv, .int .u64 q] 24)).alloc (.cells #[.int .i64 k, .string b] 26)) _ 24 (w.heap.size + 1 + 1) (by simp) _ 3 (sd3_at key iv q)
  have B0 : Below w.heap.size w (((w.alloc (.cells #[.string key, .string iv, .int .u64 q] 24)).alloc (.cells #[.int .i64 k, .string b] 26)).alloc (.cells #[.string key, .string iv, .int .u64 q] 24)) := by go_grown
  unfold sdV rcV at *
  clear hf
  go_enter Tryz.func5, Tryz.ntmps5
  go_upto_region 5 with (first | (go_at_call 6; refine (CF _).mono ?_; rintro e w1 ⟨rfl, rfl⟩))
  generalize (((w.alloc (.cells #[.string key, .string iv, .int .u64 q] 24)).alloc (.cells #[.int .i64 k, .string b] 26)).alloc (.cells #[.string key, .string iv, .int .u64 q] 24)) = w0 at *
  obtain ⟨a0c0, a0c1, a0c2⟩ := A0.sd
  have a1c0 := A1.cv 0 (by omega) (.int .i64 k) rfl
  have a1c1 := A1.cv 1 (by omega) (.string b) rfl
  obtain ⟨a2c0, a2c1, a2c2⟩ := A2.sd
  go_wp2_with fail
  refine (C1 _).mono ?_
  rintro e w1 ⟨rfl, b1⟩
  clear a0c0 a0c1 a0c2 a1c0 a1c1 a2c0 a2c1 a2c2
  replace A0 : Arr _ _ 3 _ := A0.to' (n := 2) b1
  replace A1 : Arr _ _ 2 _ := A1.to' (n := 1) b1
  replace A2 : Arr _ _ 3 _ := A2.to' (n := 2) b1
  replace B0 := Bel.call B0 b1
  clear b1
  obtain ⟨a0c0, a0c1, a0c2⟩ := A0.sd
  have a1c0 := A1.cv 0 (by omega) (.int .i64 k) rfl
  have a1c1 := A1.cv 1 (by omega) (.string b) rfl
  obtain ⟨a2c0, a2c1, a2c2⟩ := A2.sd
  go_wp2_with fail
  refine (C2 _).mono ?_
  rintro e w2 ⟨rfl, b2⟩
  clear a0c0 a0c1 a0c2 a1c0 a1c1 a2c0 a2c1 a2c2
  replace A0 : Arr _ _ 3 _ := A0.to' (n := 2) b2
  replace A1 : Arr _ _ 2 _ := A1.to' (n := 1) b2
  replace A2 : Arr _ _ 3 _ := A2.to' (n := 2) b2
  replace B0 := Bel.call B0 b2
  clear b2
  obtain ⟨a0c0, a0c1, a0c2⟩ := A0.sd
  have a1c0 := A1.cv 0 (by omega) (.int .i64 k) rfl
  have a1c1 := A1.cv 1 (by omega) (.string b) rfl
  obtain ⟨a2c0, a2c1, a2c2⟩ := A2.sd
  go_wp2_with fail
  refine (C3 _).mono ?_
  rintro e w3 ⟨rfl, b3⟩
  clear a0c0 a0c1 a0c2 a1c0 a1c1 a2c0 a2c1 a2c2
  replace A0 : Arr _ _ 3 _ := A0.to' (n := 2) b3
  replace A1 : Arr _ _ 2 _ := A1.to' (n := 1) b3
  replace A2 : Arr _ _ 3 _ := A2.to' (n := 2) b3
  replace B0 := Bel.call B0 b3
  clear b3
  have X1 := Arr.new w3 _ 24 (w3.heap.size) (by rfl) _ 3 (sd3_at key iv Q)
  replace A0 : Arr _ _ 3 _ := A0.al' (n := 2) (.cells #[.string key, .string iv, .int .u64 Q] 24)
  replace A1 : Arr _ _ 2 _ := A1.al' (n := 1) (.cells #[.string key, .string iv, .int .u64 Q] 24)
  replace A2 : Arr _ _ 3 _ := A2.al' (n := 2) (.cells #[.string key, .string iv, .int .u64 Q] 24)
  replace B0 := Bel.al B0 (.cells #[.string key, .string iv, .int .u64 Q] 24)
  obtain ⟨a0c0, a0c1, a0c2⟩ := A0.sd
  have a1c0 := A1.cv 0 (by omega) (.int .i64 k) rfl
  have a1c1 := A1.cv 1 (by omega) (.string b) rfl
  obtain ⟨a2c0, a2c1, a2c2⟩ := A2.sd
  obtain ⟨x1c0, x1c1, x1c2⟩ := X1.sd
  go_wp2_with (go_at_call 7; refine (CA _).mono ?_; rintro e w9 ⟨rfl, b9⟩)
  go_ret
  exact ⟨rfl, Bel.call B0 b9⟩
set_option maxHeartbeats 8000000 in
theorem RecPlaces_4 (key iv b N M T : ByteArray) (q k s Q r : Int) (hqs : ¬ q = s) (hNM : (N.toList == M.toList) = false) (hr : ¬ r = 0) (w : World) (hf : fwB b = true)
    (C1 : ∀ W, Calls Tryz.prog 8 #[sdV key iv q] W fun e w' => e = .returned (.tuple #[.string N, .int .i64 0]) ∧ Below W.heap.size W w')
    (C2 : ∀ W, Calls Tryz.prog 8 #[sdV key iv s] W fun e w' => e = .returned (.tuple #[.string M, .int .i64 0]) ∧ Below W.heap.size W w')
    (C3 : ∀ W, Calls Tryz.prog 10 #[sdV key iv q, rcV k b, .int .i64 0] W fun e w' => e = .returned (.tuple #[sdV key iv Q, .string T, .int .i64 r]) ∧ Below W.heap.size W w')
    (CA : ∀ W, Calls Tryz.prog 7 #[] W fun e w' => e = .returned (.bool true) ∧ Below W.heap.size W w') :
    Calls Tryz.prog 5 #[sdV key iv q, rcV k b, .int .u64 s] w fun e w' => e = .returned (.bool true) ∧ Below w.heap.size w w' := by
  have CF := fun W => few_any b W
  rw [hf] at CF
  have A0 : Arr (((w.alloc (.cells #[.string key, .string iv, .int .u64 q] 24)).alloc (.cells #[.int .i64 k, .string b] 26)).alloc (.cells #[.string key, .string iv, .int .u64 s] 24)) w.heap.size 3 (sd3 key iv q) := Arr.al' (n := 2) (Arr.al' (n := 2) (Arr.new w _ 24 _ rfl _ 3 (sd3_at key iv q)) _) _
  have A1 : Arr (((w.alloc (.cells #[.string key, .string iv, .int .u64 q] 24)).alloc (.cells #[.int .i64 k, .string b] 26)).alloc (.cells #[.string key, .string iv, .int .u64 s] 24)) (w.heap.size + 1) 2 (rc2 k b) := Arr.al' (n := 1) (Arr.new (w.alloc (.cells #[.string key, .string iv, .int .u64 q] 24)) _ 26 (w.heap.size + 1) (by simp) _ 2 (rc2_at k b)) _
  have A2 : Arr (((w.alloc (.cells #[.string key, .string iv, .int .u64 q] 24)).alloc (.cells #[.int .i64 k, .string b] 26)).alloc (.cells #[.string key, .string iv, .int .u64 s] 24)) (w.heap.size + 1 + 1) 3 (sd3 key iv s) := Arr.new ((w.alloc (.cells #[.string key, .string iv, .int .u64 q] 24)).alloc (.cells #[.int .i64 k, .string b] 26)) _ 24 (w.heap.size + 1 + 1) (by simp) _ 3 (sd3_at key iv s)
  have B0 : Below w.heap.size w (((w.alloc (.cells #[.string key, .string iv, .int .u64 q] 24)).alloc (.cells #[.int .i64 k, .string b] 26)).alloc (.cells #[.string key, .string iv, .int .u64 s] 24)) := by go_grown
  unfold sdV rcV at *
  clear hf
  go_enter Tryz.func5, Tryz.ntmps5
  go_upto_region 5 with (first | (go_at_call 6; refine (CF _).mono ?_; rintro e w1 ⟨rfl, rfl⟩))
  generalize (((w.alloc (.cells #[.string key, .string iv, .int .u64 q] 24)).alloc (.cells #[.int .i64 k, .string b] 26)).alloc (.cells #[.string key, .string iv, .int .u64 s] 24)) = w0 at *
  obtain ⟨a0c0, a0c1, a0c2⟩ := A0.sd
  have a1c0 := A1.cv 0 (by omega) (.int .i64 k) rfl
  have a1c1 := A1.cv 1 (by omega) (.string b) rfl
  obtain ⟨a2c0, a2c1, a2c2⟩ := A2.sd
  go_wp2_with fail
  refine (C1 _).mono ?_
  rintro e w1 ⟨rfl, b1⟩
  clear a0c0 a0c1 a0c2 a1c0 a1c1 a2c0 a2c1 a2c2
  replace A0 : Arr _ _ 3 _ := A0.to' (n := 2) b1
  replace A1 : Arr _ _ 2 _ := A1.to' (n := 1) b1
  replace A2 : Arr _ _ 3 _ := A2.to' (n := 2) b1
  replace B0 := Bel.call B0 b1
  clear b1
  obtain ⟨a0c0, a0c1, a0c2⟩ := A0.sd
  have a1c0 := A1.cv 0 (by omega) (.int .i64 k) rfl
  have a1c1 := A1.cv 1 (by omega) (.string b) rfl
  obtain ⟨a2c0, a2c1, a2c2⟩ := A2.sd
  go_wp2_with fail
  refine (C2 _).mono ?_
  rintro e w2 ⟨rfl, b2⟩
  clear a0c0 a0c1 a0c2 a1c0 a1c1 a2c0 a2c1 a2c2
  replace A0 : Arr _ _ 3 _ := A0.to' (n := 2) b2
  replace A1 : Arr _ _ 2 _ := A1.to' (n := 1) b2
  replace A2 : Arr _ _ 3 _ := A2.to' (n := 2) b2
  replace B0 := Bel.call B0 b2
  clear b2
  obtain ⟨a0c0, a0c1, a0c2⟩ := A0.sd
  have a1c0 := A1.cv 0 (by omega) (.int .i64 k) rfl
  have a1c1 := A1.cv 1 (by omega) (.string b) rfl
  obtain ⟨a2c0, a2c1, a2c2⟩ := A2.sd
  go_wp2_with fail
  refine (C3 _).mono ?_
  rintro e w3 ⟨rfl, b3⟩
  clear a0c0 a0c1 a0c2 a1c0 a1c1 a2c0 a2c1 a2c2
  replace A0 : Arr _ _ 3 _ := A0.to' (n := 2) b3
  replace A1 : Arr _ _ 2 _ := A1.to' (n := 1) b3
  replace A2 : Arr _ _ 3 _ := A2.to' (n := 2) b3
  replace B0 := Bel.call B0 b3
  clear b3
  have X1 := Arr.new w3 _ 24 (w3.heap.size) (by rfl) _ 3 (sd3_at key iv Q)
  replace A0 : Arr _ _ 3 _ := A0.al' (n := 2) (.cells #[.string key, .string iv, .int .u64 Q] 24)
  replace A1 : Arr _ _ 2 _ := A1.al' (n := 1) (.cells #[.string key, .string iv, .int .u64 Q] 24)
  replace A2 : Arr _ _ 3 _ := A2.al' (n := 2) (.cells #[.string key, .string iv, .int .u64 Q] 24)
  replace B0 := Bel.al B0 (.cells #[.string key, .string iv, .int .u64 Q] 24)
  obtain ⟨a0c0, a0c1, a0c2⟩ := A0.sd
  have a1c0 := A1.cv 0 (by omega) (.int .i64 k) rfl
  have a1c1 := A1.cv 1 (by omega) (.string b) rfl
  obtain ⟨a2c0, a2c1, a2c2⟩ := A2.sd
  obtain ⟨x1c0, x1c1, x1c2⟩ := X1.sd
  go_wp2_with (go_at_call 7; refine (CA _).mono ?_; rintro e w9 ⟨rfl, b9⟩)
  go_ret
  exact ⟨rfl, Bel.call B0 b9⟩
set_option maxHeartbeats 8000000 in
theorem RecPlaces_5 (key iv b N M T S R B2 : ByteArray) (q k s Q U K2 r : Int) (hqs : q = s) (hNM : N = M) (w : World) (hf : fwB b = true)
    (C1 : ∀ W, Calls Tryz.prog 8 #[sdV key iv q] W fun e w' => e = .returned (.tuple #[.string N, .int .i64 0]) ∧ Below W.heap.size W w')
    (C2 : ∀ W, Calls Tryz.prog 8 #[sdV key iv s] W fun e w' => e = .returned (.tuple #[.string M, .int .i64 0]) ∧ Below W.heap.size W w')
    (C3 : ∀ W, Calls Tryz.prog 10 #[sdV key iv q, rcV k b, .int .i64 0] W fun e w' => e = .returned (.tuple #[sdV key iv Q, .string T, .int .i64 0]) ∧ Below W.heap.size W w')
    (C4 : ∀ W, Calls Tryz.prog 15 #[.string T] W fun e w' => e = .returned (.tuple #[rcV 23 S, .string R, .int .i64 0]) ∧ Below W.heap.size W w')
    (C5 : ∀ W, Calls Tryz.prog 12 #[sdV key iv s, rcV 23 S] W fun e w' => e = .returned (.tuple #[sdV key iv U, rcV K2 B2, .int .i64 r]) ∧ Below W.heap.size W w')
    (C6 : ∀ W, Calls Tryz.prog 13 #[sdV key iv s, rcV 23 S] W fun e w' => e = .returned (.tuple #[sdV key iv U, rcV K2 B2, .int .i64 r]) ∧ Below W.heap.size W w')
    (CA : ∀ W, Calls Tryz.prog 7 #[] W fun e w' => e = .returned (.bool true) ∧ Below W.heap.size W w') :
    Calls Tryz.prog 5 #[sdV key iv q, rcV k b, .int .u64 s] w fun e w' => e = .returned (.bool true) ∧ Below w.heap.size w w' := by
  subst hqs
  subst hNM
  have CF := fun W => few_any b W
  rw [hf] at CF
  have A0 : Arr (((w.alloc (.cells #[.string key, .string iv, .int .u64 q] 24)).alloc (.cells #[.int .i64 k, .string b] 26)).alloc (.cells #[.string key, .string iv, .int .u64 q] 24)) w.heap.size 3 (sd3 key iv q) := Arr.al' (n := 2) (Arr.al' (n := 2) (Arr.new w _ 24 _ rfl _ 3 (sd3_at key iv q)) _) _
  have A1 : Arr (((w.alloc (.cells #[.string key, .string iv, .int .u64 q] 24)).alloc (.cells #[.int .i64 k, .string b] 26)).alloc (.cells #[.string key, .string iv, .int .u64 q] 24)) (w.heap.size + 1) 2 (rc2 k b) := Arr.al' (n := 1) (Arr.new (w.alloc (.cells #[.string key, .string iv, .int .u64 q] 24)) _ 26 (w.heap.size + 1) (by simp) _ 2 (rc2_at k b)) _
  have A2 : Arr (((w.alloc (.cells #[.string key, .string iv, .int .u64 q] 24)).alloc (.cells #[.int .i64 k, .string b] 26)).alloc (.cells #[.string key, .string iv, .int .u64 q] 24)) (w.heap.size + 1 + 1) 3 (sd3 key iv q) := Arr.new ((w.alloc (.cells #[.string key, .string iv, .int .u64 q] 24)).alloc (.cells #[.int .i64 k, .string b] 26)) _ 24 (w.heap.size + 1 + 1) (by simp) _ 3 (sd3_at key iv q)
  have B0 : Below w.heap.size w (((w.alloc (.cells #[.string key, .string iv, .int .u64 q] 24)).alloc (.cells #[.int .i64 k, .string b] 26)).alloc (.cells #[.string key, .string iv, .int .u64 q] 24)) := by go_grown
  unfold sdV rcV at *
  clear hf
  go_enter Tryz.func5, Tryz.ntmps5
  go_upto_region 5 with (first | (go_at_call 6; refine (CF _).mono ?_; rintro e w1 ⟨rfl, rfl⟩))
  generalize (((w.alloc (.cells #[.string key, .string iv, .int .u64 q] 24)).alloc (.cells #[.int .i64 k, .string b] 26)).alloc (.cells #[.string key, .string iv, .int .u64 q] 24)) = w0 at *
  obtain ⟨a0c0, a0c1, a0c2⟩ := A0.sd
  have a1c0 := A1.cv 0 (by omega) (.int .i64 k) rfl
  have a1c1 := A1.cv 1 (by omega) (.string b) rfl
  obtain ⟨a2c0, a2c1, a2c2⟩ := A2.sd
  go_wp2_with fail
  refine (C1 _).mono ?_
  rintro e w1 ⟨rfl, b1⟩
  clear a0c0 a0c1 a0c2 a1c0 a1c1 a2c0 a2c1 a2c2
  replace A0 : Arr _ _ 3 _ := A0.to' (n := 2) b1
  replace A1 : Arr _ _ 2 _ := A1.to' (n := 1) b1
  replace A2 : Arr _ _ 3 _ := A2.to' (n := 2) b1
  replace B0 := Bel.call B0 b1
  clear b1
  obtain ⟨a0c0, a0c1, a0c2⟩ := A0.sd
  have a1c0 := A1.cv 0 (by omega) (.int .i64 k) rfl
  have a1c1 := A1.cv 1 (by omega) (.string b) rfl
  obtain ⟨a2c0, a2c1, a2c2⟩ := A2.sd
  go_wp2_with fail
  refine (C2 _).mono ?_
  rintro e w2 ⟨rfl, b2⟩
  clear a0c0 a0c1 a0c2 a1c0 a1c1 a2c0 a2c1 a2c2
  replace A0 : Arr _ _ 3 _ := A0.to' (n := 2) b2
  replace A1 : Arr _ _ 2 _ := A1.to' (n := 1) b2
  replace A2 : Arr _ _ 3 _ := A2.to' (n := 2) b2
  replace B0 := Bel.call B0 b2
  clear b2
  obtain ⟨a0c0, a0c1, a0c2⟩ := A0.sd
  have a1c0 := A1.cv 0 (by omega) (.int .i64 k) rfl
  have a1c1 := A1.cv 1 (by omega) (.string b) rfl
  obtain ⟨a2c0, a2c1, a2c2⟩ := A2.sd
  go_wp2_with fail
  refine (C3 _).mono ?_
  rintro e w3 ⟨rfl, b3⟩
  clear a0c0 a0c1 a0c2 a1c0 a1c1 a2c0 a2c1 a2c2
  replace A0 : Arr _ _ 3 _ := A0.to' (n := 2) b3
  replace A1 : Arr _ _ 2 _ := A1.to' (n := 1) b3
  replace A2 : Arr _ _ 3 _ := A2.to' (n := 2) b3
  replace B0 := Bel.call B0 b3
  clear b3
  have X1 := Arr.new w3 _ 24 (w3.heap.size) (by rfl) _ 3 (sd3_at key iv Q)
  replace A0 : Arr _ _ 3 _ := A0.al' (n := 2) (.cells #[.string key, .string iv, .int .u64 Q] 24)
  replace A1 : Arr _ _ 2 _ := A1.al' (n := 1) (.cells #[.string key, .string iv, .int .u64 Q] 24)
  replace A2 : Arr _ _ 3 _ := A2.al' (n := 2) (.cells #[.string key, .string iv, .int .u64 Q] 24)
  replace B0 := Bel.al B0 (.cells #[.string key, .string iv, .int .u64 Q] 24)
  obtain ⟨a0c0, a0c1, a0c2⟩ := A0.sd
  have a1c0 := A1.cv 0 (by omega) (.int .i64 k) rfl
  have a1c1 := A1.cv 1 (by omega) (.string b) rfl
  obtain ⟨a2c0, a2c1, a2c2⟩ := A2.sd
  obtain ⟨x1c0, x1c1, x1c2⟩ := X1.sd
  go_wp2_with fail
  refine (C4 _).mono ?_
  rintro e w4 ⟨rfl, b4⟩
  clear a0c0 a0c1 a0c2 a1c0 a1c1 a2c0 a2c1 a2c2 x1c0 x1c1 x1c2
  replace A0 : Arr _ _ 3 _ := A0.to' (n := 2) b4
  replace A1 : Arr _ _ 2 _ := A1.to' (n := 1) b4
  replace A2 : Arr _ _ 3 _ := A2.to' (n := 2) b4
  replace X1 : Arr _ _ 3 _ := X1.to' (n := 2) b4
  replace B0 := Bel.call B0 b4
  clear b4
  have X2 := Arr.new w4 _ 26 (w4.heap.size) (by rfl) _ 2 (rc2_at 23 S)
  replace A0 : Arr _ _ 3 _ := A0.al' (n := 2) (.cells #[.int .i64 23, .string S] 26)
  replace A1 : Arr _ _ 2 _ := A1.al' (n := 1) (.cells #[.int .i64 23, .string S] 26)
  replace A2 : Arr _ _ 3 _ := A2.al' (n := 2) (.cells #[.int .i64 23, .string S] 26)
  replace X1 : Arr _ _ 3 _ := X1.al' (n := 2) (.cells #[.int .i64 23, .string S] 26)
  replace B0 := Bel.al B0 (.cells #[.int .i64 23, .string S] 26)
  obtain ⟨a0c0, a0c1, a0c2⟩ := A0.sd
  have a1c0 := A1.cv 0 (by omega) (.int .i64 k) rfl
  have a1c1 := A1.cv 1 (by omega) (.string b) rfl
  obtain ⟨a2c0, a2c1, a2c2⟩ := A2.sd
  obtain ⟨x1c0, x1c1, x1c2⟩ := X1.sd
  have x2c0 := X2.cv 0 (by omega) (.int .i64 23) rfl
  have x2c1 := X2.cv 1 (by omega) (.string S) rfl
  go_wp2_with fail
  refine (C5 _).mono ?_
  rintro e w5 ⟨rfl, b5⟩
  clear a0c0 a0c1 a0c2 a1c0 a1c1 a2c0 a2c1 a2c2 x1c0 x1c1 x1c2 x2c0 x2c1
  replace A0 : Arr _ _ 3 _ := A0.to' (n := 2) b5
  replace A1 : Arr _ _ 2 _ := A1.to' (n := 1) b5
  replace A2 : Arr _ _ 3 _ := A2.to' (n := 2) b5
  replace X1 : Arr _ _ 3 _ := X1.to' (n := 2) b5
  replace X2 : Arr _ _ 2 _ := X2.to' (n := 1) b5
  replace B0 := Bel.call B0 b5
  clear b5
  have X3 := Arr.new w5 _ 24 (w5.heap.size) (by rfl) _ 3 (sd3_at key iv U)
  replace A0 : Arr _ _ 3 _ := A0.al' (n := 2) (.cells #[.string key, .string iv, .int .u64 U] 24)
  replace A1 : Arr _ _ 2 _ := A1.al' (n := 1) (.cells #[.string key, .string iv, .int .u64 U] 24)
  replace A2 : Arr _ _ 3 _ := A2.al' (n := 2) (.cells #[.string key, .string iv, .int .u64 U] 24)
  replace X1 : Arr _ _ 3 _ := X1.al' (n := 2) (.cells #[.string key, .string iv, .int .u64 U] 24)
  replace X2 : Arr _ _ 2 _ := X2.al' (n := 1) (.cells #[.string key, .string iv, .int .u64 U] 24)
  replace B0 := Bel.al B0 (.cells #[.string key, .string iv, .int .u64 U] 24)
  have X4 := Arr.new (w5.alloc (.cells #[.string key, .string iv, .int .u64 U] 24)) _ 26 (w5.heap.size + 1) (by simp) _ 2 (rc2_at K2 B2)
  replace A0 : Arr _ _ 3 _ := A0.al' (n := 2) (.cells #[.int .i64 K2, .string B2] 26)
  replace A1 : Arr _ _ 2 _ := A1.al' (n := 1) (.cells #[.int .i64 K2, .string B2] 26)
  replace A2 : Arr _ _ 3 _ := A2.al' (n := 2) (.cells #[.int .i64 K2, .string B2] 26)
  replace X1 : Arr _ _ 3 _ := X1.al' (n := 2) (.cells #[.int .i64 K2, .string B2] 26)
  replace X2 : Arr _ _ 2 _ := X2.al' (n := 1) (.cells #[.int .i64 K2, .string B2] 26)
  replace X3 : Arr _ _ 3 _ := X3.al' (n := 2) (.cells #[.int .i64 K2, .string B2] 26)
  replace B0 := Bel.al B0 (.cells #[.int .i64 K2, .string B2] 26)
  obtain ⟨a0c0, a0c1, a0c2⟩ := A0.sd
  have a1c0 := A1.cv 0 (by omega) (.int .i64 k) rfl
  have a1c1 := A1.cv 1 (by omega) (.string b) rfl
  obtain ⟨a2c0, a2c1, a2c2⟩ := A2.sd
  obtain ⟨x1c0, x1c1, x1c2⟩ := X1.sd
  have x2c0 := X2.cv 0 (by omega) (.int .i64 23) rfl
  have x2c1 := X2.cv 1 (by omega) (.string S) rfl
  obtain ⟨x3c0, x3c1, x3c2⟩ := X3.sd
  have x4c0 := X4.cv 0 (by omega) (.int .i64 K2) rfl
  have x4c1 := X4.cv 1 (by omega) (.string B2) rfl
  go_wp2_with fail
  refine (C6 _).mono ?_
  rintro e w6 ⟨rfl, b6⟩
  clear a0c0 a0c1 a0c2 a1c0 a1c1 a2c0 a2c1 a2c2 x1c0 x1c1 x1c2 x2c0 x2c1 x3c0 x3c1 x3c2 x4c0 x4c1
  replace A0 : Arr _ _ 3 _ := A0.to' (n := 2) b6
  replace A1 : Arr _ _ 2 _ := A1.to' (n := 1) b6
  replace A2 : Arr _ _ 3 _ := A2.to' (n := 2) b6
  replace X1 : Arr _ _ 3 _ := X1.to' (n := 2) b6
  replace X2 : Arr _ _ 2 _ := X2.to' (n := 1) b6
  replace X3 : Arr _ _ 3 _ := X3.to' (n := 2) b6
  replace X4 : Arr _ _ 2 _ := X4.to' (n := 1) b6
  replace B0 := Bel.call B0 b6
  clear b6
  have X5 := Arr.new w6 _ 24 (w6.heap.size) (by rfl) _ 3 (sd3_at key iv U)
  replace A0 : Arr _ _ 3 _ := A0.al' (n := 2) (.cells #[.string key, .string iv, .int .u64 U] 24)
  replace A1 : Arr _ _ 2 _ := A1.al' (n := 1) (.cells #[.string key, .string iv, .int .u64 U] 24)
  replace A2 : Arr _ _ 3 _ := A2.al' (n := 2) (.cells #[.string key, .string iv, .int .u64 U] 24)
  replace X1 : Arr _ _ 3 _ := X1.al' (n := 2) (.cells #[.string key, .string iv, .int .u64 U] 24)
  replace X2 : Arr _ _ 2 _ := X2.al' (n := 1) (.cells #[.string key, .string iv, .int .u64 U] 24)
  replace X3 : Arr _ _ 3 _ := X3.al' (n := 2) (.cells #[.string key, .string iv, .int .u64 U] 24)
  replace X4 : Arr _ _ 2 _ := X4.al' (n := 1) (.cells #[.string key, .string iv, .int .u64 U] 24)
  replace B0 := Bel.al B0 (.cells #[.string key, .string iv, .int .u64 U] 24)
  have X6 := Arr.new (w6.alloc (.cells #[.string key, .string iv, .int .u64 U] 24)) _ 26 (w6.heap.size + 1) (by simp) _ 2 (rc2_at K2 B2)
  replace A0 : Arr _ _ 3 _ := A0.al' (n := 2) (.cells #[.int .i64 K2, .string B2] 26)
  replace A1 : Arr _ _ 2 _ := A1.al' (n := 1) (.cells #[.int .i64 K2, .string B2] 26)
  replace A2 : Arr _ _ 3 _ := A2.al' (n := 2) (.cells #[.int .i64 K2, .string B2] 26)
  replace X1 : Arr _ _ 3 _ := X1.al' (n := 2) (.cells #[.int .i64 K2, .string B2] 26)
  replace X2 : Arr _ _ 2 _ := X2.al' (n := 1) (.cells #[.int .i64 K2, .string B2] 26)
  replace X3 : Arr _ _ 3 _ := X3.al' (n := 2) (.cells #[.int .i64 K2, .string B2] 26)
  replace X4 : Arr _ _ 2 _ := X4.al' (n := 1) (.cells #[.int .i64 K2, .string B2] 26)
  replace X5 : Arr _ _ 3 _ := X5.al' (n := 2) (.cells #[.int .i64 K2, .string B2] 26)
  replace B0 := Bel.al B0 (.cells #[.int .i64 K2, .string B2] 26)
  obtain ⟨a0c0, a0c1, a0c2⟩ := A0.sd
  have a1c0 := A1.cv 0 (by omega) (.int .i64 k) rfl
  have a1c1 := A1.cv 1 (by omega) (.string b) rfl
  obtain ⟨a2c0, a2c1, a2c2⟩ := A2.sd
  obtain ⟨x1c0, x1c1, x1c2⟩ := X1.sd
  have x2c0 := X2.cv 0 (by omega) (.int .i64 23) rfl
  have x2c1 := X2.cv 1 (by omega) (.string S) rfl
  obtain ⟨x3c0, x3c1, x3c2⟩ := X3.sd
  have x4c0 := X4.cv 0 (by omega) (.int .i64 K2) rfl
  have x4c1 := X4.cv 1 (by omega) (.string B2) rfl
  obtain ⟨x5c0, x5c1, x5c2⟩ := X5.sd
  have x6c0 := X6.cv 0 (by omega) (.int .i64 K2) rfl
  have x6c1 := X6.cv 1 (by omega) (.string B2) rfl
  go_wp2_with (go_at_call 7; refine (CA _).mono ?_; rintro e w9 ⟨rfl, b9⟩)
  go_ret
  exact ⟨rfl, Bel.call B0 b9⟩
set_option maxHeartbeats 8000000 in
theorem RecPlaces_6 (key iv b N M T S R B2 : ByteArray) (q k s Q U K2 r : Int) (hqs : ¬ q = s) (hNM : (N.toList == M.toList) = false) (w : World) (hf : fwB b = true)
    (C1 : ∀ W, Calls Tryz.prog 8 #[sdV key iv q] W fun e w' => e = .returned (.tuple #[.string N, .int .i64 0]) ∧ Below W.heap.size W w')
    (C2 : ∀ W, Calls Tryz.prog 8 #[sdV key iv s] W fun e w' => e = .returned (.tuple #[.string M, .int .i64 0]) ∧ Below W.heap.size W w')
    (C3 : ∀ W, Calls Tryz.prog 10 #[sdV key iv q, rcV k b, .int .i64 0] W fun e w' => e = .returned (.tuple #[sdV key iv Q, .string T, .int .i64 0]) ∧ Below W.heap.size W w')
    (C4 : ∀ W, Calls Tryz.prog 15 #[.string T] W fun e w' => e = .returned (.tuple #[rcV 23 S, .string R, .int .i64 0]) ∧ Below W.heap.size W w')
    (C5 : ∀ W, Calls Tryz.prog 12 #[sdV key iv s, rcV 23 S] W fun e w' => e = .returned (.tuple #[sdV key iv U, rcV K2 B2, .int .i64 r]) ∧ Below W.heap.size W w')
    (C6 : ∀ W, Calls Tryz.prog 13 #[sdV key iv s, rcV 23 S] W fun e w' => e = .returned (.tuple #[sdV key iv U, rcV K2 B2, .int .i64 r]) ∧ Below W.heap.size W w')
    (CA : ∀ W, Calls Tryz.prog 7 #[] W fun e w' => e = .returned (.bool true) ∧ Below W.heap.size W w') :
    Calls Tryz.prog 5 #[sdV key iv q, rcV k b, .int .u64 s] w fun e w' => e = .returned (.bool true) ∧ Below w.heap.size w w' := by
  have CF := fun W => few_any b W
  rw [hf] at CF
  have A0 : Arr (((w.alloc (.cells #[.string key, .string iv, .int .u64 q] 24)).alloc (.cells #[.int .i64 k, .string b] 26)).alloc (.cells #[.string key, .string iv, .int .u64 s] 24)) w.heap.size 3 (sd3 key iv q) := Arr.al' (n := 2) (Arr.al' (n := 2) (Arr.new w _ 24 _ rfl _ 3 (sd3_at key iv q)) _) _
  have A1 : Arr (((w.alloc (.cells #[.string key, .string iv, .int .u64 q] 24)).alloc (.cells #[.int .i64 k, .string b] 26)).alloc (.cells #[.string key, .string iv, .int .u64 s] 24)) (w.heap.size + 1) 2 (rc2 k b) := Arr.al' (n := 1) (Arr.new (w.alloc (.cells #[.string key, .string iv, .int .u64 q] 24)) _ 26 (w.heap.size + 1) (by simp) _ 2 (rc2_at k b)) _
  have A2 : Arr (((w.alloc (.cells #[.string key, .string iv, .int .u64 q] 24)).alloc (.cells #[.int .i64 k, .string b] 26)).alloc (.cells #[.string key, .string iv, .int .u64 s] 24)) (w.heap.size + 1 + 1) 3 (sd3 key iv s) := Arr.new ((w.alloc (.cells #[.string key, .string iv, .int .u64 q] 24)).alloc (.cells #[.int .i64 k, .string b] 26)) _ 24 (w.heap.size + 1 + 1) (by simp) _ 3 (sd3_at key iv s)
  have B0 : Below w.heap.size w (((w.alloc (.cells #[.string key, .string iv, .int .u64 q] 24)).alloc (.cells #[.int .i64 k, .string b] 26)).alloc (.cells #[.string key, .string iv, .int .u64 s] 24)) := by go_grown
  unfold sdV rcV at *
  clear hf
  go_enter Tryz.func5, Tryz.ntmps5
  go_upto_region 5 with (first | (go_at_call 6; refine (CF _).mono ?_; rintro e w1 ⟨rfl, rfl⟩))
  generalize (((w.alloc (.cells #[.string key, .string iv, .int .u64 q] 24)).alloc (.cells #[.int .i64 k, .string b] 26)).alloc (.cells #[.string key, .string iv, .int .u64 s] 24)) = w0 at *
  obtain ⟨a0c0, a0c1, a0c2⟩ := A0.sd
  have a1c0 := A1.cv 0 (by omega) (.int .i64 k) rfl
  have a1c1 := A1.cv 1 (by omega) (.string b) rfl
  obtain ⟨a2c0, a2c1, a2c2⟩ := A2.sd
  go_wp2_with fail
  refine (C1 _).mono ?_
  rintro e w1 ⟨rfl, b1⟩
  clear a0c0 a0c1 a0c2 a1c0 a1c1 a2c0 a2c1 a2c2
  replace A0 : Arr _ _ 3 _ := A0.to' (n := 2) b1
  replace A1 : Arr _ _ 2 _ := A1.to' (n := 1) b1
  replace A2 : Arr _ _ 3 _ := A2.to' (n := 2) b1
  replace B0 := Bel.call B0 b1
  clear b1
  obtain ⟨a0c0, a0c1, a0c2⟩ := A0.sd
  have a1c0 := A1.cv 0 (by omega) (.int .i64 k) rfl
  have a1c1 := A1.cv 1 (by omega) (.string b) rfl
  obtain ⟨a2c0, a2c1, a2c2⟩ := A2.sd
  go_wp2_with fail
  refine (C2 _).mono ?_
  rintro e w2 ⟨rfl, b2⟩
  clear a0c0 a0c1 a0c2 a1c0 a1c1 a2c0 a2c1 a2c2
  replace A0 : Arr _ _ 3 _ := A0.to' (n := 2) b2
  replace A1 : Arr _ _ 2 _ := A1.to' (n := 1) b2
  replace A2 : Arr _ _ 3 _ := A2.to' (n := 2) b2
  replace B0 := Bel.call B0 b2
  clear b2
  obtain ⟨a0c0, a0c1, a0c2⟩ := A0.sd
  have a1c0 := A1.cv 0 (by omega) (.int .i64 k) rfl
  have a1c1 := A1.cv 1 (by omega) (.string b) rfl
  obtain ⟨a2c0, a2c1, a2c2⟩ := A2.sd
  go_wp2_with fail
  refine (C3 _).mono ?_
  rintro e w3 ⟨rfl, b3⟩
  clear a0c0 a0c1 a0c2 a1c0 a1c1 a2c0 a2c1 a2c2
  replace A0 : Arr _ _ 3 _ := A0.to' (n := 2) b3
  replace A1 : Arr _ _ 2 _ := A1.to' (n := 1) b3
  replace A2 : Arr _ _ 3 _ := A2.to' (n := 2) b3
  replace B0 := Bel.call B0 b3
  clear b3
  have X1 := Arr.new w3 _ 24 (w3.heap.size) (by rfl) _ 3 (sd3_at key iv Q)
  replace A0 : Arr _ _ 3 _ := A0.al' (n := 2) (.cells #[.string key, .string iv, .int .u64 Q] 24)
  replace A1 : Arr _ _ 2 _ := A1.al' (n := 1) (.cells #[.string key, .string iv, .int .u64 Q] 24)
  replace A2 : Arr _ _ 3 _ := A2.al' (n := 2) (.cells #[.string key, .string iv, .int .u64 Q] 24)
  replace B0 := Bel.al B0 (.cells #[.string key, .string iv, .int .u64 Q] 24)
  obtain ⟨a0c0, a0c1, a0c2⟩ := A0.sd
  have a1c0 := A1.cv 0 (by omega) (.int .i64 k) rfl
  have a1c1 := A1.cv 1 (by omega) (.string b) rfl
  obtain ⟨a2c0, a2c1, a2c2⟩ := A2.sd
  obtain ⟨x1c0, x1c1, x1c2⟩ := X1.sd
  go_wp2_with fail
  refine (C4 _).mono ?_
  rintro e w4 ⟨rfl, b4⟩
  clear a0c0 a0c1 a0c2 a1c0 a1c1 a2c0 a2c1 a2c2 x1c0 x1c1 x1c2
  replace A0 : Arr _ _ 3 _ := A0.to' (n := 2) b4
  replace A1 : Arr _ _ 2 _ := A1.to' (n := 1) b4
  replace A2 : Arr _ _ 3 _ := A2.to' (n := 2) b4
  replace X1 : Arr _ _ 3 _ := X1.to' (n := 2) b4
  replace B0 := Bel.call B0 b4
  clear b4
  have X2 := Arr.new w4 _ 26 (w4.heap.size) (by rfl) _ 2 (rc2_at 23 S)
  replace A0 : Arr _ _ 3 _ := A0.al' (n := 2) (.cells #[.int .i64 23, .string S] 26)
  replace A1 : Arr _ _ 2 _ := A1.al' (n := 1) (.cells #[.int .i64 23, .string S] 26)
  replace A2 : Arr _ _ 3 _ := A2.al' (n := 2) (.cells #[.int .i64 23, .string S] 26)
  replace X1 : Arr _ _ 3 _ := X1.al' (n := 2) (.cells #[.int .i64 23, .string S] 26)
  replace B0 := Bel.al B0 (.cells #[.int .i64 23, .string S] 26)
  obtain ⟨a0c0, a0c1, a0c2⟩ := A0.sd
  have a1c0 := A1.cv 0 (by omega) (.int .i64 k) rfl
  have a1c1 := A1.cv 1 (by omega) (.string b) rfl
  obtain ⟨a2c0, a2c1, a2c2⟩ := A2.sd
  obtain ⟨x1c0, x1c1, x1c2⟩ := X1.sd
  have x2c0 := X2.cv 0 (by omega) (.int .i64 23) rfl
  have x2c1 := X2.cv 1 (by omega) (.string S) rfl
  go_wp2_with fail
  refine (C5 _).mono ?_
  rintro e w5 ⟨rfl, b5⟩
  clear a0c0 a0c1 a0c2 a1c0 a1c1 a2c0 a2c1 a2c2 x1c0 x1c1 x1c2 x2c0 x2c1
  replace A0 : Arr _ _ 3 _ := A0.to' (n := 2) b5
  replace A1 : Arr _ _ 2 _ := A1.to' (n := 1) b5
  replace A2 : Arr _ _ 3 _ := A2.to' (n := 2) b5
  replace X1 : Arr _ _ 3 _ := X1.to' (n := 2) b5
  replace X2 : Arr _ _ 2 _ := X2.to' (n := 1) b5
  replace B0 := Bel.call B0 b5
  clear b5
  have X3 := Arr.new w5 _ 24 (w5.heap.size) (by rfl) _ 3 (sd3_at key iv U)
  replace A0 : Arr _ _ 3 _ := A0.al' (n := 2) (.cells #[.string key, .string iv, .int .u64 U] 24)
  replace A1 : Arr _ _ 2 _ := A1.al' (n := 1) (.cells #[.string key, .string iv, .int .u64 U] 24)
  replace A2 : Arr _ _ 3 _ := A2.al' (n := 2) (.cells #[.string key, .string iv, .int .u64 U] 24)
  replace X1 : Arr _ _ 3 _ := X1.al' (n := 2) (.cells #[.string key, .string iv, .int .u64 U] 24)
  replace X2 : Arr _ _ 2 _ := X2.al' (n := 1) (.cells #[.string key, .string iv, .int .u64 U] 24)
  replace B0 := Bel.al B0 (.cells #[.string key, .string iv, .int .u64 U] 24)
  have X4 := Arr.new (w5.alloc (.cells #[.string key, .string iv, .int .u64 U] 24)) _ 26 (w5.heap.size + 1) (by simp) _ 2 (rc2_at K2 B2)
  replace A0 : Arr _ _ 3 _ := A0.al' (n := 2) (.cells #[.int .i64 K2, .string B2] 26)
  replace A1 : Arr _ _ 2 _ := A1.al' (n := 1) (.cells #[.int .i64 K2, .string B2] 26)
  replace A2 : Arr _ _ 3 _ := A2.al' (n := 2) (.cells #[.int .i64 K2, .string B2] 26)
  replace X1 : Arr _ _ 3 _ := X1.al' (n := 2) (.cells #[.int .i64 K2, .string B2] 26)
  replace X2 : Arr _ _ 2 _ := X2.al' (n := 1) (.cells #[.int .i64 K2, .string B2] 26)
  replace X3 : Arr _ _ 3 _ := X3.al' (n := 2) (.cells #[.int .i64 K2, .string B2] 26)
  replace B0 := Bel.al B0 (.cells #[.int .i64 K2, .string B2] 26)
  obtain ⟨a0c0, a0c1, a0c2⟩ := A0.sd
  have a1c0 := A1.cv 0 (by omega) (.int .i64 k) rfl
  have a1c1 := A1.cv 1 (by omega) (.string b) rfl
  obtain ⟨a2c0, a2c1, a2c2⟩ := A2.sd
  obtain ⟨x1c0, x1c1, x1c2⟩ := X1.sd
  have x2c0 := X2.cv 0 (by omega) (.int .i64 23) rfl
  have x2c1 := X2.cv 1 (by omega) (.string S) rfl
  obtain ⟨x3c0, x3c1, x3c2⟩ := X3.sd
  have x4c0 := X4.cv 0 (by omega) (.int .i64 K2) rfl
  have x4c1 := X4.cv 1 (by omega) (.string B2) rfl
  go_wp2_with fail
  refine (C6 _).mono ?_
  rintro e w6 ⟨rfl, b6⟩
  clear a0c0 a0c1 a0c2 a1c0 a1c1 a2c0 a2c1 a2c2 x1c0 x1c1 x1c2 x2c0 x2c1 x3c0 x3c1 x3c2 x4c0 x4c1
  replace A0 : Arr _ _ 3 _ := A0.to' (n := 2) b6
  replace A1 : Arr _ _ 2 _ := A1.to' (n := 1) b6
  replace A2 : Arr _ _ 3 _ := A2.to' (n := 2) b6
  replace X1 : Arr _ _ 3 _ := X1.to' (n := 2) b6
  replace X2 : Arr _ _ 2 _ := X2.to' (n := 1) b6
  replace X3 : Arr _ _ 3 _ := X3.to' (n := 2) b6
  replace X4 : Arr _ _ 2 _ := X4.to' (n := 1) b6
  replace B0 := Bel.call B0 b6
  clear b6
  have X5 := Arr.new w6 _ 24 (w6.heap.size) (by rfl) _ 3 (sd3_at key iv U)
  replace A0 : Arr _ _ 3 _ := A0.al' (n := 2) (.cells #[.string key, .string iv, .int .u64 U] 24)
  replace A1 : Arr _ _ 2 _ := A1.al' (n := 1) (.cells #[.string key, .string iv, .int .u64 U] 24)
  replace A2 : Arr _ _ 3 _ := A2.al' (n := 2) (.cells #[.string key, .string iv, .int .u64 U] 24)
  replace X1 : Arr _ _ 3 _ := X1.al' (n := 2) (.cells #[.string key, .string iv, .int .u64 U] 24)
  replace X2 : Arr _ _ 2 _ := X2.al' (n := 1) (.cells #[.string key, .string iv, .int .u64 U] 24)
  replace X3 : Arr _ _ 3 _ := X3.al' (n := 2) (.cells #[.string key, .string iv, .int .u64 U] 24)
  replace X4 : Arr _ _ 2 _ := X4.al' (n := 1) (.cells #[.string key, .string iv, .int .u64 U] 24)
  replace B0 := Bel.al B0 (.cells #[.string key, .string iv, .int .u64 U] 24)
  have X6 := Arr.new (w6.alloc (.cells #[.string key, .string iv, .int .u64 U] 24)) _ 26 (w6.heap.size + 1) (by simp) _ 2 (rc2_at K2 B2)
  replace A0 : Arr _ _ 3 _ := A0.al' (n := 2) (.cells #[.int .i64 K2, .string B2] 26)
  replace A1 : Arr _ _ 2 _ := A1.al' (n := 1) (.cells #[.int .i64 K2, .string B2] 26)
  replace A2 : Arr _ _ 3 _ := A2.al' (n := 2) (.cells #[.int .i64 K2, .string B2] 26)
  replace X1 : Arr _ _ 3 _ := X1.al' (n := 2) (.cells #[.int .i64 K2, .string B2] 26)
  replace X2 : Arr _ _ 2 _ := X2.al' (n := 1) (.cells #[.int .i64 K2, .string B2] 26)
  replace X3 : Arr _ _ 3 _ := X3.al' (n := 2) (.cells #[.int .i64 K2, .string B2] 26)
  replace X4 : Arr _ _ 2 _ := X4.al' (n := 1) (.cells #[.int .i64 K2, .string B2] 26)
  replace X5 : Arr _ _ 3 _ := X5.al' (n := 2) (.cells #[.int .i64 K2, .string B2] 26)
  replace B0 := Bel.al B0 (.cells #[.int .i64 K2, .string B2] 26)
  obtain ⟨a0c0, a0c1, a0c2⟩ := A0.sd
  have a1c0 := A1.cv 0 (by omega) (.int .i64 k) rfl
  have a1c1 := A1.cv 1 (by omega) (.string b) rfl
  obtain ⟨a2c0, a2c1, a2c2⟩ := A2.sd
  obtain ⟨x1c0, x1c1, x1c2⟩ := X1.sd
  have x2c0 := X2.cv 0 (by omega) (.int .i64 23) rfl
  have x2c1 := X2.cv 1 (by omega) (.string S) rfl
  obtain ⟨x3c0, x3c1, x3c2⟩ := X3.sd
  have x4c0 := X4.cv 0 (by omega) (.int .i64 K2) rfl
  have x4c1 := X4.cv 1 (by omega) (.string B2) rfl
  obtain ⟨x5c0, x5c1, x5c2⟩ := X5.sd
  have x6c0 := X6.cv 0 (by omega) (.int .i64 K2) rfl
  have x6c1 := X6.cv 1 (by omega) (.string B2) rfl
  go_wp2_with (go_at_call 7; refine (CA _).mono ?_; rintro e w9 ⟨rfl, b9⟩)
  go_ret
  exact ⟨rfl, Bel.call B0 b9⟩
theorem nil_ap (a : ByteArray) : a ++ (⟨#[]⟩ : ByteArray) = a := by
  apply ba_ext
  rw [ap_list]
  simp
theorem RecPlaces_any (key iv b : ByteArray) (q k s : Int) (q0 : 0 ≤ q) (q1 : q < 18446744073709551616) (s0 : 0 ≤ s) (s1 : s < 18446744073709551616) (w : World) :
    Calls Tryz.prog 5 #[sdV key iv q, rcV k b, .int .u64 s] w fun e w' => e = .returned (.bool true) ∧ Below w.heap.size w w' := by
  cases hf : fwB b with
  | false => exact RecPlaces_1 key iv b q k s w hf awake_any
  | true =>
    have C1 := fun W => Nonce_any key iv q q0 q1 W
    have C2 := fun W => Nonce_any key iv s s0 s1 W
    have C3 := fun W => Protect_any key iv b k q 0 q0 q1 W
    by_cases hE : noE key iv = 0
    · have e1 : noR key iv q = noS iv q := by unfold noR; rw [if_pos hE]
      have e2 : noR key iv s = noS iv s := by unfold noR; rw [if_pos hE]
      rw [hE, e1] at C1
      rw [hE, e2] at C2
      by_cases h2 : prE key iv q k b 0 = 0
      · obtain ⟨_, hb, _, hpp, _⟩ := prE_0 h2
        have eT : prT key iv q k b 0 = hdS 23 ((slS key iv q (wiS k b 0)).size : Int) ++ slS key iv q (wiS k b 0) := by unfold prT; rw [if_pos h2, ptS_is]; rfl
        rw [h2, eT] at C3
        have zt := wiS_size k b 0
        have zs := slS_size key iv q (wiS k b 0)
        generalize slS key iv q (wiS k b 0) = S at *
        obtain ⟨v1, v2, v3, v4⟩ := uf_frame 23 S ⟨#[]⟩ rfl (by show _ ≤ 16640; omega)
        have C4 := fun W => Unframe_any (hdS 23 (S.size : Int) ++ S ++ ⟨#[]⟩) W
        rw [v1, v2, v3, v4, nil_ap] at C4
        obtain ⟨K, B, e⟩ := upV_is key iv s 23 S
        have C5 := fun W => Unprotect_any key iv S 23 s s0 s1 W
        have C6 := fun W => rUnprotect_any key iv S 23 s s0 s1 (by omega) W
        rw [e] at C5 C6
        by_cases hq : q = s
        · exact RecPlaces_5 key iv b _ _ _ S _ _ q k s _ _ _ _ hq (by rw [hq]) w hf C1 C2 C3 C4 C5 C6 awake_any
        · exact RecPlaces_6 key iv b _ _ _ S _ _ q k s _ _ _ _ hq (tl_ne (fun c => hq (noS_inj iv q s q0 q1 s0 s1 c))) w hf C1 C2 C3 C4 C5 C6 awake_any
      · by_cases hq : q = s
        · exact RecPlaces_3 key iv b _ _ _ q k s _ _ hq (by rw [hq]) h2 w hf C1 C2 C3 awake_any
        · exact RecPlaces_4 key iv b _ _ _ q k s _ _ hq (tl_ne (fun c => hq (noS_inj iv q s q0 q1 s0 s1 c))) h2 w hf C1 C2 C3 awake_any
    · have h2 : ¬ prE key iv q k b 0 = 0 := fun c => by
        obtain ⟨_, _, _, _, a, d, _⟩ := prE_0 c
        apply hE
        unfold noE
        rw [if_pos ⟨a, d⟩]
      exact RecPlaces_2 key iv b _ _ _ q k s _ _ _ h2 hE w hf C1 C2 C3 awake_any
end Go.Proofs.YtjaljnfijhfkcaaGreatDoor
