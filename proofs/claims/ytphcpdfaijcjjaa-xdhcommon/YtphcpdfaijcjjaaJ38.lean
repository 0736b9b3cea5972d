/- The walk of layer 3's statement XdhCommon. -/
import Derived.Test.YtphcpdfaijcjjaaJ32
set_option linter.all false
set_option maxRecDepth 100000
namespace Go.Proofs.Ytphcpdfaijcjjaa
open Go.RowKit Go.Sort
set_option maxHeartbeats 4000000 in
theorem common_yy (a b X Y S : ByteArray) (E F : Int) (ha : (a.size : Int) = 32) (ha' : ((a.size : Int) == 32) = true) (hb : (b.size : Int) = 32) (hb' : ((b.size : Int) == 32) = true) (w : World)
    (C1 : ∀ W, Calls Try.prog 4 #[.string a] W fun e w' => e = .returned (.tuple #[.string X, .int .i64 0]) ∧ Below W.heap.size W w')
    (C2 : ∀ W, Calls Try.prog 4 #[.string b] W fun e w' => e = .returned (.tuple #[.string Y, .int .i64 0]) ∧ Below W.heap.size W w')
    (C3 : ∀ W, Calls Try.prog 6 #[.string a, .string Y] W fun e w' => e = .returned (.tuple #[.string S, .int .i64 0]) ∧ Below W.heap.size W w')
    (C4 : ∀ W, Calls Try.prog 6 #[.string b, .string X] W fun e w' => e = .returned (.tuple #[.string S, .int .i64 0]) ∧ Below W.heap.size W w')
    (C5 : ∀ W, Calls Try.prog 7 #[.string X] W fun e w' => e = .returned (.bool true) ∧ Below W.heap.size W w')
    (C6 : ∀ W, Calls Try.prog 7 #[.string Y] W fun e w' => e = .returned (.bool true) ∧ Below W.heap.size W w')
    (C7 : ∀ W, Calls Try.prog 5 #[] W fun e w' => e = .returned (.bool true) ∧ Below W.heap.size W w') :
    Calls Try.prog 3 #[.string a, .string b] w fun e w' => e = .returned (.bool true) ∧ Below w.heap.size w w' := by
  go_enter Try.func3, Try.ntmps3
  go_wp2_with fail
  refine (C1 _).mono ?_
  rintro e w1 ⟨rfl, hb⟩
  have hB := hb
  clear hb
  go_wp2_with fail
  refine (C2 _).mono ?_
  rintro e w2 ⟨rfl, hb⟩
  have hB' := Bel.call hB hb
  clear hb hB
  have hB := hB'
  clear hB'
  go_wp2_with fail
  refine (C3 _).mono ?_
  rintro e w3 ⟨rfl, hb⟩
  have hB' := Bel.call hB hb
  clear hb hB
  have hB := hB'
  clear hB'
  go_wp2_with fail
  refine (C4 _).mono ?_
  rintro e w4 ⟨rfl, hb⟩
  have hB' := Bel.call hB hb
  clear hb hB
  have hB := hB'
  clear hB'
  go_wp2_with fail
  refine (C5 _).mono ?_
  rintro e w5 ⟨rfl, hb⟩
  have hB' := Bel.call hB hb
  clear hb hB
  have hB := hB'
  clear hB'
  go_wp2_with fail
  refine (C6 _).mono ?_
  rintro e w6 ⟨rfl, hb⟩
  have hB' := Bel.call hB hb
  clear hb hB
  have hB := hB'
  clear hB'
  go_wp2_with fail
  refine (C7 _).mono ?_
  rintro e w7 ⟨rfl, hb⟩
  have hB' := Bel.call hB hb
  clear hb hB
  have hB := hB'
  clear hB'
  go_wp2_with fail
  go_returns
  exact ⟨rfl, hB⟩
set_option maxHeartbeats 4000000 in
theorem common_yn (a b X Y S : ByteArray) (E F : Int) (ha : (a.size : Int) = 32) (ha' : ((a.size : Int) == 32) = true) (hb : ¬ (b.size : Int) = 32) (hb' : ((b.size : Int) == 32) = false) (nb : ¬ F = 0) (nb' : (F == 0) = false) (w : World)
    (C1 : ∀ W, Calls Try.prog 4 #[.string a] W fun e w' => e = .returned (.tuple #[.string X, .int .i64 0]) ∧ Below W.heap.size W w')
    (C2 : ∀ W, Calls Try.prog 4 #[.string b] W fun e w' => e = .returned (.tuple #[.string Y, .int .i64 F]) ∧ Below W.heap.size W w')
    (C7 : ∀ W, Calls Try.prog 5 #[] W fun e w' => e = .returned (.bool true) ∧ Below W.heap.size W w') :
    Calls Try.prog 3 #[.string a, .string b] w fun e w' => e = .returned (.bool true) ∧ Below w.heap.size w w' := by
  go_enter Try.func3, Try.ntmps3
  go_wp2_with fail
  refine (C1 _).mono ?_
  rintro e w1 ⟨rfl, hb⟩
  have hB := hb
  clear hb
  go_wp2_with fail
  refine (C2 _).mono ?_
  rintro e w2 ⟨rfl, hb⟩
  have hB' := Bel.call hB hb
  clear hb hB
  have hB := hB'
  clear hB'
  go_wp2_with fail
  refine (C7 _).mono ?_
  rintro e w3 ⟨rfl, hb⟩
  have hB' := Bel.call hB hb
  clear hb hB
  have hB := hB'
  clear hB'
  go_wp2_with fail
  go_returns
  exact ⟨rfl, hB⟩
set_option maxHeartbeats 4000000 in
theorem common_ny (a b X Y S : ByteArray) (E F : Int) (ha : ¬ (a.size : Int) = 32) (ha' : ((a.size : Int) == 32) = false) (na : ¬ E = 0) (na' : (E == 0) = false) (hb : (b.size : Int) = 32) (hb' : ((b.size : Int) == 32) = true) (w : World)
    (C1 : ∀ W, Calls Try.prog 4 #[.string a] W fun e w' => e = .returned (.tuple #[.string X, .int .i64 E]) ∧ Below W.heap.size W w')
    (C2 : ∀ W, Calls Try.prog 4 #[.string b] W fun e w' => e = .returned (.tuple #[.string Y, .int .i64 0]) ∧ Below W.heap.size W w')
    (C7 : ∀ W, Calls Try.prog 5 #[] W fun e w' => e = .returned (.bool true) ∧ Below W.heap.size W w') :
    Calls Try.prog 3 #[.string a, .string b] w fun e w' => e = .returned (.bool true) ∧ Below w.heap.size w w' := by
  go_enter Try.func3, Try.ntmps3
  go_wp2_with fail
  refine (C1 _).mono ?_
  rintro e w1 ⟨rfl, hb⟩
  have hB := hb
  clear hb
  go_wp2_with fail
  refine (C2 _).mono ?_
  rintro e w2 ⟨rfl, hb⟩
  have hB' := Bel.call hB hb
  clear hb hB
  have hB := hB'
  clear hB'
  go_wp2_with fail
  refine (C7 _).mono ?_
  rintro e w3 ⟨rfl, hb⟩
  have hB' := Bel.call hB hb
  clear hb hB
  have hB := hB'
  clear hB'
  go_wp2_with fail
  go_returns
  exact ⟨rfl, hB⟩
set_option maxHeartbeats 4000000 in
theorem common_nn (a b X Y S : ByteArray) (E F : Int) (ha : ¬ (a.size : Int) = 32) (ha' : ((a.size : Int) == 32) = false) (na : ¬ E = 0) (na' : (E == 0) = false) (hb : ¬ (b.size : Int) = 32) (hb' : ((b.size : Int) == 32) = false) (nb : ¬ F = 0) (nb' : (F == 0) = false) (w : World)
    (C1 : ∀ W, Calls Try.prog 4 #[.string a] W fun e w' => e = .returned (.tuple #[.string X, .int .i64 E]) ∧ Below W.heap.size W w')
    (C2 : ∀ W, Calls Try.prog 4 #[.string b] W fun e w' => e = .returned (.tuple #[.string Y, .int .i64 F]) ∧ Below W.heap.size W w')
    (C7 : ∀ W, Calls Try.prog 5 #[] W fun e w' => e = .returned (.bool true) ∧ Below W.heap.size W w') :
    Calls Try.prog 3 #[.string a, .string b] w fun e w' => e = .returned (.bool true) ∧ Below w.heap.size w w' := by
  go_enter Try.func3, Try.ntmps3
  go_wp2_with fail
  refine (C1 _).mono ?_
  rintro e w1 ⟨rfl, hb⟩
  have hB := hb
  clear hb
  go_wp2_with fail
  refine (C2 _).mono ?_
  rintro e w2 ⟨rfl, hb⟩
  have hB' := Bel.call hB hb
  clear hb hB
  have hB := hB'
  clear hB'
  go_wp2_with fail
  refine (C7 _).mono ?_
  rintro e w3 ⟨rfl, hb⟩
  have hB' := Bel.call hB hb
  clear hb hB
  have hB := hB'
  clear hB'
  go_wp2_with fail
  go_returns
  exact ⟨rfl, hB⟩
end Go.Proofs.Ytphcpdfaijcjjaa
