/- RecFrames, by what both Unframes tell (small seat). -/
import Derived.Test.YtjaljnfijhfkcaaR4
set_option linter.all false
set_option maxRecDepth 100000
namespace Go.Proofs.Ytjaljnfijhfkcaa
open Go.RowKit Go.Sort Go.Lib
theorem rSame_any (kd : Int) (l : List ByteArray) (n9 : l.length ≤ 1000) (v1 v2 : Value) (b1 b2 : Nat) (w : World) (h1 : w.ownsRow b1 23 2 v1 l.length (rcC kd l)) (h2 : w.ownsRow b2 23 2 v2 l.length (rcC kd l)) :
    Calls Try.prog 10 #[v1, v2] w fun e w' => e = .returned (.bool true) ∧ Below w.heap.size w w' := by
  by_cases hl : l = []
  · subst hl
    obtain ⟨a1, c1, rfl⟩ := own_formR h1
    obtain ⟨a2, c2, rfl⟩ := own_formR h2
    exact rSame_0 a1 a2 c1 c2 w
  · obtain ⟨g1, c1, rfl, R1⟩ := rows_of h1 hl
    obtain ⟨g2, c2, rfl, R2⟩ := rows_of h2 hl
    exact rSame_1 kd l g1 g2 c1 c2 _ rfl (List.length_pos_iff.2 hl) n9 w R1 R2
theorem RecFrames_1 (k kd : Int) (b s : ByteArray) (h : 70000 < b.size ∨ 70000 < s.size) (w : World) : Calls Try.prog 3 #[rcV k b, .string s, .int .i64 kd] w fun e w' => e = .returned (.bool true) ∧ Below w.heap.size w w' := by
  unfold rcV
  by_cases hb : 70000 < b.size
  · have i1 : (70000 : Int) < (b.size : Int) := by omega
    go_enter Try.func3, Try.ntmps3
    go_wp2_with (go_at_call 5; refine (awake_any _).mono ?_; rintro e w9 ⟨rfl, b9⟩)
    go_ret
    exact ⟨rfl, Bel.call (by go_grown) b9⟩
  · have i1 : ¬ (70000 : Int) < (b.size : Int) := by omega
    have i2 : (70000 : Int) < (s.size : Int) := by omega
    go_enter Try.func3, Try.ntmps3
    go_wp2_with (go_at_call 5; refine (awake_any _).mono ?_; rintro e w9 ⟨rfl, b9⟩)
    go_ret
    exact ⟨rfl, Bel.call (by go_grown) b9⟩
set_option maxHeartbeats 4000000 in
theorem RecFrames_2 (k kd r E K : Int) (b s S B R : ByteArray) (h1 : b.size ≤ 70000) (h2 : s.size ≤ 70000) (w : World)
    (CF : ∀ W, Calls Try.prog 6 #[rcV k b] W fun e w' => e = .returned (.tuple #[.string S, .int .i64 E]) ∧ Below W.heap.size W w')
    (CG : ∀ W, Calls Try.prog 7 #[rcV k b] W fun e w' => e = .returned (.tuple #[.string S, .int .i64 E]) ∧ Below W.heap.size W w')
    (CU : ∀ W, Calls Try.prog 8 #[.string s] W fun e w' => e = .returned (.tuple #[rcV K B, .string R, .int .i64 r]) ∧ Below W.heap.size W w')
    (CV : ∀ W, Calls Try.prog 9 #[.string s] W fun e w' => e = .returned (.tuple #[rcV K B, .string R, .int .i64 r]) ∧ Below W.heap.size W w') :
    Calls Try.prog 3 #[rcV k b, .string s, .int .i64 kd] w fun e w' => e = .returned (.bool true) ∧ Below w.heap.size w w' := by
  have i1 : ¬ (70000 : Int) < (b.size : Int) := by omega
  have i2 : ¬ (70000 : Int) < (s.size : Int) := by omega
  have CS := fun W => Split_any kd s (by omega) W
  have CT := fun W => rSplit_any kd s (by omega) W
  have nl : (pcs s).length ≤ 1000 := by rw [pcs_len]; unfold nP; omega
  have CE := rSame_any kd (pcs s) nl
  clear h1 h2 nl
  generalize (pcs s).length = n at *
  generalize rcC kd (pcs s) = xs at *
  unfold rcV at *
  go_enter Try.func3, Try.ntmps3
  have A0 := Arr.new w _ 23 _ rfl _ 2 (rc2_at k b)
  have B0 : Below w.heap.size w (w.alloc (.cells #[.int .i64 k, .string b] 23)) := by go_grown
  have x0 := A0.cv 0 (by omega) (.int .i64 k) rfl
  have x1 := A0.cv 1 (by omega) (.string b) rfl
  go_wp2_with fail
  refine (CF _).mono ?_
  rintro e w1 ⟨rfl, b1⟩
  replace A0 := A0.to' b1
  replace B0 := Bel.call B0 b1
  clear x0 x1 b1 CF
  have x0 := A0.cv 0 (by omega) (.int .i64 k) rfl
  have x1 := A0.cv 1 (by omega) (.string b) rfl
  go_wp2_with fail
  refine (CG _).mono ?_
  rintro e w2 ⟨rfl, b1⟩
  replace B0 := Bel.call B0 b1
  clear x0 x1 b1 CG A0
  go_wp2_with fail
  refine (CU _).mono ?_
  rintro e w3 ⟨rfl, b1⟩
  replace B0 := Bel.call B0 b1
  clear b1 CU
  go_wp2_with fail
  have A1 := Arr.new w3 _ 23 _ rfl _ 2 (rc2_at K B)
  refine (CV _).mono ?_
  rintro e w4 ⟨rfl, b1⟩
  replace A1 := A1.to' b1
  have l4 : w3.heap.size < w4.heap.size := by have := b1.size; rw [World.size_alloc] at this; omega
  replace B0 := Bel.call (Bel.call B0 (by go_grown)) b1
  clear b1 CV
  have A2 := Arr.new w4 _ 23 _ rfl _ 2 (rc2_at K B)
  replace A1 := A1.to' (show Below w4.heap.size w4 (w4.alloc (.cells #[.int .i64 K, .string B] 23)) by go_grown)
  replace B0 : Below w.heap.size w (w4.alloc (.cells #[.int .i64 K, .string B] 23)) := Bel.call B0 (by go_grown)
  have y0 := A1.cv 0 (by omega) (.int .i64 K) rfl
  have y1 := A1.cv 1 (by omega) (.string B) rfl
  have y2 := A2.cv 0 (by omega) (.int .i64 K) rfl
  have y3 := A2.cv 1 (by omega) (.string B) rfl
  go_wp2_with fail
  generalize w4.alloc (.cells #[.int .i64 K, .string B] 23) = w5 at *
  refine (CS _).mono ?_
  rintro e w6 ⟨v1, rfl, o1, b1⟩
  replace B0 := Bel.call B0 b1
  clear b1 CS A1 A2 y0 y1 y2 y3
  go_wp2_with fail
  refine (CT _).mono ?_
  rintro e w7 ⟨v2, rfl, o2, b1⟩
  replace o1 : w7.ownsRow w5.heap.size 23 2 v1 n xs := o1.kept (row := none) ⟨b1.os, b1.tape, b1.output, b1.size, fun j hj _ => b1.block j hj⟩ (by cases hv : v1.ownBlock <;> simp)
  replace B0 := Bel.call B0 b1
  clear b1 CT
  have C := CE v1 v2 _ _ _ o1 o2
  clear o1 o2 CE
  go_wp2_with fail
  refine C.mono ?_
  rintro e w8 ⟨rfl, b1⟩
  replace B0 := Bel.call B0 b1
  clear b1 C
  go_wp2_with fail
  refine (awake_any _).mono ?_
  rintro e w9 ⟨rfl, b1⟩
  replace B0 := Bel.call B0 b1
  clear b1
  go_wp2_with fail
  go_ret
  exact ⟨rfl, B0⟩
end Go.Proofs.Ytjaljnfijhfkcaa
