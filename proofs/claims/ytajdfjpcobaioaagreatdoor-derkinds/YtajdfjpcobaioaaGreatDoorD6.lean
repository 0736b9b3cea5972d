/- Numbers as they stand within a tag. -/
import Derived.Test.YtajdfjpcobaioaaGreatDoorD5
import Derived.Test.YtajdfjpcobaioaaGreatDoorP1
import Derived.Laws.Concat
import Derived.Test.YtajdfjpcobaioaaGreatDoorN3
set_option linter.all false
set_option maxRecDepth 100000
namespace Go.Proofs.YtajdfjpcobaioaaGreatDoor
open Go.RowKit Go.Sort
def z1 : ByteArray := ⟨#[0]⟩
theorem z1_is : z1 = mkS [0] := by apply ba_ext; rfl
/-- A text of bytes 0 and others, as a number stands. -/
def intF (T : ByteArray) : ByteArray := if T.size = 0 ∨ 128 ≤ bt T 0 then z1 ++ T else T
theorem add_s (a b : ByteArray) (h : a.size + b.size ≤ 9000000000000000000) (W : World) : (Op.stringOp .add a b).run Tryz.prog W = .ok (.string (a ++ b)) W :=
  run_string_add_sum W a b (by omega)
theorem int_core (N : Int) (S T : ByteArray) (hT : T.size ≤ 32)
    (C37 : ∀ W, Calls Tryz.prog 38 #[nv N] W fun e w' => e = .returned (.string S) ∧ Below W.heap.size W w')
    (C36 : ∀ W, Calls Tryz.prog 37 #[.string S, .string ⟨#[0]⟩] W fun e w' => e = .returned (.string T) ∧ w' = W) (w : World) :
    Calls Tryz.prog 14 #[nv N] w fun e w' => e = .returned (.string (intF T)) ∧ Below w.heap.size w w' := by
  unfold intF z1
  have AD := add_s ⟨#[0]⟩ T (by have : (⟨#[0]⟩ : ByteArray).size = 1 := rfl; omega)
  by_cases c0 : T.size = 0
  · have e : T = ⟨#[]⟩ := by
      apply ba_ext
      have := len_list T
      rw [c0] at this
      rw [List.eq_nil_of_length_eq_zero this]
    rw [if_pos (.inl c0)]
    subst e
    go_enter Tryz.func14, Tryz.ntmps14
    go_wp2_with (first | (go_at_call 38; refine (C37 _).mono ?_; rintro e w1 ⟨rfl, hb1⟩) | (go_at_call 37; refine (C36 _).mono ?_; rintro e w2 ⟨rfl, rfl⟩))
    go_ret
    exact ⟨rfl, Bel.call (by go_grown) hb1⟩
  · have em := emp_no T (by omega)
    have I := idx0 T (by omega)
    have b0 := bt_bd T 0
    by_cases c1 : 128 ≤ bt T 0
    · rw [if_pos (.inr c1)]
      generalize bt T 0 = c at *
      go_enter Tryz.func14, Tryz.ntmps14
      go_wp2_with (first | (go_at_call 38; refine (C37 _).mono ?_; rintro e w1 ⟨rfl, hb1⟩) | (go_at_call 37; refine (C36 _).mono ?_; rintro e w2 ⟨rfl, rfl⟩))
      go_ret
      exact ⟨rfl, Bel.call (by go_grown) hb1⟩
    · rw [if_neg (by omega)]
      generalize bt T 0 = c at *
      go_enter Tryz.func14, Tryz.ntmps14
      go_wp2_with (first | (go_at_call 38; refine (C37 _).mono ?_; rintro e w1 ⟨rfl, hb1⟩) | (go_at_call 37; refine (C36 _).mono ?_; rintro e w2 ⟨rfl, rfl⟩))
      go_ret
      exact ⟨rfl, Bel.call (by go_grown) hb1⟩
end Go.Proofs.YtajdfjpcobaioaaGreatDoor
