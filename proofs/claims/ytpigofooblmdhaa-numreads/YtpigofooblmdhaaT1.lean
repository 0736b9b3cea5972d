/- What num's helpers for texts answer: lengthError, digitValue, push. -/
import Derived.Test.YtpigofooblmdhaaN6
import Derived.Test.YtpigofooblmdhaaM1
set_option linter.all false
namespace Go.Proofs.Ytpigofooblmdhaa
open Go.RowKit
/-- Which error a text's length is. -/
def lenE (s n : Int) : Int := if s < n then 11 else if n < s then 12 else 0
set_option maxHeartbeats 1000000 in
theorem lengthError_any (s : ByteArray) (n : Int) (hs : s.size ≤ maxLen) (w : World) :
    Calls Try.prog 48 #[.string s, .int .i64 n] w fun e w' => e = .returned (.int .i64 (lenE s.size n)) ∧ w' = w := by
  unfold maxLen at hs
  unfold lenE
  by_cases h : (s.size : Int) < n
  · rw [if_pos h]
    go_enter Try.func48, Try.ntmps48
    go_wp2
    go_ret
    exact ⟨rfl, rfl⟩
  · rw [if_neg h]
    by_cases h2 : n < (s.size : Int)
    · rw [if_pos h2]
      go_enter Try.func48, Try.ntmps48
      go_wp2
      go_ret
      exact ⟨rfl, rfl⟩
    · rw [if_neg h2]
      go_enter Try.func48, Try.ntmps48
      go_wp2
      go_ret
      exact ⟨rfl, rfl⟩
/-- What a digit stands for. -/
def dgv (c : Int) : Int := if 48 ≤ c ∧ c ≤ 57 then c - 48 else if 97 ≤ c ∧ c ≤ 102 then c - 87 else 0
/-- Whether a sign is a digit. -/
def dgo (c : Int) : Bool := decide (48 ≤ c ∧ c ≤ 57) || decide (97 ≤ c ∧ c ≤ 102)
set_option maxHeartbeats 1000000 in
theorem digitValue_any (c : Int) (h0 : 0 ≤ c) (h1 : c < 256) (w : World) :
    Calls Try.prog 49 #[.int .u8 c] w fun e w' => e = .returned (.tuple #[.int .u8 (dgv c), .bool (dgo c)]) ∧ w' = w := by
  by_cases a : 48 ≤ c ∧ c ≤ 57
  · have e1 : dgv c = c - 48 := by unfold dgv; rw [if_pos a]
    have e2 : dgo c = true := by unfold dgo; simp [a]
    rw [e1, e2]
    obtain ⟨a1, a2⟩ := a
    clear e1 e2
    go_enter Try.func49, Try.ntmps49
    go_wp2
    go_ret2
    exact ⟨rfl, rfl⟩
  · by_cases b : 97 ≤ c ∧ c ≤ 102
    · have e1 : dgv c = c - 87 := by unfold dgv; rw [if_neg a, if_pos b]
      have e2 : dgo c = true := by unfold dgo; simp [b]
      rw [e1, e2]
      obtain ⟨b1, b2⟩ := b
      have a1 : (48 : Int) ≤ c := by omega
      have a2 : ¬ c ≤ 57 := by omega
      clear e1 e2 a
      go_enter Try.func49, Try.ntmps49
      go_wp2
      go_ret2
      exact ⟨by simp; omega, rfl⟩
    · have e1 : dgv c = 0 := by unfold dgv; rw [if_neg a, if_neg b]
      have e2 : dgo c = false := by unfold dgo; rw [decide_eq_false a, decide_eq_false b]; rfl
      rw [e1, e2]
      clear e1 e2
      by_cases h48 : 48 ≤ c
      · have h57 : ¬ c ≤ 57 := by omega
        by_cases h97 : 97 ≤ c
        · have h102 : ¬ c ≤ 102 := by omega
          clear a b
          go_enter Try.func49, Try.ntmps49
          go_wp2
          go_ret2
          exact ⟨rfl, rfl⟩
        · clear a b
          go_enter Try.func49, Try.ntmps49
          go_wp2
          go_ret2
          exact ⟨rfl, rfl⟩
      · have h97 : ¬ 97 ≤ c := by omega
        clear a b
        go_enter Try.func49, Try.ntmps49
        go_wp2
        go_ret2
        exact ⟨rfl, rfl⟩
set_option maxHeartbeats 2000000 in
theorem push_any (b : Nat) (f : Nat → Value) (t : Nat) (ht : t < 4) (wd d x : Int) (hw0 : 0 ≤ wd) (hw1 : wd ≤ 8) (hd0 : 0 ≤ d) (hd1 : d < 256) (W : World) (hA : Arr W b 4 f) (hx : f (3 - t) = .int .u64 x) (x0 : 0 ≤ x) (x1 : x < 18446744073709551616) :
    Calls Try.prog 50 #[.pointer (some ⟨b, 0, none⟩), .int .i64 t, .int .u64 wd, .int .u8 d] W fun e w' => (∃ v, e = .returned v) ∧ w' = (W.setCell ⟨b, 3 - t, none⟩ (.int .u64 (bits .or .u64 (IntKind.u64.wrap (x * 2 ^ wd.toNat)) d))).drew := by
  have r := hA.c (3 - t) (by omega)
  rw [hx] at r
  have z := hA.z (3 - t) (by omega)
  obtain ⟨q, hq⟩ : ∃ q : Nat, (3 : Int) - (t : Int) = (q : Int) := ⟨3 - t, by omega⟩
  have e : 3 - t = q := by omega
  rw [e] at r z ⊢
  have q0 : (0 : Int) ≤ (q : Int) := by omega
  have q4 : (q : Int) < 4 := by omega
  have t0 : (0 : Int) ≤ (t : Int) := by omega
  have t4 : (t : Int) < 4 := by omega
  clear e hA hx
  go_enter Try.func50, Try.ntmps50
  go_wp2
  go_region
  go_wp2
  go_end0
  exact ⟨⟨_, rfl⟩, rfl⟩
end Go.Proofs.Ytpigofooblmdhaa
