/- What num.part, num.window and num.Bit answer. -/
import Derived.Test.YtpigofooblmdhaaM1
import Derived.Lib.QuietBelow
import Derived.BigQuiet
set_option linter.all false
namespace Go.Proofs.Ytpigofooblmdhaa
open Go.RowKit Go.Sort
attribute [local go_sem] idx24_0 idx24_1 idx24_2 idx24_3
set_option maxHeartbeats 1000000 in
theorem part_in (N : Int) (k : Nat) (hk : k < 4) (w : World) :
    Calls Try.prog 107 #[nv N, .int .i64 k] w fun e w' => e = .returned (.int .u64 (lim N k)) ∧ Below w.heap.size w w' := by
  have h : k = 0 ∨ k = 1 ∨ k = 2 ∨ k = 3 := by omega
  rcases h with h | h | h | h
  all_goals
    subst h
    clear hk
    go_enter Try.func107, Try.ntmps107
    go_wp2
    go_returns
    exact ⟨rfl, by go_grown⟩
set_option maxHeartbeats 1000000 in
theorem part_out (N : Int) (k : Int) (hk : k < 0 ∨ 4 ≤ k) (w : World) :
    Calls Try.prog 107 #[nv N, .int .i64 k] w fun e w' => e = .returned (.int .u64 0) ∧ Below w.heap.size w w' := by
  rcases hk with h | h
  · go_enter Try.func107, Try.ntmps107
    go_wp2
    go_returns
    exact ⟨rfl, by go_grown⟩
  · have h' : ¬ k < 0 := by omega
    go_enter Try.func107, Try.ntmps107
    go_wp2
    go_returns
    exact ⟨rfl, by go_grown⟩
theorem part_any (N : Int) (k : Int) (w : World) :
    Calls Try.prog 107 #[nv N, .int .i64 k] w fun e w' => e = .returned (.int .u64 (prt N k)) ∧ Below w.heap.size w w' := by
  by_cases h : 0 ≤ k ∧ k < 4
  · have e : k = ((k.toNat : Nat) : Int) := by omega
    have := part_in N k.toNat (by omega) w
    rw [← e] at this
    unfold prt; rw [if_pos h]; exact this
  · unfold prt; rw [if_neg h]; exact part_out N k (by omega) w
theorem i64_and63 (n : Int) : bits .and .i64 n 63 = n % 64 := by
  have h63 : (BitVec.ofInt 64 63).toNat = 2 ^ 6 - 1 := by decide
  have key : (BitVec.ofInt 64 n &&& BitVec.ofInt 64 63).toNat = (n % ((2 ^ 64 : Nat) : Int)).toNat % 2 ^ 6 := by
    rw [BitVec.toNat_and, BitVec.toNat_ofInt, h63, Nat.and_two_pow_sub_one_eq_mod]
  show IntKind.i64.wrap ((BitVec.ofInt 64 n &&& BitVec.ofInt 64 63).toNat : Nat) = n % 64
  rw [key, IntKind.wrap_i64]
  omega
theorem u64_mod64 (n : Int) : IntKind.u64.wrap (n % 64) = n % 64 := by rw [IntKind.wrap_u64]; omega
theorem new4 (w : World) (a b c d : Value) (T : TypeId) (ds : Nat) (os : Array Obj) :
    (grow (redrawn (w.alloc (.cells #[a, b, c, d] T)) ds) os).cell? ⟨w.heap.size, 0, none⟩ = some a ∧
    (grow (redrawn (w.alloc (.cells #[a, b, c, d] T)) ds) os).cell? ⟨w.heap.size, 1, none⟩ = some b ∧
    (grow (redrawn (w.alloc (.cells #[a, b, c, d] T)) ds) os).cell? ⟨w.heap.size, 2, none⟩ = some c ∧
    (grow (redrawn (w.alloc (.cells #[a, b, c, d] T)) ds) os).cell? ⟨w.heap.size, 3, none⟩ = some d :=
  ⟨cell_regrown (by simp [go_sem]) _ _, cell_regrown (by simp [go_sem]) _ _, cell_regrown (by simp [go_sem]) _ _, cell_regrown (by simp [go_sem]) _ _⟩

set_option maxHeartbeats 1000000 in
theorem window_raw (N : Int) (k r : Int) (hr : r = k % 64) (hk : -9223372036854775808 ≤ k) (hk' : k ≤ 9223372036854775807) (w : World) :
    Calls Try.prog 81 #[nv N, .int .i64 k] w fun e w' => e = .returned (.int .u64 (bits .or .u64 (prt N (k / 64) / 2 ^ r.toNat) (IntKind.u64.wrap (prt N (k / 64 + 1) * 2 ^ (64 - r).toNat)))) ∧ Below w.heap.size w w' := by
  have a63 := i64_and63 k
  rw [← hr] at a63
  have u63 : IntKind.u64.wrap r = r := by rw [hr]; exact u64_mod64 k
  have r0 : 0 ≤ r := by omega
  have r1 : r ≤ 63 := by omega
  clear hr
  have n0 := fun ds os => (new4 w (.int .u64 (lim N 0)) (.int .u64 (lim N 1)) (.int .u64 (lim N 2)) (.int .u64 (lim N 3)) 24 ds os).1
  have n1 := fun ds os => (new4 w (.int .u64 (lim N 0)) (.int .u64 (lim N 1)) (.int .u64 (lim N 2)) (.int .u64 (lim N 3)) 24 ds os).2.1
  have n2 := fun ds os => (new4 w (.int .u64 (lim N 0)) (.int .u64 (lim N 1)) (.int .u64 (lim N 2)) (.int .u64 (lim N 3)) 24 ds os).2.2.1
  have n3 := fun ds os => (new4 w (.int .u64 (lim N 0)) (.int .u64 (lim N 1)) (.int .u64 (lim N 2)) (.int .u64 (lim N 3)) 24 ds os).2.2.2
  go_enter Try.func81, Try.ntmps81
  go_wp2
  refine wp_region_quiet_below (by kernel_rfl) (by kernel_rfl) ?_
  repeat (go_big_quiet_step (exact Calls.regrown_of (part_any _ _ _)))
  refine wpQuiet_nil ?_
  intro _ hw'
  obtain ⟨⟨dq, osq⟩, hw''⟩ := hw'
  subst hw''
  clear n0 n1 n2 n3
  go_wp2
  go_returns
  exact ⟨rfl, (((Below.refl _ _).alloc (Nat.le_refl _) _).trans ((below_regrown _ _ _).mono (by simp)))⟩

theorem window_any (N : Int) (k : Int) (hN : 0 ≤ N) (hN' : N < top256) (hk : -9223372036854775808 ≤ k) (hk' : k ≤ 9223372036854775807) (w : World) :
    Calls Try.prog 81 #[nv N, .int .i64 k] w fun e w' => e = .returned (.int .u64 (win N k)) ∧ Below w.heap.size w w' := by
  rw [← win_eq N k hN hN']
  exact window_raw N k _ rfl hk hk' w

theorem u64_and1 (z : Int) (h0 : 0 ≤ z) (h1 : z < 18446744073709551616) : bits .and .u64 z 1 = z % 2 := by
  have := bits_mask .u64 64 (by decide) wraps_u64_64 1 (by decide) z h0 h1
  simpa using this

set_option maxHeartbeats 1000000 in
theorem bit_any (N : Int) (k : Int) (hN : 0 ≤ N) (hN' : N < top256) (hk : -9223372036854775808 ≤ k) (hk' : k ≤ 9223372036854775807) (w : World) :
    Calls Try.prog 102 #[nv N, .int .i64 k] w fun e w' => e = .returned (.int .u64 (win N k % 2)) ∧ Below w.heap.size w w' := by
  have b := win_bd N k
  have a1 := u64_and1 (win N k) b.1 b.2
  have c := fun W => window_any N k hN hN' hk hk' W
  clear b hN hN'
  go_enter Try.func102, Try.ntmps102
  go_wp2_with (go_at_call 81; refine (c _).mono ?_; rintro e w' ⟨rfl, hb⟩)
  go_returns
  exact ⟨rfl, ((Below.refl _ _).alloc (Nat.le_refl _) _).trans (hb.mono (by simp))⟩
end Go.Proofs.Ytpigofooblmdhaa
