/- Plain facts on numbers in four parts of 64 bits, and the laws of single operations over this translation that the walks use. -/
import Derived.Test.YtpigofooblmdhaaRows
import Derived.WalkKit
import Derived.WalkSpells
import Derived.WalkLawsBesides
import Derived.Handy
import Derived.Laws.Externs
set_option linter.all false
namespace Go.Proofs.Ytpigofooblmdhaa
open Go.RowKit

/-- The k-th part of 64 bits of a whole number. -/
def lim (N : Int) (k : Nat) : Int := N / (18446744073709551616 ^ k) % 18446744073709551616

theorem lim0 (N : Int) : lim N 0 = N % 18446744073709551616 := by simp [lim]
theorem lim1 (N : Int) : lim N 1 = N / 18446744073709551616 % 18446744073709551616 := by simp [lim]
theorem lim2 (N : Int) : lim N 2 = N / 340282366920938463463374607431768211456 % 18446744073709551616 := by simp [lim]
theorem lim3 (N : Int) : lim N 3 = N / 6277101735386680763835789423207666416102355444464034512896 % 18446744073709551616 := by simp [lim]
theorem lim4 (N : Int) : lim N 4 = N / 115792089237316195423570985008687907853269984665640564039457584007913129639936 % 18446744073709551616 := by simp [lim]

theorem lim_nn (N : Int) (k : Nat) : 0 ≤ lim N k := by unfold lim; omega
theorem lim_lt (N : Int) (k : Nat) : lim N k < 18446744073709551616 := by unfold lim; omega
theorem lim_le (N : Int) (k : Nat) : lim N k ≤ 18446744073709551615 := by have := lim_lt N k; omega

/-- The number of four parts. -/
def V4 (a b c d : Int) : Int := a + 18446744073709551616 * b + 340282366920938463463374607431768211456 * c + 6277101735386680763835789423207666416102355444464034512896 * d

theorem lims_of {N s0 s1 s2 s3 q : Int} (h0 : 0 ≤ s0) (h0' : s0 < 18446744073709551616) (h1 : 0 ≤ s1) (h1' : s1 < 18446744073709551616) (h2 : 0 ≤ s2) (h2' : s2 < 18446744073709551616) (h3 : 0 ≤ s3) (h3' : s3 < 18446744073709551616)
    (h : N = V4 s0 s1 s2 s3 + 115792089237316195423570985008687907853269984665640564039457584007913129639936 * q) : lim N 0 = s0 ∧ lim N 1 = s1 ∧ lim N 2 = s2 ∧ lim N 3 = s3 := by
  rw [lim0, lim1, lim2, lim3]
  unfold V4 at h
  omega

theorem V4_lim (N : Int) (h0 : 0 ≤ N) (h1 : N < 115792089237316195423570985008687907853269984665640564039457584007913129639936) : V4 (lim N 0) (lim N 1) (lim N 2) (lim N 3) = N := by
  rw [lim0, lim1, lim2, lim3]; unfold V4; omega

theorem V4_bd {a b c d : Int} (h0 : 0 ≤ a) (h0' : a < 18446744073709551616) (h1 : 0 ≤ b) (h1' : b < 18446744073709551616) (h2 : 0 ≤ c) (h2' : c < 18446744073709551616) (h3 : 0 ≤ d) (h3' : d < 18446744073709551616) :
    0 ≤ V4 a b c d ∧ V4 a b c d < 115792089237316195423570985008687907853269984665640564039457584007913129639936 := by unfold V4; omega

/-- A number of four parts as the translation holds it. -/
abbrev nv (N : Int) : Value := .agg #[.int .u64 (lim N 0), .int .u64 (lim N 1), .int .u64 (lim N 2), .int .u64 (lim N 3)]
def top256 : Int := 115792089237316195423570985008687907853269984665640564039457584007913129639936

theorem run45 (x y c : Int) (hx : 0 ≤ x) (hy : 0 ≤ y) (hc0 : 0 ≤ c) (hc : c ≤ 1) (w : World) :
    (callFunc 84 #[.int .u64 x, .int .u64 y, .int .u64 c]).run Try.prog w =
      .ok (.value (.tuple #[.int .u64 ((x + y + c) % 18446744073709551616), .int .u64 ((x + y + c) / 18446744073709551616)])) w := by
  rw [run_callFunc_extern (fn := Try.f84) (by kernel_rfl) (by kernel_rfl) (by kernel_rfl) (by kernel_rfl) (e := add64Entry) (by kernel_rfl), run_add64 x y c hx hy hc0 hc]
  rfl

theorem ex45 (x y c : Int) (hx : 0 ≤ x) (hx1 : x < 18446744073709551616) (hy : 0 ≤ y) (hy1 : y < 18446744073709551616) (hc0 : 0 ≤ c) (hc : c ≤ 1) :
    ∃ s d : Int, 0 ≤ s ∧ s < 18446744073709551616 ∧ 0 ≤ d ∧ d ≤ 1 ∧ x + y + c = s + 18446744073709551616 * d ∧ ∀ w, (callFunc 84 #[.int .u64 x, .int .u64 y, .int .u64 c]).run Try.prog w = .ok (.value (.tuple #[.int .u64 s, .int .u64 d])) w :=
  ⟨_, _, by omega, by omega, by omega, by omega, by omega, fun w => run45 x y c hx hy hc0 hc w⟩

def sub64E : Array Value → Sem Value := fun args => do
  let (x, y, b) ← Extern.MathBitsCarry.three "Sub64" args
  pure (Extern.MathBitsCarry.pair ((x + Extern.MathBitsCarry.m64 - y - b) % Extern.MathBitsCarry.m64) (if x < y + b then 1 else 0))

theorem run_sub64E (x y b : Nat) (hb : b ≤ 1) (w : World) :
    (sub64E #[.int .u64 x, .int .u64 y, .int .u64 b]).run Try.prog w =
      .ok (.tuple #[.int .u64 (((x + 18446744073709551616 - y - b) % 18446744073709551616 : Nat) : Int), .int .u64 ((if x < y + b then 1 else 0 : Nat) : Int)]) w := by
  have : b = 0 ∨ b = 1 := by omega
  rcases this with rfl | rfl <;> rfl

theorem ex47 (x y c : Int) (hx : 0 ≤ x) (hx1 : x < 18446744073709551616) (hy : 0 ≤ y) (hy1 : y < 18446744073709551616) (hc0 : 0 ≤ c) (hc : c ≤ 1) :
    ∃ s d : Int, 0 ≤ s ∧ s < 18446744073709551616 ∧ 0 ≤ d ∧ d ≤ 1 ∧ x - y - c = s - 18446744073709551616 * d ∧ ∀ w, (callFunc 94 #[.int .u64 x, .int .u64 y, .int .u64 c]).run Try.prog w = .ok (.value (.tuple #[.int .u64 s, .int .u64 d])) w := by
  obtain ⟨X, rfl⟩ := Int.eq_ofNat_of_zero_le hx
  obtain ⟨Y, rfl⟩ := Int.eq_ofNat_of_zero_le hy
  obtain ⟨C, rfl⟩ := Int.eq_ofNat_of_zero_le hc0
  refine ⟨(((X + 18446744073709551616 - Y - C) % 18446744073709551616 : Nat) : Int), ((if X < Y + C then 1 else 0 : Nat) : Int), by omega, by omega, by omega, ?_, ?_, fun w => ?_⟩
  · split <;> simp
  · split <;> omega
  · rw [run_callFunc_extern (fn := Try.f94) (by kernel_rfl) (by kernel_rfl) (by kernel_rfl) (by kernel_rfl) (e := sub64E) (by kernel_rfl), run_sub64E X Y C (by omega)]
    rfl

theorem idx24_0 (v0 v1 v2 v3 : Int) (w : World) : (Instr.index 24 (.agg #[.int .u64 v0, .int .u64 v1, .int .u64 v2, .int .u64 v3]) (.int .i64 0)).run Try.prog w = .ok (.int .u64 v0) w := by kernel_rfl
theorem idx24_1 (v0 v1 v2 v3 : Int) (w : World) : (Instr.index 24 (.agg #[.int .u64 v0, .int .u64 v1, .int .u64 v2, .int .u64 v3]) (.int .i64 1)).run Try.prog w = .ok (.int .u64 v1) w := by kernel_rfl
theorem idx24_2 (v0 v1 v2 v3 : Int) (w : World) : (Instr.index 24 (.agg #[.int .u64 v0, .int .u64 v1, .int .u64 v2, .int .u64 v3]) (.int .i64 2)).run Try.prog w = .ok (.int .u64 v2) w := by kernel_rfl
theorem idx24_3 (v0 v1 v2 v3 : Int) (w : World) : (Instr.index 24 (.agg #[.int .u64 v0, .int .u64 v1, .int .u64 v2, .int .u64 v3]) (.int .i64 3)).run Try.prog w = .ok (.int .u64 v3) w := by kernel_rfl
end Go.Proofs.Ytpigofooblmdhaa
