/- Products by halves of 32 bits, as plain numbers. -/
import Derived.Test.YtpigofooblmdhaaM3
set_option linter.all false
namespace Go.Proofs.Ytpigofooblmdhaa
open Go.RowKit
/-- The j-th half of 32 bits. -/
def hf (N : Int) (j : Nat) : Int := N / 4294967296 ^ j % 4294967296
theorem hf_nn (N : Int) (j : Nat) : 0 ≤ hf N j := by unfold hf; omega
theorem hf_lt (N : Int) (j : Nat) : hf N j < 4294967296 := by unfold hf; omega
theorem p32 (j : Nat) : (0 : Int) < 4294967296 ^ j := Int.pow_pos (by omega)
theorem div_suc (N : Int) (j : Nat) : N / 4294967296 ^ j = hf N j + 4294967296 * (N / 4294967296 ^ (j + 1)) := by
  unfold hf
  have e : N / 4294967296 ^ (j + 1) = N / 4294967296 ^ j / 4294967296 := by
    rw [Int.pow_succ, ← Int.ediv_ediv_of_nonneg (Int.le_of_lt (p32 j))]
  rw [e]; omega
/-- The low j halves. -/
def low (N : Int) (j : Nat) : Int := N % 4294967296 ^ j
theorem low_suc (N : Int) (j : Nat) : low N (j + 1) = low N j + hf N j * 4294967296 ^ j := by
  unfold low
  have a := Int.emod_add_mul_ediv N (4294967296 ^ j)
  have b := Int.emod_add_mul_ediv N (4294967296 ^ (j + 1))
  have d := div_suc N j
  generalize N / 4294967296 ^ (j + 1) = u at *
  generalize N % 4294967296 ^ (j + 1) = r at *
  generalize hf N j = h at *
  generalize N % 4294967296 ^ j = l at *
  generalize N / 4294967296 ^ j = v at *
  rw [Int.pow_succ] at b
  generalize (4294967296 : Int) ^ j = q at *
  subst d
  grind
theorem low_zero (N : Int) : low N 0 = 0 := by unfold low; simp [Int.emod_one]
theorem low_all (N : Int) (h0 : 0 ≤ N) (h1 : N < top256) : low N 8 = N := by
  unfold low
  have e : (4294967296 : Int) ^ 8 = top256 := by decide
  rw [e]; exact Int.emod_eq_of_lt h0 h1
theorem low_bd (N : Int) (j : Nat) : 0 ≤ low N j ∧ low N j < 4294967296 ^ j := ⟨Int.emod_nonneg _ (Int.ne_of_gt (p32 j)), Int.emod_lt_of_pos _ (p32 j)⟩
/-- The sum when i rows and k places of the next are done. -/
def TT (A B : Int) (i k : Nat) : Int := low A i * B + hf A i * low B k * 4294967296 ^ i
theorem TT_zero (A B : Int) (i : Nat) : TT A B i 0 = low A i * B := by unfold TT; rw [low_zero]; simp
theorem TT_end (A B : Int) (i : Nat) (h0 : 0 ≤ B) (h1 : B < top256) : TT A B i 8 = low A (i + 1) * B := by
  unfold TT; rw [low_all B h0 h1, low_suc]; grind
theorem TT_suc (A B : Int) (i k : Nat) : TT A B i (k + 1) = TT A B i k + hf A i * hf B k * 4294967296 ^ (i + k) := by
  unfold TT; rw [low_suc, Int.pow_add]; grind
/-- What is carried. -/
def cr (A B : Int) (i k : Nat) : Int := TT A B i k / 4294967296 ^ (i + k) - low A i * B / 4294967296 ^ (i + k)
theorem cr_zero (A B : Int) (i : Nat) : cr A B i 0 = 0 := by unfold cr; rw [TT_zero]; omega
theorem cr_eq (A B : Int) (i k : Nat) : TT A B i (k + 1) / 4294967296 ^ (i + k) = hf A i * hf B k + hf (low A i * B) (i + k) + cr A B i k + 4294967296 * (low A i * B / 4294967296 ^ (i + k + 1)) := by
  rw [TT_suc, Int.add_mul_ediv_right _ _ (Int.ne_of_gt (p32 _))]
  have d := div_suc (low A i * B) (i + k)
  unfold cr
  omega
theorem cr_suc (A B : Int) (i k : Nat) : cr A B i (k + 1) = (hf A i * hf B k + hf (low A i * B) (i + k) + cr A B i k) / 4294967296 := by
  have e := cr_eq A B i k
  have d := div_suc (TT A B i (k + 1)) (i + k)
  have hh : hf (TT A B i (k + 1)) (i + k) = (TT A B i (k + 1) / 4294967296 ^ (i + k)) % 4294967296 := rfl
  have u : cr A B i (k + 1) = TT A B i (k + 1) / 4294967296 ^ (i + k + 1) - low A i * B / 4294967296 ^ (i + k + 1) := rfl
  rw [u]
  generalize hf A i * hf B k + hf (low A i * B) (i + k) + cr A B i k = t at *
  omega
theorem hf_new (A B : Int) (i k : Nat) : hf (TT A B i (k + 1)) (i + k) = (hf A i * hf B k + hf (low A i * B) (i + k) + cr A B i k) % 4294967296 := by
  have e := cr_eq A B i k
  have hh : hf (TT A B i (k + 1)) (i + k) = (TT A B i (k + 1) / 4294967296 ^ (i + k)) % 4294967296 := rfl
  rw [hh, e]
  generalize hf A i * hf B k + hf (low A i * B) (i + k) + cr A B i k = t at *
  omega
theorem hf_old (N x : Int) (j s : Nat) (h : j < s) : hf (N + x * 4294967296 ^ s) j = hf N j := by
  obtain ⟨d, rfl⟩ : ∃ d, s = j + 1 + d := ⟨s - (j + 1), by omega⟩
  unfold hf
  have e : x * (4294967296 : Int) ^ (j + 1 + d) = x * 4294967296 ^ d * 4294967296 * 4294967296 ^ j := by rw [Int.pow_add, Int.pow_succ]; grind
  rw [e, Int.add_mul_ediv_right _ _ (Int.ne_of_gt (p32 _))]
  omega
theorem cr_bd (A B : Int) (i k : Nat) : 0 ≤ cr A B i k ∧ cr A B i k < 4294967296 := by
  induction k with
  | zero => rw [cr_zero]; omega
  | succ k ih =>
    rw [cr_suc]
    have a0 := hf_nn A i
    have a1 := hf_lt A i
    have b0 := hf_nn B k
    have b1 := hf_lt B k
    have z0 := hf_nn (low A i * B) (i + k)
    have z1 := hf_lt (low A i * B) (i + k)
    have m0 : 0 ≤ hf A i * hf B k := Int.mul_nonneg a0 b0
    have m1 : hf A i * hf B k ≤ 4294967295 * 4294967295 := Int.mul_le_mul (by omega) (by omega) b0 (by omega)
    omega
theorem t_bd (A B : Int) (i k : Nat) : 0 ≤ hf A i * hf B k + hf (low A i * B) (i + k) + cr A B i k ∧ hf A i * hf B k + hf (low A i * B) (i + k) + cr A B i k < 18446744073709551616 ∧ 0 ≤ hf A i * hf B k ∧ hf A i * hf B k + hf (low A i * B) (i + k) < 18446744073709551616 ∧ hf A i * hf B k < 18446744073709551616 := by
  have a0 := hf_nn A i
  have a1 := hf_lt A i
  have b0 := hf_nn B k
  have b1 := hf_lt B k
  have z0 := hf_nn (low A i * B) (i + k)
  have z1 := hf_lt (low A i * B) (i + k)
  have m0 : 0 ≤ hf A i * hf B k := Int.mul_nonneg a0 b0
  have m1 : hf A i * hf B k ≤ 4294967295 * 4294967295 := Int.mul_le_mul (by omega) (by omega) b0 (by omega)
  have c := cr_bd A B i k
  omega
theorem cr_end (A B : Int) (i : Nat) (h0 : 0 ≤ B) (h1 : B < top256) : cr A B i 8 = hf (low A (i + 1) * B) (i + 8) := by
  have e : (4294967296 : Int) ^ 8 = top256 := by decide
  have l := low_bd A i
  have z : low A i * B / 4294967296 ^ (i + 8) = 0 := by
    refine Int.ediv_eq_zero_of_lt (Int.mul_nonneg l.1 h0) ?_
    rw [Int.pow_add, e]
    have a1 : low A i * B ≤ 4294967296 ^ i * B := Int.mul_le_mul_of_nonneg_right (by omega) h0
    have a2 : 4294967296 ^ i * B < 4294967296 ^ i * top256 := Int.mul_lt_mul_of_pos_left h1 (p32 i)
    omega
  have b := cr_bd A B i 8
  have u : cr A B i 8 = TT A B i 8 / 4294967296 ^ (i + 8) := by unfold cr; omega
  rw [TT_end A B i h0 h1] at u
  unfold hf
  rw [← u]
  omega
theorem hf_high (A B : Int) (i j : Nat) (h0 : 0 ≤ B) (h1 : B < top256) (h : i + 8 ≤ j) : hf (low A i * B) j = 0 := by
  have e : (4294967296 : Int) ^ 8 = top256 := by decide
  have l := low_bd A i
  obtain ⟨d, rfl⟩ : ∃ d, j = i + 8 + d := ⟨j - (i + 8), by omega⟩
  have z : low A i * B < 4294967296 ^ (i + 8) := by
    rw [Int.pow_add, e]
    have a1 : low A i * B ≤ 4294967296 ^ i * B := Int.mul_le_mul_of_nonneg_right (by omega) h0
    have a2 : 4294967296 ^ i * B < 4294967296 ^ i * top256 := Int.mul_lt_mul_of_pos_left h1 (p32 i)
    omega
  have m : (4294967296 : Int) ^ (i + 8) * 1 ≤ 4294967296 ^ (i + 8) * 4294967296 ^ d := Int.mul_le_mul_of_nonneg_left (by have := p32 d; omega) (Int.le_of_lt (p32 _))
  unfold hf
  rw [Int.ediv_eq_zero_of_lt (Int.mul_nonneg l.1 h0) (by rw [Int.pow_add]; omega)]
  rfl
end Go.Proofs.Ytpigofooblmdhaa
