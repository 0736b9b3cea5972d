/- Plain arithmetic: the 64 bits of a number from a given one on. -/
import Derived.Test.YtpigofooblmdhaaB0
import Derived.Laws.BitsAllLaws
set_option linter.all false
namespace Go.Proofs.Ytpigofooblmdhaa
open Go.RowKit
def prt (N : Int) (k : Int) : Int := if 0 ≤ k ∧ k < 4 then lim N k.toNat else 0
/-- A number's 64 bits from the given one on. -/
def win (N : Int) (k : Int) : Int := if 0 ≤ k then N / 2 ^ k.toNat % 18446744073709551616 else N * 2 ^ (-k).toNat % 18446744073709551616

theorem prt_bd (N k : Int) : 0 ≤ prt N k ∧ prt N k < 18446744073709551616 := by
  unfold prt; split
  · exact ⟨lim_nn _ _, lim_lt _ _⟩
  · omega
theorem win_bd (N k : Int) : 0 ≤ win N k ∧ win N k < 18446744073709551616 := by
  unfold win; split <;> omega

theorem wraps_u64_64 (n : Int) (h₀ : 0 ≤ n) (h₁ : n < 2 ^ 64) : IntKind.u64.wrap n = n := by rw [IntKind.wrap_u64]; omega

theorem mul_mod_right' (p T S : Int) (hT : 0 < T) (hS : 0 < S) : p * S % (T * S) = p % T * S := by
  have e : p * S = p % T * S + T * S * (p / T) := by
    have := Int.mul_ediv_add_emod p T
    calc p * S = (T * (p / T) + p % T) * S := by rw [this]
      _ = p % T * S + T * S * (p / T) := by grind
  rw [e, Int.add_mul_emod_self_left]
  have h0 := Int.emod_nonneg p (Int.ne_of_gt hT)
  have h1 := Int.emod_lt_of_pos p hT
  exact Int.emod_eq_of_lt (Int.mul_nonneg h0 (Int.le_of_lt hS)) (Int.mul_lt_mul_of_pos_right h1 hS)

theorem pow_split (r : Nat) (h : r ≤ 64) : (2 : Int) ^ r * 2 ^ (64 - r) = 18446744073709551616 := by
  rw [← Int.pow_add]
  have : r + (64 - r) = 64 := by omega
  rw [this]; rfl

theorem or_join (p0 p1 : Int) (r : Nat) (hr : r ≤ 63) (h0 : 0 ≤ p0) (h0' : p0 < 18446744073709551616) (h1 : 0 ≤ p1) :
    bits .or .u64 (p0 / 2 ^ r) (IntKind.u64.wrap (p1 * 2 ^ (64 - r))) = p0 / 2 ^ r + p1 % 2 ^ r * 2 ^ (64 - r) := by
  have hT : (0 : Int) < 2 ^ r := Int.pow_pos (by omega)
  have hS : (0 : Int) < 2 ^ (64 - r) := Int.pow_pos (by omega)
  have hTS := pow_split r (by omega)
  have hw : IntKind.u64.wrap (p1 * 2 ^ (64 - r)) = p1 % 2 ^ r * 2 ^ (64 - r) := by
    rw [IntKind.wrap_u64, ← hTS, mul_mod_right' _ _ _ hT hS]
  rw [hw]
  have hc : ∀ a b, bits .or .u64 a b = bits .or .u64 b a := fun a b => by simp only [bits, BitVec.or_comm]
  have hm0 := Int.emod_nonneg p1 (Int.ne_of_gt hT)
  have hm1 := Int.emod_lt_of_pos p1 hT
  have hd0 : 0 ≤ p0 / 2 ^ r := Int.ediv_nonneg h0 (Int.le_of_lt hT)
  have hd1 : p0 / 2 ^ r < 2 ^ (64 - r) := Int.ediv_lt_of_lt_mul hT (by rw [Int.mul_comm, hTS]; exact h0')
  have hd2 : p0 / 2 ^ r < 2 ^ 64 := by
    have : p0 / 2 ^ r ≤ p0 := Int.ediv_le_self _ h0
    omega
  have hx0 : 0 ≤ p1 % 2 ^ r * 2 ^ (64 - r) := Int.mul_nonneg hm0 (Int.le_of_lt hS)
  have hx1 : p1 % 2 ^ r * 2 ^ (64 - r) < 2 ^ 64 := by
    have := Int.mul_lt_mul_of_pos_right hm1 hS
    rw [hTS] at this
    exact this
  rw [hc, bits_join .u64 64 (by decide) wraps_u64_64 (64 - r) _ _ hx0 (Int.mul_emod_left _ _) hx1 hd0 hd1 hd2, Int.add_comm]

theorem win_core (p0 M1 : Int) (r : Nat) (hr : r ≤ 63) (h0 : 0 ≤ p0) (h0' : p0 < 18446744073709551616) :
    (p0 + 18446744073709551616 * M1) / 2 ^ r % 18446744073709551616 = p0 / 2 ^ r + M1 % 2 ^ r * 2 ^ (64 - r) := by
  have hT : (0 : Int) < 2 ^ r := Int.pow_pos (by omega)
  have hS : (0 : Int) < 2 ^ (64 - r) := Int.pow_pos (by omega)
  have hTS := pow_split r (by omega)
  generalize (2 : Int) ^ r = T at *
  generalize (2 : Int) ^ (64 - r) = S at *
  have hm0 := Int.emod_nonneg M1 (Int.ne_of_gt hT)
  have hm1 := Int.emod_lt_of_pos M1 hT
  have hd0 : 0 ≤ p0 / T := Int.ediv_nonneg h0 (Int.le_of_lt hT)
  have hd1 : p0 / T < S := Int.ediv_lt_of_lt_mul hT (by rw [Int.mul_comm, hTS]; exact h0')
  have e1 : p0 + 18446744073709551616 * M1 = p0 + T * (S * M1) := by rw [← hTS]; grind
  have e2 : M1 = T * (M1 / T) + M1 % T := (Int.mul_ediv_add_emod M1 T).symm
  have e3 : p0 / T + S * M1 = (p0 / T + M1 % T * S) + T * S * (M1 / T) := by
    generalize M1 / T = q at *
    generalize M1 % T = m at *
    subst e2; grind
  rw [e1, Int.add_mul_ediv_left _ _ (Int.ne_of_gt hT), e3, ← hTS, Int.add_mul_emod_self_left]
  refine Int.emod_eq_of_lt (Int.add_nonneg hd0 (Int.mul_nonneg hm0 (Int.le_of_lt hS))) ?_
  have h2 : (M1 % T + 1) * S ≤ T * S := Int.mul_le_mul_of_nonneg_right (by omega) (Int.le_of_lt hS)
  have h3 : (M1 % T + 1) * S = M1 % T * S + S := by grind
  omega

theorem mod_mod_pow (M : Int) (r : Nat) (hr : r ≤ 63) : M % 18446744073709551616 % 2 ^ r = M % 2 ^ r := by
  have hTS := pow_split r (by omega)
  exact Int.emod_emod_of_dvd M ⟨2 ^ (64 - r), hTS.symm⟩

theorem div_pow_add (N : Int) (a r : Nat) : N / 2 ^ (a + r) = N / 2 ^ a / 2 ^ r := by
  rw [Int.pow_add, Int.ediv_ediv_of_nonneg (Int.le_of_lt (Int.pow_pos (by omega)))]

theorem win_eq (N k : Int) (hN : 0 ≤ N) (hN' : N < top256) :
    bits .or .u64 (prt N (k / 64) / 2 ^ (k % 64).toNat) (IntKind.u64.wrap (prt N (k / 64 + 1) * 2 ^ (64 - k % 64).toNat)) = win N k := by
  unfold top256 at hN'
  obtain ⟨r, hr⟩ : ∃ r : Nat, k % 64 = r := ⟨(k % 64).toNat, by omega⟩
  obtain ⟨q, hq⟩ : ∃ q, k / 64 = q := ⟨_, rfl⟩
  have hk : k = 64 * q + r := by omega
  have hr63 : r ≤ 63 := by omega
  have e1 : (k % 64).toNat = r := by omega
  have e2 : (64 - k % 64).toNat = 64 - r := by omega
  rw [e1, e2, hq, or_join _ _ r hr63 (prt_bd _ _).1 (prt_bd _ _).2 (prt_bd _ _).1]
  have hT : (0 : Int) < 2 ^ r := Int.pow_pos (by omega)
  by_cases c0 : q ≤ -2
  · have p0 : prt N q = 0 := by unfold prt; rw [if_neg (by omega)]
    have p1 : prt N (q + 1) = 0 := by unfold prt; rw [if_neg (by omega)]
    rw [p0, p1, Int.zero_ediv, Int.zero_emod, Int.zero_mul]
    unfold win
    rw [if_neg (by omega)]
    have e : (-k).toNat = 64 + ((-k).toNat - 64) := by omega
    rw [e, Int.pow_add, ← Int.mul_assoc, Int.mul_right_comm]
    have : (2 : Int) ^ 64 = 18446744073709551616 := rfl
    rw [this, Int.mul_emod_left]; rfl
  by_cases c1 : q = -1
  · have p0 : prt N q = 0 := by unfold prt; rw [if_neg (by omega)]
    have p1 : prt N (q + 1) = N % 18446744073709551616 := by
      unfold prt; rw [if_pos (by omega)]; subst c1; exact lim0 N
    rw [p0, p1, Int.zero_ediv, mod_mod_pow _ _ hr63]
    unfold win
    rw [if_neg (by omega)]
    have e : (-k).toNat = 64 - r := by omega
    have hS : (0 : Int) < 2 ^ (64 - r) := Int.pow_pos (by omega)
    rw [e, ← pow_split r (by omega), mul_mod_right' _ _ _ hT hS]; omega
  have hk0 : 0 ≤ k := by omega
  unfold win
  rw [if_pos hk0]
  by_cases c2 : 4 ≤ q
  · have p0 : prt N q = 0 := by unfold prt; rw [if_neg (by omega)]
    have p1 : prt N (q + 1) = 0 := by unfold prt; rw [if_neg (by omega)]
    rw [p0, p1, Int.zero_ediv, Int.zero_emod, Int.zero_mul]
    have e : k.toNat = 256 + (k.toNat - 256) := by omega
    have e256 : (2 : Int) ^ 256 = 115792089237316195423570985008687907853269984665640564039457584007913129639936 := by decide
    have z : N / 115792089237316195423570985008687907853269984665640564039457584007913129639936 = 0 := by omega
    rw [e, div_pow_add, e256, z, Int.zero_ediv]; rfl
  have hq4 : q = 0 ∨ q = 1 ∨ q = 2 ∨ q = 3 := by omega
  rcases hq4 with h | h | h | h
  · subst h
    have e : k.toNat = r := by omega
    have p0 : prt N 0 = N % 18446744073709551616 := lim0 N
    have p1 : prt N (0 + 1) = N / 18446744073709551616 % 18446744073709551616 := lim1 N
    have eM : N = N % 18446744073709551616 + 18446744073709551616 * (N / 18446744073709551616) := by omega
    rw [e, p0, p1, mod_mod_pow _ _ hr63]
    have := win_core (N % 18446744073709551616) (N / 18446744073709551616) r hr63 (by omega) (by omega)
    rw [← eM] at this
    exact this.symm
  · subst h
    have e : k.toNat = 64 + r := by omega
    have e64 : (2 : Int) ^ 64 = 18446744073709551616 := rfl
    have p0 : prt N 1 = N / 18446744073709551616 % 18446744073709551616 := lim1 N
    have p1 : prt N (1 + 1) = N / 18446744073709551616 / 18446744073709551616 % 18446744073709551616 := by
      have h : prt N (1 + 1) = lim N 2 := rfl
      rw [h, lim2]; omega
    rw [e, div_pow_add, e64, p0, p1, mod_mod_pow _ _ hr63]
    have eM : N / 18446744073709551616 = N / 18446744073709551616 % 18446744073709551616 + 18446744073709551616 * (N / 18446744073709551616 / 18446744073709551616) := by omega
    have := win_core (N / 18446744073709551616 % 18446744073709551616) (N / 18446744073709551616 / 18446744073709551616) r hr63 (by omega) (by omega)
    rw [← eM] at this
    exact this.symm
  · subst h
    have e : k.toNat = 128 + r := by omega
    have e64 : (2 : Int) ^ 128 = 340282366920938463463374607431768211456 := rfl
    have p0 : prt N 2 = N / 340282366920938463463374607431768211456 % 18446744073709551616 := lim2 N
    have p1 : prt N (2 + 1) = N / 340282366920938463463374607431768211456 / 18446744073709551616 % 18446744073709551616 := by
      have h : prt N (2 + 1) = lim N 3 := rfl
      rw [h, lim3]; omega
    rw [e, div_pow_add, e64, p0, p1, mod_mod_pow _ _ hr63]
    have eM : N / 340282366920938463463374607431768211456 = N / 340282366920938463463374607431768211456 % 18446744073709551616 + 18446744073709551616 * (N / 340282366920938463463374607431768211456 / 18446744073709551616) := by omega
    have := win_core (N / 340282366920938463463374607431768211456 % 18446744073709551616) (N / 340282366920938463463374607431768211456 / 18446744073709551616) r hr63 (by omega) (by omega)
    rw [← eM] at this
    exact this.symm
  · subst h
    have e : k.toNat = 192 + r := by omega
    have e64 : (2 : Int) ^ 192 = 6277101735386680763835789423207666416102355444464034512896 := rfl
    have p0 : prt N 3 = N / 6277101735386680763835789423207666416102355444464034512896 % 18446744073709551616 := lim3 N
    have p1 : prt N (3 + 1) = 0 := rfl
    rw [e, div_pow_add, e64, p0, p1, Int.zero_emod]
    have eM : N / 6277101735386680763835789423207666416102355444464034512896 = N / 6277101735386680763835789423207666416102355444464034512896 % 18446744073709551616 + 18446744073709551616 * 0 := by omega
    have := win_core (N / 6277101735386680763835789423207666416102355444464034512896 % 18446744073709551616) 0 r hr63 (by omega) (by omega)
    rw [← eM, Int.zero_emod] at this
    exact this.symm

/-- The parts of a number that was raised by s bits. -/
theorem win_raised (N : Int) (k s : Nat) : win N (64 * k - s) = lim (N * 2 ^ s) k := by
  have e : (18446744073709551616 : Int) = 2 ^ 64 := rfl
  unfold win lim
  split
  · have h1 : ((64 * (k : Int) - s)).toNat = 64 * k - s := by omega
    have h2 : 64 * k = s + (64 * k - s) := by omega
    have h3 : (18446744073709551616 : Int) ^ k = 2 ^ (s + (64 * k - s)) := by rw [← h2, e, ← Int.pow_mul]
    rw [h1, h3, div_pow_add, Int.mul_ediv_cancel _ (Int.ne_of_gt (Int.pow_pos (by omega)))]
  · have h1 : (-(64 * (k : Int) - s)).toNat = s - 64 * k := by omega
    have h2 : s = (s - 64 * k) + 64 * k := by omega
    have h3 : (18446744073709551616 : Int) ^ k = 2 ^ (64 * k) := by rw [e, ← Int.pow_mul]
    have h4 : N * 2 ^ s = N * 2 ^ (s - 64 * k) * 2 ^ (64 * k) := by
      rw [Int.mul_assoc, ← Int.pow_add, ← h2]
    rw [h1, h3, h4, Int.mul_ediv_cancel _ (Int.ne_of_gt (Int.pow_pos (by omega)))]

/-- The parts of a number that was lowered by s bits. -/
theorem win_lowered (N : Int) (k s : Nat) : win N (64 * k + s) = lim (N / 2 ^ s) k := by
  have e : (18446744073709551616 : Int) = 2 ^ 64 := rfl
  unfold win lim
  rw [if_pos (by omega)]
  have h1 : ((64 * (k : Int) + s)).toNat = s + 64 * k := by omega
  have h3 : (18446744073709551616 : Int) ^ k = 2 ^ (64 * k) := by rw [e, ← Int.pow_mul]
  rw [h1, h3, div_pow_add]
end Go.Proofs.Ytpigofooblmdhaa
