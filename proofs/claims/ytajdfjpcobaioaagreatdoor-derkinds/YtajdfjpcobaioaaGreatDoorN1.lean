/- Numbers of 256 bits: their parts, windows and bytes (carried from the layer of numbers). -/
import Derived.Test.YtajdfjpcobaioaaGreatDoorB3
import Derived.WalkKit
import Derived.WalkSpells
import Derived.WalkLawsBesides
import Derived.Handy
import Derived.Laws.Externs
import Derived.Laws.BitsAllLaws
import Derived.Lib.QuietBelow
import Derived.BigQuiet
import Derived.Deep.MidRow
import Derived.Deep.Cut
set_option linter.all false
set_option maxRecDepth 100000
namespace Go.Proofs.YtajdfjpcobaioaaGreatDoor
open Go.RowKit Go.Sort
/-- The k-th part of 64 bits of a whole number. -/
def lim (N : Int) (k : Nat) : Int := N / (18446744073709551616 ^ k) % 18446744073709551616

theorem lim0 (N : Int) : lim N 0 = N % 18446744073709551616 := by simp [lim]
theorem lim1 (N : Int) : lim N 1 = N / 18446744073709551616 % 18446744073709551616 := by simp [lim]
theorem lim2 (N : Int) : lim N 2 = N / 340282366920938463463374607431768211456 % 18446744073709551616 := by simp [lim]
theorem lim3 (N : Int) : lim N 3 = N / 6277101735386680763835789423207666416102355444464034512896 % 18446744073709551616 := by simp [lim]
theorem lim_nn (N : Int) (k : Nat) : 0 ≤ lim N k := by unfold lim; omega
theorem lim_lt (N : Int) (k : Nat) : lim N k < 18446744073709551616 := by unfold lim; omega
/-- The number of four parts. -/
def V4 (a b c d : Int) : Int := a + 18446744073709551616 * b + 340282366920938463463374607431768211456 * c + 6277101735386680763835789423207666416102355444464034512896 * d

theorem lims_of {N s0 s1 s2 s3 q : Int} (h0 : 0 ≤ s0) (h0' : s0 < 18446744073709551616) (h1 : 0 ≤ s1) (h1' : s1 < 18446744073709551616) (h2 : 0 ≤ s2) (h2' : s2 < 18446744073709551616) (h3 : 0 ≤ s3) (h3' : s3 < 18446744073709551616)
    (h : N = V4 s0 s1 s2 s3 + 115792089237316195423570985008687907853269984665640564039457584007913129639936 * q) : lim N 0 = s0 ∧ lim N 1 = s1 ∧ lim N 2 = s2 ∧ lim N 3 = s3 := by
  rw [lim0, lim1, lim2, lim3]
  unfold V4 at h
  omega

theorem V4_bd {a b c d : Int} (h0 : 0 ≤ a) (h0' : a < 18446744073709551616) (h1 : 0 ≤ b) (h1' : b < 18446744073709551616) (h2 : 0 ≤ c) (h2' : c < 18446744073709551616) (h3 : 0 ≤ d) (h3' : d < 18446744073709551616) :
    0 ≤ V4 a b c d ∧ V4 a b c d < 115792089237316195423570985008687907853269984665640564039457584007913129639936 := by unfold V4; omega

/-- A number of four parts as the translation holds it. -/
abbrev nv (N : Int) : Value := .agg #[.int .u64 (lim N 0), .int .u64 (lim N 1), .int .u64 (lim N 2), .int .u64 (lim N 3)]
def top256 : Int := 115792089237316195423570985008687907853269984665640564039457584007913129639936

theorem idx24_0 (v0 v1 v2 v3 : Int) (w : World) : (Instr.index 24 (.agg #[.int .u64 v0, .int .u64 v1, .int .u64 v2, .int .u64 v3]) (.int .i64 0)).run Tryz.prog w = .ok (.int .u64 v0) w := by kernel_rfl
theorem idx24_1 (v0 v1 v2 v3 : Int) (w : World) : (Instr.index 24 (.agg #[.int .u64 v0, .int .u64 v1, .int .u64 v2, .int .u64 v3]) (.int .i64 1)).run Tryz.prog w = .ok (.int .u64 v1) w := by kernel_rfl
theorem idx24_2 (v0 v1 v2 v3 : Int) (w : World) : (Instr.index 24 (.agg #[.int .u64 v0, .int .u64 v1, .int .u64 v2, .int .u64 v3]) (.int .i64 2)).run Tryz.prog w = .ok (.int .u64 v2) w := by kernel_rfl
theorem idx24_3 (v0 v1 v2 v3 : Int) (w : World) : (Instr.index 24 (.agg #[.int .u64 v0, .int .u64 v1, .int .u64 v2, .int .u64 v3]) (.int .i64 3)).run Tryz.prog w = .ok (.int .u64 v3) w := by kernel_rfl
attribute [local go_sem] idx24_0 idx24_1 idx24_2 idx24_3
def sg (x y : Int) : Int := if x < y then -1 else if y < x then 1 else 0
def prt (N : Int) (k : Int) : Int := if 0 ≤ k ∧ k < 4 then lim N k.toNat else 0
/-- A number's 64 bits from the given one on. -/
def win (N : Int) (k : Int) : Int := if 0 ≤ k then N / 2 ^ k.toNat % 18446744073709551616 else N * 2 ^ (-k).toNat % 18446744073709551616

theorem prt_bd (N k : Int) : 0 ≤ prt N k ∧ prt N k < 18446744073709551616 := by
  unfold prt; split
  · exact ⟨lim_nn _ _, lim_lt _ _⟩
  · omega
theorem wraps_u64_64 (n : Int) (h₀ : 0 ≤ n) (h₁ : n < 2 ^ 64) : IntKind.u64.wrap n = n := by rw [IntKind.wrap_u64]; omega

theorem mul_mod_right' (p T S : Int) (hT : 0 < T) (hS : 0 < S) : p * S % (T * S) = p % T * S := by
  have e : p * S = p % T * S + T * S * (p / T) := by
    have := Int.mul_ediv_add_emod p T
    calc p * S = (T * (p / T) + p % T) * S := by rw [this]
      _ = p % T * S + T * S * (p / T) := by grind
  rw [e, Int.add_mul_emod_self_left]
  have h0 := Int.emod_nonneg p (Int.ne_of_gt hT)
  have h1 := Int.emod_lt_of_pos p hT
  exact Int.emod_eq_of_lt (Int.mul_nonneg h0 (Int.le_of_lt hS)) (Int.mul_lt_mul_of_pos_right h1 hS)

theorem pow_split (r : Nat) (h : r ≤ 64) : (2 : Int) ^ r * 2 ^ (64 - r) = 18446744073709551616 := by
  rw [← Int.pow_add]
  have : r + (64 - r) = 64 := by omega
  rw [this]; rfl

theorem or_join (p0 p1 : Int) (r : Nat) (hr : r ≤ 63) (h0 : 0 ≤ p0) (h0' : p0 < 18446744073709551616) (h1 : 0 ≤ p1) :
    bits .or .u64 (p0 / 2 ^ r) (IntKind.u64.wrap (p1 * 2 ^ (64 - r))) = p0 / 2 ^ r + p1 % 2 ^ r * 2 ^ (64 - r) := by
  have hT : (0 : Int) < 2 ^ r := Int.pow_pos (by omega)
  have hS : (0 : Int) < 2 ^ (64 - r) := Int.pow_pos (by omega)
  have hTS := pow_split r (by omega)
  have hw : IntKind.u64.wrap (p1 * 2 ^ (64 - r)) = p1 % 2 ^ r * 2 ^ (64 - r) := by
    rw [IntKind.wrap_u64, ← hTS, mul_mod_right' _ _ _ hT hS]
  rw [hw]
  have hc : ∀ a b, bits .or .u64 a b = bits .or .u64 b a := fun a b => by simp only [bits, BitVec.or_comm]
  have hm0 := Int.emod_nonneg p1 (Int.ne_of_gt hT)
  have hm1 := Int.emod_lt_of_pos p1 hT
  have hd0 : 0 ≤ p0 / 2 ^ r := Int.ediv_nonneg h0 (Int.le_of_lt hT)
  have hd1 : p0 / 2 ^ r < 2 ^ (64 - r) := Int.ediv_lt_of_lt_mul hT (by rw [Int.mul_comm, hTS]; exact h0')
  have hd2 : p0 / 2 ^ r < 2 ^ 64 := by
    have : p0 / 2 ^ r ≤ p0 := Int.ediv_le_self _ h0
    omega
  have hx0 : 0 ≤ p1 % 2 ^ r * 2 ^ (64 - r) := Int.mul_nonneg hm0 (Int.le_of_lt hS)
  have hx1 : p1 % 2 ^ r * 2 ^ (64 - r) < 2 ^ 64 := by
    have := Int.mul_lt_mul_of_pos_right hm1 hS
    rw [hTS] at this
    exact this
  rw [hc, bits_join .u64 64 (by decide) wraps_u64_64 (64 - r) _ _ hx0 (Int.mul_emod_left _ _) hx1 hd0 hd1 hd2, Int.add_comm]

theorem win_core (p0 M1 : Int) (r : Nat) (hr : r ≤ 63) (h0 : 0 ≤ p0) (h0' : p0 < 18446744073709551616) :
    (p0 + 18446744073709551616 * M1) / 2 ^ r % 18446744073709551616 = p0 / 2 ^ r + M1 % 2 ^ r * 2 ^ (64 - r) := by
  have hT : (0 : Int) < 2 ^ r := Int.pow_pos (by omega)
  have hS : (0 : Int) < 2 ^ (64 - r) := Int.pow_pos (by omega)
  have hTS := pow_split r (by omega)
  generalize (2 : Int) ^ r = T at *
  generalize (2 : Int) ^ (64 - r) = S at *
  have hm0 := Int.emod_nonneg M1 (Int.ne_of_gt hT)
  have hm1 := Int.emod_lt_of_pos M1 hT
  have hd0 : 0 ≤ p0 / T := Int.ediv_nonneg h0 (Int.le_of_lt hT)
  have hd1 : p0 / T < S := Int.ediv_lt_of_lt_mul hT (by rw [Int.mul_comm, hTS]; exact h0')
  have e1 : p0 + 18446744073709551616 * M1 = p0 + T * (S * M1) := by rw [← hTS]; grind
  have e2 : M1 = T * (M1 / T) + M1 % T := (Int.mul_ediv_add_emod M1 T).symm
  have e3 : p0 / T + S * M1 = (p0 / T + M1 % T * S) + T * S * (M1 / T) := by
    generalize M1 / T = q at *
    generalize M1 % T = m at *
    subst e2; grind
  rw [e1, Int.add_mul_ediv_left _ _ (Int.ne_of_gt hT), e3, ← hTS, Int.add_mul_emod_self_left]
  refine Int.emod_eq_of_lt (Int.add_nonneg hd0 (Int.mul_nonneg hm0 (Int.le_of_lt hS))) ?_
  have h2 : (M1 % T + 1) * S ≤ T * S := Int.mul_le_mul_of_nonneg_right (by omega) (Int.le_of_lt hS)
  have h3 : (M1 % T + 1) * S = M1 % T * S + S := by grind
  omega

theorem mod_mod_pow (M : Int) (r : Nat) (hr : r ≤ 63) : M % 18446744073709551616 % 2 ^ r = M % 2 ^ r := by
  have hTS := pow_split r (by omega)
  exact Int.emod_emod_of_dvd M ⟨2 ^ (64 - r), hTS.symm⟩

theorem div_pow_add (N : Int) (a r : Nat) : N / 2 ^ (a + r) = N / 2 ^ a / 2 ^ r := by
  rw [Int.pow_add, Int.ediv_ediv_of_nonneg (Int.le_of_lt (Int.pow_pos (by omega)))]

theorem win_eq (N k : Int) (hN : 0 ≤ N) (hN' : N < top256) :
    bits .or .u64 (prt N (k / 64) / 2 ^ (k % 64).toNat) (IntKind.u64.wrap (prt N (k / 64 + 1) * 2 ^ (64 - k % 64).toNat)) = win N k := by
  unfold top256 at hN'
  obtain ⟨r, hr⟩ : ∃ r : Nat, k % 64 = r := ⟨(k % 64).toNat, by omega⟩
  obtain ⟨q, hq⟩ : ∃ q, k / 64 = q := ⟨_, rfl⟩
  have hk : k = 64 * q + r := by omega
  have hr63 : r ≤ 63 := by omega
  have e1 : (k % 64).toNat = r := by omega
  have e2 : (64 - k % 64).toNat = 64 - r := by omega
  rw [e1, e2, hq, or_join _ _ r hr63 (prt_bd _ _).1 (prt_bd _ _).2 (prt_bd _ _).1]
  have hT : (0 : Int) < 2 ^ r := Int.pow_pos (by omega)
  by_cases c0 : q ≤ -2
  · have p0 : prt N q = 0 := by unfold prt; rw [if_neg (by omega)]
    have p1 : prt N (q + 1) = 0 := by unfold prt; rw [if_neg (by omega)]
    rw [p0, p1, Int.zero_ediv, Int.zero_emod, Int.zero_mul]
    unfold win
    rw [if_neg (by omega)]
    have e : (-k).toNat = 64 + ((-k).toNat - 64) := by omega
    rw [e, Int.pow_add, ← Int.mul_assoc, Int.mul_right_comm]
    have : (2 : Int) ^ 64 = 18446744073709551616 := rfl
    rw [this, Int.mul_emod_left]; rfl
  by_cases c1 : q = -1
  · have p0 : prt N q = 0 := by unfold prt; rw [if_neg (by omega)]
    have p1 : prt N (q + 1) = N % 18446744073709551616 := by
      unfold prt; rw [if_pos (by omega)]; subst c1; exact lim0 N
    rw [p0, p1, Int.zero_ediv, mod_mod_pow _ _ hr63]
    unfold win
    rw [if_neg (by omega)]
    have e : (-k).toNat = 64 - r := by omega
    have hS : (0 : Int) < 2 ^ (64 - r) := Int.pow_pos (by omega)
    rw [e, ← pow_split r (by omega), mul_mod_right' _ _ _ hT hS]; omega
  have hk0 : 0 ≤ k := by omega
  unfold win
  rw [if_pos hk0]
  by_cases c2 : 4 ≤ q
  · have p0 : prt N q = 0 := by unfold prt; rw [if_neg (by omega)]
    have p1 : prt N (q + 1) = 0 := by unfold prt; rw [if_neg (by omega)]
    rw [p0, p1, Int.zero_ediv, Int.zero_emod, Int.zero_mul]
    have e : k.toNat = 256 + (k.toNat - 256) := by omega
    have e256 : (2 : Int) ^ 256 = 115792089237316195423570985008687907853269984665640564039457584007913129639936 := by decide
    have z : N / 115792089237316195423570985008687907853269984665640564039457584007913129639936 = 0 := by omega
    rw [e, div_pow_add, e256, z, Int.zero_ediv]; rfl
  have hq4 : q = 0 ∨ q = 1 ∨ q = 2 ∨ q = 3 := by omega
  rcases hq4 with h | h | h | h
  · subst h
    have e : k.toNat = r := by omega
    have p0 : prt N 0 = N % 18446744073709551616 := lim0 N
    have p1 : prt N (0 + 1) = N / 18446744073709551616 % 18446744073709551616 := lim1 N
    have eM : N = N % 18446744073709551616 + 18446744073709551616 * (N / 18446744073709551616) := by omega
    rw [e, p0, p1, mod_mod_pow _ _ hr63]
    have := win_core (N % 18446744073709551616) (N / 18446744073709551616) r hr63 (by omega) (by omega)
    rw [← eM] at this
    exact this.symm
  · subst h
    have e : k.toNat = 64 + r := by omega
    have e64 : (2 : Int) ^ 64 = 18446744073709551616 := rfl
    have p0 : prt N 1 = N / 18446744073709551616 % 18446744073709551616 := lim1 N
    have p1 : prt N (1 + 1) = N / 18446744073709551616 / 18446744073709551616 % 18446744073709551616 := by
      have h : prt N (1 + 1) = lim N 2 := rfl
      rw [h, lim2]; omega
    rw [e, div_pow_add, e64, p0, p1, mod_mod_pow _ _ hr63]
    have eM : N / 18446744073709551616 = N / 18446744073709551616 % 18446744073709551616 + 18446744073709551616 * (N / 18446744073709551616 / 18446744073709551616) := by omega
    have := win_core (N / 18446744073709551616 % 18446744073709551616) (N / 18446744073709551616 / 18446744073709551616) r hr63 (by omega) (by omega)
    rw [← eM] at this
    exact this.symm
  · subst h
    have e : k.toNat = 128 + r := by omega
    have e64 : (2 : Int) ^ 128 = 340282366920938463463374607431768211456 := rfl
    have p0 : prt N 2 = N / 340282366920938463463374607431768211456 % 18446744073709551616 := lim2 N
    have p1 : prt N (2 + 1) = N / 340282366920938463463374607431768211456 / 18446744073709551616 % 18446744073709551616 := by
      have h : prt N (2 + 1) = lim N 3 := rfl
      rw [h, lim3]; omega
    rw [e, div_pow_add, e64, p0, p1, mod_mod_pow _ _ hr63]
    have eM : N / 340282366920938463463374607431768211456 = N / 340282366920938463463374607431768211456 % 18446744073709551616 + 18446744073709551616 * (N / 340282366920938463463374607431768211456 / 18446744073709551616) := by omega
    have := win_core (N / 340282366920938463463374607431768211456 % 18446744073709551616) (N / 340282366920938463463374607431768211456 / 18446744073709551616) r hr63 (by omega) (by omega)
    rw [← eM] at this
    exact this.symm
  · subst h
    have e : k.toNat = 192 + r := by omega
    have e64 : (2 : Int) ^ 192 = 6277101735386680763835789423207666416102355444464034512896 := rfl
    have p0 : prt N 3 = N / 6277101735386680763835789423207666416102355444464034512896 % 18446744073709551616 := lim3 N
    have p1 : prt N (3 + 1) = 0 := rfl
    rw [e, div_pow_add, e64, p0, p1, Int.zero_emod]
    have eM : N / 6277101735386680763835789423207666416102355444464034512896 = N / 6277101735386680763835789423207666416102355444464034512896 % 18446744073709551616 + 18446744073709551616 * 0 := by omega
    have := win_core (N / 6277101735386680763835789423207666416102355444464034512896 % 18446744073709551616) 0 r hr63 (by omega) (by omega)
    rw [← eM, Int.zero_emod] at this
    exact this.symm

theorem Arr.mk4 {w : World} {b : Nat} {f : Nat → Value} (h0 : w.cell? ⟨b, 0, none⟩ = some (f 0)) (h1 : w.cell? ⟨b, 1, none⟩ = some (f 1)) (h2 : w.cell? ⟨b, 2, none⟩ = some (f 2)) (h3 : w.cell? ⟨b, 3, none⟩ = some (f 3))
    (z0 : w.frozen? ⟨b, 0, none⟩ = false) (z1 : w.frozen? ⟨b, 1, none⟩ = false) (z2 : w.frozen? ⟨b, 2, none⟩ = false) (z3 : w.frozen? ⟨b, 3, none⟩ = false) : Arr w b 4 f := by
  intro j hj
  have h : j = 0 ∨ j = 1 ∨ j = 2 ∨ j = 3 := by omega
  rcases h with h | h | h | h <;> subst h
  · exact ⟨h0, z0⟩
  · exact ⟨h1, z1⟩
  · exact ⟨h2, z2⟩
  · exact ⟨h3, z3⟩
attribute [local go_sem] idx24_0 idx24_1 idx24_2 idx24_3
set_option maxHeartbeats 1000000 in
theorem part_in (N : Int) (k : Nat) (hk : k < 4) (w : World) :
    Calls Tryz.prog 84 #[nv N, .int .i64 k] w fun e w' => e = .returned (.int .u64 (lim N k)) ∧ Below w.heap.size w w' := by
  have h : k = 0 ∨ k = 1 ∨ k = 2 ∨ k = 3 := by omega
  rcases h with h | h | h | h
  all_goals
    subst h
    clear hk
    go_enter Tryz.func84, Tryz.ntmps84
    go_wp2
    go_returns
    exact ⟨rfl, by go_grown⟩
set_option maxHeartbeats 1000000 in
theorem part_out (N : Int) (k : Int) (hk : k < 0 ∨ 4 ≤ k) (w : World) :
    Calls Tryz.prog 84 #[nv N, .int .i64 k] w fun e w' => e = .returned (.int .u64 0) ∧ Below w.heap.size w w' := by
  rcases hk with h | h
  · go_enter Tryz.func84, Tryz.ntmps84
    go_wp2
    go_returns
    exact ⟨rfl, by go_grown⟩
  · have h' : ¬ k < 0 := by omega
    go_enter Tryz.func84, Tryz.ntmps84
    go_wp2
    go_returns
    exact ⟨rfl, by go_grown⟩
theorem part_any (N : Int) (k : Int) (w : World) :
    Calls Tryz.prog 84 #[nv N, .int .i64 k] w fun e w' => e = .returned (.int .u64 (prt N k)) ∧ Below w.heap.size w w' := by
  by_cases h : 0 ≤ k ∧ k < 4
  · have e : k = ((k.toNat : Nat) : Int) := by omega
    have := part_in N k.toNat (by omega) w
    rw [← e] at this
    unfold prt; rw [if_pos h]; exact this
  · unfold prt; rw [if_neg h]; exact part_out N k (by omega) w
theorem i64_and63 (n : Int) : bits .and .i64 n 63 = n % 64 := by
  have h63 : (BitVec.ofInt 64 63).toNat = 2 ^ 6 - 1 := by decide
  have key : (BitVec.ofInt 64 n &&& BitVec.ofInt 64 63).toNat = (n % ((2 ^ 64 : Nat) : Int)).toNat % 2 ^ 6 := by
    rw [BitVec.toNat_and, BitVec.toNat_ofInt, h63, Nat.and_two_pow_sub_one_eq_mod]
  show IntKind.i64.wrap ((BitVec.ofInt 64 n &&& BitVec.ofInt 64 63).toNat : Nat) = n % 64
  rw [key, IntKind.wrap_i64]
  omega
theorem u64_mod64 (n : Int) : IntKind.u64.wrap (n % 64) = n % 64 := by rw [IntKind.wrap_u64]; omega
theorem new4 (w : World) (a b c d : Value) (T : TypeId) (ds : Nat) (os : Array Obj) :
    (grow (redrawn (w.alloc (.cells #[a, b, c, d] T)) ds) os).cell? ⟨w.heap.size, 0, none⟩ = some a ∧
    (grow (redrawn (w.alloc (.cells #[a, b, c, d] T)) ds) os).cell? ⟨w.heap.size, 1, none⟩ = some b ∧
    (grow (redrawn (w.alloc (.cells #[a, b, c, d] T)) ds) os).cell? ⟨w.heap.size, 2, none⟩ = some c ∧
    (grow (redrawn (w.alloc (.cells #[a, b, c, d] T)) ds) os).cell? ⟨w.heap.size, 3, none⟩ = some d :=
  ⟨cell_regrown (by simp [go_sem]) _ _, cell_regrown (by simp [go_sem]) _ _, cell_regrown (by simp [go_sem]) _ _, cell_regrown (by simp [go_sem]) _ _⟩

set_option maxHeartbeats 1000000 in
theorem window_raw (N : Int) (k r : Int) (hr : r = k % 64) (hk : -9223372036854775808 ≤ k) (hk' : k ≤ 9223372036854775807) (w : World) :
    Calls Tryz.prog 77 #[nv N, .int .i64 k] w fun e w' => e = .returned (.int .u64 (bits .or .u64 (prt N (k / 64) / 2 ^ r.toNat) (IntKind.u64.wrap (prt N (k / 64 + 1) * 2 ^ (64 - r).toNat)))) ∧ Below w.heap.size w w' := by
  have a63 := i64_and63 k
  rw [← hr] at a63
  have u63 : IntKind.u64.wrap r = r := by rw [hr]; exact u64_mod64 k
  have r0 : 0 ≤ r := by omega
  have r1 : r ≤ 63 := by omega
  clear hr
  have n0 := fun ds os => (new4 w (.int .u64 (lim N 0)) (.int .u64 (lim N 1)) (.int .u64 (lim N 2)) (.int .u64 (lim N 3)) 24 ds os).1
  have n1 := fun ds os => (new4 w (.int .u64 (lim N 0)) (.int .u64 (lim N 1)) (.int .u64 (lim N 2)) (.int .u64 (lim N 3)) 24 ds os).2.1
  have n2 := fun ds os => (new4 w (.int .u64 (lim N 0)) (.int .u64 (lim N 1)) (.int .u64 (lim N 2)) (.int .u64 (lim N 3)) 24 ds os).2.2.1
  have n3 := fun ds os => (new4 w (.int .u64 (lim N 0)) (.int .u64 (lim N 1)) (.int .u64 (lim N 2)) (.int .u64 (lim N 3)) 24 ds os).2.2.2
  go_enter Tryz.func77, Tryz.ntmps77
  go_wp2
  refine wp_region_quiet_below (by kernel_rfl) (by kernel_rfl) ?_
  repeat (go_big_quiet_step (exact Calls.regrown_of (part_any _ _ _)))
  refine wpQuiet_nil ?_
  intro _ hw'
  obtain ⟨⟨dq, osq⟩, hw''⟩ := hw'
  subst hw''
  clear n0 n1 n2 n3
  go_wp2
  go_returns
  exact ⟨rfl, (((Below.refl _ _).alloc (Nat.le_refl _) _).trans ((below_regrown _ _ _).mono (by simp)))⟩

theorem window_any (N : Int) (k : Int) (hN : 0 ≤ N) (hN' : N < top256) (hk : -9223372036854775808 ≤ k) (hk' : k ≤ 9223372036854775807) (w : World) :
    Calls Tryz.prog 77 #[nv N, .int .i64 k] w fun e w' => e = .returned (.int .u64 (win N k)) ∧ Below w.heap.size w w' := by
  rw [← win_eq N k hN hN']
  exact window_raw N k _ rfl hk hk' w

/-- The i-th byte, from the highest on. -/
def byt (N : Int) (i : Nat) : Int := N / 2 ^ (8 * (31 - i)) % 256
theorem byt_bd (N : Int) (i : Nat) : 0 ≤ byt N i ∧ byt N i < 256 := by unfold byt; omega
theorem byt_win (N : Int) (i : Nat) (hi : i < 32) : IntKind.u8.wrap (win N (8 * (31 - (i : Int)))) = byt N i := by
  rw [IntKind.wrap_u8]
  unfold win byt
  rw [if_pos (by omega)]
  have e : (8 * (31 - (i : Int))).toNat = 8 * (31 - i) := by omega
  rw [e]; omega
def bytsL (N : Int) : List Value := (List.range 32).map fun j => .int .u8 (byt N j)
theorem bytsL_len (N : Int) : (bytsL N).length = 32 := by simp [bytsL]
theorem bytsL_at (N : Int) (j : Nat) (hj : j < 32) : (bytsL N)[j]? = some (.int .u8 (byt N j)) := by simp [bytsL, hj]
theorem Tryz.info104 : (Tryz.prog.info? 104).map (·.size) = some 32 := by kernel_rfl
theorem bytsL_one (N : Int) : ∀ v ∈ bytsL N, v.oneCell' = true := by
  intro v hv
  simp only [bytsL, List.mem_map] at hv
  obtain ⟨j, _, rfl⟩ := hv
  rfl
theorem zeros32 (j : Nat) (hj : j < 32) : (List.replicate 32 (Value.int .u8 0)).toArray[j]? = some (.int .u8 0) := by
  rw [List.getElem?_toArray, List.getElem?_replicate, if_pos hj]
set_option maxHeartbeats 2000000 in
theorem bigBytes_core (N : Int) (hN : 0 ≤ N) (hN' : N < top256) (L : List Value) (hlen : L.length = 32) (hat : ∀ j, j < 32 → L[j]? = some (.int .u8 (byt N j))) (hone : ∀ v ∈ L, v.oneCell' = true) (w : World) :
    Calls Tryz.prog 62 #[nv N] w fun e w' => e = .returned (.agg L.toArray) ∧ Below w.heap.size w w' := by
  go_enter Tryz.func62, Tryz.ntmps62
  go_wp2_with fail
  go_loopw [5] (fun i wr => ∃ k : Nat, k ≤ 32 ∧ i = .int .i64 k ∧ Below w.heap.size w wr ∧ w.heap.size + 1 + 1 < wr.heap.size ∧
      Arr wr w.heap.size 4 (fun j => .int .u64 (lim N j)) ∧ Arr wr (w.heap.size + 1) 32 (fun _ => .int .u8 0) ∧
      Arr wr (w.heap.size + 1 + 1) 32 (fun j => .int .u8 (if j < k then byt N j else 0)))
    (fun i _ => 32 - (intOf i).toNat)
  case atStart =>
    refine ⟨0, by omega, rfl, by go_grown, by go_size, ?_, ?_, ?_⟩
    · refine ((Arr.new _ _ _ _ rfl _ 4 ?_).alloc (by go_size) _).alloc (by go_size) _
      intro j hj
      have : j = 0 ∨ j = 1 ∨ j = 2 ∨ j = 3 := by omega
      rcases this with rfl | rfl | rfl | rfl <;> rfl
    · exact (Arr.new _ _ _ _ (by simp) _ 32 zeros32).alloc (by go_size) _
    · refine Arr.new _ _ _ _ (by simp) _ 32 ?_
      intro j hj
      rw [if_neg (by omega)]
      exact zeros32 j hj
  case round =>
    obtain ⟨k, hk, rfl, hB, hz, A0, A1, A2⟩ := hrel
    have c0 := A0.c
    by_cases hlt : k < 32
    · have k0 : (0 : Int) ≤ (k : Int) := by omega
      have k8 : (k : Int) < 32 := by omega
      have W := fun u => window_any N (8 * (31 - (k : Int))) hN hN' (by omega) (by omega) u
      have bw := byt_win N k hlt
      clear hat hone hlen
      go_wp2_with (go_at_call 77; refine (W _).mono ?_; rintro e w1 ⟨rfl, hb⟩; have A0' := A0.below hb (by omega); have A1' := A1.below hb (by omega); have A2' := A2.below hb hz; have z2 := A2'.z k hlt; have c2 := A2'.c k hlt)
      refine ⟨⟨k + 1, by omega, by go_num, (hB.trans (hb.mono hB.size)).setCell (by show _ ≤ w.heap.size + 1 + 1; omega) _, by rw [size_set]; have := hb.size; omega, A0'.other (by omega) _, A1'.other (by omega) _, ?_⟩, by simp [intOf]; omega⟩
      refine (A2'.set k hlt _).congr ?_
      intro j hj
      by_cases e : j = k
      · subst e; simp
      · simp only [if_neg e]
        by_cases e2 : j < k
        · rw [if_pos e2, if_pos (by omega)]
        · rw [if_neg e2, if_neg (by omega)]
    · have k8 : k = 32 := by omega
      subst k8
      have R2 : wr.rangeAt (w.heap.size + 1 + 1) 0 L := A2.range _ hlen (by intro j hj; rw [if_pos hj]; exact hat j hj)
      have T1 := A1.there
      have sz : L.toArray.size = 32 := by rw [List.size_toArray]; exact hlen
      have h58 : (Tryz.prog.info? 104).map (·.size) = some L.length := by rw [hlen]; exact Tryz.info104
      have h58' : (Tryz.prog.info? 104).map (·.size) = some L.toArray.size := by rw [sz]; exact Tryz.info104
      have T1' : wr.there (w.heap.size + 1) 0 L.toArray.size := by rw [sz]; exact T1
      have one := all_oneCell_toArray hone
      have R1 : (wr.setCells (w.heap.size + 1) 0 L).rangeAt (w.heap.size + 1) 0 L := World.rangeAt_setCells_same wr _ 0 _ (by rw [hlen]; exact T1)
      have lv := run_loadVar_mid (P := Tryz.prog) (wr.setCells (w.heap.size + 1) 0 L) (w.heap.size + 1) 0 104 L _ R1 Tryz.underlying104 rfl h58
      have LV : Hid _ := lv
      have HR2 : Hid _ := R2
      have H58 : Hid _ := h58
      have H58' : Hid _ := h58'
      have HT1 : Hid _ := T1'
      have HO : Hid _ := one
      clear A0 A1 A2 c0 hk T1 R1 lv sz R2 h58 h58' T1' one hat hone hlen
      go_upto_region 7 with (fail)
      refine wp_region_list ?_
      refine wpList_load_mid (by rfl) 104 (.tmp 3) (by rfl) _ _ (by rfl) L _ HR2.out Tryz.underlying104 rfl H58.out ?_
      refine wpList_store_mid (by rfl) 104 (.tmp 2) (.tmp 17) (by rfl) _ _ _ (by rfl) (by rfl) HT1.out H58'.out HO.out ?_
      refine wpList_nil ?_
      have lv := LV.out
      clear HR2 H58 H58' HT1 HO LV
      go_wp2_with fail
      refine bodyPost_ret (v := .agg L.toArray) (results_cell1 Tryz.results62 _ (by rfl) lv) rfl ⟨rfl, ?_⟩
      exact below_setCells hB (by omega) _ _
theorem bigBytes_any (N : Int) (hN : 0 ≤ N) (hN' : N < top256) (w : World) :
    Calls Tryz.prog 62 #[nv N] w fun e w' => e = .returned (.agg (bytsL N).toArray) ∧ Below w.heap.size w w' :=
  bigBytes_core N hN hN' (bytsL N) (bytsL_len N) (bytsL_at N) (bytsL_one N) w
end Go.Proofs.YtajdfjpcobaioaaGreatDoor
