/- Numbers filled from the highest digit on, part by part, as plain numbers. -/
import Derived.Test.YtpigofooblmdhaaN18
set_option linter.all false
set_option maxRecDepth 100000
namespace Go.Proofs.Ytpigofooblmdhaa
open Go.RowKit
/-- Part j when k digits of wd bits have come, p digits a part. -/
def pb (wd p : Nat) (f : Nat → Int) : Nat → Nat → Int
  | 0, _ => 0
  | k + 1, j => if j + k / p = 3 then pb wd p f k j * 2 ^ wd + f k else pb wd p f k j
/-- The whole number when k digits have come. -/
def pn (wd : Nat) (f : Nat → Int) : Nat → Int
  | 0 => 0
  | k + 1 => pn wd f k * 2 ^ wd + f k
theorem pn_nn (wd : Nat) (f : Nat → Int) (hf : ∀ i, 0 ≤ f i) : ∀ k, 0 ≤ pn wd f k := by
  intro k
  induction k with
  | zero => exact Int.le_refl _
  | succ k ih => exact Int.add_nonneg (Int.mul_nonneg ih (Int.le_of_lt (Int.pow_pos (by omega)))) (hf k)
theorem pn_lt (wd : Nat) (f : Nat → Int) (hf : ∀ i, 0 ≤ f i ∧ f i < 2 ^ wd) : ∀ k, pn wd f k < 2 ^ (wd * k) := by
  intro k
  induction k with
  | zero => simp [pn]
  | succ k ih =>
    have h := hf k
    show pn wd f k * 2 ^ wd + f k < 2 ^ (wd * (k + 1))
    have e : (2 : Int) ^ (wd * (k + 1)) = 2 ^ (wd * k) * 2 ^ wd := by rw [Nat.mul_add, Nat.mul_one, Int.pow_add]
    have m : (pn wd f k + 1) * 2 ^ wd ≤ 2 ^ (wd * k) * 2 ^ wd := Int.mul_le_mul_of_nonneg_right (by omega) (Int.le_of_lt (Int.pow_pos (by omega)))
    rw [e]
    rw [Int.add_mul, Int.one_mul] at m
    omega
/-- The digits from a given one on. -/
def sh (f : Nat → Int) (a : Nat) : Nat → Int := fun i => f (a + i)
theorem pn_add (wd : Nat) (f : Nat → Int) (a : Nat) : ∀ b, pn wd f (a + b) = pn wd f a * 2 ^ (wd * b) + pn wd (sh f a) b := by
  intro b
  induction b with
  | zero => simp [pn]
  | succ b ih =>
    show pn wd f (a + b) * 2 ^ wd + f (a + b) = pn wd f a * 2 ^ (wd * (b + 1)) + (pn wd (sh f a) b * 2 ^ wd + sh f a b)
    rw [ih, Nat.mul_add, Nat.mul_one, Int.pow_add]
    show _ + f (a + b) = _ + (_ + f (a + b))
    grind
/-- A part while it is being filled holds just its own digits. -/
theorem pb_is (wd p : Nat) (f : Nat → Int) (hp : 0 < p) : ∀ k j, j < 4 → k ≤ 4 * p →
    pb wd p f k j = if k ≤ (3 - j) * p then 0 else if k ≤ (4 - j) * p then pn wd (sh f ((3 - j) * p)) (k - (3 - j) * p) else pn wd (sh f ((3 - j) * p)) p := by
  intro k
  induction k with
  | zero => intro j hj hk; simp [pb]
  | succ k ih =>
    intro j hj hk
    have hi := ih j hj (by omega)
    show (if j + k / p = 3 then pb wd p f k j * 2 ^ wd + f k else pb wd p f k j) = _
    have e4 : (4 - j) * p = (3 - j) * p + p := by
      rw [show 4 - j = 3 - j + 1 by omega, Nat.add_mul, Nat.one_mul]
    by_cases c : j + k / p = 3
    · have d : k / p = 3 - j := by omega
      have lo : (3 - j) * p ≤ k := by rw [← d]; exact Nat.div_mul_le_self k p
      have hi2 : k < (3 - j) * p + p := by
        have := Nat.lt_div_mul_add (a := k) hp
        rw [d] at this
        exact this
      rw [if_pos c, hi, if_neg (show ¬ k + 1 ≤ (3 - j) * p by omega), if_pos (show k + 1 ≤ (4 - j) * p by omega)]
      by_cases c2 : k ≤ (3 - j) * p
      · have ek : k = (3 - j) * p := by omega
        rw [if_pos c2]
        have : k + 1 - (3 - j) * p = 0 + 1 := by omega
        rw [this]
        show 0 * 2 ^ wd + f k = pn wd (sh f ((3 - j) * p)) 0 * 2 ^ wd + sh f ((3 - j) * p) 0
        simp [pn, sh, ← ek]
      · rw [if_neg c2, if_pos (show k ≤ (4 - j) * p by omega)]
        have : k + 1 - (3 - j) * p = (k - (3 - j) * p) + 1 := by omega
        rw [this]
        show _ = pn wd (sh f ((3 - j) * p)) (k - (3 - j) * p) * 2 ^ wd + sh f ((3 - j) * p) (k - (3 - j) * p)
        have : sh f ((3 - j) * p) (k - (3 - j) * p) = f k := by unfold sh; congr 1; omega
        rw [this]
    · rw [if_neg c, hi]
      by_cases c2 : k + 1 ≤ (3 - j) * p
      · rw [if_pos c2, if_pos (by omega)]
      · rw [if_neg c2]
        have nlt : ¬ k < (3 - j) * p + p := by
          intro hlt
          have a1 : k / p = 3 - j := by
            refine Nat.div_eq_of_lt_le (by omega) ?_
            rw [Nat.add_mul, Nat.one_mul]; exact hlt
          omega
        rw [if_neg (show ¬ k ≤ (3 - j) * p by omega), if_neg (show ¬ k + 1 ≤ (4 - j) * p by omega)]
        by_cases c3 : k ≤ (4 - j) * p
        · have : k - (3 - j) * p = p := by omega
          rw [if_pos c3, this]
        · rw [if_neg c3]
end Go.Proofs.Ytpigofooblmdhaa
