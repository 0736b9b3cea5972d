/- Blocks as 16 bytes and as numbers. -/
import Derived.Test.YtjaljnfijhfkcaaGreatDoorJ12
import Derived.Test.YtjaljnfijhfkcaaGreatDoorJ6
import Derived.Test.YtjaljnfijhfkcaaGreatDoorJ14
set_option linter.all false
set_option maxRecDepth 100000
namespace Go.Proofs.YtjaljnfijhfkcaaGreatDoor
open Go.RowKit Go.Sort Lin
theorem be_congr {f g : Nat → By} : ∀ (m : Nat), (∀ j, j < m → f j = g j) → be f m = be g m := by
  intro m
  induction m with
  | zero => intro _; rfl
  | succ m ih => intro e; rw [be, be, ih (fun j hj => e j (by omega)), e m (by omega)]
theorem be_add (f : Nat → By) (a : Nat) : ∀ b, be f (a + b) = be f a * 256 ^ b + be (fun j => f (a + j)) b := by
  intro b
  induction b with
  | zero => simp [be]
  | succ b ih =>
    show be f (a + b) * 256 + (f (a + b)).val = _
    rw [ih, be, Nat.pow_succ, Nat.add_mul, Nat.mul_assoc, Nat.add_assoc]
theorem bN_be (s : ByteArray) : bN s = be (bF s) 16 := by
  rw [show 16 = 8 + 8 from rfl, be_add]
  rfl
theorem be16_lt (f : Nat → By) : be f 16 < 2 ^ 128 := by
  have := be_lt f 16
  rwa [show (256 : Nat) ^ 16 = 2 ^ 128 by decide] at this
/-- A number's digits, m of them, the highest first. -/
theorem be_dig (f : Nat → By) : ∀ (m j : Nat), j < m → be f m / 256 ^ (m - 1 - j) % 256 = (f j).val := by
  intro m
  induction m with
  | zero => intro j hj; omega
  | succ m ih =>
    intro j hj
    have h2 := (f m).2
    by_cases e : j = m
    · subst e
      rw [show j + 1 - 1 - j = 0 by omega, be, Nat.pow_zero, Nat.div_one]
      omega
    · rw [show m + 1 - 1 - j = (m - 1 - j) + 1 by omega, Nat.pow_succ, Nat.mul_comm, ← Nat.div_div_eq_div_mul, be, show (be f m * 256 + (f m).val) / 256 = be f m by omega]
      exact ih j (by omega)
def dgm (m n j : Nat) : By := ⟨n / 256 ^ (m - 1 - j) % 256, Nat.mod_lt _ (by decide)⟩
theorem dig_be : ∀ (m n : Nat), be (dgm m n) m = n % 256 ^ m := by
  intro m
  induction m with
  | zero => intro n; simp [be, Nat.mod_one]
  | succ m ih =>
    intro n
    have e : be (dgm (m + 1) n) m = be (dgm m (n / 256)) m := be_congr m (fun j hj => by
      apply Fin.ext
      simp only [dgm]
      rw [show m + 1 - 1 - j = (m - 1 - j) + 1 by omega, Nat.pow_succ, Nat.mul_comm, ← Nat.div_div_eq_div_mul])
    rw [be, e, ih]
    simp only [dgm]
    rw [show m + 1 - 1 - m = 0 by omega, Nat.pow_zero, Nat.div_one, Nat.pow_succ, Nat.mul_comm (256 ^ m) 256, Nat.mod_mul, Nat.mul_comm 256]
    omega
def dg (n j : Nat) : By := dgm 16 n j
theorem dg_be (f : Nat → By) (j : Nat) (hj : j < 16) : dg (be f 16) j = f j := Fin.ext (be_dig f 16 j hj)
theorem be_dg {n : Nat} (h : n < 2 ^ 128) : be (dg n) 16 = n := by
  have := dig_be 16 n
  rw [show (256 : Nat) ^ 16 = 2 ^ 128 by decide, Nat.mod_eq_of_lt h] at this
  exact this
theorem dL_dg (n : Nat) : dL (hi n) (lo n) 2 = (List.range 16).map fun j => ((dg n j).val : Int) := by
  have r16 : List.range 16 = [0, 1, 2, 3, 4, 5, 6, 7, 8, 9, 10, 11, 12, 13, 14, 15] := rfl
  have r8 : List.range 8 = [0, 1, 2, 3, 4, 5, 6, 7] := rfl
  have w0 : wi (hi n) (lo n) 0 = hi n := rfl
  have w1 : wi (hi n) (lo n) 1 = lo n := rfl
  simp only [dL, oL, r16, r8, w0, w1, List.map_cons, List.map_nil, List.nil_append, List.cons_append]
  simp only [dg, dgm, hi, lo, Nat.reduceSub, Nat.reduceMul, Nat.reducePow, Nat.zero_add]
  simp only [List.cons.injEq, and_true]
  refine ⟨?_, ?_, ?_, ?_, ?_, ?_, ?_, ?_, ?_, ?_, ?_, ?_, ?_, ?_, ?_, ?_⟩ <;> omega
theorem tN_tx (n : Nat) : tN n = tx (dg n) := by unfold tN tx; rw [dL_dg]
theorem tx_be (f : Nat → By) : tx f = tN (be f 16) := by rw [tN_tx]; exact tx_congr (fun j hj => (dg_be f j hj).symm)
theorem bF_tN (n j : Nat) (hj : j < 16) : bF (tN n) j = dg n j := by rw [tN_tx, bF_tx _ j hj]
theorem bN_tN {n : Nat} (h : n < 2 ^ 128) : bN (tN n) = n := by
  rw [bN_be, be_congr 16 (fun j hj => bF_tN n j hj), be_dg h]
theorem tN_bN (s : ByteArray) (hs : s.size = 16) : tN (bN s) = s := by rw [bN_be, ← tx_be, tx_bF s hs]
theorem bN_inj {s t : ByteArray} (hs : s.size = 16) (ht : t.size = 16) (h : bN s = bN t) : s = t := by rw [← tN_bN s hs, h, tN_bN t ht]
/-- Sums byte by byte. -/
theorem be_xor (f g : Nat → By) : ∀ m, be (fun j => xr (f j) (g j)) m = be f m ^^^ be g m := by
  intro m
  induction m with
  | zero => simp [be]
  | succ m ih =>
    rw [be, ih, be, be]
    exact (xor_hi _ _ _ _ 8 (f m).2 (g m).2).symm
/-- Half of it. -/
def shF (v : Nat → By) (k : Nat) : By := ⟨(v k).val / 2 + (if k = 0 then 0 else (v (k - 1)).val % 2 * 128), by have := (v k).2; split <;> omega⟩
theorem be_half (v : Nat → By) : ∀ m, be (shF v) m = be v m / 2 := by
  intro m
  induction m with
  | zero => simp [be]
  | succ m ih =>
    rw [be, ih, be]
    simp only [shF]
    cases m with
    | zero => simp [be]
    | succ m =>
      rw [if_neg (by omega), be, show m + 1 - 1 = m from rfl]
      have := (v m).2
      have := (v (m + 1)).2
      omega
def e1F (c : Bool) (f : Nat → By) (k : Nat) : By := if c = true ∧ k = 0 then xr (f 0) 225 else f k
theorem be_e1 (c : Bool) (f : Nat → By) : be (e1F c f) 16 = be f 16 ^^^ (if c = true then 225 * 2 ^ 120 else 0) := by
  cases c with
  | false => rw [if_neg (by decide), Nat.xor_zero]; exact be_congr 16 (fun j _ => by unfold e1F; rw [if_neg (by simp)])
  | true =>
    rw [if_pos rfl, show 16 = 1 + 15 from rfl, be_add, be_add]
    have h := be_lt (fun j => f (1 + j)) 15
    have e : be (fun j => e1F true f (1 + j)) 15 = be (fun j => f (1 + j)) 15 := be_congr 15 (fun j _ => by unfold e1F; rw [if_neg (by omega)])
    rw [e]
    rw [show (256 : Nat) ^ 15 = 2 ^ 120 by decide] at h ⊢
    have := xor_hi (be f 1) 225 (be (fun j => f (1 + j)) 15) 0 120 h (by decide)
    rw [Nat.add_zero, Nat.xor_zero] at this
    rw [this]
    congr 2
    unfold be be e1F
    rw [if_pos ⟨rfl, rfl⟩]
    simp only [be, xr, Nat.zero_mul, Nat.zero_add]
    rfl
/-- The bits of a row of 16 bytes. -/
theorem be_bit (f : Nat → By) : ∀ (m i : Nat), i < 8 * m → (be f m).testBit (8 * m - 1 - i) = (f (i / 8)).val.testBit (7 - i % 8) := by
  intro m
  induction m with
  | zero => intro i hi; omega
  | succ m ih =>
    intro i hi
    rw [be, Nat.mul_comm]
    have tb := Nat.testBit_two_pow_mul_add (i := 8) (b := (f m).val) (be f m) (f m).2 (8 * (m + 1) - 1 - i)
    refine tb.trans ?_
    by_cases c : i < 8 * m
    · rw [if_neg (by omega), show 8 * (m + 1) - 1 - i - 8 = 8 * m - 1 - i by omega]
      exact ih i c
    · rw [if_pos (by omega), show i / 8 = m by omega]
      congr 1
      omega
theorem bs_be (f : Nat → By) (i : Nat) (hi : i < 128) : bs (be f 16) i = (f (i / 8)).val.testBit (7 - i % 8) := be_bit f 16 i (by omega)
theorem low_be (f : Nat → By) : (be f 16).testBit 0 = (f 15).val.testBit 0 := be_bit f 16 127 (by omega)
/-- A step of the product, byte by byte. -/
theorem be_T128 (v : Nat → By) : be (e1F ((v 15).val.testBit 0) (shF v)) 16 = T128 (be v 16) := by
  rw [be_e1, be_half, T128_is, low_be]
end Go.Proofs.YtjaljnfijhfkcaaGreatDoor
