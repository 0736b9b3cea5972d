/- There and back, as plain numbers and texts. -/
import Derived.Test.YtpigofooblmdhaaT4
import Derived.Test.YtpigofooblmdhaaN19
set_option linter.all false
set_option maxRecDepth 100000
namespace Go.Proofs.Ytpigofooblmdhaa
open Go.RowKit
theorem pn_congr (wd : Nat) (f g : Nat → Int) : ∀ k, (∀ i, i < k → f i = g i) → pn wd f k = pn wd g k := by
  intro k
  induction k with
  | zero => intro _; rfl
  | succ k ih => intro h; show pn wd f k * _ + f k = pn wd g k * _ + g k; rw [ih (fun i hi => h i (by omega)), h k (by omega)]
theorem pn_byt (N : Int) (h0 : 0 ≤ N) (h1 : N < top256) : ∀ k, k ≤ 32 → pn 8 (byt N) k = N / 2 ^ (8 * (32 - k)) := by
  intro k
  induction k with
  | zero =>
    intro _
    show 0 = _
    rw [show 8 * (32 - 0) = 256 from rfl, ← top_pow]
    exact (Int.ediv_eq_zero_of_lt h0 h1).symm
  | succ k ih =>
    intro hk
    show pn 8 (byt N) k * 2 ^ 8 + byt N k = _
    rw [ih (by omega)]
    unfold byt
    rw [show 8 * (32 - k) = 8 * (31 - k) + 8 by omega, show 8 * (32 - (k + 1)) = 8 * (31 - k) by omega, Int.pow_add, ← Int.ediv_ediv_of_nonneg (Int.le_of_lt (Int.pow_pos (by omega)))]
    generalize N / 2 ^ (8 * (31 - k)) = x
    rw [show (2 : Int) ^ 8 = 256 by decide]
    omega
theorem pn_all (N : Int) (h0 : 0 ≤ N) (h1 : N < top256) : pn 8 (byt N) 32 = N := by
  rw [pn_byt N h0 h1 32 (Nat.le_refl _)]; simp
/-- The i-th digit of a number. -/
def nb (N : Int) (i : Nat) : Int := if i % 2 = 0 then byt N (i / 2) / 16 else byt N (i / 2) % 16
theorem nb_bd (N : Int) (i : Nat) : 0 ≤ nb N i ∧ nb N i < 16 := by
  have := byt_bd N (i / 2)
  unfold nb; split <;> omega
theorem tx_nb (N : Int) (i : Nat) : tx N i = hexc (nb N i) := by unfold tx nb; split <;> rfl
theorem pn_nb (N : Int) : ∀ k, pn 4 (nb N) (2 * k) = pn 8 (byt N) k := by
  intro k
  induction k with
  | zero => rfl
  | succ k ih =>
    show (pn 4 (nb N) (2 * k) * 2 ^ 4 + nb N (2 * k)) * 2 ^ 4 + nb N (2 * k + 1) = pn 8 (byt N) k * 2 ^ 8 + byt N k
    have e1 : nb N (2 * k) = byt N k / 16 := by unfold nb; rw [if_pos (by omega), show 2 * k / 2 = k by omega]
    have e2 : nb N (2 * k + 1) = byt N k % 16 := by unfold nb; rw [if_neg (by omega), show (2 * k + 1) / 2 = k by omega]
    rw [ih, e1, e2, show (2 : Int) ^ 4 = 16 by decide, show (2 : Int) ^ 8 = 256 by decide]
    omega
theorem hex_dg (d : Int) (h0 : 0 ≤ d) (h1 : d < 16) : dgo (hexc d) = true ∧ dgv (hexc d) = d := by
  have h : d = 0 ∨ d = 1 ∨ d = 2 ∨ d = 3 ∨ d = 4 ∨ d = 5 ∨ d = 6 ∨ d = 7 ∨ d = 8 ∨ d = 9 ∨ d = 10 ∨ d = 11 ∨ d = 12 ∨ d = 13 ∨ d = 14 ∨ d = 15 := by omega
  rcases h with h | h | h | h | h | h | h | h | h | h | h | h | h | h | h | h <;> (subst h; decide)
theorem dg_hex (c : Int) (h : dgo c = true) : hexc (dgv c) = c := by
  unfold dgo at h
  simp only [Bool.or_eq_true, decide_eq_true_eq] at h
  unfold hexc dgv
  rcases h with h | h
  · rw [if_pos h, if_pos (by omega)]; omega
  · rw [if_neg (by omega), if_pos h, if_neg (by omega)]; omega
theorem txS_mk (N : Int) : txS N = mkS (txL N) := rfl
theorem txL_at (N : Int) (i : Nat) (hi : i < 64) : (txL N)[i]? = some (tx N i) := by simp [txL, hi]
theorem bt_tx (N : Int) (i : Nat) (hi : i < 64) : bt (txS N) i = tx N i := by
  have b := nb_bd N i
  have c := hexc_bd (nb N i) b.1 b.2
  rw [txS_mk]
  exact mkS_bt _ i _ (txL_at N i hi) (by rw [tx_nb]; exact c.1) (by rw [tx_nb]; exact c.2)
theorem text_alld (N : Int) : alld (txS N) 64 := fun i hi => by
  have b := nb_bd N i
  rw [bt_tx N i hi, tx_nb]; exact (hex_dg _ b.1 b.2).1
theorem text_back (N : Int) (h0 : 0 ≤ N) (h1 : N < top256) : pn 4 (dg (txS N)) 64 = N := by
  have e : pn 4 (dg (txS N)) 64 = pn 4 (nb N) 64 := pn_congr 4 _ _ 64 fun i hi => by
    have b := nb_bd N i
    unfold dg
    rw [bt_tx N i hi, tx_nb]; exact (hex_dg _ b.1 b.2).2
  rw [e, show (64 : Nat) = 2 * 32 from rfl, pn_nb, pn_all N h0 h1]
theorem big_back (N : Int) (h0 : 0 ≤ N) (h1 : N < top256) : pn 8 (bt (mkS (bgL N))) 32 = N := by
  have e : pn 8 (bt (mkS (bgL N))) 32 = pn 8 (byt N) 32 := pn_congr 8 _ _ 32 fun i hi => by
    have b := byt_bd N i
    exact mkS_bt _ i _ (bgL_at N i hi) b.1 b.2
  rw [e, pn_all N h0 h1]
/-- The digits of a number that digits make are those. -/
theorem nb_pn (f : Nat → Int) (hf : ∀ i, 0 ≤ f i ∧ f i < 2 ^ 4) (i : Nat) (hi : i < 64) : nb (pn 4 f 64) i = f i := by
  have key : pn 4 f 64 / 2 ^ (4 * (63 - i)) % 16 = f i := by
    have a := pn_add 4 f (i + 1) (63 - i)
    rw [show i + 1 + (63 - i) = 64 by omega] at a
    have b0 := pn_nn 4 (sh f (i + 1)) (fun j => (hf _).1) (63 - i)
    have b1 := pn_lt 4 (sh f (i + 1)) (fun j => hf _) (63 - i)
    have pp : (0 : Int) < 2 ^ (4 * (63 - i)) := Int.pow_pos (by omega)
    rw [a, Int.add_comm, Int.add_mul_ediv_right _ _ (Int.ne_of_gt pp), Int.ediv_eq_zero_of_lt b0 b1, Int.zero_add]
    show (pn 4 f i * 2 ^ 4 + f i) % 16 = f i
    have := hf i
    simp at this ⊢
    omega
  unfold nb byt
  split
  · rename_i h
    rw [show 8 * (31 - i / 2) = 4 * (62 - i) by omega]
    rw [show 4 * (63 - i) = 4 * (62 - i) + 4 by omega, Int.pow_add, ← Int.ediv_ediv_of_nonneg (Int.le_of_lt (Int.pow_pos (by omega)))] at key
    rw [show (2 : Int) ^ 4 = 16 by decide] at key
    generalize pn 4 f 64 / 2 ^ (4 * (62 - i)) = x at *
    omega
  · rename_i h
    rw [show 8 * (31 - i / 2) = 4 * (63 - i) by omega]
    generalize pn 4 f 64 / 2 ^ (4 * (63 - i)) = x at *
    omega
theorem parse_back (s : ByteArray) (hs : s.size = 64) (hall : alld s 64) : txS (pn 4 (dg s) 64) = s := by
  have e : ∀ i, i < 64 → bt (txS (pn 4 (dg s) 64)) i = bt s i := fun i hi => by
    rw [bt_tx _ i hi, tx_nb, nb_pn (dg s) (dg_4 s) i hi]
    exact dg_hex _ (hall i hi)
  have sz : (txS (pn 4 (dg s) 64)).size = 64 := by rw [txS_mk, mkS_size]; simp [txL]
  have ext : ∀ a b : ByteArray, a.size = 64 → b.size = 64 → (∀ i, i < 64 → bt a i = bt b i) → a = b := fun a b ha hb h => by
    have : a.data = b.data := by
      apply Array.ext
      · have h1 : a.data.size = 64 := ha
        have h2 : b.data.size = 64 := hb
        omega
      · intro i h1 h2
        have hi : i < 64 := by have : a.data.size = 64 := ha; omega
        have := h i hi
        unfold bt at this
        rw [Array.getElem?_eq_getElem h1, Array.getElem?_eq_getElem h2] at this
        simp at this
        exact UInt8.toNat_inj.1 (by omega)
    cases a; cases b; simp at this; rw [this]
  exact ext _ _ sz hs e
end Go.Proofs.Ytpigofooblmdhaa
