/- What mod.Pow answers, for any numbers. -/
import Derived.Test.YtpigofooblmdhaaJ25
set_option linter.all false
namespace Go.Proofs.Ytpigofooblmdhaa
open Go.RowKit
theorem bit_step (x k : Nat) : x / 2 ^ k = 2 * (x / 2 ^ (k + 1)) + (decide (x / 2 ^ k % 2 = 1)).toNat := by
  have e : x / 2 ^ (k + 1) = x / 2 ^ k / 2 := by rw [Nat.pow_succ, Nat.div_div_eq_div_mul]
  rw [e]
  generalize x / 2 ^ k = y
  by_cases h : y % 2 = 1
  · rw [decide_eq_true h]; show y = 2 * (y / 2) + 1; omega
  · rw [decide_eq_false h]; show y = 2 * (y / 2) + 0; omega
theorem bitB_nat (E : Int) (h : 0 ≤ E) (k : Nat) : bitB E k = decide (E.toNat / 2 ^ k % 2 = 1) := by
  unfold bitB
  obtain ⟨n, rfl⟩ := Int.eq_ofNat_of_zero_le h
  have e : ((n : Int) / 2 ^ k % 2 = 1) ↔ (n / 2 ^ k % 2 = 1) := by
    have : ((n : Int) / 2 ^ k % 2) = ((n / 2 ^ k % 2 : Nat) : Int) := by push_cast; rfl
    rw [this]; omega
  simp only [Int.toNat_natCast, e]
theorem pv_upto (E : Int) (h : 0 ≤ E) (L : Nat) (hL : E.toNat < 2 ^ L) : ∀ k, k ≤ L → pv (upto E L k) = E.toNat / 2 ^ (L - k) := by
  intro k
  induction k with
  | zero => intro _; rw [Nat.sub_zero, Nat.div_eq_of_lt hL]; rfl
  | succ k ih =>
    intro hk
    rw [upto_succ, pv_snoc, ih (by omega), bitB_nat E h, show L - k = L - 1 - k + 1 by omega, show L - (k + 1) = L - 1 - k by omega]
    exact (bit_step _ _).symm
theorem md_md (x y M : Int) : md (md x M * md y M) M = md (x * y) M := by
  by_cases c : M = 0
  · subst c; simp [md]
  · unfold md; simp only [if_neg c]; rw [← Int.mul_emod]
theorem md_mdl (x y M : Int) : md (md x M * y) M = md (x * y) M := by
  by_cases c : M = 0
  · subst c; simp [md]
  · unfold md; simp only [if_neg c]; rw [Int.mul_emod, Int.emod_emod, ← Int.mul_emod]
theorem nv_one : nv 1 = .agg #[.int .u64 1, .int .u64 0, .int .u64 0, .int .u64 0] := by
  have h0 : lim 1 0 = 1 := by decide
  have h1 : lim 1 1 = 0 := by decide
  have h2 : lim 1 2 = 0 := by decide
  have h3 : lim 1 3 = 0 := by decide
  simp only [nv, h0, h1, h2, h3]
theorem pow_any (A E M : Int) (hA : 0 ≤ A) (hA' : A < top256) (hE : 0 ≤ E) (hE' : E < top256) (hM : 0 ≤ M) (hM' : M < top256) (w : World) :
    Calls Try.prog 38 #[nv A, nv E, nv M] w fun e w' => e = .returned (nv (md (A ^ E.toNat) M)) ∧ Below w.heap.size w w' := by
  have sp := bitLen_spec E.toNat
  have l256 : bitLen E.toNat ≤ 256 := by
    by_cases c : bitLen E.toNat ≤ 256
    · exact c
    · have ne : E.toNat ≠ 0 := by
        intro h
        have : bitLen E.toNat = 0 := by rw [h]; decide
        omega
      have lo := sp.2 ne
      have hp : (2 : Nat) ^ 256 ≤ 2 ^ (bitLen E.toNat - 1) := Nat.pow_le_pow_right (by omega) (by omega)
      have ht : E.toNat < 2 ^ 256 := by
        have e : (2 : Nat) ^ 256 = 115792089237316195423570985008687907853269984665640564039457584007913129639936 := by decide
        unfold top256 at hE'; omega
      omega
  have key := pow_core A E M (bitLen E.toNat) (fun pre => md (A ^ pv pre) M) w l256 ?_ ?_ ?_ (fun W => len_any E hE hE' W) (fun k W hk => bit_bv E k hE hE' (by omega) W)
  · have e := pv_upto E hE (bitLen E.toNat) sp.1 (bitLen E.toNat) (Nat.le_refl _)
    rw [Nat.sub_self, Nat.pow_zero, Nat.div_one] at e
    simp only [e] at key
    exact key
  · intro W
    have := below_any 1 M (by omega) (by decide) hM hM' W
    rw [nv_one] at this
    simp only [pv, List.foldl_nil, Int.pow_zero]
    exact this
  · intro pre W
    have := mmul_any (md (A ^ pv pre) M) (md (A ^ pv pre) M) M (md_nn _ _ hM) (md_top _ _ hM hM') (md_nn _ _ hM) (md_top _ _ hM hM') hM hM' W
    rw [md_md, ← Int.pow_add] at this
    simp only [pv_snoc]
    rw [show 2 * pv pre + false.toNat = pv pre + pv pre by show 2 * pv pre + 0 = _; omega]
    exact this
  · intro pre W
    have := mmul_any (md (A ^ pv (pre ++ [false])) M) A M (md_nn _ _ hM) (md_top _ _ hM hM') hA hA' hM hM' W
    rw [md_mdl, ← Int.pow_succ] at this
    simp only [pv_snoc] at this ⊢
    rw [show 2 * pv pre + true.toNat = 2 * pv pre + false.toNat + 1 by rfl]
    exact this
end Go.Proofs.Ytpigofooblmdhaa
