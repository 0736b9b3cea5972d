/- What num.Div answers, for any numbers. -/
import Derived.Test.YtpigofooblmdhaaN16
set_option linter.all false
namespace Go.Proofs.Ytpigofooblmdhaa
open Go.RowKit
theorem top_pow : top256 = 2 ^ 256 := by decide
theorem len_facts (M : Int) (h0 : 0 < M) (h1 : M < top256) : ∃ s : Nat, s ≤ 255 ∧ (256 : Int) - (bitLen M.toNat : Int) = (s : Int) ∧ 2 ^ 255 ≤ M * 2 ^ s ∧ M * 2 ^ s < top256 := by
  have sp := bitLen_spec M.toNat
  have hne : M.toNat ≠ 0 := by omega
  have lo := sp.2 hne
  have hi := sp.1
  have l1 : 1 ≤ bitLen M.toNat := by
    by_cases c : bitLen M.toNat = 0
    · rw [c] at hi; omega
    · omega
  have l256 : bitLen M.toNat ≤ 256 := by
    by_cases c : bitLen M.toNat ≤ 256
    · exact c
    · have hp : (2 : Nat) ^ 256 ≤ 2 ^ (bitLen M.toNat - 1) := Nat.pow_le_pow_right (by omega) (by omega)
      have ht : M.toNat < 2 ^ 256 := by
        have e : (2 : Nat) ^ 256 = 115792089237316195423570985008687907853269984665640564039457584007913129639936 := by decide
        unfold top256 at h1; omega
      omega
  refine ⟨256 - bitLen M.toNat, by omega, by omega, ?_, ?_⟩
  · have e : (2 : Int) ^ 255 = 2 ^ (bitLen M.toNat - 1) * 2 ^ (256 - bitLen M.toNat) := by
      rw [← Int.pow_add]; congr 1; omega
    rw [e]
    refine Int.mul_le_mul_of_nonneg_right ?_ (Int.le_of_lt (Int.pow_pos (by omega)))
    have : ((2 ^ (bitLen M.toNat - 1) : Nat) : Int) ≤ (M.toNat : Int) := by exact_mod_cast lo
    have e2 : ((2 ^ (bitLen M.toNat - 1) : Nat) : Int) = 2 ^ (bitLen M.toNat - 1) := by push_cast; rfl
    omega
  · have e : top256 = 2 ^ bitLen M.toNat * 2 ^ (256 - bitLen M.toNat) := by
      rw [top_pow, ← Int.pow_add]; congr 1; omega
    rw [e]
    refine Int.mul_lt_mul_of_pos_right ?_ (Int.pow_pos (by omega))
    have : (M.toNat : Int) < ((2 ^ bitLen M.toNat : Nat) : Int) := by exact_mod_cast hi
    have e2 : ((2 ^ bitLen M.toNat : Nat) : Int) = 2 ^ bitLen M.toNat := by push_cast; rfl
    omega
theorem div_any (lo hi M : Int) (hl : 0 ≤ lo) (hl' : lo < top256) (hh : 0 ≤ hi) (hh' : hi < top256) (hM : 0 < M) (hM' : M < top256) (w : World) :
    Calls Try.prog 58 #[nv lo, nv hi, nv M] w fun e w' => e = .returned (.tuple #[nv ((lo + hi * top256) / M), nv ((lo + hi * top256) / M / top256), nv ((lo + hi * top256) % M), .int .i64 0]) ∧ Below w.heap.size w w' := by
  obtain ⟨s, hs, es, d0, d1⟩ := len_facts M hM hM'
  have sp : (0 : Int) < 2 ^ s := Int.pow_pos (by omega)
  have tp : (0 : Int) < top256 := by decide
  have D0 : 0 < M * 2 ^ s := Int.mul_pos hM sp
  have eQ : (lo + hi * top256) * 2 ^ s / (M * 2 ^ s) = (lo + hi * top256) / M := by
    rw [Int.mul_comm (lo + hi * top256), Int.mul_comm M, Int.mul_ediv_mul_of_pos _ _ sp]
  have eR : rem ((lo + hi * top256) * 2 ^ s) (M * 2 ^ s) 0 = (lo + hi * top256) % M * 2 ^ s := by
    unfold rem
    rw [Int.pow_zero, Int.ediv_one, Int.mul_comm (lo + hi * top256), Int.mul_comm M, Int.mul_emod_mul_of_pos _ _ sp, Int.mul_comm]
  have m0 := Int.emod_nonneg (lo + hi * top256) (Int.ne_of_gt hM)
  have m1 := Int.emod_lt_of_pos (lo + hi * top256) hM
  have eL : rem ((lo + hi * top256) * 2 ^ s) (M * 2 ^ s) 0 / 2 ^ s = (lo + hi * top256) % M := by
    rw [eR, Int.mul_ediv_cancel _ (Int.ne_of_gt sp)]
  have b0 : 0 ≤ rem ((lo + hi * top256) * 2 ^ s) (M * 2 ^ s) 0 := Int.emod_nonneg _ (Int.ne_of_gt D0)
  have b1 : rem ((lo + hi * top256) * 2 ^ s) (M * 2 ^ s) 0 < top256 := Int.lt_trans (Int.emod_lt_of_pos _ D0) d1
  have D3 : 9223372036854775808 ≤ lim (M * 2 ^ s) 3 := by
    have e255 : (2 : Int) ^ 255 = 57896044618658097711785492504343953926634992332820282019728792003956564819968 := by decide
    rw [lim3]; unfold top256 at d1; omega
  have eF : (lo + hi * top256) * 2 ^ s = lo * 2 ^ s + hi * 2 ^ s * top256 := by grind
  have x0 : 0 ≤ lo * 2 ^ s := Int.mul_nonneg hl (Int.le_of_lt sp)
  have h0 : 0 ≤ hi * 2 ^ s := Int.mul_nonneg hh (Int.le_of_lt sp)
  have xt0 : 0 ≤ lo * 2 ^ s / top256 := Int.ediv_nonneg x0 (Int.le_of_lt tp)
  have xt1 : lo * 2 ^ s / top256 < 2 ^ s := Int.ediv_lt_of_lt_mul tp (by rw [Int.mul_comm (2 ^ s)]; exact Int.mul_lt_mul_of_pos_right hl' sp)
  have fT : (lo + hi * top256) * 2 ^ s / top256 = lo * 2 ^ s / top256 + hi * 2 ^ s := by
    rw [eF, Int.add_mul_ediv_right _ _ (Int.ne_of_gt tp)]
  have hTop : (lo * 2 ^ s / top256 + hi * 2 ^ s) / top256 = hi * 2 ^ s / top256 := by
    have e : top256 = 2 ^ s * 2 ^ (256 - s) := by rw [top_pow, ← Int.pow_add]; congr 1; omega
    have q : (0 : Int) ≤ 2 ^ s := Int.le_of_lt sp
    generalize lo * 2 ^ s / top256 = x at *
    rw [e, ← Int.ediv_ediv_of_nonneg q, ← Int.ediv_ediv_of_nonneg q, Int.add_mul_ediv_right _ _ (Int.ne_of_gt sp), Int.mul_ediv_cancel _ (Int.ne_of_gt sp), Int.ediv_eq_zero_of_lt xt0 xt1, Int.zero_add]
  have p8 : (18446744073709551616 : Int) ^ 8 = top256 * top256 := by decide
  have r8 : rem ((lo + hi * top256) * 2 ^ s) (M * 2 ^ s) 8 = hi * 2 ^ s / top256 := by
    unfold rem
    rw [p8, ← Int.ediv_ediv_of_nonneg (Int.le_of_lt tp), fT, hTop]
    refine Int.emod_eq_of_lt (Int.ediv_nonneg h0 (Int.le_of_lt tp)) ?_
    have a1 : hi * 2 ^ s / top256 < 2 ^ s := Int.ediv_lt_of_lt_mul tp (by rw [Int.mul_comm (2 ^ s)]; exact Int.mul_lt_mul_of_pos_right hh' sp)
    have a2 : (2 : Int) ^ s ≤ 2 ^ 255 := by
      have := Nat.pow_le_pow_right (n := 2) (by omega) hs
      exact_mod_cast this
    omega
  have hLo : ∀ j, j < 4 → lim ((lo + hi * top256) * 2 ^ s) j = lim (lo * 2 ^ s) j := fun j hj => by
    rw [← lim_mod _ j hj, ← lim_mod (lo * 2 ^ s) j hj, eF, Int.add_mul_emod_self_right]
  have hOr : ∀ k, k < 4 → bits .or .u64 (lim (lo * 2 ^ s) (k + 4)) (lim (hi * 2 ^ s) k) = lim ((lo + hi * top256) * 2 ^ s) (k + 4) := fun k _ => by
    rw [lim_add4, lim_add4, fT]
    exact or_lims _ hi s k xt0 xt1 hh
  have hz : (lim M 0 == 0 && (lim M 1 == 0 && (lim M 2 == 0 && lim M 3 == 0))) = false := by
    have v := V4_lim M (Int.le_of_lt hM) hM'
    unfold V4 at v
    by_cases c0 : lim M 0 = 0
    · by_cases c1 : lim M 1 = 0
      · by_cases c2 : lim M 2 = 0
        · by_cases c3 : lim M 3 = 0
          · rw [c0, c1, c2, c3] at v; omega
          · simp [c3]
        · simp [c2]
      · simp [c1]
    · simp [c0]
  have DG : ∀ j W, j < 8 → Calls Try.prog 89 #[nv (rem ((lo + hi * top256) * 2 ^ s) (M * 2 ^ s) (j + 1)), .int .u64 (lim ((lo + hi * top256) * 2 ^ s) j), nv (M * 2 ^ s)] W fun e w' => e = .returned (.tuple #[.int .u64 (lim ((lo + hi * top256) / M) j), nv (rem ((lo + hi * top256) * 2 ^ s) (M * 2 ^ s) j)]) ∧ Below W.heap.size W w' := fun j W _ => by
    have dg := digit_eq ((lo + hi * top256) * 2 ^ s) (M * 2 ^ s) j D0
    have := digit_any (rem ((lo + hi * top256) * 2 ^ s) (M * 2 ^ s) (j + 1)) (lim ((lo + hi * top256) * 2 ^ s) j) (M * 2 ^ s) (Int.emod_nonneg _ (Int.ne_of_gt D0)) (Int.emod_lt_of_pos _ D0) d1 (lim_nn _ _) (lim_lt _ _) D3 W
    rw [dg.1, dg.2, eQ] at this
    exact this
  have RM := fun W => raised_any M s (Int.le_of_lt hM) hM' hs W
  have RL := fun W => raised_any lo s hl hl' hs W
  have RH := fun W => raised_any hi s hh hh' hs W
  have L := fun W => len_any M (Int.le_of_lt hM) hM' W
  have LW := fun W => lowered_any (rem ((lo + hi * top256) * 2 ^ s) (M * 2 ^ s) 0) s b0 b1 hs W
  rw [eL] at LW
  refine div_core lo hi M (M * 2 ^ s) (lo * 2 ^ s) (hi * 2 ^ s) ((lo + hi * top256) * 2 ^ s) ((lo + hi * top256) / M) ((lo + hi * top256) % M) (bitLen M.toNat : Int) s w es (by omega) (by omega) L RM RL RH hLo hOr
    (by rw [r8]; exact lim_add4 _ 0) (by rw [r8]; exact lim_add4 _ 1) (by rw [r8]; exact lim_add4 _ 2) (by rw [r8]; exact lim_add4 _ 3)
    (lim_add4 _ 0) (lim_add4 _ 1) (lim_add4 _ 2) (lim_add4 _ 3) DG LW hz
attribute [local go_sem] eq24
set_option maxHeartbeats 1000000 in
theorem div_none (lo hi : Int) (w : World) :
    Calls Try.prog 58 #[nv lo, nv hi, .agg #[.int .u64 0, .int .u64 0, .int .u64 0, .int .u64 0]] w fun e w' => e = .returned (.tuple #[.agg #[.int .u64 0, .int .u64 0, .int .u64 0, .int .u64 0], .agg #[.int .u64 0, .int .u64 0, .int .u64 0, .int .u64 0], .agg #[.int .u64 0, .int .u64 0, .int .u64 0, .int .u64 0], .int .i64 13]) ∧ Below w.heap.size w w' := by
  go_enter Try.func58, Try.ntmps58
  go_wp2
  refine bodyPost_ret (v := .tuple #[.agg #[.int .u64 0, .int .u64 0, .int .u64 0, .int .u64 0], .agg #[.int .u64 0, .int .u64 0, .int .u64 0, .int .u64 0], .agg #[.int .u64 0, .int .u64 0, .int .u64 0, .int .u64 0], .int .i64 13]) (by simp [results, Try.results58, go_sem]) rfl ⟨rfl, ?_⟩
  go_grown
end Go.Proofs.Ytpigofooblmdhaa
