/- What follows for prime moduli: which numbers have an inverse, and which it is. -/
import Derived.Test.YtcipmgommoflgaaQ1
import Derived.Test.YtcipmgommoflgaaL5
set_option linter.all false
namespace Go.Proofs.Ytcipmgommoflgaa
open Go.RowKit
/-- A prime that fits. -/
def PM (M : Int) : Prop := In M ∧ 2 < M ∧ NT.Pri M.toNat
theorem PM.iff {A M : Int} (h : PM M) (hA : 0 ≤ A) : Nat.gcd M.toNat A.toNat = 1 ↔ ¬ md A M = 0 := by
  obtain ⟨_, h2, hp⟩ := h
  rw [md_pos A (by omega)]
  have dv : M.toNat ∣ A.toNat ↔ A % M = 0 := by
    constructor
    · intro ⟨t, ht⟩
      have e : A = M * (t : Int) := by
        have h1 : ((A.toNat : Nat) : Int) = ((M.toNat * t : Nat) : Int) := by rw [ht]
        push_cast at h1
        rw [Int.toNat_of_nonneg hA, Int.toNat_of_nonneg (by omega)] at h1
        exact h1
      rw [e]; exact Int.mul_emod_right M t
    · intro h
      obtain ⟨t, ht⟩ := Int.dvd_of_emod_eq_zero h
      have t0 : 0 ≤ t := by
        rcases Int.lt_or_le t 0 with c | c
        · have h1 : M * t < 0 := Int.mul_neg_of_pos_of_neg (by omega) c
          omega
        · exact c
      refine ⟨t.toNat, ?_⟩
      rw [ht, Int.toNat_mul (by omega) t0]
  rw [← dv]
  constructor
  · intro hg hd
    have := Nat.gcd_eq_left hd
    omega
  · intro hn; exact hp.cop hn
theorem PM.fermat {A M x : Int} (h : PM M) (hA : 0 ≤ A) (hg : Nat.gcd M.toNat A.toNat = 1) (hx : 0 ≤ x) (hx' : x < M) (hd : M ∣ A * x - 1) : md (A ^ (M - 2).toNat) M = x := by
  have hn := (h.iff hA).1 hg
  obtain ⟨_, h2, hp⟩ := h
  have nd : ¬ M.toNat ∣ A.toNat := by
    intro hdv
    have := Nat.gcd_eq_left hdv
    omega
  have f := NT.fermat hp A.toNat nd
  obtain ⟨n, hn2⟩ : ∃ n, (M - 2).toNat = n := ⟨_, rfl⟩
  have e1 : M.toNat - 1 = n + 1 := by omega
  rw [e1] at f
  have fI : M ∣ A ^ (n + 1) - 1 := by
    refine ⟨((A.toNat ^ (n + 1) / M.toNat : Nat) : Int), ?_⟩
    have d := Nat.div_add_mod (A.toNat ^ (n + 1)) M.toNat
    rw [f] at d
    have dI : ((M.toNat * (A.toNat ^ (n + 1) / M.toNat) + 1 : Nat) : Int) = ((A.toNat ^ (n + 1) : Nat) : Int) := by rw [d]
    push_cast at dI
    rw [Int.toNat_of_nonneg hA, Int.toNat_of_nonneg (show 0 ≤ M by omega)] at dI
    push_cast
    rw [Int.toNat_of_nonneg hA, Int.toNat_of_nonneg (show 0 ≤ M by omega)]
    omega
  rw [hn2, md_pos _ (by omega)]
  have key : M ∣ A ^ n - x := by
    obtain ⟨s, hs⟩ := hd
    obtain ⟨t, ht⟩ := fI
    refine ⟨x * (t - s) - s * (A ^ n - x), ?_⟩
    rw [Int.pow_succ] at ht
    generalize A ^ n = P at *
    grind
  rw [Int.emod_eq_emod_iff_emod_sub_eq_zero.2 (Int.emod_eq_zero_of_dvd key)]
  exact Int.emod_eq_of_lt hx hx'
theorem pow_sum (A X Y M : Int) (hX : 0 ≤ X) (hY : 0 ≤ Y) : md (A ^ (X + Y).toNat) M = md (md (A ^ X.toNat) M * md (A ^ Y.toNat) M) M := by
  rw [md_md, ← Int.pow_add, Int.toNat_add hX hY]
def P1 : Int := 57896044618658097711785492504343953926634992332820282019728792003956564819949
def P2 : Int := 115792089210356248762697446949407573530086143415290314195533631308867097853951
def P3 : Int := 115792089210356248762697446949407573529996955224135760342422259061068512044369
theorem pm1 : PM P1 := ⟨⟨by decide, by decide⟩, by decide, by show NT.Pri (P1.toNat); exact NT.p13⟩
theorem pm2 : PM P2 := ⟨⟨by decide, by decide⟩, by decide, by show NT.Pri (P2.toNat); exact NT.p25⟩
theorem pm3 : PM P3 := ⟨⟨by decide, by decide⟩, by decide, by show NT.Pri (P3.toNat); exact NT.p35⟩
theorem nv_P1 : nv P1 = .agg #[.int .u64 18446744073709551597, .int .u64 18446744073709551615, .int .u64 18446744073709551615, .int .u64 9223372036854775807] := by
  have h0 : lim P1 0 = 18446744073709551597 := by decide
  have h1 : lim P1 1 = 18446744073709551615 := by decide
  have h2 : lim P1 2 = 18446744073709551615 := by decide
  have h3 : lim P1 3 = 9223372036854775807 := by decide
  simp only [nv, h0, h1, h2, h3]
theorem nv_P2 : nv P2 = .agg #[.int .u64 18446744073709551615, .int .u64 4294967295, .int .u64 0, .int .u64 18446744069414584321] := by
  have h0 : lim P2 0 = 18446744073709551615 := by decide
  have h1 : lim P2 1 = 4294967295 := by decide
  have h2 : lim P2 2 = 0 := by decide
  have h3 : lim P2 3 = 18446744069414584321 := by decide
  simp only [nv, h0, h1, h2, h3]
theorem nv_P3 : nv P3 = .agg #[.int .u64 17562291160714782033, .int .u64 13611842547513532036, .int .u64 18446744073709551615, .int .u64 18446744069414584320] := by
  have h0 : lim P3 0 = 17562291160714782033 := by decide
  have h1 : lim P3 1 = 13611842547513532036 := by decide
  have h2 : lim P3 2 = 18446744073709551615 := by decide
  have h3 : lim P3 3 = 18446744069414584320 := by decide
  simp only [nv, h0, h1, h2, h3]
set_option maxHeartbeats 1000000 in
theorem k8 (w : World) : Calls Try.prog 8 #[] w fun e w' => e = .returned (nv P1) ∧ Below w.heap.size w w' := by
  rw [nv_P1]
  go_enter Try.func8, Try.ntmps8
  go_wp2
  refine bodyPost_ret (v := .agg #[.int .u64 18446744073709551597, .int .u64 18446744073709551615, .int .u64 18446744073709551615, .int .u64 9223372036854775807]) (by simp [results, Try.results8, go_sem]) rfl ⟨rfl, ?_⟩
  go_grown
set_option maxHeartbeats 1000000 in
theorem k10 (w : World) : Calls Try.prog 10 #[] w fun e w' => e = .returned (nv P2) ∧ Below w.heap.size w w' := by
  rw [nv_P2]
  go_enter Try.func10, Try.ntmps10
  go_wp2
  refine bodyPost_ret (v := .agg #[.int .u64 18446744073709551615, .int .u64 4294967295, .int .u64 0, .int .u64 18446744069414584321]) (by simp [results, Try.results10, go_sem]) rfl ⟨rfl, ?_⟩
  go_grown
set_option maxHeartbeats 1000000 in
theorem k12 (w : World) : Calls Try.prog 12 #[] w fun e w' => e = .returned (nv P3) ∧ Below w.heap.size w w' := by
  rw [nv_P3]
  go_enter Try.func12, Try.ntmps12
  go_wp2
  refine bodyPost_ret (v := .agg #[.int .u64 17562291160714782033, .int .u64 13611842547513532036, .int .u64 18446744073709551615, .int .u64 18446744069414584320]) (by simp [results, Try.results12, go_sem]) rfl ⟨rfl, ?_⟩
  go_grown
end Go.Proofs.Ytcipmgommoflgaa
