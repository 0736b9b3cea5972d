/- What the reference's Cmp and Bit answer. -/
import Derived.Test.YtpigofooblmdhaaR1
import Derived.Test.YtpigofooblmdhaaN4
set_option linter.all false
namespace Go.Proofs.Ytpigofooblmdhaa
open Go.RowKit
theorem div_succ (A : Int) (m : Nat) : A / 18446744073709551616 ^ m = 18446744073709551616 * (A / 18446744073709551616 ^ (m + 1)) + lim A m := by
  have hp : (0 : Int) < 18446744073709551616 ^ m := Int.pow_pos (by omega)
  rw [Int.pow_succ, ← Int.ediv_ediv_of_nonneg (Int.le_of_lt hp)]
  unfold lim
  omega
theorem hi_lt {A B : Int} {m : Nat} (h : A / 18446744073709551616 ^ (m + 1) = B / 18446744073709551616 ^ (m + 1)) (hl : lim A m < lim B m) : A < B := by
  have a := div_succ A m
  have b := div_succ B m
  by_cases c : A < B
  · exact c
  · have hp : (0 : Int) < 18446744073709551616 ^ m := Int.pow_pos (by omega)
    have := Int.ediv_le_ediv hp (show B ≤ A by omega)
    omega
theorem hi_eq {A B : Int} {m : Nat} (h : A / 18446744073709551616 ^ (m + 1) = B / 18446744073709551616 ^ (m + 1)) (hl : lim A m = lim B m) : A / 18446744073709551616 ^ m = B / 18446744073709551616 ^ m := by
  have a := div_succ A m
  have b := div_succ B m
  omega
set_option maxHeartbeats 2000000 in
theorem refCmp_any (A Bv : Int) (hA : 0 ≤ A) (hA' : A < top256) (hBv : 0 ≤ Bv) (hB' : Bv < top256) (w : World) :
    Calls Try.prog 92 #[nv A, nv Bv] w fun e w' => e = .returned (.int .i64 (sg A Bv)) ∧ Below w.heap.size w w' := by
  go_enter Try.func92, Try.ntmps92
  go_wp2_with fail
  go_loopw [5] (fun i wr => ∃ k : Nat, k ≤ 4 ∧ i = .int .i64 ((k : Int) - 1) ∧ Hid (A / 18446744073709551616 ^ k = Bv / 18446744073709551616 ^ k) ∧ Below w.heap.size w wr ∧
      Arr wr w.heap.size 4 (fun j => .int .u64 (lim A j)) ∧ Arr wr (w.heap.size + 1) 4 (fun j => .int .u64 (lim Bv j)))
    (fun i _ => (intOf i + 1).toNat)
  case atStart =>
    refine ⟨4, by omega, by go_num, ?_, by go_grown, Arr.mk4 (by simp [go_sem]) (by simp [go_sem]) (by simp [go_sem]) (by simp [go_sem]) (by simp [go_sem]) (by simp [go_sem]) (by simp [go_sem]) (by simp [go_sem]) , Arr.mk4 (by simp [go_sem]) (by simp [go_sem]) (by simp [go_sem]) (by simp [go_sem]) (by simp [go_sem]) (by simp [go_sem]) (by simp [go_sem]) (by simp [go_sem]) ⟩
    have e : (18446744073709551616 : Int) ^ 4 = top256 := by decide
    show A / 18446744073709551616 ^ 4 = Bv / 18446744073709551616 ^ 4
    rw [e, Int.ediv_eq_zero_of_lt hA hA', Int.ediv_eq_zero_of_lt hBv hB']
  case round =>
    obtain ⟨k, hk, rfl, HE, hB, C0, C1⟩ := hrel
    match k, hk with
    | 0, _ =>
      have e : A = Bv := by have := HE.out; simpa using this
      have es : sg A Bv = 0 := by rw [e]; unfold sg; simp
      have i1 : ((0 : Nat) : Int) - 1 = -1 := by omega
      go_wp2_with fail
      go_ret
      exact ⟨by rw [es]; rfl, hB⟩
    | m + 1, hm =>
      have i1 : ((m + 1 : Nat) : Int) - 1 = (m : Int) := by omega
      rw [i1]
      have m0 : (0 : Int) ≤ (m : Int) := by omega
      have m4 : (m : Int) < 4 := by omega
      have ra := C0.c m (by omega)
      have rb := C1.c m (by omega)
      by_cases h1 : lim A m < lim Bv m
      · have es : sg A Bv = -1 := by unfold sg; rw [if_pos (hi_lt HE.out h1)]
        have ES : Hid _ := es
        clear es
        go_wp2_with fail
        go_quiet (fail)
        go_wp2_with fail
        go_ret
        exact ⟨by rw [ES.out]; rfl, belowN hB _⟩
      · by_cases h2 : lim Bv m < lim A m
        · have es : sg A Bv = 1 := by
            have := hi_lt HE.out.symm h2
            unfold sg; rw [if_neg (by omega), if_pos this]
          have ES : Hid _ := es
          clear es
          go_wp2_with fail
          go_quiet (fail)
          go_wp2_with fail
          go_quiet (fail)
          go_wp2_with fail
          go_ret
          exact ⟨by rw [ES.out]; rfl, belowN (belowN hB _) _⟩
        · have HE' : Hid _ := hi_eq HE.out (show lim A m = lim Bv m by omega)
          go_wp2_with fail
          go_quiet (fail)
          go_wp2_with fail
          go_quiet (fail)
          go_wp2_with fail
          go_roundw
          case rel => exact ⟨m, by omega, by go_num, HE', belowN hB _, C0.drewN _, C1.drewN _⟩
          case measure => simp [intOf]
theorem bit_lim (N : Int) (q r : Nat) (hr : r < 64) : lim N q / 2 ^ r % 2 = N / 2 ^ (64 * q + r) % 2 := by
  have e : lim N q = N / 18446744073709551616 ^ q % 18446744073709551616 := rfl
  have e2 : (18446744073709551616 : Int) ^ q = 2 ^ (64 * q) := by
    have h : (18446744073709551616 : Int) = 2 ^ 64 := rfl
    rw [h, ← Int.pow_mul]
  rw [e, e2, div_pow_add]
  generalize N / 2 ^ (64 * q) = X
  have hT : (0 : Int) < 2 ^ r := Int.pow_pos (by omega)
  have hs : (18446744073709551616 : Int) = 2 ^ r * (2 ^ (63 - r) * 2) := by
    have : (2 : Int) ^ (63 - r) * 2 = 2 ^ (64 - r) := by rw [← Int.pow_succ]; congr 1; omega
    rw [this, pow_split r (by omega)]
  have ex := Int.mul_ediv_add_emod X 18446744073709551616
  have e3 : X / 2 ^ r = X % 18446744073709551616 / 2 ^ r + 2 ^ (63 - r) * 2 * (X / 18446744073709551616) := by
    have : X = X % 18446744073709551616 + 2 ^ r * (2 ^ (63 - r) * 2 * (X / 18446744073709551616)) := by
      rw [← Int.mul_assoc, ← hs]; omega
    conv => lhs; rw [this]
    rw [Int.add_mul_ediv_left _ _ (Int.ne_of_gt hT)]
  rw [e3]
  have e4 : (2 : Int) ^ (63 - r) * 2 * (X / 18446744073709551616) = 2 * (2 ^ (63 - r) * (X / 18446744073709551616)) := by grind
  rw [e4, Int.add_mul_emod_self_left]
set_option maxHeartbeats 1000000 in
theorem refBit_in (N : Int) (i q r : Nat) (hi : i = 64 * q + r) (hr : r < 64) (hq : q < 4) (w : World) :
    Calls Try.prog 72 #[nv N, .int .i64 (i : Int)] w fun e w' => e = .returned (.int .u64 (N / 2 ^ i % 2)) ∧ Below w.heap.size w w' := by
  have hd : (i : Int) / 64 = (q : Int) := by omega
  have hm : (i : Int) % 64 = (r : Int) := by omega
  have q0 : (0 : Int) ≤ (q : Int) := by omega
  have q4 : (q : Int) < 4 := by omega
  have i0 : (0 : Int) ≤ (i : Int) := by omega
  have i1 : (i : Int) ≤ 255 := by omega
  have l0 := lim_nn N q
  have l1 := lim_lt N q
  have d0 : 0 ≤ lim N q / 2 ^ r := Int.ediv_nonneg l0 (Int.le_of_lt (Int.pow_pos (by omega)))
  have d1 : lim N q / 2 ^ r < 18446744073709551616 := by
    have := Int.ediv_le_self (2 ^ r) l0
    omega
  have a1 := u64_and1 (lim N q / 2 ^ r) d0 d1
  have bl := bit_lim N q r hr
  rw [hi]
  rw [bl] at a1
  have A2 : Arr (w.alloc (.cells #[.int .u64 (lim N 0), .int .u64 (lim N 1), .int .u64 (lim N 2), .int .u64 (lim N 3)] 24)) w.heap.size 4 (fun j => .int .u64 (lim N j)) := Arr.mk4 (by simp [go_sem]) (by simp [go_sem]) (by simp [go_sem]) (by simp [go_sem]) (by simp [go_sem]) (by simp [go_sem]) (by simp [go_sem]) (by simp [go_sem]) 
  have c := A2.c q hq
  rw [← hi] at a1 ⊢
  have r0 : (0 : Int) ≤ (r : Int) := by omega
  have rt : (r : Int).toNat = r := by omega
  generalize N / 2 ^ i % 2 = bb at *
  clear bl A2 hi
  go_enter Try.func72, Try.ntmps72
  go_wp2_with fail
  go_ret
  exact ⟨rfl, by go_grown⟩
end Go.Proofs.Ytpigofooblmdhaa
