/- Texts joined: R1, R3, M6, R2, R5. -/
import Derived.BigQuiet
import Derived.Test.YtpigofooblmdhaaJ4
import Derived.Test.YtpigofooblmdhaaJ14
set_option linter.all false
namespace Go.Proofs.Ytpigofooblmdhaa
open Go.RowKit
def cy (A B : Int) (k : Nat) : Int := (A % 18446744073709551616 ^ k + B % 18446744073709551616 ^ k) / 18446744073709551616 ^ k
theorem cy_step (A B : Int) (k : Nat) : lim A k + lim B k + cy A B k = lim (A + B) k + 18446744073709551616 * cy A B (k + 1) := by
  have hp : (0 : Int) < 18446744073709551616 ^ k := Int.pow_pos (by omega)
  unfold cy
  rw [Int.pow_succ, mod_split A _ hp, mod_split B _ hp, ← Int.ediv_ediv_of_nonneg (Int.le_of_lt hp)]
  have el : lim (A + B) k = (A + B) / 18446744073709551616 ^ k % 18446744073709551616 := rfl
  have ea : lim A k = A / 18446744073709551616 ^ k % 18446744073709551616 := rfl
  have eb : lim B k = B / 18446744073709551616 ^ k % 18446744073709551616 := rfl
  rw [el, ea, eb]
  generalize (18446744073709551616 : Int) ^ k = P at *
  have e1 := Int.mul_ediv_add_emod A P
  have e2 := Int.mul_ediv_add_emod B P
  have s : A + B = (A % P + B % P) + P * (A / P + B / P) := by
    have : P * (A / P + B / P) = P * (A / P) + P * (B / P) := by grind
    omega
  have s1 : (A + B) / P = (A % P + B % P) / P + (A / P + B / P) := by
    rw [s, Int.add_mul_ediv_left _ _ (Int.ne_of_gt hp)]
  have s2 : (A % P + P * (A / P % 18446744073709551616) + (B % P + P * (B / P % 18446744073709551616))) / P = (A % P + B % P) / P + (A / P % 18446744073709551616 + B / P % 18446744073709551616) := by
    have : A % P + P * (A / P % 18446744073709551616) + (B % P + P * (B / P % 18446744073709551616)) = (A % P + B % P) + P * (A / P % 18446744073709551616 + B / P % 18446744073709551616) := by grind
    rw [this, Int.add_mul_ediv_left _ _ (Int.ne_of_gt hp)]
  rw [s1, s2]
  generalize (A % P + B % P) / P = c at *
  generalize A / P = x at *
  generalize B / P = y at *
  omega
theorem cy_bd (A B : Int) (k : Nat) : 0 ≤ cy A B k ∧ cy A B k ≤ 1 := by
  have hp : (0 : Int) < 18446744073709551616 ^ k := Int.pow_pos (by omega)
  unfold cy
  have a0 := Int.emod_nonneg A (Int.ne_of_gt hp)
  have a1 := Int.emod_lt_of_pos A hp
  have b0 := Int.emod_nonneg B (Int.ne_of_gt hp)
  have b1 := Int.emod_lt_of_pos B hp
  refine ⟨Int.ediv_nonneg (by omega) (by omega), ?_⟩
  have := Int.ediv_lt_of_lt_mul (a := A % 18446744073709551616 ^ k + B % 18446744073709551616 ^ k) (b := 2) hp (by omega)
  omega
theorem cy_zero (A B : Int) : cy A B 0 = 0 := by unfold cy; simp [Int.emod_one]
theorem cy_four (A B : Int) (hA : 0 ≤ A) (hA' : A < top256) (hB : 0 ≤ B) (hB' : B < top256) : cy A B 4 = lim (A + B) 4 := by
  unfold cy
  have e : (18446744073709551616 : Int) ^ 4 = top256 := by decide
  rw [e, Int.emod_eq_of_lt hA hA', Int.emod_eq_of_lt hB hB', lim4]
  unfold top256 at *
  omega
theorem Arr.drewN {w : World} {b n : Nat} {f : Nat → Value} (h : Arr w b n f) (m : Nat) : Arr (w.drewN m) b n f := fun j hj => ⟨by rw [World.cell?_drewN]; exact (h j hj).1, by rw [World.frozen?_drewN]; exact (h j hj).2⟩
theorem belowN {B : Nat} {a w : World} (h : Below B a w) (m : Nat) : Below B a (w.drewN m) := below_drewN h m
set_option maxHeartbeats 2000000 in
theorem refAdd_raw (A Bv : Int) (w : World) :
    Calls Try.prog 47 #[nv A, nv Bv] w fun e w' => e = .returned (.tuple #[nv (A + Bv), .int .u64 (cy A Bv 4)]) ∧ Below w.heap.size w w' := by
  go_enter Try.func47, Try.ntmps47
  go_wp2_with fail
  go_loopw [6, 8] (fun c i wr => ∃ k : Nat, k ≤ 4 ∧ i = .int .i64 k ∧ c = .int .u64 (cy A Bv k) ∧ Below w.heap.size w wr ∧ w.heap.size + 1 + 1 + 1 < wr.heap.size ∧
      Arr wr w.heap.size 4 (fun j => .int .u64 (lim A j)) ∧ Arr wr (w.heap.size + 1) 4 (fun j => .int .u64 (lim Bv j)) ∧ Arr wr (w.heap.size + 1 + 1) 4 (fun _ => .int .u64 0) ∧
      Arr wr (w.heap.size + 1 + 1 + 1) 4 (fun j => .int .u64 (if j < k then lim (A + Bv) j else 0)))
    (fun _ i _ => 4 - (intOf i).toNat)
  case atStart =>
    exact ⟨0, by omega, rfl, by rw [cy_zero], by go_grown, by go_size, Arr.mk4 (by simp [go_sem]) (by simp [go_sem]) (by simp [go_sem]) (by simp [go_sem]) (by simp [go_sem]) (by simp [go_sem]) (by simp [go_sem]) (by simp [go_sem]) , Arr.mk4 (by simp [go_sem]) (by simp [go_sem]) (by simp [go_sem]) (by simp [go_sem]) (by simp [go_sem]) (by simp [go_sem]) (by simp [go_sem]) (by simp [go_sem]) , Arr.mk4 (by simp [go_sem]) (by simp [go_sem]) (by simp [go_sem]) (by simp [go_sem]) (by simp [go_sem]) (by simp [go_sem]) (by simp [go_sem]) (by simp [go_sem]) , Arr.mk4 (by simp [go_sem]) (by simp [go_sem]) (by simp [go_sem]) (by simp [go_sem]) (by simp [go_sem]) (by simp [go_sem]) (by simp [go_sem]) (by simp [go_sem]) ⟩
  case round =>
    obtain ⟨k, hk, rfl, rfl, hB, hz, C0, C1, C2, C3⟩ := hrel
    by_cases hlt : k < 4
    · have k0 : (0 : Int) ≤ (k : Int) := by omega
      have k4 : (k : Int) < 4 := by omega
      have ra := C0.c k hlt
      have rb := C1.c k hlt
      have zo := C3.z k hlt
      have co := C3.c k hlt
      have st := cy_step A Bv k
      have c1 := cy_bd A Bv k
      have c2 := cy_bd A Bv (k + 1)
      have x0 := lim_nn A k
      have x1 := lim_lt A k
      have y0 := lim_nn Bv k
      have y1 := lim_lt Bv k
      have t0 := lim_nn (A + Bv) k
      have t1 := lim_lt (A + Bv) k
      obtain ⟨s, hs⟩ : ∃ s, IntKind.u64.wrap (lim A k + lim Bv k) = s := ⟨_, rfl⟩
      have hs' := hs
      rw [IntKind.wrap_u64] at hs'
      have ht : IntKind.u64.wrap (s + cy A Bv k) = lim (A + Bv) k := by rw [IntKind.wrap_u64]; omega
      have N3 : ∀ (W : World), Arr W (w.heap.size + 1 + 1 + 1) 4 (fun j => .int .u64 (if j < k then lim (A + Bv) j else 0)) → Arr (W.setCell ⟨w.heap.size + 1 + 1 + 1, k, none⟩ (.int .u64 (lim (A + Bv) k))) (w.heap.size + 1 + 1 + 1) 4 (fun j => .int .u64 (if j < k + 1 then lim (A + Bv) j else 0)) := fun W h => by
        refine (h.set k hlt _).congr ?_
        intro j hj
        by_cases e : j = k
        · subst e; simp
        · simp only [if_neg e]
          by_cases e2 : j < k
          · rw [if_pos e2, if_pos (by omega)]
          · rw [if_neg e2, if_neg (by omega)]
      have HN3 : Hid _ := N3
      have cases3 : (s < lim A k ∧ cy A Bv (k + 1) = 1) ∨ (¬ s < lim A k ∧ lim (A + Bv) k < s ∧ cy A Bv (k + 1) = 1) ∨ (¬ s < lim A k ∧ ¬ lim (A + Bv) k < s ∧ cy A Bv (k + 1) = 0) := by omega
      clear st hs' N3 c2
      generalize lim (A + Bv) k = t at *
      generalize lim A k = x at *
      generalize lim Bv k = y at *
      generalize cy A Bv k = c at *
      rcases cases3 with ⟨h1, hc⟩ | ⟨h1, h2, hc⟩ | ⟨h1, h2, hc⟩
      all_goals
        have HC : Hid _ := hc
        clear hc
        go_wp2_with fail
        go_quiet (fail)
        go_wp2_with fail
        go_roundw
        case rel => exact ⟨k + 1, by omega, by go_num, by rw [HC.out], (belowN hB _).setCell (by show _ ≤ w.heap.size + 1 + 1 + 1; omega) _, by rw [size_set]; exact hz, (C0.drewN _).other (by omega) _, (C1.drewN _).other (by omega) _, (C2.drewN _).other (by omega) _, HN3.out _ (C3.drewN _)⟩
        case measure => simp [intOf]; omega
    · have k4 : k = 4 := by omega
      subst k4
      have D3 : Arr wr (w.heap.size + 1 + 1 + 1) 4 (fun j => .int .u64 (lim (A + Bv) j)) := C3.congr (by intro j hj; rw [if_pos hj])
      have c3 := D3.c
      have c2 := C2.c
      have z2 := C2.z
      clear C0 C1 C2 C3 D3
      go_wp2_with fail
      refine bodyPost_ret (v := .tuple #[nv (A + Bv), .int .u64 (cy A Bv 4)]) (by simp [results, Try.results47, go_sem, c2]) rfl ⟨rfl, ?_⟩
      go_grown
end Go.Proofs.Ytpigofooblmdhaa
namespace Go.Proofs.Ytpigofooblmdhaa
open Go.RowKit
theorem div_succ (A : Int) (m : Nat) : A / 18446744073709551616 ^ m = 18446744073709551616 * (A / 18446744073709551616 ^ (m + 1)) + lim A m := by
  have hp : (0 : Int) < 18446744073709551616 ^ m := Int.pow_pos (by omega)
  rw [Int.pow_succ, ← Int.ediv_ediv_of_nonneg (Int.le_of_lt hp)]
  unfold lim
  omega
theorem hi_lt {A B : Int} {m : Nat} (h : A / 18446744073709551616 ^ (m + 1) = B / 18446744073709551616 ^ (m + 1)) (hl : lim A m < lim B m) : A < B := by
  have a := div_succ A m
  have b := div_succ B m
  by_cases c : A < B
  · exact c
  · have hp : (0 : Int) < 18446744073709551616 ^ m := Int.pow_pos (by omega)
    have := Int.ediv_le_ediv hp (show B ≤ A by omega)
    omega
theorem hi_eq {A B : Int} {m : Nat} (h : A / 18446744073709551616 ^ (m + 1) = B / 18446744073709551616 ^ (m + 1)) (hl : lim A m = lim B m) : A / 18446744073709551616 ^ m = B / 18446744073709551616 ^ m := by
  have a := div_succ A m
  have b := div_succ B m
  omega
set_option maxHeartbeats 2000000 in
theorem refCmp_any (A Bv : Int) (hA : 0 ≤ A) (hA' : A < top256) (hBv : 0 ≤ Bv) (hB' : Bv < top256) (w : World) :
    Calls Try.prog 92 #[nv A, nv Bv] w fun e w' => e = .returned (.int .i64 (sg A Bv)) ∧ Below w.heap.size w w' := by
  go_enter Try.func92, Try.ntmps92
  go_wp2_with fail
  go_loopw [5] (fun i wr => ∃ k : Nat, k ≤ 4 ∧ i = .int .i64 ((k : Int) - 1) ∧ Hid (A / 18446744073709551616 ^ k = Bv / 18446744073709551616 ^ k) ∧ Below w.heap.size w wr ∧
      Arr wr w.heap.size 4 (fun j => .int .u64 (lim A j)) ∧ Arr wr (w.heap.size + 1) 4 (fun j => .int .u64 (lim Bv j)))
    (fun i _ => (intOf i + 1).toNat)
  case atStart =>
    refine ⟨4, by omega, by go_num, ?_, by go_grown, Arr.mk4 (by simp [go_sem]) (by simp [go_sem]) (by simp [go_sem]) (by simp [go_sem]) (by simp [go_sem]) (by simp [go_sem]) (by simp [go_sem]) (by simp [go_sem]) , Arr.mk4 (by simp [go_sem]) (by simp [go_sem]) (by simp [go_sem]) (by simp [go_sem]) (by simp [go_sem]) (by simp [go_sem]) (by simp [go_sem]) (by simp [go_sem]) ⟩
    have e : (18446744073709551616 : Int) ^ 4 = top256 := by decide
    show A / 18446744073709551616 ^ 4 = Bv / 18446744073709551616 ^ 4
    rw [e, Int.ediv_eq_zero_of_lt hA hA', Int.ediv_eq_zero_of_lt hBv hB']
  case round =>
    obtain ⟨k, hk, rfl, HE, hB, C0, C1⟩ := hrel
    match k, hk with
    | 0, _ =>
      have e : A = Bv := by have := HE.out; simpa using this
      have es : sg A Bv = 0 := by rw [e]; unfold sg; simp
      have i1 : ((0 : Nat) : Int) - 1 = -1 := by omega
      go_wp2_with fail
      go_ret
      exact ⟨by rw [es]; rfl, hB⟩
    | m + 1, hm =>
      have i1 : ((m + 1 : Nat) : Int) - 1 = (m : Int) := by omega
      rw [i1]
      have m0 : (0 : Int) ≤ (m : Int) := by omega
      have m4 : (m : Int) < 4 := by omega
      have ra := C0.c m (by omega)
      have rb := C1.c m (by omega)
      by_cases h1 : lim A m < lim Bv m
      · have es : sg A Bv = -1 := by unfold sg; rw [if_pos (hi_lt HE.out h1)]
        have ES : Hid _ := es
        clear es
        go_wp2_with fail
        go_quiet (fail)
        go_wp2_with fail
        go_ret
        exact ⟨by rw [ES.out]; rfl, belowN hB _⟩
      · by_cases h2 : lim Bv m < lim A m
        · have es : sg A Bv = 1 := by
            have := hi_lt HE.out.symm h2
            unfold sg; rw [if_neg (by omega), if_pos this]
          have ES : Hid _ := es
          clear es
          go_wp2_with fail
          go_quiet (fail)
          go_wp2_with fail
          go_quiet (fail)
          go_wp2_with fail
          go_ret
          exact ⟨by rw [ES.out]; rfl, belowN (belowN hB _) _⟩
        · have HE' : Hid _ := hi_eq HE.out (show lim A m = lim Bv m by omega)
          go_wp2_with fail
          go_quiet (fail)
          go_wp2_with fail
          go_quiet (fail)
          go_wp2_with fail
          go_roundw
          case rel => exact ⟨m, by omega, by go_num, HE', belowN hB _, C0.drewN _, C1.drewN _⟩
          case measure => simp [intOf]
theorem bit_lim (N : Int) (q r : Nat) (hr : r < 64) : lim N q / 2 ^ r % 2 = N / 2 ^ (64 * q + r) % 2 := by
  have e : lim N q = N / 18446744073709551616 ^ q % 18446744073709551616 := rfl
  have e2 : (18446744073709551616 : Int) ^ q = 2 ^ (64 * q) := by
    have h : (18446744073709551616 : Int) = 2 ^ 64 := rfl
    rw [h, ← Int.pow_mul]
  rw [e, e2, div_pow_add]
  generalize N / 2 ^ (64 * q) = X
  have hT : (0 : Int) < 2 ^ r := Int.pow_pos (by omega)
  have hs : (18446744073709551616 : Int) = 2 ^ r * (2 ^ (63 - r) * 2) := by
    have : (2 : Int) ^ (63 - r) * 2 = 2 ^ (64 - r) := by rw [← Int.pow_succ]; congr 1; omega
    rw [this, pow_split r (by omega)]
  have ex := Int.mul_ediv_add_emod X 18446744073709551616
  have e3 : X / 2 ^ r = X % 18446744073709551616 / 2 ^ r + 2 ^ (63 - r) * 2 * (X / 18446744073709551616) := by
    have : X = X % 18446744073709551616 + 2 ^ r * (2 ^ (63 - r) * 2 * (X / 18446744073709551616)) := by
      rw [← Int.mul_assoc, ← hs]; omega
    conv => lhs; rw [this]
    rw [Int.add_mul_ediv_left _ _ (Int.ne_of_gt hT)]
  rw [e3]
  have e4 : (2 : Int) ^ (63 - r) * 2 * (X / 18446744073709551616) = 2 * (2 ^ (63 - r) * (X / 18446744073709551616)) := by grind
  rw [e4, Int.add_mul_emod_self_left]
set_option maxHeartbeats 1000000 in
theorem refBit_in (N : Int) (i q r : Nat) (hi : i = 64 * q + r) (hr : r < 64) (hq : q < 4) (w : World) :
    Calls Try.prog 72 #[nv N, .int .i64 (i : Int)] w fun e w' => e = .returned (.int .u64 (N / 2 ^ i % 2)) ∧ Below w.heap.size w w' := by
  have hd : (i : Int) / 64 = (q : Int) := by omega
  have hm : (i : Int) % 64 = (r : Int) := by omega
  have q0 : (0 : Int) ≤ (q : Int) := by omega
  have q4 : (q : Int) < 4 := by omega
  have i0 : (0 : Int) ≤ (i : Int) := by omega
  have i1 : (i : Int) ≤ 255 := by omega
  have l0 := lim_nn N q
  have l1 := lim_lt N q
  have d0 : 0 ≤ lim N q / 2 ^ r := Int.ediv_nonneg l0 (Int.le_of_lt (Int.pow_pos (by omega)))
  have d1 : lim N q / 2 ^ r < 18446744073709551616 := by
    have := Int.ediv_le_self (2 ^ r) l0
    omega
  have a1 := u64_and1 (lim N q / 2 ^ r) d0 d1
  have bl := bit_lim N q r hr
  rw [hi]
  rw [bl] at a1
  have A2 : Arr (w.alloc (.cells #[.int .u64 (lim N 0), .int .u64 (lim N 1), .int .u64 (lim N 2), .int .u64 (lim N 3)] 24)) w.heap.size 4 (fun j => .int .u64 (lim N j)) := Arr.mk4 (by simp [go_sem]) (by simp [go_sem]) (by simp [go_sem]) (by simp [go_sem]) (by simp [go_sem]) (by simp [go_sem]) (by simp [go_sem]) (by simp [go_sem]) 
  have c := A2.c q hq
  rw [← hi] at a1 ⊢
  have r0 : (0 : Int) ≤ (r : Int) := by omega
  have rt : (r : Int).toNat = r := by omega
  generalize N / 2 ^ i % 2 = bb at *
  clear bl A2 hi
  go_enter Try.func72, Try.ntmps72
  go_wp2_with fail
  go_ret
  exact ⟨rfl, by go_grown⟩
end Go.Proofs.Ytpigofooblmdhaa
namespace Go.Proofs.Ytpigofooblmdhaa
open Go.RowKit
def rk (F M : Int) (k : Nat) : Int := F / 2 ^ k % M
def qk (F M : Int) (k : Nat) : Int := F / M / 2 ^ k * 2 ^ k
theorem half_div (F : Int) (m : Nat) : F / 2 ^ m = 2 * (F / 2 ^ (m + 1)) + F / 2 ^ m % 2 := by
  rw [div_pow_add F m 1]
  have : (2 : Int) ^ 1 = 2 := rfl
  rw [this]; omega
theorem rk_bd (F M : Int) (k : Nat) (hM : 0 < M) : 0 ≤ rk F M k ∧ rk F M k < M := ⟨Int.emod_nonneg _ (Int.ne_of_gt hM), Int.emod_lt_of_pos _ hM⟩
theorem step_div (F M : Int) (m : Nat) (hM : 0 < M) :
    (rk F M m = if M ≤ 2 * rk F M (m + 1) + F / 2 ^ m % 2 then 2 * rk F M (m + 1) + F / 2 ^ m % 2 - M else 2 * rk F M (m + 1) + F / 2 ^ m % 2) ∧
    (qk F M m = qk F M (m + 1) + (if M ≤ 2 * rk F M (m + 1) + F / 2 ^ m % 2 then 2 ^ m else 0)) := by
  have hh := half_div F m
  have b0 : 0 ≤ F / 2 ^ m % 2 := by omega
  have b1 : F / 2 ^ m % 2 ≤ 1 := by omega
  have r := rk_bd F M (m + 1) hM
  have e := Int.mul_ediv_add_emod (F / 2 ^ (m + 1)) M
  have er : F / 2 ^ (m + 1) % M = rk F M (m + 1) := rfl
  rw [er] at e
  have em : rk F M m = F / 2 ^ m % M := rfl
  have hp : (0 : Int) < 2 ^ m := Int.pow_pos (by omega)
  have q1 : F / M / 2 ^ m = F / 2 ^ m / M := by
    rw [Int.ediv_ediv_of_nonneg (Int.le_of_lt hM), Int.mul_comm, ← Int.ediv_ediv_of_nonneg (Int.le_of_lt hp)]
  have hp1 : (0 : Int) < 2 ^ (m + 1) := Int.pow_pos (by omega)
  have q2 : F / M / 2 ^ (m + 1) = F / 2 ^ (m + 1) / M := by
    rw [Int.ediv_ediv_of_nonneg (Int.le_of_lt hM), Int.mul_comm, ← Int.ediv_ediv_of_nonneg (Int.le_of_lt hp1)]
  have ep : (2 : Int) ^ (m + 1) = 2 ^ m * 2 := Int.pow_succ _ _
  unfold qk
  rw [em, q1, q2, ep]
  rw [ep] at hh e
  generalize F / 2 ^ m % 2 = b at *
  generalize F / 2 ^ m = X at *
  generalize F / (2 ^ m * 2) = G at *
  generalize rk F M (m + 1) = R at *
  generalize G / M = g at *
  have eX : X = (2 * R + b) + M * (2 * g) := by
    have : M * (2 * g) = 2 * (M * g) := by grind
    omega
  have xm : X % M = (2 * R + b) % M := by rw [eX, Int.add_mul_emod_self_left]
  have xd : X / M = (2 * R + b) / M + 2 * g := by rw [eX, Int.add_mul_ediv_left _ _ (Int.ne_of_gt hM)]
  rw [xm, xd]
  by_cases c : M ≤ 2 * R + b
  · rw [if_pos c, if_pos c]
    have e1 : 2 * R + b = (2 * R + b - M) + M * 1 := by omega
    have d : (2 * R + b) / M = 1 := by rw [e1, Int.add_mul_ediv_left _ _ (Int.ne_of_gt hM), Int.ediv_eq_zero_of_lt (by omega) (by omega)]; rfl
    have d2 : (2 * R + b) % M = 2 * R + b - M := by
      conv => lhs; rw [e1]
      rw [Int.add_mul_emod_self_left, Int.emod_eq_of_lt (by omega) (by omega)]
    rw [d, d2]
    exact ⟨rfl, by grind⟩
  · rw [if_neg c, if_neg c, Int.ediv_eq_zero_of_lt (by omega) (by omega), Int.emod_eq_of_lt (by omega) (by omega)]
    exact ⟨rfl, by grind⟩
theorem lim_pow (m j : Nat) : lim (2 ^ m) j = if j = m / 64 then 2 ^ (m % 64) else 0 := by
  have hk : (0 : Int) < 2 ^ (64 * j) := Int.pow_pos (by omega)
  unfold lim
  rw [beta_pow]
  by_cases c : j = m / 64
  · rw [if_pos c]
    have e : (2 : Int) ^ m = 2 ^ (m % 64) * 2 ^ (64 * j) := by rw [← Int.pow_add]; congr 1; omega
    rw [e, Int.mul_ediv_cancel _ (Int.ne_of_gt hk)]
    refine Int.emod_eq_of_lt (Int.le_of_lt (Int.pow_pos (by omega))) ?_
    have h : (2 : Nat) ^ (m % 64) < 2 ^ 64 := Nat.pow_lt_pow_right (by omega) (by omega)
    have h1 : ((2 ^ (m % 64) : Nat) : Int) < ((2 ^ 64 : Nat) : Int) := Int.ofNat_lt.2 h
    have h2 : ((2 ^ (m % 64) : Nat) : Int) = 2 ^ (m % 64) := by push_cast; rfl
    have h3 : ((2 ^ 64 : Nat) : Int) = 18446744073709551616 := rfl
    omega
  · rw [if_neg c]
    by_cases d : m < 64 * j
    · have : (2 : Int) ^ m < 2 ^ (64 * j) := by
        have := Nat.pow_lt_pow_right (a := 2) (by omega) d
        exact_mod_cast this
      rw [Int.ediv_eq_zero_of_lt (Int.le_of_lt (Int.pow_pos (by omega))) this]; rfl
    · have e : (2 : Int) ^ m = 2 ^ (m - 64 * j - 64) * 18446744073709551616 * 2 ^ (64 * j) := by
        have e64 : (18446744073709551616 : Int) = 2 ^ 64 := rfl
        rw [e64, ← Int.pow_add, ← Int.pow_add]; congr 1; omega
      rw [e, Int.mul_ediv_cancel _ (Int.ne_of_gt hk), Int.mul_emod_left]
theorem q_set (F M : Int) (m j : Nat) (hM : 0 < M) (hF : 0 ≤ F) (c : M ≤ 2 * rk F M (m + 1) + F / 2 ^ m % 2) :
    lim (qk F M m) j = if j = m / 64 then bits .or .u64 (lim (qk F M (m + 1)) j) (2 ^ (m % 64)) else lim (qk F M (m + 1)) j := by
  obtain ⟨h, hq⟩ : ∃ h, qk F M (m + 1) = h * 2 ^ (m + 1) ∧ 0 ≤ h := ⟨F / M / 2 ^ (m + 1), rfl, Int.ediv_nonneg (Int.ediv_nonneg hF (Int.le_of_lt hM)) (Int.le_of_lt (Int.pow_pos (by omega)))⟩
  have st := (step_div F M m hM).2
  rw [if_pos c] at st
  have lt : (2 : Int) ^ m < 2 ^ (m + 1) := by
    have := Nat.pow_lt_pow_right (a := 2) (by omega) (show m < m + 1 by omega)
    exact_mod_cast this
  have o := or_lims (2 ^ m) h (m + 1) j (Int.le_of_lt (Int.pow_pos (by omega))) lt hq.2
  rw [← hq.1] at o
  rw [st, Int.add_comm, ← o, lim_pow]
  have hc : ∀ a b, bits .or .u64 a b = bits .or .u64 b a := fun a b => by simp only [bits, BitVec.or_comm]
  by_cases e : j = m / 64
  · rw [if_pos e, if_pos e, hc]
  · rw [if_neg e, if_neg e, hc]
    exact or_zero _ (lim_nn _ _) (lim_lt _ _)
theorem q_keep (F M : Int) (m : Nat) (hM : 0 < M) (c : ¬ M ≤ 2 * rk F M (m + 1) + F / 2 ^ m % 2) : qk F M m = qk F M (m + 1) := by
  have st := (step_div F M m hM).2
  rw [if_neg c, Int.add_zero] at st
  exact st
theorem or_bit (T b : Int) (hT : T % 2 = 0) (h0 : 0 ≤ b) (h1 : b ≤ 1) : bits .or .u64 (lim T 0) b = lim (T + b) 0 ∧ lim (T + b) 1 = lim T 1 ∧ lim (T + b) 2 = lim T 2 ∧ lim (T + b) 3 = lim T 3 := by
  have l0 := lim_nn T 0
  have l1 := lim_lt T 0
  have e := lim0 T
  have e64 : (2 : Int) ^ 64 = 18446744073709551616 := rfl
  have e2 : (2 : Int) ^ 1 = 2 := rfl
  refine ⟨?_, ?_, ?_, ?_⟩
  · rw [bits_join .u64 64 (by decide) wraps_u64_64 1 (lim T 0) b l0 (by rw [e2]; omega) (by omega) h0 (by omega) (by omega), lim0, lim0]; omega
  · rw [lim1, lim1]; omega
  · rw [lim2, lim2]; omega
  · rw [lim3, lim3]; omega
end Go.Proofs.Ytpigofooblmdhaa
namespace Go.Proofs.Ytpigofooblmdhaa
open Go.RowKit
def bw (A B : Int) (k : Nat) : Int := if A % 18446744073709551616 ^ k < B % 18446744073709551616 ^ k then 1 else 0
theorem bw_step (A B : Int) (k : Nat) : lim A k - lim B k - bw A B k = lim (A - B) k - 18446744073709551616 * bw A B (k + 1) := by
  have hp : (0 : Int) < 18446744073709551616 ^ k := Int.pow_pos (by omega)
  unfold bw
  rw [Int.pow_succ, mod_split A _ hp, mod_split B _ hp]
  have el : lim (A - B) k = (A - B) / 18446744073709551616 ^ k % 18446744073709551616 := rfl
  have ea : lim A k = A / 18446744073709551616 ^ k % 18446744073709551616 := rfl
  have eb : lim B k = B / 18446744073709551616 ^ k % 18446744073709551616 := rfl
  rw [el, ea, eb]
  generalize (18446744073709551616 : Int) ^ k = P at *
  have e1 := Int.mul_ediv_add_emod A P
  have e2 := Int.mul_ediv_add_emod B P
  have a0 := Int.emod_nonneg A (Int.ne_of_gt hp)
  have a1 := Int.emod_lt_of_pos A hp
  have b0 := Int.emod_nonneg B (Int.ne_of_gt hp)
  have b1 := Int.emod_lt_of_pos B hp
  have s1 : (A - B) / P = A / P - B / P - (if A % P < B % P then 1 else 0) := by
    split
    · have s : A - B = (A % P - B % P + P) + P * (A / P - B / P - 1) := by
        have : P * (A / P - B / P - 1) = P * (A / P) - P * (B / P) - P := by grind
        omega
      rw [s, Int.add_mul_ediv_left _ _ (Int.ne_of_gt hp), Int.ediv_eq_zero_of_lt (by omega) (by omega)]; omega
    · have s : A - B = (A % P - B % P) + P * (A / P - B / P) := by
        have : P * (A / P - B / P) = P * (A / P) - P * (B / P) := by grind
        omega
      rw [s, Int.add_mul_ediv_left _ _ (Int.ne_of_gt hp), Int.ediv_eq_zero_of_lt (by omega) (by omega)]; omega
  rw [s1]
  generalize A / P = x at *
  generalize B / P = y at *
  by_cases hxy : x % 18446744073709551616 = y % 18446744073709551616
  · rw [hxy]
    have e3 : (A % P + P * (y % 18446744073709551616) < B % P + P * (y % 18446744073709551616)) ↔ A % P < B % P := by omega
    simp only [e3]
    split <;> omega
  · have e3 := lt_parts hp a0 a1 b0 b1 hxy
    simp only [e3]
    split <;> split <;> omega
theorem bw_bd (A B : Int) (k : Nat) : 0 ≤ bw A B k ∧ bw A B k ≤ 1 := by unfold bw; split <;> omega
theorem bw_zero (A B : Int) : bw A B 0 = 0 := by unfold bw; simp [Int.emod_one]
theorem bw_four (A B : Int) (hA : 0 ≤ A) (hA' : A < top256) (hB : 0 ≤ B) (hB' : B < top256) : bw A B 4 = bor A B := by
  unfold bw bor
  have e : (18446744073709551616 : Int) ^ 4 = top256 := by decide
  rw [e, Int.emod_eq_of_lt hA hA', Int.emod_eq_of_lt hB hB']
set_option maxHeartbeats 2000000 in
theorem refSub_raw (A Bv : Int) (w : World) :
    Calls Try.prog 65 #[nv A, nv Bv] w fun e w' => e = .returned (.tuple #[nv (A - Bv), .int .u64 (bw A Bv 4)]) ∧ Below w.heap.size w w' := by
  go_enter Try.func65, Try.ntmps65
  go_wp2_with fail
  go_loopw [6, 8] (fun c i wr => ∃ k : Nat, k ≤ 4 ∧ i = .int .i64 k ∧ c = .int .u64 (bw A Bv k) ∧ Below w.heap.size w wr ∧ w.heap.size + 1 + 1 + 1 < wr.heap.size ∧
      Arr wr w.heap.size 4 (fun j => .int .u64 (lim A j)) ∧ Arr wr (w.heap.size + 1) 4 (fun j => .int .u64 (lim Bv j)) ∧ Arr wr (w.heap.size + 1 + 1) 4 (fun _ => .int .u64 0) ∧
      Arr wr (w.heap.size + 1 + 1 + 1) 4 (fun j => .int .u64 (if j < k then lim (A - Bv) j else 0)))
    (fun _ i _ => 4 - (intOf i).toNat)
  case atStart =>
    exact ⟨0, by omega, rfl, by rw [bw_zero], by go_grown, by go_size, Arr.mk4 (by simp [go_sem]) (by simp [go_sem]) (by simp [go_sem]) (by simp [go_sem]) (by simp [go_sem]) (by simp [go_sem]) (by simp [go_sem]) (by simp [go_sem]) , Arr.mk4 (by simp [go_sem]) (by simp [go_sem]) (by simp [go_sem]) (by simp [go_sem]) (by simp [go_sem]) (by simp [go_sem]) (by simp [go_sem]) (by simp [go_sem]) , Arr.mk4 (by simp [go_sem]) (by simp [go_sem]) (by simp [go_sem]) (by simp [go_sem]) (by simp [go_sem]) (by simp [go_sem]) (by simp [go_sem]) (by simp [go_sem]) , Arr.mk4 (by simp [go_sem]) (by simp [go_sem]) (by simp [go_sem]) (by simp [go_sem]) (by simp [go_sem]) (by simp [go_sem]) (by simp [go_sem]) (by simp [go_sem]) ⟩
  case round =>
    obtain ⟨k, hk, rfl, rfl, hB, hz, C0, C1, C2, C3⟩ := hrel
    by_cases hlt : k < 4
    · have k0 : (0 : Int) ≤ (k : Int) := by omega
      have k4 : (k : Int) < 4 := by omega
      have ra := C0.c k hlt
      have rb := C1.c k hlt
      have zo := C3.z k hlt
      have co := C3.c k hlt
      have st := bw_step A Bv k
      have c1 := bw_bd A Bv k
      have c2 := bw_bd A Bv (k + 1)
      have x0 := lim_nn A k
      have x1 := lim_lt A k
      have y0 := lim_nn Bv k
      have y1 := lim_lt Bv k
      have t0 := lim_nn (A - Bv) k
      have t1 := lim_lt (A - Bv) k
      obtain ⟨s, hs⟩ : ∃ s, IntKind.u64.wrap (lim A k - lim Bv k) = s := ⟨_, rfl⟩
      have hs' := hs
      rw [IntKind.wrap_u64] at hs'
      have ht : IntKind.u64.wrap (s - bw A Bv k) = lim (A - Bv) k := by rw [IntKind.wrap_u64]; omega
      have N3 : ∀ (W : World), Arr W (w.heap.size + 1 + 1 + 1) 4 (fun j => .int .u64 (if j < k then lim (A - Bv) j else 0)) → Arr (W.setCell ⟨w.heap.size + 1 + 1 + 1, k, none⟩ (.int .u64 (lim (A - Bv) k))) (w.heap.size + 1 + 1 + 1) 4 (fun j => .int .u64 (if j < k + 1 then lim (A - Bv) j else 0)) := fun W h => by
        refine (h.set k hlt _).congr ?_
        intro j hj
        by_cases e : j = k
        · subst e; simp
        · simp only [if_neg e]
          by_cases e2 : j < k
          · rw [if_pos e2, if_pos (by omega)]
          · rw [if_neg e2, if_neg (by omega)]
      have HN3 : Hid _ := N3
      have cases3 : (lim A k < lim Bv k ∧ bw A Bv (k + 1) = 1) ∨ (¬ lim A k < lim Bv k ∧ s < bw A Bv k ∧ bw A Bv (k + 1) = 1) ∨ (¬ lim A k < lim Bv k ∧ ¬ s < bw A Bv k ∧ bw A Bv (k + 1) = 0) := by omega
      clear st hs' N3 c2
      generalize lim (A - Bv) k = t at *
      generalize lim A k = x at *
      generalize lim Bv k = y at *
      generalize bw A Bv k = c at *
      rcases cases3 with ⟨h1, hc⟩ | ⟨h1, h2, hc⟩ | ⟨h1, h2, hc⟩
      · have HC : Hid _ := hc
        clear hc
        go_wp2_with fail
        go_quiet (fail)
        go_wp2_with fail
        go_quiet (fail)
        go_wp2_with fail
        go_roundw
        case rel => exact ⟨k + 1, by omega, by go_num, by rw [HC.out], (belowN hB _).setCell (by show _ ≤ w.heap.size + 1 + 1 + 1; omega) _, by rw [size_set]; exact hz, (C0.drewN _).other (by omega) _, (C1.drewN _).other (by omega) _, (C2.drewN _).other (by omega) _, HN3.out _ (C3.drewN _)⟩
        case measure => simp [intOf]; omega
      all_goals
        have HC : Hid _ := hc
        have hd : decide (x < y) = false := by simpa using h1
        clear hc
        go_wp2_with fail
        go_quiet (fail)
        go_wp2_with fail
        go_quiet (fail)
        go_wp2_with fail
        go_roundw
        case rel => exact ⟨k + 1, by omega, by go_num, by rw [HC.out], (belowN hB _).setCell (by show _ ≤ w.heap.size + 1 + 1 + 1; omega) _, by rw [size_set]; exact hz, (C0.drewN _).other (by omega) _, (C1.drewN _).other (by omega) _, (C2.drewN _).other (by omega) _, HN3.out _ (C3.drewN _)⟩
        case measure => simp [intOf]; omega
    · have k4 : k = 4 := by omega
      subst k4
      have D3 : Arr wr (w.heap.size + 1 + 1 + 1) 4 (fun j => .int .u64 (lim (A - Bv) j)) := C3.congr (by intro j hj; rw [if_pos hj])
      have c3 := D3.c
      have c2 := C2.c
      have z2 := C2.z
      clear C0 C1 C2 C3 D3
      go_wp2_with fail
      refine bodyPost_ret (v := .tuple #[nv (A - Bv), .int .u64 (bw A Bv 4)]) (by simp [results, Try.results65, go_sem, c2]) rfl ⟨rfl, ?_⟩
      go_grown
end Go.Proofs.Ytpigofooblmdhaa
namespace Go.Proofs.Ytpigofooblmdhaa
open Go.RowKit
theorem bitLen_is (n m : Nat) (h0 : 2 ^ m ≤ n) (h1 : n < 2 ^ (m + 1)) : bitLen n = m + 1 := by
  have sp := bitLen_spec n
  have ne : n ≠ 0 := by have := Nat.pow_pos (n := m) (show 0 < 2 by omega); omega
  have lo := sp.2 ne
  have hi := sp.1
  by_cases c : bitLen n ≤ m
  · have := Nat.pow_le_pow_right (n := 2) (by omega) c
    omega
  · by_cases c2 : bitLen n ≤ m + 1
    · omega
    · have := Nat.pow_le_pow_right (n := 2) (by omega) (show m + 1 ≤ bitLen n - 1 by omega)
      omega
theorem bitLen_nil : bitLen 0 = 0 := by decide
theorem bit_up (N : Int) (m : Nat) (h0 : 0 ≤ N) (h1 : N < 2 ^ (m + 1)) : (N / 2 ^ m % 2 = 1 ∧ bitLen N.toNat = m + 1) ∨ (N / 2 ^ m % 2 = 0 ∧ N < 2 ^ m) := by
  have p : (0 : Int) < 2 ^ m := Int.pow_pos (by omega)
  have h2 : N < 2 * 2 ^ m := by rw [Int.pow_succ, Int.mul_comm] at h1; exact h1
  by_cases c : N < 2 ^ m
  · exact .inr ⟨by rw [Int.ediv_eq_zero_of_lt h0 c]; rfl, c⟩
  · have q : N / 2 ^ m = 1 := by
      have a : 1 ≤ N / 2 ^ m := Int.le_ediv_of_mul_le p (by omega)
      have b : N / 2 ^ m < 2 := Int.ediv_lt_of_lt_mul p (by omega)
      omega
    refine .inl ⟨by rw [q]; rfl, bitLen_is _ _ ?_ ?_⟩
    · have e : ((2 ^ m : Nat) : Int) = 2 ^ m := by push_cast; rfl
      omega
    · have e : ((2 ^ (m + 1) : Nat) : Int) = 2 ^ (m + 1) := by push_cast; rfl
      omega
set_option maxHeartbeats 2000000 in
theorem refLen_raw (N : Int) (h0 : 0 ≤ N) (h1 : Hid (N < 2 ^ 256)) (w : World) :
    Calls Try.prog 71 #[nv N] w fun e w' => e = .returned (.int .i64 (bitLen N.toNat)) ∧ Below w.heap.size w w' := by
  go_enter Try.func71, Try.ntmps71
  go_wp2_with fail
  go_loopw [3] (fun i wr => ∃ k : Nat, k ≤ 256 ∧ i = .int .i64 ((k : Int) - 1) ∧ Hid (N < 2 ^ k) ∧ Below w.heap.size w wr ∧ Arr wr w.heap.size 4 (fun j => .int .u64 (lim N j)))
    (fun i _ => (intOf i + 1).toNat)
  case atStart => exact ⟨256, by omega, by go_num, h1, by go_grown, Arr.mk4 (by simp [go_sem]) (by simp [go_sem]) (by simp [go_sem]) (by simp [go_sem]) (by simp [go_sem]) (by simp [go_sem]) (by simp [go_sem]) (by simp [go_sem])⟩
  case round =>
    obtain ⟨k, hk, rfl, HN, hB, hA⟩ := hrel
    have c := hA.c
    match k, hk, HN with
    | 0, _, HN =>
      have i1 : ((0 : Nat) : Int) - 1 = -1 := by omega
      have n0 : N = 0 := by have := HN.out; simp at this; omega
      have e : bitLen N.toNat = 0 := by rw [n0]; exact bitLen_nil
      have HE : Hid (bitLen N.toNat = 0) := e
      clear n0 e h1 HN
      go_wp2_with fail
      go_ret
      exact ⟨by rw [HE.out]; rfl, hB⟩
    | m + 1, hm, HN =>
      have i1 : ((m + 1 : Nat) : Int) - 1 = (m : Int) := by omega
      rw [i1]
      have m0 : (0 : Int) ≤ (m : Int) := by omega
      have m5 : (m : Int) ≤ 255 := by omega
      have BT := fun W => refBit_in N m (m / 64) (m % 64) (by omega) (by omega) (by omega) W
      have bu := bit_up N m h0 HN.out
      clear HN h1
      rcases bu with ⟨e, b⟩ | ⟨e, b⟩
      · rw [e] at BT
        have HE : Hid (bitLen N.toNat = m + 1) := b
        clear e b
        go_wp2_with fail
        refine (BT _).mono ?_
        rintro e w1 ⟨rfl, hb1⟩
        have hB1 := hB.trans (hb1.mono hB.size)
        go_wp2_with fail
        go_ret
        exact ⟨by rw [HE.out]; go_num, hB1⟩
      · rw [e] at BT
        have HB : Hid (N < 2 ^ m) := b
        clear e b
        go_wp2_with fail
        refine (BT _).mono ?_
        rintro e w1 ⟨rfl, hb1⟩
        have hB1 := hB.trans (hb1.mono hB.size)
        have hA1 := hA.below hb1 (by have := hA.c 0 (by omega); exact block_lt_of_cell this)
        clear hb1 hA hB c
        go_wp2_with fail
        go_roundw
        case rel => exact ⟨m, by omega, by go_num, HB, hB1, hA1⟩
        case measure => simp [intOf]
theorem refLen_any (N : Int) (h0 : 0 ≤ N) (h1 : N < top256) (w : World) :
    Calls Try.prog 71 #[nv N] w fun e w' => e = .returned (.int .i64 (bitLen N.toNat)) ∧ Below w.heap.size w w' :=
  refLen_raw N h0 (by have e : top256 = 2 ^ 256 := by decide
                      show N < 2 ^ 256
                      rw [← e]; exact h1) w
end Go.Proofs.Ytpigofooblmdhaa
