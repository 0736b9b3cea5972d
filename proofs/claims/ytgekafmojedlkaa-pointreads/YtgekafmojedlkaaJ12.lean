/- What the reference's Add, Sub, Cmp and Bit answer. -/
import Derived.BigQuiet
import Derived.Test.YtgekafmojedlkaaJ7
import Derived.Test.YtgekafmojedlkaaJ2
import Derived.Test.YtgekafmojedlkaaJ11
set_option linter.all false
namespace Go.Proofs.Ytgekafmojedlkaa
open Go.RowKit
/-- What is carried behind the lower k parts of a sum. -/
def cy (A B : Int) (k : Nat) : Int := (A % 18446744073709551616 ^ k + B % 18446744073709551616 ^ k) / 18446744073709551616 ^ k
theorem cy_step (A B : Int) (k : Nat) : lim A k + lim B k + cy A B k = lim (A + B) k + 18446744073709551616 * cy A B (k + 1) := by
  have hp : (0 : Int) < 18446744073709551616 ^ k := Int.pow_pos (by omega)
  unfold cy
  rw [Int.pow_succ, mod_split A _ hp, mod_split B _ hp, ← Int.ediv_ediv_of_nonneg (Int.le_of_lt hp)]
  have el : lim (A + B) k = (A + B) / 18446744073709551616 ^ k % 18446744073709551616 := rfl
  have ea : lim A k = A / 18446744073709551616 ^ k % 18446744073709551616 := rfl
  have eb : lim B k = B / 18446744073709551616 ^ k % 18446744073709551616 := rfl
  rw [el, ea, eb]
  generalize (18446744073709551616 : Int) ^ k = P at *
  have e1 := Int.mul_ediv_add_emod A P
  have e2 := Int.mul_ediv_add_emod B P
  have s : A + B = (A % P + B % P) + P * (A / P + B / P) := by
    have : P * (A / P + B / P) = P * (A / P) + P * (B / P) := by grind
    omega
  have s1 : (A + B) / P = (A % P + B % P) / P + (A / P + B / P) := by
    rw [s, Int.add_mul_ediv_left _ _ (Int.ne_of_gt hp)]
  have s2 : (A % P + P * (A / P % 18446744073709551616) + (B % P + P * (B / P % 18446744073709551616))) / P = (A % P + B % P) / P + (A / P % 18446744073709551616 + B / P % 18446744073709551616) := by
    have : A % P + P * (A / P % 18446744073709551616) + (B % P + P * (B / P % 18446744073709551616)) = (A % P + B % P) + P * (A / P % 18446744073709551616 + B / P % 18446744073709551616) := by grind
    rw [this, Int.add_mul_ediv_left _ _ (Int.ne_of_gt hp)]
  rw [s1, s2]
  generalize (A % P + B % P) / P = c at *
  generalize A / P = x at *
  generalize B / P = y at *
  omega
theorem cy_bd (A B : Int) (k : Nat) : 0 ≤ cy A B k ∧ cy A B k ≤ 1 := by
  have hp : (0 : Int) < 18446744073709551616 ^ k := Int.pow_pos (by omega)
  unfold cy
  have a0 := Int.emod_nonneg A (Int.ne_of_gt hp)
  have a1 := Int.emod_lt_of_pos A hp
  have b0 := Int.emod_nonneg B (Int.ne_of_gt hp)
  have b1 := Int.emod_lt_of_pos B hp
  refine ⟨Int.ediv_nonneg (by omega) (by omega), ?_⟩
  have := Int.ediv_lt_of_lt_mul (a := A % 18446744073709551616 ^ k + B % 18446744073709551616 ^ k) (b := 2) hp (by omega)
  omega
theorem cy_zero (A B : Int) : cy A B 0 = 0 := by unfold cy; simp [Int.emod_one]
theorem cy_four (A B : Int) (hA : 0 ≤ A) (hA' : A < top256) (hB : 0 ≤ B) (hB' : B < top256) : cy A B 4 = lim (A + B) 4 := by
  unfold cy
  have e : (18446744073709551616 : Int) ^ 4 = top256 := by decide
  rw [e, Int.emod_eq_of_lt hA hA', Int.emod_eq_of_lt hB hB', lim4]
  unfold top256 at *
  omega
theorem Arr.drewN {w : World} {b n : Nat} {f : Nat → Value} (h : Arr w b n f) (m : Nat) : Arr (w.drewN m) b n f := fun j hj => ⟨by rw [World.cell?_drewN]; exact (h j hj).1, by rw [World.frozen?_drewN]; exact (h j hj).2⟩
theorem belowN {B : Nat} {a w : World} (h : Below B a w) (m : Nat) : Below B a (w.drewN m) := below_drewN h m
set_option maxHeartbeats 2000000 in
theorem refAdd_raw (A Bv : Int) (w : World) :
    Calls Try.prog 19 #[nv A, nv Bv] w fun e w' => e = .returned (.tuple #[nv (A + Bv), .int .u64 (cy A Bv 4)]) ∧ Below w.heap.size w w' := by
  go_enter Try.func19, Try.ntmps19
  go_wp2_with fail
  go_loopw [6, 8] (fun c i wr => ∃ k : Nat, k ≤ 4 ∧ i = .int .i64 k ∧ c = .int .u64 (cy A Bv k) ∧ Below w.heap.size w wr ∧ w.heap.size + 1 + 1 + 1 < wr.heap.size ∧
      Arr wr w.heap.size 4 (fun j => .int .u64 (lim A j)) ∧ Arr wr (w.heap.size + 1) 4 (fun j => .int .u64 (lim Bv j)) ∧ Arr wr (w.heap.size + 1 + 1) 4 (fun _ => .int .u64 0) ∧
      Arr wr (w.heap.size + 1 + 1 + 1) 4 (fun j => .int .u64 (if j < k then lim (A + Bv) j else 0)))
    (fun _ i _ => 4 - (intOf i).toNat)
  case atStart =>
    exact ⟨0, by omega, rfl, by rw [cy_zero], by go_grown, by go_size, Arr.mk4 (by simp [go_sem]) (by simp [go_sem]) (by simp [go_sem]) (by simp [go_sem]) (by simp [go_sem]) (by simp [go_sem]) (by simp [go_sem]) (by simp [go_sem]) , Arr.mk4 (by simp [go_sem]) (by simp [go_sem]) (by simp [go_sem]) (by simp [go_sem]) (by simp [go_sem]) (by simp [go_sem]) (by simp [go_sem]) (by simp [go_sem]) , Arr.mk4 (by simp [go_sem]) (by simp [go_sem]) (by simp [go_sem]) (by simp [go_sem]) (by simp [go_sem]) (by simp [go_sem]) (by simp [go_sem]) (by simp [go_sem]) , Arr.mk4 (by simp [go_sem]) (by simp [go_sem]) (by simp [go_sem]) (by simp [go_sem]) (by simp [go_sem]) (by simp [go_sem]) (by simp [go_sem]) (by simp [go_sem]) ⟩
  case round =>
    obtain ⟨k, hk, rfl, rfl, hB, hz, C0, C1, C2, C3⟩ := hrel
    by_cases hlt : k < 4
    · have k0 : (0 : Int) ≤ (k : Int) := by omega
      have k4 : (k : Int) < 4 := by omega
      have ra := C0.c k hlt
      have rb := C1.c k hlt
      have zo := C3.z k hlt
      have co := C3.c k hlt
      have st := cy_step A Bv k
      have c1 := cy_bd A Bv k
      have c2 := cy_bd A Bv (k + 1)
      have x0 := lim_nn A k
      have x1 := lim_lt A k
      have y0 := lim_nn Bv k
      have y1 := lim_lt Bv k
      have t0 := lim_nn (A + Bv) k
      have t1 := lim_lt (A + Bv) k
      obtain ⟨s, hs⟩ : ∃ s, IntKind.u64.wrap (lim A k + lim Bv k) = s := ⟨_, rfl⟩
      have hs' := hs
      rw [IntKind.wrap_u64] at hs'
      have ht : IntKind.u64.wrap (s + cy A Bv k) = lim (A + Bv) k := by rw [IntKind.wrap_u64]; omega
      have N3 : ∀ (W : World), Arr W (w.heap.size + 1 + 1 + 1) 4 (fun j => .int .u64 (if j < k then lim (A + Bv) j else 0)) → Arr (W.setCell ⟨w.heap.size + 1 + 1 + 1, k, none⟩ (.int .u64 (lim (A + Bv) k))) (w.heap.size + 1 + 1 + 1) 4 (fun j => .int .u64 (if j < k + 1 then lim (A + Bv) j else 0)) := fun W h => by
        refine (h.set k hlt _).congr ?_
        intro j hj
        by_cases e : j = k
        · subst e; simp
        · simp only [if_neg e]
          by_cases e2 : j < k
          · rw [if_pos e2, if_pos (by omega)]
          · rw [if_neg e2, if_neg (by omega)]
      have HN3 : Hid _ := N3
      have cases3 : (s < lim A k ∧ cy A Bv (k + 1) = 1) ∨ (¬ s < lim A k ∧ lim (A + Bv) k < s ∧ cy A Bv (k + 1) = 1) ∨ (¬ s < lim A k ∧ ¬ lim (A + Bv) k < s ∧ cy A Bv (k + 1) = 0) := by omega
      clear st hs' N3 c2
      generalize lim (A + Bv) k = t at *
      generalize lim A k = x at *
      generalize lim Bv k = y at *
      generalize cy A Bv k = c at *
      rcases cases3 with ⟨h1, hc⟩ | ⟨h1, h2, hc⟩ | ⟨h1, h2, hc⟩
      all_goals
        have HC : Hid _ := hc
        clear hc
        go_wp2_with fail
        go_quiet (fail)
        go_wp2_with fail
        go_roundw
        case rel => exact ⟨k + 1, by omega, by go_num, by rw [HC.out], (belowN hB _).setCell (by show _ ≤ w.heap.size + 1 + 1 + 1; omega) _, by rw [size_set]; exact hz, (C0.drewN _).other (by omega) _, (C1.drewN _).other (by omega) _, (C2.drewN _).other (by omega) _, HN3.out _ (C3.drewN _)⟩
        case measure => simp [intOf]; omega
    · have k4 : k = 4 := by omega
      subst k4
      have D3 : Arr wr (w.heap.size + 1 + 1 + 1) 4 (fun j => .int .u64 (lim (A + Bv) j)) := C3.congr (by intro j hj; rw [if_pos hj])
      have c3 := D3.c
      have c2 := C2.c
      have z2 := C2.z
      clear C0 C1 C2 C3 D3
      go_wp2_with fail
      refine bodyPost_ret (v := .tuple #[nv (A + Bv), .int .u64 (cy A Bv 4)]) (by simp [results, Try.results19, go_sem, c2]) rfl ⟨rfl, ?_⟩
      go_grown
end Go.Proofs.Ytgekafmojedlkaa
