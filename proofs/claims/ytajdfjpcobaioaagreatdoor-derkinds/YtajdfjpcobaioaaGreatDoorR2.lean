/- The reference's calendar: leap, long, days, padded. -/
import Derived.Test.YtajdfjpcobaioaaGreatDoorM2
import Derived.Test.YtajdfjpcobaioaaGreatDoorD9
set_option linter.all false
set_option maxRecDepth 100000
namespace Go.Proofs.YtajdfjpcobaioaaGreatDoor
open Go.RowKit Go.Sort
theorem rLeap_any (y : Int) (h : 0 ≤ y) (w : World) : Calls Tryz.prog 56 #[.int .i64 y] w fun e w' => e = .returned (.bool (decide (lp y = 1))) ∧ w' = w := by
  have e : lp y = if y % 4 = 0 ∧ (y % 100 ≠ 0 ∨ y % 400 = 0) then 1 else 0 := rfl
  generalize lp y = l at *
  by_cases c1 : y % 4 = 0
  · by_cases c2 : y % 100 = 0
    · by_cases c3 : y % 400 = 0
      · rw [if_pos ⟨c1, .inr c3⟩] at e; subst e
        go_enter Tryz.func56, Tryz.ntmps56
        go_wp2_with fail
        go_ret
        exact ⟨rfl, rfl⟩
      · rw [if_neg (by omega)] at e; subst e
        have c3' : (y % 400 == 0) = false := by simp [c3]
        go_enter Tryz.func56, Tryz.ntmps56
        go_wp2_with fail
        go_ret
        exact ⟨rfl, rfl⟩
    · rw [if_pos ⟨c1, .inl c2⟩] at e; subst e
      have c2' : (y % 100 == 0) = false := by simp [c2]
      go_enter Tryz.func56, Tryz.ntmps56
      go_wp2_with fail
      go_ret
      exact ⟨rfl, rfl⟩
  · rw [if_neg (fun h => c1 h.1)] at e; subst e
    have c1' : (y % 4 == 0) = false := by simp [c1]
    go_enter Tryz.func56, Tryz.ntmps56
    go_wp2_with fail
    go_ret
    exact ⟨rfl, rfl⟩
set_option maxHeartbeats 8000000 in
theorem rLong_any (y m : Int) (h : 0 ≤ y) (m0 : 1 ≤ m) (m1 : m ≤ 12) (w : World) : Calls Tryz.prog 29 #[.int .i64 y, .int .i64 m] w fun e w' => e = .returned (.int .i64 (mD y m)) ∧ Below w.heap.size w w' := by
  have C := fun W => rLeap_any y h W
  have lb := lp_bd y
  have e : mD y m = if m = 2 then 28 + lp y else if m = 4 ∨ m = 6 ∨ m = 9 ∨ m = 11 then 30 else 31 := rfl
  generalize mD y m = D at *
  generalize lp y = l at *
  rcases (show m = 1 ∨ m = 2 ∨ m = 3 ∨ m = 4 ∨ m = 5 ∨ m = 6 ∨ m = 7 ∨ m = 8 ∨ m = 9 ∨ m = 10 ∨ m = 11 ∨ m = 12 by omega) with rfl | h2 | rfl | rfl | rfl | rfl | rfl | rfl | rfl | rfl | rfl | rfl
  case inr.inl =>
    subst h2
    simp at e
    rcases (show l = 0 ∨ l = 1 by omega) with rfl | rfl
    · subst e
      go_enter Tryz.func29, Tryz.ntmps29
      go_wp2_with (go_at_call 56; refine (C _).mono ?_; rintro e w1 ⟨rfl, rfl⟩)
      go_ret
      exact ⟨rfl, by go_grown⟩
    · subst e
      go_enter Tryz.func29, Tryz.ntmps29
      go_wp2_with (go_at_call 56; refine (C _).mono ?_; rintro e w1 ⟨rfl, rfl⟩)
      go_ret
      exact ⟨rfl, by go_grown⟩
  all_goals
    simp at e
    subst e
    clear C
    go_enter Tryz.func29, Tryz.ntmps29
    go_wp2_with fail
    go_ret
    exact ⟨rfl, by go_grown⟩
theorem rDays_any (y : Int) (h0 : 1 ≤ y) (h1 : y ≤ 20000) (w : World) : Calls Tryz.prog 28 #[.int .i64 y] w fun e w' => e = .returned (.int .i64 (dA y)) ∧ w' = w := by
  have e : dA y = 365 * (y - 1) + (y - 1) / 4 - (y - 1) / 100 + (y - 1) / 400 := rfl
  generalize dA y = z at *
  obtain ⟨p, hp⟩ : ∃ p, p = y - 1 := ⟨_, rfl⟩
  have y0 : y = p + 1 := by omega
  subst y0
  have p0 : 0 ≤ p := by omega
  have p1 : p ≤ 19999 := by omega
  have e' : z = p * 365 + p / 4 - p / 100 + p / 400 := by rw [e]; simp only [show p + 1 - 1 = p by omega]; omega
  clear e hp h0 h1
  go_enter Tryz.func28, Tryz.ntmps28
  go_wp2_with fail
  go_ret
  refine ⟨?_, rfl⟩
  rw [e']
  congr 1
  try simp
  try omega
theorem dgs_tail (k : Nat) : ∀ n, dgs (k + 1) n = (48 + n / 10 ^ k % 10) :: dgs k n := by
  induction k with
  | zero => intro n; simp [dgs]
  | succ k ih =>
    intro n
    have e1 : dgs (k + 1 + 1) n = dgs (k + 1) (n / 10) ++ [48 + n % 10] := rfl
    have e2 : dgs (k + 1) n = dgs k (n / 10) ++ [48 + n % 10] := rfl
    rw [e1, ih (n / 10), e2, List.cons_append]
    congr 3
    rw [Int.ediv_ediv_of_nonneg (by omega), Int.pow_succ, Int.mul_comm]
set_option maxHeartbeats 1000000 in
theorem rPad_any (n : Int) (k : Nat) (n0 : 0 ≤ n) (n1 : n ≤ 100000) (k4 : k ≤ 4) (w : World) : Calls Tryz.prog 30 #[.int .i64 n, .int .i64 (k : Int)] w fun e w' => e = .returned (.string (mkS (dgs k n))) ∧ Below w.heap.size w w' := by
  have k0 : (k : Int) ≤ 4 := by omega
  go_enter Tryz.func30, Tryz.ntmps30
  go_wp2_with fail
  go_loopw [0, 5, 6] (fun a s i wr => ∃ j : Nat, j ≤ k ∧ a = .int .i64 (n / 10 ^ j) ∧ s = .string (mkS (dgs j n)) ∧ i = .int .i64 (j : Int) ∧ Below w.heap.size w wr) (fun _ _ i _ => k - (intOf i).toNat)
  case atStart => exact ⟨0, by omega, by simp, by rfl, rfl, Below.refl _ _⟩
  case round =>
    obtain ⟨j, hj, rfl, rfl, rfl, hB⟩ := hrel
    by_cases hlt : j < k
    · have j0 : (0 : Int) ≤ (j : Int) := by omega
      have j1 : (j : Int) < (k : Int) := by omega
      have HN : Hid (mkS [48 + n / 10 ^ j % 10] ++ mkS (dgs j n) = mkS (dgs (j + 1) n)) := by
        show _ = _
        rw [mkS_app, dgs_tail]; rfl
      have HD : Hid (n / 10 ^ j / 10 = n / 10 ^ (j + 1)) := by
        show _ = _
        rw [Int.ediv_ediv_of_nonneg (Int.le_of_lt (Int.pow_pos (by decide))), Int.pow_succ]
      have xb : 0 ≤ n / 10 ^ j := Int.ediv_nonneg n0 (Int.le_of_lt (Int.pow_pos (by decide)))
      have xb1 : n / 10 ^ j ≤ 100000 := Int.le_trans (Int.ediv_le_self _ n0) n1
      have zs : (mkS (dgs j n)).size ≤ 4 := by rw [mkS_size, dgs_len]; omega
      generalize n / 10 ^ j = x at *
      generalize mkS (dgs j n) = S at *
      have cb : 0 ≤ x % 10 ∧ x % 10 ≤ 9 := by omega
      obtain ⟨c, hc⟩ : ∃ c, 48 + x % 10 = c := ⟨_, rfl⟩
      have cv := convC (wr.alloc (.cells #[.int .u8 c] 5)) wr.heap.size 1 1 [c] rfl (news_new wr [.int .u8 c] 5)
      have zc : (mkS [c]).size = 1 := by rw [mkS_size]; rfl
      rw [hc] at HN
      generalize mkS [c] = T at *
      have AD := add_s T S (by omega)
      generalize T ++ S = TS at *
      have c8 : c % 256 = c := by omega
      go_wp2_with fail
      exact ⟨⟨j + 1, by omega, by rw [← HD.out], by rw [HN.out], by go_num, by first | exact Bel.al hB _ | go_grown⟩, by simp [intOf]; omega⟩
    · obtain rfl : j = k := by omega
      go_wp2_with fail
      go_ret
      exact ⟨rfl, hB⟩
end Go.Proofs.YtajdfjpcobaioaaGreatDoor
