/- Days ahead of a year, days of a month; the day that comes so many days behind the first. -/
import Derived.Test.YtajdfjpcobaioaaGreatDoorM2
import Derived.Lib.QuietBelow
import Derived.Test.YtajdfjpcobaioaaGreatDoorD1
import Derived.Deep.RegionHeld3
set_option linter.all false
set_option maxRecDepth 100000
namespace Go.Proofs.YtajdfjpcobaioaaGreatDoor
open Go.RowKit Go.Sort
theorem daysAhead_any (y : Int) (h0 : 1 ≤ y) (h1 : y ≤ 20000) (w : World) : Calls Tryz.prog 34 #[.int .i64 y] w fun e w' => e = .returned (.int .i64 (dA y)) ∧ w' = w := by
  have e : dA y = 365 * (y - 1) + (y - 1) / 4 - (y - 1) / 100 + (y - 1) / 400 := rfl
  generalize dA y = z at *
  obtain ⟨p, hp⟩ : ∃ p, p = y - 1 := ⟨_, rfl⟩
  have y0 : y = p + 1 := by omega
  subst y0
  have p0 : 0 ≤ p := by omega
  have p1 : p ≤ 19999 := by omega
  have e' : z = 365 * p + p / 4 - p / 100 + p / 400 := by rw [e]; simp only [show p + 1 - 1 = p by omega]
  clear e hp h0 h1
  go_enter Tryz.func34, Tryz.ntmps34
  go_wp2_with fail
  go_ret
  refine ⟨?_, rfl⟩
  rw [e']
  congr 1
  try simp
  try omega
theorem monthDays_any (y m : Int) (h0 : 1 ≤ y) (h1 : y ≤ 9999) (w : World) : Calls Tryz.prog 35 #[.int .i64 y, .int .i64 m] w fun e w' => e = .returned (.int .i64 (mD y m)) ∧ w' = w := by
  have C1 := fun W => daysAhead_any (y + 1) (by omega) (by omega) W
  have C2 := fun W => daysAhead_any y (by omega) (by omega) W
  have b1 := dA_bd (y + 1) (by omega) (by omega)
  have b2 := dA_bd y (by omega) (by omega)
  have n1 := dA_next y
  have e : mD y m = if m = 2 then 28 + lp y else if m = 4 ∨ m = 6 ∨ m = 9 ∨ m = 11 then 30 else 31 := rfl
  generalize mD y m = z at *
  generalize dA (y + 1) = a at *
  generalize dA y = b at *
  generalize lp y = l at *
  by_cases g2 : m = 2
  · rw [if_pos g2] at e
    subst g2
    have e' : z = a - b - 337 := by omega
    clear e n1
    go_enter Tryz.func35, Tryz.ntmps35
    go_wp2_with fail
    refine (C1 _).mono ?_
    rintro e w1 ⟨rfl, rfl⟩
    go_wp2_with fail
    refine (C2 _).mono ?_
    rintro e w1 ⟨rfl, rfl⟩
    go_wp2_with fail
    go_ret
    exact ⟨by rw [e']; rfl, rfl⟩
  · rw [if_neg g2] at e
    clear n1 C1 C2
    by_cases g4 : m = 4
    · rw [if_pos (.inl g4)] at e; subst g4; subst e
      go_enter Tryz.func35, Tryz.ntmps35
      go_wp2_with fail
      go_ret
      exact ⟨rfl, rfl⟩
    by_cases g6 : m = 6
    · rw [if_pos (.inr (.inl g6))] at e; subst g6; subst e
      go_enter Tryz.func35, Tryz.ntmps35
      go_wp2_with fail
      go_ret
      exact ⟨rfl, rfl⟩
    by_cases g9 : m = 9
    · rw [if_pos (.inr (.inr (.inl g9)))] at e; subst g9; subst e
      go_enter Tryz.func35, Tryz.ntmps35
      go_wp2_with fail
      go_ret
      exact ⟨rfl, rfl⟩
    by_cases g11 : m = 11
    · rw [if_pos (.inr (.inr (.inr g11)))] at e; subst g11; subst e
      go_enter Tryz.func35, Tryz.ntmps35
      go_wp2_with fail
      go_ret
      exact ⟨rfl, rfl⟩
    · rw [if_neg (by omega)] at e; subst e
      go_enter Tryz.func35, Tryz.ntmps35
      go_wp2_with fail
      go_ret
      exact ⟨rfl, rfl⟩
theorem daysAhead_b (y : Int) (h0 : 1 ≤ y) (h1 : y ≤ 20000) (w : World) : Calls Tryz.prog 34 #[.int .i64 y] w fun e w' => e = .returned (.int .i64 (dA y)) ∧ Below w.heap.size w w' := by
  refine (daysAhead_any y h0 h1 w).mono ?_
  rintro e w' ⟨rfl, rfl⟩
  exact ⟨rfl, Below.refl _ _⟩
theorem monthDays_b (y m : Int) (h0 : 1 ≤ y) (h1 : y ≤ 9999) (w : World) : Calls Tryz.prog 35 #[.int .i64 y, .int .i64 m] w fun e w' => e = .returned (.int .i64 (mD y m)) ∧ Below w.heap.size w w' := by
  refine (monthDays_any y m h0 h1 w).mono ?_
  rintro e w' ⟨rfl, rfl⟩
  exact ⟨rfl, Below.refl _ _⟩
theorem later_any (x d : Int) (B : Nat) (h0 : 0 ≤ x) (h1 : x ≤ 9998) (w : World) (hc : w.cell? ⟨B, 0, none⟩ = some (.int .i64 d)) : Calls Tryz.prog 54 #[.int .i64 x, .pointer (some ⟨B, 0, none⟩)] w fun e w' => e = .returned (.bool (decide (d < dA (x + 2)))) ∧ Below w.heap.size w w' := by
  have C1 := fun W => daysAhead_b (x + 2) (by omega) (by omega) W
  have r0 := fun ds os => cell_regrown hc ds os
  generalize dA (x + 2) = a at *
  go_enter Tryz.func54, Tryz.ntmps54
  go_wp2_with fail
  refine wp_region_quiet_below (by kernel_rfl) (by kernel_rfl) ?_
  repeat (go_big_quiet_step (first | (go_at_call 34; exact Calls.regrown_of (C1 _))))
  refine wpQuiet_nil ?_
  intro w1 hw'
  obtain ⟨⟨dq, osq⟩, hw''⟩ := hw'
  have hb := below_of hw''
  clear hw''
  go_wp2_with fail
  go_ret
  exact ⟨rfl, hb⟩
theorem search_any (d : Int) (B : Nat) (d0 : 0 ≤ d) (d1 : d < 3652059) (w : World) (hc : w.cell? ⟨B, 0, none⟩ = some (.int .i64 d)) : Calls Tryz.prog 53 #[.int .i64 9998, .func (.func 54) #[] #[.pointer (some ⟨B, 0, none⟩)]] w fun e w' => e = .returned (.int .i64 (yr d - 1)) ∧ Below w.heap.size w w' := by
  have hlt := block_lt_of_cell hc
  have C := fun x h0 h1 W hW => later_any x d B h0 h1 W hW
  have e1 : dA 1 = 0 := by decide
  have e2 : dA 10000 = 3652059 := by decide
  go_enter Tryz.func53, Tryz.ntmps53
  go_wp2_with fail
  go_loopw [5, 6] (fun si sj wr => ∃ i j : Int, si = .int .i64 i ∧ sj = .int .i64 j ∧ 0 ≤ i ∧ i ≤ j ∧ j ≤ 9998 ∧ dA (i + 1) ≤ d ∧ d < dA (j + 2) ∧ Below w.heap.size w wr)
    (fun si sj _ => (intOf sj - intOf si).toNat)
  case atStart => exact ⟨0, 9998, rfl, rfl, by omega, by omega, by omega, by rw [show (0 : Int) + 1 = 1 by rfl, e1]; exact d0, by rw [show (9998 : Int) + 2 = 10000 by rfl, e2]; exact d1, Below.refl _ _⟩
  case round =>
    obtain ⟨i, j, rfl, rfl, i0, ij, j1, hi, hj, hW⟩ := hrel
    have hcw : wr.cell? ⟨B, 0, none⟩ = some (.int .i64 d) := (hW.cell (p := ⟨B, 0, none⟩) hlt).trans hc
    clear e1 e2 hc
    by_cases hl : i < j
    · obtain ⟨m, hm⟩ : ∃ m, m = (i + j) / 2 := ⟨_, rfl⟩
      have m0 : i ≤ m := by omega
      have m1 : m < j := by omega
      have Cm := C m (by omega) (by omega) wr hcw
      have HM : Hid (m = (i + j) / 2) := hm
      have q : (i + j) / 2 = m := hm.symm
      clear C hm
      by_cases g : d < dA (m + 2)
      · rw [decide_eq_true g] at Cm
        go_wp2_with (go_at_call 54; refine Cm.mono ?_; rintro e w1 ⟨rfl, hb1⟩)
        exact ⟨⟨i, m, rfl, rfl, i0, m0, by omega, hi, g, Bel.call hW hb1⟩, by simp [intOf]; omega⟩
      · rw [decide_eq_false g] at Cm
        go_wp2_with (go_at_call 54; refine Cm.mono ?_; rintro e w1 ⟨rfl, hb1⟩)
        exact ⟨⟨m + 1, j, by go_num, rfl, by omega, by omega, j1, by rw [show m + 1 + 1 = m + 2 by omega]; omega, hj, Bel.call hW hb1⟩, by simp [intOf]; omega⟩
    · obtain rfl : i = j := by omega
      have hy := yr_is (i + 1) d hi (by rw [show i + 1 + 1 = i + 2 by omega]; exact hj)
      go_wp2_with fail
      go_ret
      exact ⟨rfl, hW⟩
theorem one_cell {w w1 : World} {a : Value} {T : TypeId} (h : Below (w.alloc (.cells #[a] T)).heap.size (w.alloc (.cells #[a] T)) w1) : Arr w1 w.heap.size 1 (fun _ => a) := by
  have A : Arr (w.alloc (.cells #[a] T)) w.heap.size 1 (fun _ => a) := Arr.new w #[a] T _ rfl _ 1 (fun j hj => by
    match j, hj with
    | 0, _ => rfl)
  exact A.below h (by simp)
set_option maxHeartbeats 1000000 in
theorem dateOf_core (d y r : Int) (k : Nat) (y0 : 1 ≤ y) (y1 : y ≤ 9999) (A : Int) (hA : 0 ≤ A ∧ A ≤ d ∧ d ≤ 4000000) (hr : d - A = r) (hk : k < 12) (f : Nat → Int) (g : Nat → Int) (f0 : f 0 = 0) (hf : ∀ j, f (j + 1) = f j + g j) (hfb : ∀ j, j ≤ k → 0 ≤ f j ∧ f j ≤ r) (hg : ∀ j, 28 ≤ g j ∧ g j ≤ 31) (hend : r < f (k + 1))
    (CS : ∀ W B, W.cell? ⟨B, 0, none⟩ = some (.int .i64 d) → Calls Tryz.prog 53 #[.int .i64 9998, .func (.func 54) #[] #[.pointer (some ⟨B, 0, none⟩)]] W fun e w' => e = .returned (.int .i64 (y - 1)) ∧ Below W.heap.size W w')
    (CA : ∀ W, Calls Tryz.prog 34 #[.int .i64 y] W fun e w' => e = .returned (.int .i64 A) ∧ Below W.heap.size W w')
    (CM : ∀ (j : Nat) W, Calls Tryz.prog 35 #[.int .i64 y, .int .i64 ((j : Int) + 1)] W fun e w' => e = .returned (.int .i64 (g j)) ∧ Below W.heap.size W w') (w : World) :
    Calls Tryz.prog 26 #[.int .i64 d] w fun e w' => e = .returned (.tuple #[.int .i64 y, .int .i64 ((k : Int) + 1), .int .i64 (r - f k + 1)]) ∧ Below w.heap.size w w' := by
  have HF : Hid ((∀ j, f (j + 1) = f j + g j) ∧ f 0 = 0 ∧ (∀ j, j ≤ k → 0 ≤ f j ∧ f j ≤ r) ∧ (∀ j, 28 ≤ g j ∧ g j ≤ 31) ∧ r < f (k + 1) ∧ d - A = r) := ⟨hf, f0, hfb, hg, hend, hr⟩
  clear hf f0 hfb hg hend hr
  have HM : Hid (∀ (j : Nat) W, Calls Tryz.prog 35 #[.int .i64 y, .int .i64 ((j : Int) + 1)] W fun e w' => e = .returned (.int .i64 (g j)) ∧ Below W.heap.size W w') := CM
  clear CM
  obtain ⟨A0, A1, A2⟩ := hA
  go_enter Tryz.func26, Tryz.ntmps26
  go_wp2_with (go_at_call 53; refine (CS _ _ (by simp [go_sem])).mono ?_; rintro e w1 ⟨rfl, hb1⟩)
  simp only [show (1 : Int) + (y - 1) = y by omega]
  have AB := one_cell hb1
  have hB : Below w.heap.size w w1 := Bel.call (by go_grown) hb1
  clear hb1 CS
  have c0 := AB.c 0 (by omega)
  have r0 := fun ds os => cell_regrown c0 ds os
  refine wp_region_below_tail 4 (by kernel_rfl) (by kernel_rfl) ?_
  simp only [List.take_succ_cons, List.take_zero, List.drop_succ_cons, List.drop_zero]
  repeat (go_big_quiet_step (first | (go_at_call 34; exact Calls.regrown_of (CA _))))
  refine wpQuiet_nil ?_
  intro w2 hw'
  obtain ⟨⟨dq, osq⟩, hw''⟩ := hw'
  have hb := below_of hw''
  clear hw'' r0 c0
  obtain ⟨hf, f0, hfb, hg, hend, hr⟩ := HF.out
  replace AB : Arr w2 w.heap.size 1 _ := AB.to' (n := 0) hb
  replace hB := Bel.call hB hb
  clear hb CA
  have c0 := AB.c 0 (by omega)
  have z0 := AB.z 0 (by omega)
  have AS := AB.set 0 (by omega) (.int .i64 (d - A))
  have BS := Bel.st hB (b := w.heap.size) (k := 0) (Nat.le_refl _) (.int .i64 (d - A))
  have HA : Hid (Arr (w2.setCell ⟨w.heap.size, 0, none⟩ (.int .i64 (d - A))) w.heap.size 1 (fun _ => .int .i64 (r - f 0))) := AS.congr (fun j hj => by
    match j, hj with
    | 0, _ => rw [f0, hr]; simp)
  have HB : Hid (Below w.heap.size w (w2.setCell ⟨w.heap.size, 0, none⟩ (.int .i64 (d - A)))) := BS
  clear AS BS AB hB hf f0 hfb hg hend hr
  go_wp2_with fail
  clear c0 z0
  generalize (w2.setCell ⟨w.heap.size, 0, none⟩ (.int .i64 (d - A))) = w3 at *
  go_loopw [3] (fun s wr => ∃ j : Nat, j ≤ k ∧ s = .int .i64 ((j : Int) + 1) ∧ Arr wr w.heap.size 1 (fun _ => .int .i64 (r - f j)) ∧ Below w.heap.size w wr)
    (fun s _ => k + 1 - (intOf s).toNat)
  case atStart => exact ⟨0, by omega, by simp, HA.out, HB.out⟩
  case round =>
    clear HA HB
    obtain ⟨j, hj, rfl, AR, hB⟩ := hrel
    obtain ⟨hf, f0, hfb, hg, hend, hr⟩ := HF.out
    have b1 := hfb j hj
    have b2 := hg j
    have b3 := hf j
    have HX := HM.out j
    have j0 : (0 : Int) ≤ (j : Int) := by omega
    have j1 : (j : Int) ≤ 12 := by omega
    have rb : r ≤ 4000000 := by omega
    have c0 := AR.c 0 (by omega)
    have r0 := fun ds os => cell_regrown c0 ds os
    by_cases hlt : j < k
    · have le := hfb (j + 1) hlt
      have ge : g j ≤ r - f j := by omega
      have HE : Hid (r - f j - g j = r - f (j + 1)) := (by omega : r - f j - g j = r - f (j + 1))
      have HN : Hid (∀ u, u = r - f j - g j → u = r - f (j + 1)) := fun u hu => by rw [hu]; exact HE.out
      have v0 : 0 ≤ r - f j := by omega
      have v1 : r - f j ≤ 4000000 := by omega
      clear hf f0 hfb hg hend hr b1 b3 le HE HM HF
      generalize r - f j = v at *
      generalize g j = x at *
      go_wp2_with fail
      refine wp_region_quiet_below (by kernel_rfl) (by kernel_rfl) ?_
      repeat (go_big_quiet_step (first | (go_at_call 35; exact Calls.regrown_of (HX _))))
      refine wpQuiet_nil ?_
      intro w4 hw'
      obtain ⟨⟨dq, osq⟩, hw''⟩ := hw'
      have hb := below_of hw''
      clear hw'' r0 c0
      replace AR : Arr w4 w.heap.size 1 _ := AR.to' (n := 0) hb
      replace hB := Bel.call hB hb
      clear hb
      go_wp2_with fail
      have c0 := AR.c 0 (by omega)
      have r0 := fun ds os => cell_regrown c0 ds os
      refine wp_region_below_tail 5 (by kernel_rfl) (by kernel_rfl) ?_
      simp only [List.take_succ_cons, List.take_zero, List.drop_succ_cons, List.drop_zero]
      repeat (go_big_quiet_step (first | (go_at_call 35; exact Calls.regrown_of (HX _))))
      refine wpQuiet_nil ?_
      intro w5 hw'
      obtain ⟨⟨dq, osq⟩, hw''⟩ := hw'
      have hb := below_of hw''
      clear hw'' r0 c0 HX
      replace AR : Arr w5 w.heap.size 1 _ := AR.to' (n := 0) hb
      replace hB := Bel.call hB hb
      clear hb
      have c0 := AR.c 0 (by omega)
      have z0 := AR.z 0 (by omega)
      go_wp2_with fail
      refine ⟨⟨j + 1, by omega, by go_num, ?_, Bel.st hB (Nat.le_refl _) _⟩, by simp [intOf]; omega⟩
      exact (AR.set 0 (by omega) _).congr (fun i hi => by
        match i, hi with
        | 0, _ => simp; exact HN.out _ rfl)
    · obtain rfl : j = k := by omega
      have ge : r - f j < g j := by omega
      have v0 : 0 ≤ r - f j := by omega
      have v1 : r - f j ≤ 4000000 := by omega
      clear hf f0 hfb hg hend hr b1 b3 HM HF
      generalize hv : r - f j = v at *
      have HV : Hid (r - f j = v) := hv
      clear hv
      generalize g j = x at *
      go_wp2_with fail
      refine wp_region_quiet_below (by kernel_rfl) (by kernel_rfl) ?_
      repeat (go_big_quiet_step (first | (go_at_call 35; exact Calls.regrown_of (HX _))))
      refine wpQuiet_nil ?_
      intro w4 hw'
      obtain ⟨⟨dq, osq⟩, hw''⟩ := hw'
      have hb := below_of hw''
      clear hw'' r0 c0 HX
      replace AR : Arr w4 w.heap.size 1 _ := AR.to' (n := 0) hb
      replace hB := Bel.call hB hb
      clear hb
      have c0 := AR.c 0 (by omega)
      go_wp2_with fail
      have r0 := fun ds os => cell_regrown c0 ds os
      refine wp_region_quiet_below (by kernel_rfl) (by kernel_rfl) ?_
      repeat (go_big_quiet_step (fail))
      refine wpQuiet_nil ?_
      intro w5 hw'
      obtain ⟨⟨dq, osq⟩, hw''⟩ := hw'
      have hb := below_of hw''
      clear hw'' r0 c0
      go_wp2_with fail
      exact bodyPost_ret (v := .tuple #[.int .i64 y, .int .i64 ((j : Int) + 1), .int .i64 (v + 1)]) (by simp [results, Tryz.results26, go_sem]) rfl ⟨by rw [HV.out], Bel.call hB hb⟩
theorem dateOf_any (d : Int) (d0 : 0 ≤ d) (d1 : d < 3652059) (w : World) : Calls Tryz.prog 26 #[.int .i64 d] w fun e w' => e = .returned (.tuple #[.int .i64 (yr d), .int .i64 ((mo (yr d) (d - dA (yr d)) : Int) + 1), .int .i64 (d - dA (yr d) - cum (yr d) (mo (yr d) (d - dA (yr d))) + 1)]) ∧ Below w.heap.size w w' := by
  have hy := yr_1 d d0 d1
  have hb := yr_bd d
  have n1 := dA_next (yr d)
  have ab := dA_bd (yr d) hy.1 (by omega)
  have hm := mo_bd (yr d) (d - dA (yr d)) (by omega) (by omega)
  exact dateOf_core d (yr d) (d - dA (yr d)) (mo (yr d) (d - dA (yr d))) hy.1 hy.2 (dA (yr d)) ⟨ab.1, hb.1, by omega⟩ rfl hm.1 (cum (yr d)) (fun j => mD (yr d) ((j : Int) + 1)) rfl (fun j => cum_s (yr d) j) (fun j hj => ⟨cum_0 _ _, Int.le_trans (cum_mono _ _ _ hj) hm.2.1⟩) (fun j => mD_bd _ _) hm.2.2
    (fun W B h => search_any d B d0 d1 W h) (fun W => daysAhead_b (yr d) hy.1 (by omega) W) (fun j W => monthDays_b (yr d) ((j : Int) + 1) hy.1 hy.2 W) w
end Go.Proofs.YtajdfjpcobaioaaGreatDoor
