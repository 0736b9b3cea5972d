/- The reference's Time. -/
import Derived.Test.YtajdfjpcobaioaaGreatDoorR2
import Derived.Test.YtajdfjpcobaioaaGreatDoorD10
set_option linter.all false
set_option maxRecDepth 100000
namespace Go.Proofs.YtajdfjpcobaioaaGreatDoor
open Go.RowKit Go.Sort
theorem rtime_no (t : Int) (h : t < -62135596800 ∨ 253402300799 < t) (w : World) : Calls Tryz.prog 11 #[.int .i64 t] w fun e w' => e = .returned (.tuple #[.string ⟨#[]⟩, .int .i64 13]) ∧ Below w.heap.size w w' := by
  rcases h with h | h
  · go_enter Tryz.func11, Tryz.ntmps11
    go_wp2_with fail
    exact bodyPost_ret (v := .tuple #[.string ⟨#[]⟩, .int .i64 13]) (by simp [results, Tryz.results11, go_sem]) rfl ⟨rfl, by go_grown⟩
  · have h' : ¬ t < -62135596800 := by omega
    go_enter Tryz.func11, Tryz.ntmps11
    go_wp2_with fail
    exact bodyPost_ret (v := .tuple #[.string ⟨#[]⟩, .int .i64 13]) (by simp [results, Tryz.results11, go_sem]) rfl ⟨rfl, by go_grown⟩
set_option maxHeartbeats 8000000 in
theorem rtime_core (t D s y r A : Int) (k : Nat) (S0 S1 S2 S3 S4 S5 F : ByteArray) (h0 : -62135596800 ≤ t) (h1 : t ≤ 253402300799) (hD : (t + 62135596800) / 86400 = D) (hs : (t + 62135596800) % 86400 = s)
    (y0 : 1 ≤ y) (y1 : y ≤ 9999) (hA : 0 ≤ A ∧ A ≤ D) (hr : Hid (D - A = r)) (hk : k < 12) (f g : Nat → Int) (hf : Hid (f 0 = 0 ∧ (∀ j, f (j + 1) = f j + g j) ∧ (∀ j, j ≤ k → 0 ≤ f j ∧ f j ≤ r) ∧ (∀ j, 28 ≤ g j ∧ g j ≤ 31) ∧ r < f (k + 1)))
    (DD : Int → Int) (hDD : Hid (∀ z, 1 ≤ z → z ≤ 9999 → (DD z ≤ D ↔ z ≤ y))) (hDb : Hid (∀ z, 1 ≤ z → z ≤ 9999 → 0 ≤ DD z ∧ DD z ≤ 8000000))
    (z0 : S0.size = 4) (z1 : S1.size = 2) (z2 : S2.size = 2) (z3 : S3.size = 2) (z4 : S4.size = 2) (z5 : S5.size = 2) (hF : Hid ((((((S0 ++ S1) ++ S2) ++ S3) ++ S4) ++ S5) ++ ⟨#[90]⟩ = F))
    (CD : Hid (∀ z, 1 ≤ z → z ≤ 9999 → ∀ W, Calls Tryz.prog 28 #[.int .i64 z] W fun e w' => e = .returned (.int .i64 (DD z)) ∧ Below W.heap.size W w'))
    (CY : ∀ W, Calls Tryz.prog 28 #[.int .i64 y] W fun e w' => e = .returned (.int .i64 A) ∧ Below W.heap.size W w')
    (CM : Hid (∀ (j : Nat) W, j < 12 → Calls Tryz.prog 29 #[.int .i64 y, .int .i64 ((j : Int) + 1)] W fun e w' => e = .returned (.int .i64 (g j)) ∧ Below W.heap.size W w'))
    (P0 : ∀ W, Calls Tryz.prog 30 #[.int .i64 y, .int .i64 4] W fun e w' => e = .returned (.string S0) ∧ Below W.heap.size W w')
    (P1 : ∀ W, Calls Tryz.prog 30 #[.int .i64 ((k : Int) + 1), .int .i64 2] W fun e w' => e = .returned (.string S1) ∧ Below W.heap.size W w')
    (P2 : ∀ W, Calls Tryz.prog 30 #[.int .i64 (r - f k + 1), .int .i64 2] W fun e w' => e = .returned (.string S2) ∧ Below W.heap.size W w')
    (P3 : ∀ W, Calls Tryz.prog 30 #[.int .i64 (s / 3600), .int .i64 2] W fun e w' => e = .returned (.string S3) ∧ Below W.heap.size W w')
    (P4 : ∀ W, Calls Tryz.prog 30 #[.int .i64 (s / 60 % 60), .int .i64 2] W fun e w' => e = .returned (.string S4) ∧ Below W.heap.size W w')
    (P5 : ∀ W, Calls Tryz.prog 30 #[.int .i64 (s % 60), .int .i64 2] W fun e w' => e = .returned (.string S5) ∧ Below W.heap.size W w') (w : World) :
    Calls Tryz.prog 11 #[.int .i64 t] w fun e w' => e = .returned (.tuple #[.string F, .int .i64 0]) ∧ Below w.heap.size w w' := by
  have s0 : 0 ≤ s := by omega
  have s1 : s < 86400 := by omega
  have Db : 0 ≤ D ∧ D ≤ 4000000 := by omega
  have a1 := add_s S0 S1 (by omega)
  have zt1 : (S0 ++ S1).size = 6 := by rw [ByteArray.size_append]; omega
  have a2 := add_s (S0 ++ S1) S2 (by omega)
  have zt2 : ((S0 ++ S1) ++ S2).size = 8 := by rw [ByteArray.size_append]; omega
  have a3 := add_s ((S0 ++ S1) ++ S2) S3 (by omega)
  have zt3 : (((S0 ++ S1) ++ S2) ++ S3).size = 10 := by rw [ByteArray.size_append]; omega
  have a4 := add_s (((S0 ++ S1) ++ S2) ++ S3) S4 (by omega)
  have zt4 : ((((S0 ++ S1) ++ S2) ++ S3) ++ S4).size = 12 := by rw [ByteArray.size_append]; omega
  have a5 := add_s ((((S0 ++ S1) ++ S2) ++ S3) ++ S4) S5 (by omega)
  have zt5 : (((((S0 ++ S1) ++ S2) ++ S3) ++ S4) ++ S5).size = 14 := by rw [ByteArray.size_append]; omega
  have a6 := add_s (((((S0 ++ S1) ++ S2) ++ S3) ++ S4) ++ S5) ⟨#[90]⟩ (by have : (⟨#[90]⟩ : ByteArray).size = 1 := rfl; omega)
  clear zt1 zt2 zt3 zt4 zt5
  obtain ⟨A0, A1⟩ := hA
  go_enter Tryz.func11, Tryz.ntmps11
  go_wp2_with fail
  simp only [hD, hs]
  clear hD hs
  go_loopw [5, 6] (fun sy ss wr => ∃ (j : Nat) (x : Int), j ≤ 14 ∧ sy = .int .i64 x ∧ ss = .int .i64 (((2 ^ j / 2 : Nat)) : Int) ∧ 1 ≤ x ∧ x ≤ y ∧ y < x + ((2 ^ j : Nat) : Int) ∧ Below w.heap.size w wr) (fun _ ss _ => (intOf ss).toNat)
  case atStart => exact ⟨14, 1, by omega, rfl, by rw [show (((2 ^ 14 / 2 : Nat)) : Int) = 8192 by decide], by omega, by omega, by rw [show ((2 ^ 14 : Nat) : Int) = 16384 by decide]; omega, by go_grown⟩
  case round =>
    obtain ⟨j, x, hj, rfl, rfl, x0, x1, x2, hB⟩ := hrel
    cases j with
    | zero =>
      have ex : x = y := by simp at x2; omega
      subst ex
      rw [show (((2 ^ 0 / 2 : Nat)) : Int) = 0 by decide]
      clear CD hDD hDb x2
      obtain ⟨f0, fs, fb, gb, fe⟩ := hf.out
      have er := hr.out
      have rb : 0 ≤ r ∧ r ≤ 4000000 := by omega
      clear f0 fs fb gb fe er
      go_wp2_with fail
      refine (CY _).mono ?_
      rintro e w1 ⟨rfl, hb⟩
      replace hB := Bel.call hB hb
      clear hb CY
      go_wp2_with fail
      rw [hr.out]
      go_loopw [4, 7] (fun sd sm wr => ∃ i : Nat, i ≤ k ∧ sd = .int .i64 (r - f i) ∧ sm = .int .i64 ((i : Int) + 1) ∧ Below w.heap.size w wr) (fun _ sm _ => k + 1 - (intOf sm).toNat)
      case atStart =>
        refine ⟨0, by omega, ?_, by simp, hB⟩
        rw [hf.out.1]; simp
      case round =>
        clear hB
        obtain ⟨i, hi, rfl, rfl, hB⟩ := hrel
        obtain ⟨f0, fs, fb, gb, fe⟩ := hf.out
        have b1 := fb i hi
        have b2 := gb i
        have b3 := fs i
        have CI := fun W => CM.out i W (by omega)
        have i0 : (0 : Int) ≤ (i : Int) := by omega
        have i1 : (i : Int) ≤ 12 := by omega
        by_cases hlt : i < k
        · have le := fb (i + 1) hlt
          have ge : g i ≤ r - f i := by omega
          have HN : Hid (r - f i - g i = r - f (i + 1)) := by show _ = _; omega
          have v0 : 0 ≤ r - f i := by omega
          have v1 : r - f i ≤ 4000000 := by omega
          clear f0 fs fb gb fe b1 b3 le P0 P1 P2 P3 P4 P5 CM hf hr
          generalize r - f i = v at *
          generalize g i = u at *
          go_wp2_with fail
          refine (CI _).mono ?_
          rintro e w2 ⟨rfl, hb⟩
          replace hB := Bel.call hB hb
          clear hb
          go_wp2_with fail
          refine (CI _).mono ?_
          rintro e w3 ⟨rfl, hb⟩
          replace hB := Bel.call hB hb
          clear hb
          go_wp2_with fail
          exact ⟨⟨i + 1, by omega, by first | rw [HN.out] | (rw [← HN.out]; go_num), by go_num, hB⟩, by simp [intOf]; omega⟩
        · obtain rfl : i = k := by omega
          have ge : r - f i < g i := by omega
          have v0 : 0 ≤ r - f i := by omega
          have v1 : r - f i ≤ 4000000 := by omega
          clear f0 fs fb gb fe b1 b3 CM hf hr
          generalize r - f i = v at *
          generalize g i = u at *
          go_wp2_with fail
          refine (CI _).mono ?_
          rintro e w2 ⟨rfl, hb⟩
          replace hB := Bel.call hB hb
          clear hb CI
          go_wp2_with fail
          refine (P0 _).mono ?_
          rintro e x0 ⟨rfl, hb⟩
          replace hB := Bel.call hB hb
          clear hb P0
          go_wp2_with fail
          refine (P1 _).mono ?_
          rintro e x1 ⟨rfl, hb⟩
          replace hB := Bel.call hB hb
          clear hb P1
          go_wp2_with fail
          refine (P2 _).mono ?_
          rintro e x2 ⟨rfl, hb⟩
          replace hB := Bel.call hB hb
          clear hb P2
          go_wp2_with fail
          refine (P3 _).mono ?_
          rintro e x3 ⟨rfl, hb⟩
          replace hB := Bel.call hB hb
          clear hb P3
          go_wp2_with fail
          refine (P4 _).mono ?_
          rintro e x4 ⟨rfl, hb⟩
          replace hB := Bel.call hB hb
          clear hb P4
          go_wp2_with fail
          refine (P5 _).mono ?_
          rintro e x5 ⟨rfl, hb⟩
          replace hB := Bel.call hB hb
          clear hb P5
          go_wp2_with fail
          exact bodyPost_ret (v := .tuple #[.string F, .int .i64 0]) (by rw [← hF.out]; simp [results, Tryz.results11, go_sem]) rfl ⟨rfl, hB⟩
    | succ j =>
      have e2 : (((2 ^ (j + 1) / 2 : Nat)) : Int) = ((2 ^ j : Nat) : Int) := by rw [Nat.pow_succ]; omega
      have e3 : ((2 ^ (j + 1) : Nat) : Int) = 2 * ((2 ^ j : Nat) : Int) := by rw [Nat.pow_succ]; omega
      have pj : 1 ≤ ((2 ^ j : Nat) : Int) := by have := Nat.pow_pos (n := j) (show 0 < 2 by omega); omega
      have pj2 : ((2 ^ j : Nat) : Int) ≤ 8192 := by
        have : 2 ^ j ≤ 2 ^ 13 := Nat.pow_le_pow_right (by omega) (by omega)
        omega
      have e4 : (((2 ^ j / 2 : Nat)) : Int) = ((2 ^ j : Nat) : Int) / 2 := by omega
      rw [e2]
      rw [e3] at x2
      have HE : Hid ((((2 ^ j / 2 : Nat)) : Int) = ((2 ^ j : Nat) : Int) / 2) := e4
      have HJ : Hid (j ≤ 14) := by show _ ≤ _; omega
      clear e2 e3 e4
      generalize hP : ((2 ^ j : Nat) : Int) = P at *
      have HP : Hid (((2 ^ j : Nat) : Int) = P) := hP
      clear hP hj CY CM P0 P1 P2 P3 P4 P5 hf hr
      by_cases c1 : x + P ≤ 9999
      · have C := CD.out (x + P) (by omega) c1
        have Cb := hDb.out (x + P) (by omega) c1
        have Cd := hDD.out (x + P) (by omega) c1
        generalize DD (x + P) = Z at *
        clear CD hDb hDD
        by_cases c2 : Z ≤ D
        · have c3 := Cd.1 c2
          clear Cd
          go_wp2_with (go_at_call 28; refine (C _).mono ?_; rintro e w2 ⟨rfl, hb⟩)
          exact ⟨⟨j, x + P, HJ.out, by go_num, by rw [HE.out], by omega, c3, by rw [HP.out]; omega, Bel.call hB hb⟩, by simp [intOf]; omega⟩
        · have c3 : ¬ x + P ≤ y := fun h => c2 (Cd.2 h)
          have c2' : decide (Z ≤ D) = false := decide_eq_false c2
          clear Cd
          go_wp2_with (go_at_call 28; refine (C _).mono ?_; rintro e w2 ⟨rfl, hb⟩)
          exact ⟨⟨j, x, HJ.out, rfl, by rw [HE.out], by omega, x1, by rw [HP.out]; omega, Bel.call hB hb⟩, by simp [intOf]; omega⟩
      · have c1' : decide (x + P ≤ 9999) = false := decide_eq_false c1
        clear CD hDb hDD
        go_wp2_with fail
        exact ⟨⟨j, x, HJ.out, rfl, by rw [HE.out], by omega, x1, by rw [HP.out]; omega, hB⟩, by simp [intOf]; omega⟩
theorem rdays_b (y : Int) (h0 : 1 ≤ y) (h1 : y ≤ 20000) (w : World) : Calls Tryz.prog 28 #[.int .i64 y] w fun e w' => e = .returned (.int .i64 (dA y)) ∧ Below w.heap.size w w' := by
  refine (rDays_any y h0 h1 w).mono ?_
  rintro e w' ⟨rfl, rfl⟩
  exact ⟨rfl, Below.refl _ _⟩
theorem rtime_yes (t : Int) (h0 : LT ≤ t) (h1 : t ≤ MT) (w : World) : Calls Tryz.prog 11 #[.int .i64 t] w fun e w' => e = .returned (.tuple #[.string (mkS (timL t)), .int .i64 0]) ∧ Below w.heap.size w w' := by
  have c := cal_of t h0 h1
  have d := tD_bd t h0 h1
  have hq := mD_bd (tY t) (tM t)
  have y0 := c.y0; have y1 := c.y1; have m0 := c.m0; have m1 := c.m1; have q0 := c.d0; have q1 := c.d1; have a0 := c.h0; have a1 := c.h1; have b0 := c.i0; have b1 := c.i1; have s0 := c.s0; have s1 := c.s1
  have hb := yr_bd (tD t)
  have ab := dA_bd (tY t) y0 (by omega)
  have hr := tR_bd t
  have hm := mo_bd _ _ hr.1 hr.2
  have eF : Hid (mkS (dgs 4 (tY t)) ++ mkS (dgs 2 (tM t)) ++ mkS (dgs 2 (tQ t)) ++ mkS (dgs 2 (tS t / 3600)) ++ mkS (dgs 2 (tS t / 60 % 60)) ++ mkS (dgs 2 (tS t % 60)) ++ ⟨#[90]⟩ = mkS (timL t)) := by
    have e9 : (⟨#[90]⟩ : ByteArray) = mkS [90] := by apply ba_ext; rfl
    unfold Hid timL tmL
    rw [e9]
    simp only [mkS_app, List.append_assoc]
  have sz : ∀ k n, (mkS (dgs k n)).size = k := fun k n => by rw [mkS_size, dgs_len]
  exact rtime_core t (tD t) (tS t) (tY t) (tR t) (dA (tY t)) (mo (tY t) (tR t)) _ _ _ _ _ _ _ (by unfold LT at h0; exact h0) (by unfold MT at h1; exact h1) (by unfold tD LT; congr 1) (by unfold tS LT; congr 1)
    y0 y1 ⟨ab.1, hb.1⟩ rfl hm.1 (cum (tY t)) (fun j => mD (tY t) ((j : Int) + 1)) ⟨rfl, fun j => cum_s _ j, fun j hj => ⟨cum_0 _ _, Int.le_trans (cum_mono _ _ _ hj) hm.2.1⟩, fun j => mD_bd _ _, hm.2.2⟩
    dA (fun z z0 z1 => ⟨fun h => by
      apply Int.not_lt.1
      intro c
      have := dA_mono (tY t + 1) z (by omega)
      unfold tY at this; omega, fun h => Int.le_trans (dA_mono z (tY t) h) hb.1⟩) (fun z z0 z1 => by have := dA_bd z z0 (by omega); omega)
    (sz _ _) (sz _ _) (sz _ _) (sz _ _) (sz _ _) (sz _ _) eF (fun z z0 z1 W => rdays_b z z0 (by omega) W) (fun W => rdays_b (tY t) y0 (by omega) W) (fun j W hj => rLong_any (tY t) ((j : Int) + 1) (by omega) (by omega) (by omega) W)
    (fun W => rPad_any (tY t) 4 (by omega) (by omega) (by omega) W)
    (fun W => rPad_any (tM t) 2 (by omega) (by omega) (by omega) W)
    (fun W => rPad_any (tQ t) 2 (by omega) (by omega) (by omega) W)
    (fun W => rPad_any (tS t / 3600) 2 (by omega) (by omega) (by omega) W)
    (fun W => rPad_any (tS t / 60 % 60) 2 (by omega) (by omega) (by omega) W)
    (fun W => rPad_any (tS t % 60) 2 (by omega) (by omega) (by omega) W) w
theorem rtime_any (t : Int) (w : World) : Calls Tryz.prog 11 #[.int .i64 t] w fun e w' => e = .returned (timR t) ∧ Below w.heap.size w w' := by
  unfold timR
  by_cases c : LT ≤ t ∧ t ≤ MT
  · rw [if_pos c]; exact rtime_yes t c.1 c.2 w
  · rw [if_neg c]; exact rtime_no t (by unfold LT MT at c; omega) w
end Go.Proofs.YtajdfjpcobaioaaGreatDoor
