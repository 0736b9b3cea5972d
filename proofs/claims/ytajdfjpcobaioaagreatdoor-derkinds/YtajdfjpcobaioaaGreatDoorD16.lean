/- Times, read: to the end. -/
import Derived.Test.YtajdfjpcobaioaaGreatDoorD15
import Derived.Lib.QuietBelow
import Derived.Deep.Cut
set_option linter.all false
set_option maxRecDepth 100000
namespace Go.Proofs.YtajdfjpcobaioaaGreatDoor
open Go.RowKit Go.Sort
def idB (y m d : Int) : Bool := decide (1 ≤ y) && (decide (1 ≤ m) && (decide (m ≤ 12) && (decide (1 ≤ d) && decide (d ≤ mD y m))))
theorem isDay_any (y m d : Int) (y1 : y ≤ 9999) (w : World) : Calls Tryz.prog 33 #[.int .i64 y, .int .i64 m, .int .i64 d] w fun e w' => e = .returned (.bool (idB y m d)) ∧ Below w.heap.size w w' := by
  unfold idB
  by_cases c1 : 1 ≤ y
  · have C := fun W => monthDays_b y m c1 y1 W
    generalize mD y m = D at *
    by_cases c2 : 1 ≤ m
    · by_cases c3 : m ≤ 12
      · by_cases c4 : 1 ≤ d
        · by_cases c5 : d ≤ D
          · go_enter Tryz.func33, Tryz.ntmps33
            go_wp2_with (go_at_call 35; refine (C _).mono ?_; rintro e w1 ⟨rfl, hb⟩)
            go_ret
            exact ⟨by simp [c1, c2, c3, c4, c5], hb⟩
          · have g : decide (d ≤ D) = false := decide_eq_false c5
            go_enter Tryz.func33, Tryz.ntmps33
            go_wp2_with (go_at_call 35; refine (C _).mono ?_; rintro e w1 ⟨rfl, hb⟩)
            go_ret
            exact ⟨by simp [c1, c2, c3, c4, c5], hb⟩
        · have g : decide (1 ≤ d) = false := decide_eq_false c4
          go_enter Tryz.func33, Tryz.ntmps33
          go_wp2_with fail
          go_ret
          exact ⟨by simp [c1, c2, c3, c4], by go_grown⟩
      · have g : decide (m ≤ 12) = false := decide_eq_false c3
        go_enter Tryz.func33, Tryz.ntmps33
        go_wp2_with fail
        go_ret
        exact ⟨by simp [c1, c2, c3], by go_grown⟩
    · have g : decide (1 ≤ m) = false := decide_eq_false c2
      go_enter Tryz.func33, Tryz.ntmps33
      go_wp2_with fail
      go_ret
      exact ⟨by simp [c1, c2], by go_grown⟩
  · have g : decide (1 ≤ y) = false := decide_eq_false c1
    go_enter Tryz.func33, Tryz.ntmps33
    go_wp2_with fail
    go_ret
    exact ⟨by simp [c1], by go_grown⟩
theorem tt_no (s : ByteArray) (C : ∀ W, Calls Tryz.prog 31 #[.string s] W fun e w' => e = .returned (.bool false) ∧ Below W.heap.size W w') (w : World) : Calls Tryz.prog 12 #[.string s] w fun e w' => e = .returned (.tuple #[.int .i64 0, .int .i64 10]) ∧ Below w.heap.size w w' := by
  go_enter Tryz.func12, Tryz.ntmps12
  go_wp2_with (go_at_call 31; refine (C _).mono ?_; rintro e w1 ⟨rfl, hb⟩)
  exact bodyPost_ret (v := .tuple #[.int .i64 0, .int .i64 10]) (by simp [results, Tryz.results12, go_sem]) rfl ⟨rfl, hb⟩
theorem cutS (s : ByteArray) (h : s.size = 15) (a b : Nat) (hab : a ≤ b) (hb : b ≤ 15) (W : World) : (Instr.slice 9 (.string s) (some (.int .i64 a)) (some (.int .i64 b)) none).run Tryz.prog W = .ok (.string (s.extract a b)) W := by
  have z0 : (0 : Int) ≤ (a : Int) := by omega
  have z1 : (a : Int) ≤ (b : Int) := by omega
  have z2 : (b : Int) ≤ (s.size : Int) := by omega
  clear h
  go_simp
theorem cutS0 (s : ByteArray) (h : s.size = 15) (b : Nat) (hb : b ≤ 15) (W : World) : (Instr.slice 9 (.string s) none (some (.int .i64 b)) none).run Tryz.prog W = .ok (.string (s.extract 0 b)) W := by
  have z1 : (0 : Int) ≤ (b : Int) := by omega
  have z2 : (b : Int) ≤ (s.size : Int) := by omega
  clear h
  go_simp
set_option maxHeartbeats 2000000 in
theorem tt_bad (s S0 S1 S2 S3 S4 S5 : ByteArray) (h15 : s.size = 15) (y m d h i q : Int) (r : Bool) (hc : r = false ∨ (r = true ∧ 23 < h) ∨ (r = true ∧ h ≤ 23 ∧ 59 < i) ∨ (r = true ∧ h ≤ 23 ∧ i ≤ 59 ∧ 59 < q))
    (yb : 0 ≤ y ∧ y ≤ 9999) (mb : 0 ≤ m ∧ m ≤ 99) (db : 0 ≤ d ∧ d ≤ 99) (hb' : 0 ≤ h ∧ h ≤ 99) (ib : 0 ≤ i ∧ i ≤ 99) (qb : 0 ≤ q ∧ q ≤ 99)
    (K0 : ∀ W, (Instr.slice 9 (.string s) none (some (.int .i64 4)) none).run Tryz.prog W = .ok (.string S0) W)
    (K1 : ∀ W, (Instr.slice 9 (.string s) (some (.int .i64 4)) (some (.int .i64 6)) none).run Tryz.prog W = .ok (.string S1) W)
    (K2 : ∀ W, (Instr.slice 9 (.string s) (some (.int .i64 6)) (some (.int .i64 8)) none).run Tryz.prog W = .ok (.string S2) W)
    (K3 : ∀ W, (Instr.slice 9 (.string s) (some (.int .i64 8)) (some (.int .i64 10)) none).run Tryz.prog W = .ok (.string S3) W)
    (K4 : ∀ W, (Instr.slice 9 (.string s) (some (.int .i64 10)) (some (.int .i64 12)) none).run Tryz.prog W = .ok (.string S4) W)
    (K5 : ∀ W, (Instr.slice 9 (.string s) (some (.int .i64 12)) (some (.int .i64 14)) none).run Tryz.prog W = .ok (.string S5) W)
    (C43 : ∀ W, Calls Tryz.prog 31 #[.string s] W fun e w' => e = .returned (.bool true) ∧ Below W.heap.size W w')
    (V0 : ∀ W, Calls Tryz.prog 32 #[.string S0] W fun e w' => e = .returned (.int .i64 y) ∧ Below W.heap.size W w')
    (V1 : ∀ W, Calls Tryz.prog 32 #[.string S1] W fun e w' => e = .returned (.int .i64 m) ∧ Below W.heap.size W w')
    (V2 : ∀ W, Calls Tryz.prog 32 #[.string S2] W fun e w' => e = .returned (.int .i64 d) ∧ Below W.heap.size W w')
    (V3 : ∀ W, Calls Tryz.prog 32 #[.string S3] W fun e w' => e = .returned (.int .i64 h) ∧ Below W.heap.size W w')
    (V4 : ∀ W, Calls Tryz.prog 32 #[.string S4] W fun e w' => e = .returned (.int .i64 i) ∧ Below W.heap.size W w')
    (V5 : ∀ W, Calls Tryz.prog 32 #[.string S5] W fun e w' => e = .returned (.int .i64 q) ∧ Below W.heap.size W w')
    (C45 : ∀ W, Calls Tryz.prog 33 #[.int .i64 y, .int .i64 m, .int .i64 d] W fun e w' => e = .returned (.bool r) ∧ Below W.heap.size W w') (w : World) :
    Calls Tryz.prog 12 #[.string s] w fun e w' => e = .returned (.tuple #[.int .i64 0, .int .i64 10]) ∧ Below w.heap.size w w' := by
  rcases hc with hr | ⟨hr, g1⟩ | ⟨hr, g1, g2⟩ | ⟨hr, g1, g2, g3⟩
  · subst hr
    go_enter Tryz.func12, Tryz.ntmps12
    go_wp2_with (go_at_call 31; refine (C43 _).mono ?_; rintro e w1 ⟨rfl, hB⟩)
    refine wp_region_quiet_below (by kernel_rfl) (by kernel_rfl) ?_
    repeat (go_big_quiet_step (first | (go_at_call 32; first | with_reducible exact Calls.regrown_of (V0 _) | with_reducible exact Calls.regrown_of (V1 _) | with_reducible exact Calls.regrown_of (V2 _))))
    refine wpQuiet_nil ?_
    intro w2 hw'
    obtain ⟨⟨dq, osq⟩, hw''⟩ := hw'
    have hb := below_of hw''
    clear hw''
    replace hB := Bel.call hB hb
    clear hb
    go_wp2_with fail
    refine wp_region_quiet_below (by kernel_rfl) (by kernel_rfl) ?_
    repeat (go_big_quiet_step (first | (go_at_call 32; first | with_reducible exact Calls.regrown_of (V3 _) | with_reducible exact Calls.regrown_of (V4 _) | with_reducible exact Calls.regrown_of (V5 _))))
    refine wpQuiet_nil ?_
    intro w3 hw'
    obtain ⟨⟨dq, osq⟩, hw''⟩ := hw'
    have hb := below_of hw''
    clear hw''
    replace hB := Bel.call hB hb
    clear hb
    go_wp2_with (go_at_call 33; refine (C45 _).mono ?_; rintro e w4 ⟨rfl, hb⟩)
    exact bodyPost_ret (v := .tuple #[.int .i64 0, .int .i64 10]) (by simp [results, Tryz.results12, go_sem]) rfl ⟨rfl, Bel.call hB hb⟩
  · subst hr
    go_enter Tryz.func12, Tryz.ntmps12
    go_wp2_with (go_at_call 31; refine (C43 _).mono ?_; rintro e w1 ⟨rfl, hB⟩)
    refine wp_region_quiet_below (by kernel_rfl) (by kernel_rfl) ?_
    repeat (go_big_quiet_step (first | (go_at_call 32; first | with_reducible exact Calls.regrown_of (V0 _) | with_reducible exact Calls.regrown_of (V1 _) | with_reducible exact Calls.regrown_of (V2 _))))
    refine wpQuiet_nil ?_
    intro w2 hw'
    obtain ⟨⟨dq, osq⟩, hw''⟩ := hw'
    have hb := below_of hw''
    clear hw''
    replace hB := Bel.call hB hb
    clear hb
    go_wp2_with fail
    refine wp_region_quiet_below (by kernel_rfl) (by kernel_rfl) ?_
    repeat (go_big_quiet_step (first | (go_at_call 32; first | with_reducible exact Calls.regrown_of (V3 _) | with_reducible exact Calls.regrown_of (V4 _) | with_reducible exact Calls.regrown_of (V5 _))))
    refine wpQuiet_nil ?_
    intro w3 hw'
    obtain ⟨⟨dq, osq⟩, hw''⟩ := hw'
    have hb := below_of hw''
    clear hw''
    replace hB := Bel.call hB hb
    clear hb
    go_wp2_with (go_at_call 33; refine (C45 _).mono ?_; rintro e w4 ⟨rfl, hb⟩)
    exact bodyPost_ret (v := .tuple #[.int .i64 0, .int .i64 10]) (by simp [results, Tryz.results12, go_sem]) rfl ⟨rfl, Bel.call hB hb⟩
  · subst hr
    have e1 : decide (23 < h) = false := decide_eq_false (by omega)
    go_enter Tryz.func12, Tryz.ntmps12
    go_wp2_with (go_at_call 31; refine (C43 _).mono ?_; rintro e w1 ⟨rfl, hB⟩)
    refine wp_region_quiet_below (by kernel_rfl) (by kernel_rfl) ?_
    repeat (go_big_quiet_step (first | (go_at_call 32; first | with_reducible exact Calls.regrown_of (V0 _) | with_reducible exact Calls.regrown_of (V1 _) | with_reducible exact Calls.regrown_of (V2 _))))
    refine wpQuiet_nil ?_
    intro w2 hw'
    obtain ⟨⟨dq, osq⟩, hw''⟩ := hw'
    have hb := below_of hw''
    clear hw''
    replace hB := Bel.call hB hb
    clear hb
    go_wp2_with fail
    refine wp_region_quiet_below (by kernel_rfl) (by kernel_rfl) ?_
    repeat (go_big_quiet_step (first | (go_at_call 32; first | with_reducible exact Calls.regrown_of (V3 _) | with_reducible exact Calls.regrown_of (V4 _) | with_reducible exact Calls.regrown_of (V5 _))))
    refine wpQuiet_nil ?_
    intro w3 hw'
    obtain ⟨⟨dq, osq⟩, hw''⟩ := hw'
    have hb := below_of hw''
    clear hw''
    replace hB := Bel.call hB hb
    clear hb
    go_wp2_with (go_at_call 33; refine (C45 _).mono ?_; rintro e w4 ⟨rfl, hb⟩)
    exact bodyPost_ret (v := .tuple #[.int .i64 0, .int .i64 10]) (by simp [results, Tryz.results12, go_sem]) rfl ⟨rfl, Bel.call hB hb⟩
  · subst hr
    have e1 : decide (23 < h) = false := decide_eq_false (by omega)
    have e2 : decide (59 < i) = false := decide_eq_false (by omega)
    go_enter Tryz.func12, Tryz.ntmps12
    go_wp2_with (go_at_call 31; refine (C43 _).mono ?_; rintro e w1 ⟨rfl, hB⟩)
    refine wp_region_quiet_below (by kernel_rfl) (by kernel_rfl) ?_
    repeat (go_big_quiet_step (first | (go_at_call 32; first | with_reducible exact Calls.regrown_of (V0 _) | with_reducible exact Calls.regrown_of (V1 _) | with_reducible exact Calls.regrown_of (V2 _))))
    refine wpQuiet_nil ?_
    intro w2 hw'
    obtain ⟨⟨dq, osq⟩, hw''⟩ := hw'
    have hb := below_of hw''
    clear hw''
    replace hB := Bel.call hB hb
    clear hb
    go_wp2_with fail
    refine wp_region_quiet_below (by kernel_rfl) (by kernel_rfl) ?_
    repeat (go_big_quiet_step (first | (go_at_call 32; first | with_reducible exact Calls.regrown_of (V3 _) | with_reducible exact Calls.regrown_of (V4 _) | with_reducible exact Calls.regrown_of (V5 _))))
    refine wpQuiet_nil ?_
    intro w3 hw'
    obtain ⟨⟨dq, osq⟩, hw''⟩ := hw'
    have hb := below_of hw''
    clear hw''
    replace hB := Bel.call hB hb
    clear hb
    go_wp2_with (go_at_call 33; refine (C45 _).mono ?_; rintro e w4 ⟨rfl, hb⟩)
    exact bodyPost_ret (v := .tuple #[.int .i64 0, .int .i64 10]) (by simp [results, Tryz.results12, go_sem]) rfl ⟨rfl, Bel.call hB hb⟩
set_option maxHeartbeats 2000000 in
theorem tt_good (s S0 S1 S2 S3 S4 S5 : ByteArray) (h15 : s.size = 15) (y m d h i q A : Int) (k : Nat) (F : Int) (f g : Nat → Int) (g1 : h ≤ 23) (g2 : i ≤ 59) (g3 : q ≤ 59) (hk : m = (k : Int) + 1) (k12 : k < 12) (Ab : 0 ≤ A ∧ A ≤ 4000000) (hf : Hid (f 0 = 0 ∧ (∀ j, f (j + 1) = f j + g j) ∧ (∀ j, 0 ≤ f j) ∧ (∀ j, j ≤ 12 → f j ≤ 372) ∧ (∀ j, 28 ≤ g j ∧ g j ≤ 31))) (hF : Hid (F = -62135596800 + (A + d - 1 + f k) * 86400 + (3600 * h + 60 * i + q)))
    (yb : 0 ≤ y ∧ y ≤ 9999) (mb : 0 ≤ m ∧ m ≤ 99) (db : 0 ≤ d ∧ d ≤ 99) (hb' : 0 ≤ h ∧ h ≤ 99) (ib : 0 ≤ i ∧ i ≤ 99) (qb : 0 ≤ q ∧ q ≤ 99)
    (K0 : ∀ W, (Instr.slice 9 (.string s) none (some (.int .i64 4)) none).run Tryz.prog W = .ok (.string S0) W)
    (K1 : ∀ W, (Instr.slice 9 (.string s) (some (.int .i64 4)) (some (.int .i64 6)) none).run Tryz.prog W = .ok (.string S1) W)
    (K2 : ∀ W, (Instr.slice 9 (.string s) (some (.int .i64 6)) (some (.int .i64 8)) none).run Tryz.prog W = .ok (.string S2) W)
    (K3 : ∀ W, (Instr.slice 9 (.string s) (some (.int .i64 8)) (some (.int .i64 10)) none).run Tryz.prog W = .ok (.string S3) W)
    (K4 : ∀ W, (Instr.slice 9 (.string s) (some (.int .i64 10)) (some (.int .i64 12)) none).run Tryz.prog W = .ok (.string S4) W)
    (K5 : ∀ W, (Instr.slice 9 (.string s) (some (.int .i64 12)) (some (.int .i64 14)) none).run Tryz.prog W = .ok (.string S5) W)
    (C43 : ∀ W, Calls Tryz.prog 31 #[.string s] W fun e w' => e = .returned (.bool true) ∧ Below W.heap.size W w')
    (V0 : ∀ W, Calls Tryz.prog 32 #[.string S0] W fun e w' => e = .returned (.int .i64 y) ∧ Below W.heap.size W w')
    (V1 : ∀ W, Calls Tryz.prog 32 #[.string S1] W fun e w' => e = .returned (.int .i64 m) ∧ Below W.heap.size W w')
    (V2 : ∀ W, Calls Tryz.prog 32 #[.string S2] W fun e w' => e = .returned (.int .i64 d) ∧ Below W.heap.size W w')
    (V3 : ∀ W, Calls Tryz.prog 32 #[.string S3] W fun e w' => e = .returned (.int .i64 h) ∧ Below W.heap.size W w')
    (V4 : ∀ W, Calls Tryz.prog 32 #[.string S4] W fun e w' => e = .returned (.int .i64 i) ∧ Below W.heap.size W w')
    (V5 : ∀ W, Calls Tryz.prog 32 #[.string S5] W fun e w' => e = .returned (.int .i64 q) ∧ Below W.heap.size W w')
    (C45 : ∀ W, Calls Tryz.prog 33 #[.int .i64 y, .int .i64 m, .int .i64 d] W fun e w' => e = .returned (.bool true) ∧ Below W.heap.size W w')
    (C46 : ∀ W, Calls Tryz.prog 34 #[.int .i64 y] W fun e w' => e = .returned (.int .i64 A) ∧ Below W.heap.size W w')
    (C47 : Hid (∀ (j : Nat) W, Calls Tryz.prog 35 #[.int .i64 y, .int .i64 ((j : Int) + 1)] W fun e w' => e = .returned (.int .i64 (g j)) ∧ Below W.heap.size W w')) (w : World) :
    Calls Tryz.prog 12 #[.string s] w fun e w' => e = .returned (.tuple #[.int .i64 F, .int .i64 0]) ∧ Below w.heap.size w w' := by
  have e1 : decide (23 < h) = false := decide_eq_false (by omega)
  have e2 : decide (59 < i) = false := decide_eq_false (by omega)
  have e3 : decide (59 < q) = false := decide_eq_false (by omega)
  subst hk
  go_enter Tryz.func12, Tryz.ntmps12
  go_wp2_with (go_at_call 31; refine (C43 _).mono ?_; rintro e w1 ⟨rfl, hB⟩)
  refine wp_region_quiet_below (by kernel_rfl) (by kernel_rfl) ?_
  repeat (go_big_quiet_step (first | (go_at_call 32; first | with_reducible exact Calls.regrown_of (V0 _) | with_reducible exact Calls.regrown_of (V1 _) | with_reducible exact Calls.regrown_of (V2 _))))
  refine wpQuiet_nil ?_
  intro w2 hw'
  obtain ⟨⟨dq, osq⟩, hw''⟩ := hw'
  have hb := below_of hw''
  clear hw''
  replace hB := Bel.call hB hb
  clear hb
  go_wp2_with fail
  refine wp_region_quiet_below (by kernel_rfl) (by kernel_rfl) ?_
  repeat (go_big_quiet_step (first | (go_at_call 32; first | with_reducible exact Calls.regrown_of (V3 _) | with_reducible exact Calls.regrown_of (V4 _) | with_reducible exact Calls.regrown_of (V5 _))))
  refine wpQuiet_nil ?_
  intro w3 hw'
  obtain ⟨⟨dq, osq⟩, hw''⟩ := hw'
  have hb := below_of hw''
  clear hw''
  replace hB := Bel.call hB hb
  clear hb
  clear V0 V1 V2 V3 V4 V5 K0 K1 K2 K3 K4 K5 C43
  go_wp2_with (first | (go_at_call 33; refine (C45 _).mono ?_; rintro e w4 ⟨rfl, hb⟩) | (go_at_call 34; refine (C46 _).mono ?_; rintro e w5 ⟨rfl, hb5⟩))
  replace hB := Bel.call (Bel.call hB hb) hb5
  clear hb hb5 C45 C46 e1 e2 e3
  have d0 := db.1
  have d1 := db.2
  have A0 := Ab.1
  have A1 := Ab.2
  go_loopw [10, 11] (fun s10 s11 wr => ∃ j : Nat, j ≤ k ∧ s10 = .int .i64 (A + d - 1 + f j) ∧ s11 = .int .i64 ((j : Int) + 1) ∧ Below w.heap.size w wr) (fun _ s11 _ => k + 1 - (intOf s11).toNat)
  case atStart =>
    refine ⟨0, by omega, ?_, by simp, hB⟩
    rw [hf.out.1]; simp
  case round =>
    clear hB
    obtain ⟨j, hj, rfl, rfl, hB⟩ := hrel
    obtain ⟨f0, fs, fn, fb, gb⟩ := hf.out
    have b1 := fn j
    have b2 := fb j (by omega)
    have b3 := gb j
    have b4 := fs j
    have CJ := C47.out j
    have j0 : (0 : Int) ≤ (j : Int) := by omega
    have j1 : (j : Int) ≤ 12 := by omega
    by_cases hlt : j < k
    · have HN : Hid (A + d - 1 + f j + g j = A + d - 1 + f (j + 1)) := by show _ = _; omega
      have hl1 : (j : Int) + 1 < (k : Int) + 1 := by omega
      clear f0 fs fn fb gb b4 C47
      generalize f j = x at *
      generalize g j = z at *
      go_wp2_with (go_at_call 35; refine (CJ _).mono ?_; rintro e w6 ⟨rfl, hb⟩)
      exact ⟨⟨j + 1, by omega, by first | rw [HN.out] | (rw [← HN.out]; go_num), by go_num, Bel.call hB hb⟩, by simp [intOf]; omega⟩
    · obtain rfl : j = k := by omega
      clear f0 fs fn fb gb b4 C47 CJ
      have HF := hF
      generalize hx : f j = x at *
      obtain ⟨u, hu⟩ : ∃ u, A + d - 1 + x = u := ⟨_, rfl⟩
      have u0 : -1 ≤ u := by omega
      have u1 : u ≤ 5000000 := by omega
      rw [hu]
      rw [hu] at hF
      have HU : Hid (F = -62135596800 + u * 86400 + (3600 * h + 60 * i + q)) := hF
      clear HF hF hu hx hf
      have h0 := hb'.1
      have i0 := ib.1
      have q0 := qb.1
      go_wp2_with fail
      exact bodyPost_ret (v := .tuple #[.int .i64 F, .int .i64 0]) (by rw [HU.out]; simp [results, Tryz.results12, go_sem]) rfl ⟨rfl, hB⟩
end Go.Proofs.YtajdfjpcobaioaaGreatDoor
