/- The statement ModInverse's function answers true, whatever the numbers: the walk. -/
import Derived.Test.YtcipmgommoflgaaL8
import Derived.Test.YtcipmgommoflgaaR1
import Derived.Test.YtcipmgommoflgaaR2
set_option linter.all false
namespace Go.Proofs.Ytcipmgommoflgaa
open Go.RowKit Go.Sort
theorem kpow {x y M : Int} (hx : In x) (hy : In y) (hM : In M) (w : World) : Calls Try.prog 25 #[nv x, nv y, nv M] w fun e w' => e = .returned (nv (md (x ^ y.toNat) M)) ∧ Below w.heap.size w w' := pow_any x y M hx.1 hx.2 hy.1 hy.2 hM.1 hM.2 w
theorem eq_zero (a : Int) (h : In a) : (lim a 0 == 0 && (lim a 1 == 0 && (lim a 2 == 0 && lim a 3 == 0))) = decide (a = 0) := by
  by_cases c : a = 0
  · subst c; decide
  · rw [decide_eq_false c]
    exact nzM h (by have := h.1; omega)
theorem k28 {M : Int} (hM : In M) (h : 2 < M) (w : World) : Calls Try.prog 28 #[nv M, .agg #[.int .u64 2, .int .u64 0, .int .u64 0, .int .u64 0]] w fun e w' => e = .returned (.tuple #[nv (M - 2), .int .u64 0]) ∧ Below w.heap.size w w' := by
  have := refSub_raw M 2 w
  rw [bw_four M 2 hM.1 hM.2 (by omega) (by decide), nv_sm 2 (by omega) (by omega)] at this
  have e : bor M 2 = 0 := by unfold bor; rw [if_neg (by omega)]
  rw [e] at this
  exact this
theorem k29 {x y c : Int} (hx : In x) (hy : In y) (hc : lim (x + y) 4 = c) (w : World) : Calls Try.prog 29 #[nv x, nv y] w fun e w' => e = .returned (.tuple #[nv (x + y), .int .u64 c]) ∧ Below w.heap.size w w' := by
  have := refAdd_raw x y w
  rw [cy_four x y hx.1 hx.2 hy.1 hy.2, hc] at this
  exact this
theorem R4.al2 {w : World} {b : Nat} {f : Nat → Value} (h : R4 w b f) (o o' : Obj) : R4 ((w.alloc o).alloc o') b f := R4.al (R4.al h (r4lt h) o) (r4lt (R4.al h (r4lt h) o)) o'
/-- What the walk carries behind the prime's choice. -/
def IC (w : World) (b9 : Nat) (A X Y M : Int) (wx : World) : Prop :=
  Arr wx b9 4 (fun j => .int .u64 (lim M j)) ∧ R4 wx w.heap.size (fun j => .int .u64 (lim A j)) ∧ R4 wx (w.heap.size + 1) (fun j => .int .u64 (lim X j)) ∧ R4 wx (w.heap.size + 1 + 1) (fun j => .int .u64 (lim Y j)) ∧ Below w.heap.size w wx
attribute [local go_sem] eq24
set_option maxRecDepth 100000 in
set_option maxHeartbeats 8000000 in
theorem inverse_core (A X Y n u : Int) (iA : In A) (iX : In X) (iY : In Y) (hu : IntKind.u64.wrap n = u) (u0 : 0 ≤ u) (u1 : u < 18446744073709551616) (w : World) :
    Calls Try.prog 6 #[nv A, nv X, nv Y, .int .i64 n] w fun e w' => e = .returned (.bool true) ∧ Below w.heap.size w w' := by
  go_enter Try.func6, Try.ntmps6
  go_upto_region 1 with fail
  go_cut [9] from 16 to 25 (fun s9 wx => ∃ (b9 : Nat) (M : Int), s9 = .pointer (some ⟨b9, 0, none⟩) ∧ PM M ∧ IC w b9 A X Y M wx)
  case first =>
    have h3 : u % 3 = 0 ∨ u % 3 = 1 ∨ u % 3 = 2 := by omega
    go_wp2_with fail
    refine (k8 _).mono ?_
    rintro e wa ⟨rfl, hba⟩
    have RA : R4 wa (w.heap.size) (fun j => .int .u64 (lim A j)) := R4.to (R4.of (by simp [go_sem]) (by simp [go_sem]) (by simp [go_sem]) (by simp [go_sem])) hba (by go_size)
    have RX : R4 wa (w.heap.size + 1) (fun j => .int .u64 (lim X j)) := R4.to (R4.of (by simp [go_sem]) (by simp [go_sem]) (by simp [go_sem]) (by simp [go_sem])) hba (by go_size)
    have RY : R4 wa (w.heap.size + 1 + 1) (fun j => .int .u64 (lim Y j)) := R4.to (R4.of (by simp [go_sem]) (by simp [go_sem]) (by simp [go_sem]) (by simp [go_sem])) hba (by go_size)
    have hB1 : Below w.heap.size w wa := Below.trans (by go_grown) (hba.mono (by go_size))
    clear hba
    go_wp2_with fail
    refine (k10 _).mono ?_
    rintro e wb ⟨rfl, hbb⟩
    go_wp2_with fail
    refine (k12 _).mono ?_
    rintro e wc ⟨rfl, hbc⟩
    have hab := Bel.call hbb hbc
    have SA := R4.to RA hab (r4lt RA)
    have SX := R4.to RX hab (r4lt RX)
    have SY := R4.to RY hab (r4lt RY)
    have hB2 := Bel.call hB1 hab
    clear hbb hbc hab RA RX RY hB1
    rcases h3 with h3 | h3 | h3
    · go_wp2_with fail
      go_meet
      case rel =>
        exact ⟨_, P1, rfl, pm1, Arr.mk4 (by simp [go_sem]) (by simp [go_sem]) (by simp [go_sem]) (by simp [go_sem]) (by simp [go_sem]) (by simp [go_sem]) (by simp [go_sem]) (by simp [go_sem]), R4.al2 SA _ _, R4.al2 SX _ _, R4.al2 SY _ _, Bel.al (Bel.al hB2 _) _⟩
    · go_wp2_with fail
      go_meet
      case rel =>
        exact ⟨_, P2, rfl, pm2, Arr.mk4 (by simp [go_sem]) (by simp [go_sem]) (by simp [go_sem]) (by simp [go_sem]) (by simp [go_sem]) (by simp [go_sem]) (by simp [go_sem]) (by simp [go_sem]), R4.al2 SA _ _, R4.al2 SX _ _, R4.al2 SY _ _, Bel.al (Bel.al hB2 _) _⟩
    · go_wp2_with fail
      go_meet
      case rel =>
        exact ⟨_, P3, rfl, pm3, Arr.mk4 (by simp [go_sem]) (by simp [go_sem]) (by simp [go_sem]) (by simp [go_sem]) (by simp [go_sem]) (by simp [go_sem]) (by simp [go_sem]) (by simp [go_sem]), R4.al2 SA _ _, R4.al2 SX _ _, R4.al2 SY _ _, Bel.al (Bel.al hB2 _) _⟩
  case rest =>
    clear hu u0 u1
    obtain ⟨b9, M, rfl, hPM, A9, RA, RX, RY, hB⟩ := hcut
    obtain ⟨iM, hM2, hPr⟩ := id hPM
    have hM0 : 0 < M := by omega
    have iM2 : In (M - 2) := ⟨by omega, by have := iM.2; omega⟩
    have c9 := A9.c
    have ca := RA
    go_wp2_with fail
    refine (inv_any A M iA.1 iA.2 iM.1 iM.2 _).mono ?_
    rintro e w1 ⟨⟨x, ok, ⟨x0, h1, h2, h3⟩, rfl⟩, hb⟩
    have B9 := A9.below hb A9.lt
    have TA := R4.to RA hb (r4lt RA)
    have TX := R4.to RX hb (r4lt RX)
    have TY := R4.to RY hb (r4lt RY)
    have hB1 := Bel.call hB hb
    have e9 := fun o => (B9.alloc B9.lt o).c
    have ea := fun o => R4.al TA (r4lt TA) o
    clear hb A9 RA RX RY hB c9 ca
    go_wp2_with fail
    refine (k14 iA iM _).mono ?_
    rintro e w2 ⟨rfl, hb2⟩
    have C9 := (B9.alloc B9.lt (.cells #[.int .u64 (lim x 0), .int .u64 (lim x 1), .int .u64 (lim x 2), .int .u64 (lim x 3)] 24)).below hb2 (B9.alloc B9.lt (.cells #[.int .u64 (lim x 0), .int .u64 (lim x 1), .int .u64 (lim x 2), .int .u64 (lim x 3)] 24)).lt
    have UA := R4.to (R4.al TA (r4lt TA) (.cells #[.int .u64 (lim x 0), .int .u64 (lim x 1), .int .u64 (lim x 2), .int .u64 (lim x 3)] 24)) hb2 (r4lt (R4.al TA (r4lt TA) (.cells #[.int .u64 (lim x 0), .int .u64 (lim x 1), .int .u64 (lim x 2), .int .u64 (lim x 3)] 24)))
    have UX := R4.to (R4.al TX (r4lt TX) (.cells #[.int .u64 (lim x 0), .int .u64 (lim x 1), .int .u64 (lim x 2), .int .u64 (lim x 3)] 24)) hb2 (r4lt (R4.al TX (r4lt TX) (.cells #[.int .u64 (lim x 0), .int .u64 (lim x 1), .int .u64 (lim x 2), .int .u64 (lim x 3)] 24)))
    have UY := R4.to (R4.al TY (r4lt TY) (.cells #[.int .u64 (lim x 0), .int .u64 (lim x 1), .int .u64 (lim x 2), .int .u64 (lim x 3)] 24)) hb2 (r4lt (R4.al TY (r4lt TY) (.cells #[.int .u64 (lim x 0), .int .u64 (lim x 1), .int .u64 (lim x 2), .int .u64 (lim x 3)] 24)))
    have T10 := Arr.mk4 (w := w1.alloc (.cells #[.int .u64 (lim x 0), .int .u64 (lim x 1), .int .u64 (lim x 2), .int .u64 (lim x 3)] 24)) (b := w1.heap.size) (f := fun j => .int .u64 (lim x j)) (by simp [go_sem]) (by simp [go_sem]) (by simp [go_sem]) (by simp [go_sem]) (by simp [go_sem]) (by simp [go_sem]) (by simp [go_sem]) (by simp [go_sem])
    have C10 := T10.below hb2 T10.lt
    have hB2 := Bel.call (Bel.al hB1 (.cells #[.int .u64 (lim x 0), .int .u64 (lim x 1), .int .u64 (lim x 2), .int .u64 (lim x 3)] 24)) hb2
    clear hb2 B9 TA TX TY T10 hB1 e9 ea
    have d9' := C9.c
    have ez := eq_zero (md A M) (iM.md A)
    cases ok
    · skip
      have hnz : md A M = 0 := Classical.byContradiction fun hn => by
        have : (false : Bool) = true := h3.2 ⟨hM0, (hPM.iff iA.1).2 hn⟩
        cases this
      rw [decide_eq_true hnz] at ez
      clear h1 h2 h3 hnz
      go_wp2_with fail
      refine (k28 iM hM2 _).mono ?_
      rintro e w3 ⟨rfl, hb3⟩
      have D9 := C9.below hb3 C9.lt
      have DA := R4.to UA hb3 (r4lt UA)
      have DX := R4.to UX hb3 (r4lt UX)
      have DY := R4.to UY hb3 (r4lt UY)
      have D10 := C10.below hb3 C10.lt
      have hB3 := Bel.call hB2 hb3
      clear hb3 C9 UA UX UY C10 hB2 d9' ez
      have H9 := D9.alloc D9.lt (.cells #[.int .u64 (lim (M - 2) 0), .int .u64 (lim (M - 2) 1), .int .u64 (lim (M - 2) 2), .int .u64 (lim (M - 2) 3)] 24)
      have HA := R4.al DA (r4lt DA) (.cells #[.int .u64 (lim (M - 2) 0), .int .u64 (lim (M - 2) 1), .int .u64 (lim (M - 2) 2), .int .u64 (lim (M - 2) 3)] 24)
      have HX := R4.al DX (r4lt DX) (.cells #[.int .u64 (lim (M - 2) 0), .int .u64 (lim (M - 2) 1), .int .u64 (lim (M - 2) 2), .int .u64 (lim (M - 2) 3)] 24)
      have HY := R4.al DY (r4lt DY) (.cells #[.int .u64 (lim (M - 2) 0), .int .u64 (lim (M - 2) 1), .int .u64 (lim (M - 2) 2), .int .u64 (lim (M - 2) 3)] 24)
      have H10 := D10.alloc D10.lt (.cells #[.int .u64 (lim (M - 2) 0), .int .u64 (lim (M - 2) 1), .int .u64 (lim (M - 2) 2), .int .u64 (lim (M - 2) 3)] 24)
      have H12 := Arr.mk4 (w := w3.alloc (.cells #[.int .u64 (lim (M - 2) 0), .int .u64 (lim (M - 2) 1), .int .u64 (lim (M - 2) 2), .int .u64 (lim (M - 2) 3)] 24)) (b := w3.heap.size) (f := fun j => .int .u64 (lim (M - 2) j)) (by simp [go_sem]) (by simp [go_sem]) (by simp [go_sem]) (by simp [go_sem]) (by simp [go_sem]) (by simp [go_sem]) (by simp [go_sem]) (by simp [go_sem])
      have p0 := fun ds os => cell_regrown (H9.c 0 (by omega)) ds os
      have p1 := fun ds os => cell_regrown (H9.c 1 (by omega)) ds os
      have p2 := fun ds os => cell_regrown (H9.c 2 (by omega)) ds os
      have p3 := fun ds os => cell_regrown (H9.c 3 (by omega)) ds os
      have q0 := fun ds os => cell_regrown (H10.c 0 (by omega)) ds os
      have q1 := fun ds os => cell_regrown (H10.c 1 (by omega)) ds os
      have q2 := fun ds os => cell_regrown (H10.c 2 (by omega)) ds os
      have q3 := fun ds os => cell_regrown (H10.c 3 (by omega)) ds os
      have ra0 := fun ds os => cell_regrown (HA 0 (by omega)) ds os
      have ra1 := fun ds os => cell_regrown (HA 1 (by omega)) ds os
      have ra2 := fun ds os => cell_regrown (HA 2 (by omega)) ds os
      have ra3 := fun ds os => cell_regrown (HA 3 (by omega)) ds os
      have rt0 := fun ds os => cell_regrown (H12.c 0 (by omega)) ds os
      have rt1 := fun ds os => cell_regrown (H12.c 1 (by omega)) ds os
      have rt2 := fun ds os => cell_regrown (H12.c 2 (by omega)) ds os
      have rt3 := fun ds os => cell_regrown (H12.c 3 (by omega)) ds os
      have hB4 := Bel.al hB3 (.cells #[.int .u64 (lim (M - 2) 0), .int .u64 (lim (M - 2) 1), .int .u64 (lim (M - 2) 2), .int .u64 (lim (M - 2) 3)] 24)
      clear D9 DA DX DY D10 hB3
      go_wp2_with fail
      refine wp_region_quiet_below (by kernel_rfl) (by kernel_rfl) ?_
      repeat (go_big_quiet_step (first | (go_at_call 20; fail) | (go_at_call 25; fail)))
      refine wpQuiet_nil ?_
      intro _ hw'
      obtain ⟨⟨dq, osq⟩, hw''⟩ := hw'
      subst hw''
      clear p0 p1 p2 p3 q0 q1 q2 q3 ra0 ra1 ra2 ra3 rt0 rt1 rt2 rt3
      have hbz := below_regrown (w3.alloc (.cells #[.int .u64 (lim (M - 2) 0), .int .u64 (lim (M - 2) 1), .int .u64 (lim (M - 2) 2), .int .u64 (lim (M - 2) 3)] 24)) dq osq
      generalize grow (redrawn (w3.alloc (.cells #[.int .u64 (lim (M - 2) 0), .int .u64 (lim (M - 2) 1), .int .u64 (lim (M - 2) 2), .int .u64 (lim (M - 2) 3)] 24)) dq) osq = w5 at *
      have E9 := H9.below hbz H9.lt
      have EA := R4.to HA hbz (r4lt HA)
      have EX := R4.to HX hbz (r4lt HX)
      have EY := R4.to HY hbz (r4lt HY)
      have hB5 := Bel.call hB4 hbz
      clear hbz H9 HA HX HY H10 H12 hB4
      have cx' := EX
      have cy' := EY
      go_wp2_with fail
      by_cases hs : X + Y < top256
      · have hc : lim (X + Y) 4 = 0 := lim4_0 (Int.add_nonneg iX.1 iY.1) hs
        have iS : In (X + Y) := ⟨Int.add_nonneg iX.1 iY.1, hs⟩
        have ES := pow_sum A X Y M iX.1 iY.1
        refine (k29 iX iY hc _).mono ?_
        rintro e w6 ⟨rfl, hb6⟩
        have F9 := E9.below hb6 E9.lt
        have FA := R4.to EA hb6 (r4lt EA)
        have FX := R4.to EX hb6 (r4lt EX)
        have FY := R4.to EY hb6 (r4lt EY)
        have hB6 := Bel.call hB5 hb6
        clear hb6 E9 EA EX EY hB5 cx' cy'
        have G9 := F9.alloc F9.lt (.cells #[.int .u64 (lim (X + Y) 0), .int .u64 (lim (X + Y) 1), .int .u64 (lim (X + Y) 2), .int .u64 (lim (X + Y) 3)] 24)
        have GA := R4.al FA (r4lt FA) (.cells #[.int .u64 (lim (X + Y) 0), .int .u64 (lim (X + Y) 1), .int .u64 (lim (X + Y) 2), .int .u64 (lim (X + Y) 3)] 24)
        have GX := R4.al FX (r4lt FX) (.cells #[.int .u64 (lim (X + Y) 0), .int .u64 (lim (X + Y) 1), .int .u64 (lim (X + Y) 2), .int .u64 (lim (X + Y) 3)] 24)
        have GY := R4.al FY (r4lt FY) (.cells #[.int .u64 (lim (X + Y) 0), .int .u64 (lim (X + Y) 1), .int .u64 (lim (X + Y) 2), .int .u64 (lim (X + Y) 3)] 24)
        have G14 := Arr.mk4 (w := w6.alloc (.cells #[.int .u64 (lim (X + Y) 0), .int .u64 (lim (X + Y) 1), .int .u64 (lim (X + Y) 2), .int .u64 (lim (X + Y) 3)] 24)) (b := w6.heap.size) (f := fun j => .int .u64 (lim (X + Y) j)) (by simp [go_sem]) (by simp [go_sem]) (by simp [go_sem]) (by simp [go_sem]) (by simp [go_sem]) (by simp [go_sem]) (by simp [go_sem]) (by simp [go_sem])
        have p0 := fun ds os => cell_regrown (G9.c 0 (by omega)) ds os
        have p1 := fun ds os => cell_regrown (G9.c 1 (by omega)) ds os
        have p2 := fun ds os => cell_regrown (G9.c 2 (by omega)) ds os
        have p3 := fun ds os => cell_regrown (G9.c 3 (by omega)) ds os
        have ra0 := fun ds os => cell_regrown (GA 0 (by omega)) ds os
        have ra1 := fun ds os => cell_regrown (GA 1 (by omega)) ds os
        have ra2 := fun ds os => cell_regrown (GA 2 (by omega)) ds os
        have ra3 := fun ds os => cell_regrown (GA 3 (by omega)) ds os
        have rx0 := fun ds os => cell_regrown (GX 0 (by omega)) ds os
        have rx1 := fun ds os => cell_regrown (GX 1 (by omega)) ds os
        have rx2 := fun ds os => cell_regrown (GX 2 (by omega)) ds os
        have rx3 := fun ds os => cell_regrown (GX 3 (by omega)) ds os
        have ry0 := fun ds os => cell_regrown (GY 0 (by omega)) ds os
        have ry1 := fun ds os => cell_regrown (GY 1 (by omega)) ds os
        have ry2 := fun ds os => cell_regrown (GY 2 (by omega)) ds os
        have ry3 := fun ds os => cell_regrown (GY 3 (by omega)) ds os
        have rs0 := fun ds os => cell_regrown (G14.c 0 (by omega)) ds os
        have rs1 := fun ds os => cell_regrown (G14.c 1 (by omega)) ds os
        have rs2 := fun ds os => cell_regrown (G14.c 2 (by omega)) ds os
        have rs3 := fun ds os => cell_regrown (G14.c 3 (by omega)) ds os
        clear hc
        go_wp2_with fail
        refine wp_region_quiet_below (by kernel_rfl) (by kernel_rfl) ?_
        repeat (go_big_quiet_step (first | (go_at_call 25; exact Calls.regrown_of (kpow iA (by assumption) iM _)) | (go_at_call 20; exact Calls.regrown_of (k20 (iM.md _) (iM.md _) iM _)) | (go_at_call 22; exact Calls.regrown_of (awake_any _))))
        refine wpQuiet_nil ?_
        intro _ hw'
        obtain ⟨⟨dq, osq⟩, hw''⟩ := hw'
        subst hw''
        have hBq := Bel.call (Bel.al hB6 (.cells #[.int .u64 (lim (X + Y) 0), .int .u64 (lim (X + Y) 1), .int .u64 (lim (X + Y) 2), .int .u64 (lim (X + Y) 3)] 24)) (below_regrown _ dq osq)
        generalize grow (redrawn (w6.alloc (.cells #[.int .u64 (lim (X + Y) 0), .int .u64 (lim (X + Y) 1), .int .u64 (lim (X + Y) 2), .int .u64 (lim (X + Y) 3)] 24)) dq) osq = wq at *
        clear p0 p1 p2 p3 ra0 ra1 ra2 ra3 rx0 rx1 rx2 rx3 ry0 ry1 ry2 ry3 rs0 rs1 rs2 rs3
        go_wp2
        go_ret
        exact ⟨rfl, hBq⟩
      · have hc : lim (X + Y) 4 = 1 := lim4_1 (by omega) (by have := iX.2; have := iY.2; omega)
        refine (k29 iX iY hc _).mono ?_
        rintro e w6 ⟨rfl, hb6⟩
        have F9 := E9.below hb6 E9.lt
        have FA := R4.to EA hb6 (r4lt EA)
        have FX := R4.to EX hb6 (r4lt EX)
        have FY := R4.to EY hb6 (r4lt EY)
        have hB6 := Bel.call hB5 hb6
        clear hb6 E9 EA EX EY hB5 cx' cy'
        have G9 := F9.alloc F9.lt (.cells #[.int .u64 (lim (X + Y) 0), .int .u64 (lim (X + Y) 1), .int .u64 (lim (X + Y) 2), .int .u64 (lim (X + Y) 3)] 24)
        have GA := R4.al FA (r4lt FA) (.cells #[.int .u64 (lim (X + Y) 0), .int .u64 (lim (X + Y) 1), .int .u64 (lim (X + Y) 2), .int .u64 (lim (X + Y) 3)] 24)
        have GX := R4.al FX (r4lt FX) (.cells #[.int .u64 (lim (X + Y) 0), .int .u64 (lim (X + Y) 1), .int .u64 (lim (X + Y) 2), .int .u64 (lim (X + Y) 3)] 24)
        have GY := R4.al FY (r4lt FY) (.cells #[.int .u64 (lim (X + Y) 0), .int .u64 (lim (X + Y) 1), .int .u64 (lim (X + Y) 2), .int .u64 (lim (X + Y) 3)] 24)
        have G14 := Arr.mk4 (w := w6.alloc (.cells #[.int .u64 (lim (X + Y) 0), .int .u64 (lim (X + Y) 1), .int .u64 (lim (X + Y) 2), .int .u64 (lim (X + Y) 3)] 24)) (b := w6.heap.size) (f := fun j => .int .u64 (lim (X + Y) j)) (by simp [go_sem]) (by simp [go_sem]) (by simp [go_sem]) (by simp [go_sem]) (by simp [go_sem]) (by simp [go_sem]) (by simp [go_sem]) (by simp [go_sem])
        have p0 := fun ds os => cell_regrown (G9.c 0 (by omega)) ds os
        have p1 := fun ds os => cell_regrown (G9.c 1 (by omega)) ds os
        have p2 := fun ds os => cell_regrown (G9.c 2 (by omega)) ds os
        have p3 := fun ds os => cell_regrown (G9.c 3 (by omega)) ds os
        have ra0 := fun ds os => cell_regrown (GA 0 (by omega)) ds os
        have ra1 := fun ds os => cell_regrown (GA 1 (by omega)) ds os
        have ra2 := fun ds os => cell_regrown (GA 2 (by omega)) ds os
        have ra3 := fun ds os => cell_regrown (GA 3 (by omega)) ds os
        have rx0 := fun ds os => cell_regrown (GX 0 (by omega)) ds os
        have rx1 := fun ds os => cell_regrown (GX 1 (by omega)) ds os
        have rx2 := fun ds os => cell_regrown (GX 2 (by omega)) ds os
        have rx3 := fun ds os => cell_regrown (GX 3 (by omega)) ds os
        have ry0 := fun ds os => cell_regrown (GY 0 (by omega)) ds os
        have ry1 := fun ds os => cell_regrown (GY 1 (by omega)) ds os
        have ry2 := fun ds os => cell_regrown (GY 2 (by omega)) ds os
        have ry3 := fun ds os => cell_regrown (GY 3 (by omega)) ds os
        have rs0 := fun ds os => cell_regrown (G14.c 0 (by omega)) ds os
        have rs1 := fun ds os => cell_regrown (G14.c 1 (by omega)) ds os
        have rs2 := fun ds os => cell_regrown (G14.c 2 (by omega)) ds os
        have rs3 := fun ds os => cell_regrown (G14.c 3 (by omega)) ds os
        clear hc
        go_wp2_with fail
        refine wp_region_quiet_below (by kernel_rfl) (by kernel_rfl) ?_
        repeat (go_big_quiet_step (first | (go_at_call 25; exact Calls.regrown_of (kpow iA (by assumption) iM _)) | (go_at_call 20; exact Calls.regrown_of (k20 (iM.md _) (iM.md _) iM _)) | (go_at_call 22; exact Calls.regrown_of (awake_any _))))
        refine wpQuiet_nil ?_
        intro _ hw'
        obtain ⟨⟨dq, osq⟩, hw''⟩ := hw'
        subst hw''
        have hBq := Bel.call (Bel.al hB6 (.cells #[.int .u64 (lim (X + Y) 0), .int .u64 (lim (X + Y) 1), .int .u64 (lim (X + Y) 2), .int .u64 (lim (X + Y) 3)] 24)) (below_regrown _ dq osq)
        generalize grow (redrawn (w6.alloc (.cells #[.int .u64 (lim (X + Y) 0), .int .u64 (lim (X + Y) 1), .int .u64 (lim (X + Y) 2), .int .u64 (lim (X + Y) 3)] 24)) dq) osq = wq at *
        clear p0 p1 p2 p3 ra0 ra1 ra2 ra3 rx0 rx1 rx2 rx3 ry0 ry1 ry2 ry3 rs0 rs1 rs2 rs3
        go_wp2
        go_ret
        exact ⟨rfl, hBq⟩
    · skip
      obtain ⟨hxm, hdv⟩ := h1 rfl
      have hg := (h3.1 rfl).2
      have hnz := (hPM.iff iA.1).1 hg
      rw [decide_eq_false hnz] at ez
      have iXx : In x := ⟨x0, by have := iM.2; omega⟩
      have EQ1 : md (A * x) M = 1 := by
        have h10 : md (A * x) M = md 1 M := by
          rw [md_pos _ hM0, md_pos _ hM0]
          exact Int.emod_eq_emod_iff_emod_sub_eq_zero.2 (Int.emod_eq_zero_of_dvd hdv)
        rw [h10, md_pos _ hM0]
        exact Int.emod_eq_of_lt (by omega) (by omega)
      have EQ2 := hPM.fermat iA.1 hg x0 hxm hdv
      have eo : (lim 1 0 == 1 && (lim 1 1 == 0 && (lim 1 2 == 0 && lim 1 3 == 0))) = true := by decide
      clear h1 h2 h3 hdv hg hnz hxm
      go_wp2_with fail
      refine (k28 iM hM2 _).mono ?_
      rintro e w3 ⟨rfl, hb3⟩
      have D9 := C9.below hb3 C9.lt
      have DA := R4.to UA hb3 (r4lt UA)
      have DX := R4.to UX hb3 (r4lt UX)
      have DY := R4.to UY hb3 (r4lt UY)
      have D10 := C10.below hb3 C10.lt
      have hB3 := Bel.call hB2 hb3
      clear hb3 C9 UA UX UY C10 hB2 d9' ez
      have H9 := D9.alloc D9.lt (.cells #[.int .u64 (lim (M - 2) 0), .int .u64 (lim (M - 2) 1), .int .u64 (lim (M - 2) 2), .int .u64 (lim (M - 2) 3)] 24)
      have HA := R4.al DA (r4lt DA) (.cells #[.int .u64 (lim (M - 2) 0), .int .u64 (lim (M - 2) 1), .int .u64 (lim (M - 2) 2), .int .u64 (lim (M - 2) 3)] 24)
      have HX := R4.al DX (r4lt DX) (.cells #[.int .u64 (lim (M - 2) 0), .int .u64 (lim (M - 2) 1), .int .u64 (lim (M - 2) 2), .int .u64 (lim (M - 2) 3)] 24)
      have HY := R4.al DY (r4lt DY) (.cells #[.int .u64 (lim (M - 2) 0), .int .u64 (lim (M - 2) 1), .int .u64 (lim (M - 2) 2), .int .u64 (lim (M - 2) 3)] 24)
      have H10 := D10.alloc D10.lt (.cells #[.int .u64 (lim (M - 2) 0), .int .u64 (lim (M - 2) 1), .int .u64 (lim (M - 2) 2), .int .u64 (lim (M - 2) 3)] 24)
      have H12 := Arr.mk4 (w := w3.alloc (.cells #[.int .u64 (lim (M - 2) 0), .int .u64 (lim (M - 2) 1), .int .u64 (lim (M - 2) 2), .int .u64 (lim (M - 2) 3)] 24)) (b := w3.heap.size) (f := fun j => .int .u64 (lim (M - 2) j)) (by simp [go_sem]) (by simp [go_sem]) (by simp [go_sem]) (by simp [go_sem]) (by simp [go_sem]) (by simp [go_sem]) (by simp [go_sem]) (by simp [go_sem])
      have p0 := fun ds os => cell_regrown (H9.c 0 (by omega)) ds os
      have p1 := fun ds os => cell_regrown (H9.c 1 (by omega)) ds os
      have p2 := fun ds os => cell_regrown (H9.c 2 (by omega)) ds os
      have p3 := fun ds os => cell_regrown (H9.c 3 (by omega)) ds os
      have q0 := fun ds os => cell_regrown (H10.c 0 (by omega)) ds os
      have q1 := fun ds os => cell_regrown (H10.c 1 (by omega)) ds os
      have q2 := fun ds os => cell_regrown (H10.c 2 (by omega)) ds os
      have q3 := fun ds os => cell_regrown (H10.c 3 (by omega)) ds os
      have ra0 := fun ds os => cell_regrown (HA 0 (by omega)) ds os
      have ra1 := fun ds os => cell_regrown (HA 1 (by omega)) ds os
      have ra2 := fun ds os => cell_regrown (HA 2 (by omega)) ds os
      have ra3 := fun ds os => cell_regrown (HA 3 (by omega)) ds os
      have rt0 := fun ds os => cell_regrown (H12.c 0 (by omega)) ds os
      have rt1 := fun ds os => cell_regrown (H12.c 1 (by omega)) ds os
      have rt2 := fun ds os => cell_regrown (H12.c 2 (by omega)) ds os
      have rt3 := fun ds os => cell_regrown (H12.c 3 (by omega)) ds os
      have hB4 := Bel.al hB3 (.cells #[.int .u64 (lim (M - 2) 0), .int .u64 (lim (M - 2) 1), .int .u64 (lim (M - 2) 2), .int .u64 (lim (M - 2) 3)] 24)
      clear D9 DA DX DY D10 hB3
      go_wp2_with fail
      refine wp_region_quiet_below (by kernel_rfl) (by kernel_rfl) ?_
      repeat (go_big_quiet_step (first | (go_at_call 20; exact Calls.regrown_of (k20 iA iXx iM _)) | (go_at_call 25; exact Calls.regrown_of (kpow iA iM2 iM _))))
      refine wpQuiet_nil ?_
      intro _ hw'
      obtain ⟨⟨dq, osq⟩, hw''⟩ := hw'
      subst hw''
      clear p0 p1 p2 p3 q0 q1 q2 q3 ra0 ra1 ra2 ra3 rt0 rt1 rt2 rt3
      have hbz := below_regrown (w3.alloc (.cells #[.int .u64 (lim (M - 2) 0), .int .u64 (lim (M - 2) 1), .int .u64 (lim (M - 2) 2), .int .u64 (lim (M - 2) 3)] 24)) dq osq
      generalize grow (redrawn (w3.alloc (.cells #[.int .u64 (lim (M - 2) 0), .int .u64 (lim (M - 2) 1), .int .u64 (lim (M - 2) 2), .int .u64 (lim (M - 2) 3)] 24)) dq) osq = w5 at *
      have E9 := H9.below hbz H9.lt
      have EA := R4.to HA hbz (r4lt HA)
      have EX := R4.to HX hbz (r4lt HX)
      have EY := R4.to HY hbz (r4lt HY)
      have hB5 := Bel.call hB4 hbz
      clear hbz H9 HA HX HY H10 H12 hB4
      have cx' := EX
      have cy' := EY
      go_wp2_with fail
      by_cases hs : X + Y < top256
      · have hc : lim (X + Y) 4 = 0 := lim4_0 (Int.add_nonneg iX.1 iY.1) hs
        have iS : In (X + Y) := ⟨Int.add_nonneg iX.1 iY.1, hs⟩
        have ES := pow_sum A X Y M iX.1 iY.1
        refine (k29 iX iY hc _).mono ?_
        rintro e w6 ⟨rfl, hb6⟩
        have F9 := E9.below hb6 E9.lt
        have FA := R4.to EA hb6 (r4lt EA)
        have FX := R4.to EX hb6 (r4lt EX)
        have FY := R4.to EY hb6 (r4lt EY)
        have hB6 := Bel.call hB5 hb6
        clear hb6 E9 EA EX EY hB5 cx' cy'
        have G9 := F9.alloc F9.lt (.cells #[.int .u64 (lim (X + Y) 0), .int .u64 (lim (X + Y) 1), .int .u64 (lim (X + Y) 2), .int .u64 (lim (X + Y) 3)] 24)
        have GA := R4.al FA (r4lt FA) (.cells #[.int .u64 (lim (X + Y) 0), .int .u64 (lim (X + Y) 1), .int .u64 (lim (X + Y) 2), .int .u64 (lim (X + Y) 3)] 24)
        have GX := R4.al FX (r4lt FX) (.cells #[.int .u64 (lim (X + Y) 0), .int .u64 (lim (X + Y) 1), .int .u64 (lim (X + Y) 2), .int .u64 (lim (X + Y) 3)] 24)
        have GY := R4.al FY (r4lt FY) (.cells #[.int .u64 (lim (X + Y) 0), .int .u64 (lim (X + Y) 1), .int .u64 (lim (X + Y) 2), .int .u64 (lim (X + Y) 3)] 24)
        have G14 := Arr.mk4 (w := w6.alloc (.cells #[.int .u64 (lim (X + Y) 0), .int .u64 (lim (X + Y) 1), .int .u64 (lim (X + Y) 2), .int .u64 (lim (X + Y) 3)] 24)) (b := w6.heap.size) (f := fun j => .int .u64 (lim (X + Y) j)) (by simp [go_sem]) (by simp [go_sem]) (by simp [go_sem]) (by simp [go_sem]) (by simp [go_sem]) (by simp [go_sem]) (by simp [go_sem]) (by simp [go_sem])
        have p0 := fun ds os => cell_regrown (G9.c 0 (by omega)) ds os
        have p1 := fun ds os => cell_regrown (G9.c 1 (by omega)) ds os
        have p2 := fun ds os => cell_regrown (G9.c 2 (by omega)) ds os
        have p3 := fun ds os => cell_regrown (G9.c 3 (by omega)) ds os
        have ra0 := fun ds os => cell_regrown (GA 0 (by omega)) ds os
        have ra1 := fun ds os => cell_regrown (GA 1 (by omega)) ds os
        have ra2 := fun ds os => cell_regrown (GA 2 (by omega)) ds os
        have ra3 := fun ds os => cell_regrown (GA 3 (by omega)) ds os
        have rx0 := fun ds os => cell_regrown (GX 0 (by omega)) ds os
        have rx1 := fun ds os => cell_regrown (GX 1 (by omega)) ds os
        have rx2 := fun ds os => cell_regrown (GX 2 (by omega)) ds os
        have rx3 := fun ds os => cell_regrown (GX 3 (by omega)) ds os
        have ry0 := fun ds os => cell_regrown (GY 0 (by omega)) ds os
        have ry1 := fun ds os => cell_regrown (GY 1 (by omega)) ds os
        have ry2 := fun ds os => cell_regrown (GY 2 (by omega)) ds os
        have ry3 := fun ds os => cell_regrown (GY 3 (by omega)) ds os
        have rs0 := fun ds os => cell_regrown (G14.c 0 (by omega)) ds os
        have rs1 := fun ds os => cell_regrown (G14.c 1 (by omega)) ds os
        have rs2 := fun ds os => cell_regrown (G14.c 2 (by omega)) ds os
        have rs3 := fun ds os => cell_regrown (G14.c 3 (by omega)) ds os
        clear hc
        go_wp2_with fail
        refine wp_region_quiet_below (by kernel_rfl) (by kernel_rfl) ?_
        repeat (go_big_quiet_step (first | (go_at_call 25; exact Calls.regrown_of (kpow iA (by assumption) iM _)) | (go_at_call 20; exact Calls.regrown_of (k20 (iM.md _) (iM.md _) iM _)) | (go_at_call 22; exact Calls.regrown_of (awake_any _))))
        refine wpQuiet_nil ?_
        intro _ hw'
        obtain ⟨⟨dq, osq⟩, hw''⟩ := hw'
        subst hw''
        have hBq := Bel.call (Bel.al hB6 (.cells #[.int .u64 (lim (X + Y) 0), .int .u64 (lim (X + Y) 1), .int .u64 (lim (X + Y) 2), .int .u64 (lim (X + Y) 3)] 24)) (below_regrown _ dq osq)
        generalize grow (redrawn (w6.alloc (.cells #[.int .u64 (lim (X + Y) 0), .int .u64 (lim (X + Y) 1), .int .u64 (lim (X + Y) 2), .int .u64 (lim (X + Y) 3)] 24)) dq) osq = wq at *
        clear p0 p1 p2 p3 ra0 ra1 ra2 ra3 rx0 rx1 rx2 rx3 ry0 ry1 ry2 ry3 rs0 rs1 rs2 rs3
        go_wp2
        go_ret
        exact ⟨rfl, hBq⟩
      · have hc : lim (X + Y) 4 = 1 := lim4_1 (by omega) (by have := iX.2; have := iY.2; omega)
        refine (k29 iX iY hc _).mono ?_
        rintro e w6 ⟨rfl, hb6⟩
        have F9 := E9.below hb6 E9.lt
        have FA := R4.to EA hb6 (r4lt EA)
        have FX := R4.to EX hb6 (r4lt EX)
        have FY := R4.to EY hb6 (r4lt EY)
        have hB6 := Bel.call hB5 hb6
        clear hb6 E9 EA EX EY hB5 cx' cy'
        have G9 := F9.alloc F9.lt (.cells #[.int .u64 (lim (X + Y) 0), .int .u64 (lim (X + Y) 1), .int .u64 (lim (X + Y) 2), .int .u64 (lim (X + Y) 3)] 24)
        have GA := R4.al FA (r4lt FA) (.cells #[.int .u64 (lim (X + Y) 0), .int .u64 (lim (X + Y) 1), .int .u64 (lim (X + Y) 2), .int .u64 (lim (X + Y) 3)] 24)
        have GX := R4.al FX (r4lt FX) (.cells #[.int .u64 (lim (X + Y) 0), .int .u64 (lim (X + Y) 1), .int .u64 (lim (X + Y) 2), .int .u64 (lim (X + Y) 3)] 24)
        have GY := R4.al FY (r4lt FY) (.cells #[.int .u64 (lim (X + Y) 0), .int .u64 (lim (X + Y) 1), .int .u64 (lim (X + Y) 2), .int .u64 (lim (X + Y) 3)] 24)
        have G14 := Arr.mk4 (w := w6.alloc (.cells #[.int .u64 (lim (X + Y) 0), .int .u64 (lim (X + Y) 1), .int .u64 (lim (X + Y) 2), .int .u64 (lim (X + Y) 3)] 24)) (b := w6.heap.size) (f := fun j => .int .u64 (lim (X + Y) j)) (by simp [go_sem]) (by simp [go_sem]) (by simp [go_sem]) (by simp [go_sem]) (by simp [go_sem]) (by simp [go_sem]) (by simp [go_sem]) (by simp [go_sem])
        have p0 := fun ds os => cell_regrown (G9.c 0 (by omega)) ds os
        have p1 := fun ds os => cell_regrown (G9.c 1 (by omega)) ds os
        have p2 := fun ds os => cell_regrown (G9.c 2 (by omega)) ds os
        have p3 := fun ds os => cell_regrown (G9.c 3 (by omega)) ds os
        have ra0 := fun ds os => cell_regrown (GA 0 (by omega)) ds os
        have ra1 := fun ds os => cell_regrown (GA 1 (by omega)) ds os
        have ra2 := fun ds os => cell_regrown (GA 2 (by omega)) ds os
        have ra3 := fun ds os => cell_regrown (GA 3 (by omega)) ds os
        have rx0 := fun ds os => cell_regrown (GX 0 (by omega)) ds os
        have rx1 := fun ds os => cell_regrown (GX 1 (by omega)) ds os
        have rx2 := fun ds os => cell_regrown (GX 2 (by omega)) ds os
        have rx3 := fun ds os => cell_regrown (GX 3 (by omega)) ds os
        have ry0 := fun ds os => cell_regrown (GY 0 (by omega)) ds os
        have ry1 := fun ds os => cell_regrown (GY 1 (by omega)) ds os
        have ry2 := fun ds os => cell_regrown (GY 2 (by omega)) ds os
        have ry3 := fun ds os => cell_regrown (GY 3 (by omega)) ds os
        have rs0 := fun ds os => cell_regrown (G14.c 0 (by omega)) ds os
        have rs1 := fun ds os => cell_regrown (G14.c 1 (by omega)) ds os
        have rs2 := fun ds os => cell_regrown (G14.c 2 (by omega)) ds os
        have rs3 := fun ds os => cell_regrown (G14.c 3 (by omega)) ds os
        clear hc
        go_wp2_with fail
        refine wp_region_quiet_below (by kernel_rfl) (by kernel_rfl) ?_
        repeat (go_big_quiet_step (first | (go_at_call 25; exact Calls.regrown_of (kpow iA (by assumption) iM _)) | (go_at_call 20; exact Calls.regrown_of (k20 (iM.md _) (iM.md _) iM _)) | (go_at_call 22; exact Calls.regrown_of (awake_any _))))
        refine wpQuiet_nil ?_
        intro _ hw'
        obtain ⟨⟨dq, osq⟩, hw''⟩ := hw'
        subst hw''
        have hBq := Bel.call (Bel.al hB6 (.cells #[.int .u64 (lim (X + Y) 0), .int .u64 (lim (X + Y) 1), .int .u64 (lim (X + Y) 2), .int .u64 (lim (X + Y) 3)] 24)) (below_regrown _ dq osq)
        generalize grow (redrawn (w6.alloc (.cells #[.int .u64 (lim (X + Y) 0), .int .u64 (lim (X + Y) 1), .int .u64 (lim (X + Y) 2), .int .u64 (lim (X + Y) 3)] 24)) dq) osq = wq at *
        clear p0 p1 p2 p3 ra0 ra1 ra2 ra3 rx0 rx1 rx2 rx3 ry0 ry1 ry2 ry3 rs0 rs1 rs2 rs3
        go_wp2
        go_ret
        exact ⟨rfl, hBq⟩
end Go.Proofs.Ytcipmgommoflgaa
