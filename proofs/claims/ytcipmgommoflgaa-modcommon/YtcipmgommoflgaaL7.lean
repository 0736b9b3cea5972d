/- The statement ModCommon's function answers true, whatever the numbers: the walk. -/
import Derived.Test.YtcipmgommoflgaaL5
set_option linter.all false
namespace Go.Proofs.Ytcipmgommoflgaa
open Go.RowKit Go.Sort
def e512 : Nat := 512
/-- What holds of the two numbers of the statement's own row, k rounds being over. -/
structure CI (A M : Int) (k : Nat) (r s : Int) : Prop where
  sn : 0 ≤ s
  sr : s < r
  rm : r ≤ M
  gc : Nat.gcd r.toNat s.toNat = Nat.gcd M.toNat A.toNat
  pw : r * s * 2 ^ k < 2 ^ e512
theorem CI.start (A M : Int) (hA : 0 ≤ A) (hM : 0 < M) (hM' : M < top256) : CI A M 0 M (A % M) where
  sn := Int.emod_nonneg _ (by omega)
  sr := Int.emod_lt_of_pos _ hM
  rm := Int.le_refl _
  gc := by rw [Int.toNat_emod hA (by omega), Nat.gcd_comm, ← Nat.gcd_rec]
  pw := by
    have h0 := Int.emod_nonneg A (Int.ne_of_gt hM)
    have h1 := Int.emod_lt_of_pos A hM
    have a1 : M * (A % M) ≤ M * top256 := Int.mul_le_mul_of_nonneg_left (by omega) (by omega)
    have a2 : M * top256 < top256 * top256 := Int.mul_lt_mul_of_pos_right hM' (by decide)
    have e : top256 * top256 = (2 : Int) ^ e512 := by
      have e5 : 256 + 256 = e512 := rfl
      rw [top_pow, ← Int.pow_add, e5]
    rw [Int.pow_zero, Int.mul_one, ← e]; omega
theorem CI.step {A M : Int} {k : Nat} {r s : Int} (h : CI A M k r s) (hs : 0 < s) : CI A M (k + 1) s (r % s) where
  sn := Int.emod_nonneg _ (by omega)
  sr := Int.emod_lt_of_pos _ hs
  rm := by have := h.sr; have := h.rm; omega
  gc := by rw [← h.gc, Int.toNat_emod (by have := h.sr; omega) (by omega), Nat.gcd_comm, ← Nat.gcd_rec, Nat.gcd_comm]
  pw := by
    have h0 := Int.emod_nonneg r (Int.ne_of_gt hs)
    have h1 := Int.emod_lt_of_pos r hs
    have e := Int.emod_add_mul_ediv r s
    have q1 : 1 ≤ r / s := by
      have := Int.le_ediv_of_mul_le hs (show 1 * s ≤ r by have := h.sr; omega)
      exact this
    have q2 : s * 1 ≤ s * (r / s) := Int.mul_le_mul_of_nonneg_left q1 (by omega)
    have two : 2 * (r % s) ≤ r := by omega
    have b1 : s * (2 * (r % s)) ≤ s * r := Int.mul_le_mul_of_nonneg_left two (by omega)
    have p0 : (0 : Int) ≤ 2 ^ k := Int.le_of_lt (Int.pow_pos (by omega))
    have b2 := Int.mul_le_mul_of_nonneg_right b1 p0
    have e2 : s * (r % s) * 2 ^ (k + 1) = s * (2 * (r % s)) * 2 ^ k := by rw [Int.pow_succ]; grind
    have e3 : s * r * 2 ^ k = r * s * 2 ^ k := by rw [Int.mul_comm s r]
    have := h.pw
    omega
theorem CI.fin {A M : Int} {k : Nat} {r s : Int} (h : CI A M k r s) (hk : 600 ≤ k) : s = 0 := by
  refine Classical.byContradiction fun c => ?_
  have s1 : 1 ≤ s := by have := h.sn; omega
  have r1 : 1 ≤ r := by have := h.sr; omega
  have a : 1 * 1 ≤ r * s := Int.mul_le_mul r1 s1 (by omega) (by omega)
  have p : (2 : Int) ^ e512 ≤ 2 ^ k := by
    have h5 : e512 ≤ k := by unfold e512; omega
    generalize e512 = e at *
    have := Nat.pow_le_pow_right (n := 2) (by omega) h5
    exact_mod_cast this
  have p0 : (0 : Int) ≤ 2 ^ k := Int.le_of_lt (Int.pow_pos (by omega))
  have b := Int.mul_le_mul_of_nonneg_right a p0
  have := h.pw
  omega
theorem k14' {x y : Int} (hx : In x) (hy : In y) (h : 0 < y) (w : World) : Calls Try.prog 14 #[nv x, .agg #[.int .u64 0, .int .u64 0, .int .u64 0, .int .u64 0], nv y] w fun e w' => e = .returned (nv (x % y)) ∧ Below w.heap.size w w' := by
  have := k14 hx hy w
  rw [md_pos _ h] at this
  exact this
/-- What holds at the head of each round. -/
def CW (w : World) (b5 b6 : Nat) (A M : Int) (wr : World) (r s : Int) : Prop :=
  Arr wr b5 4 (fun j => .int .u64 (lim r j)) ∧ Arr wr b6 4 (fun j => .int .u64 (lim s j)) ∧ R4 wr w.heap.size (fun j => .int .u64 (lim A j)) ∧ R4 wr (w.heap.size + 1) (fun j => .int .u64 (lim M j)) ∧ Below w.heap.size w wr
set_option maxHeartbeats 1000000 in
theorem CW.step {w : World} {b5 b6 : Nat} {A M : Int} {wr wc : World} {r s : Int} (h : CW w b5 b6 A M wr r s) (hbc : Below wr.drew.heap.size wr.drew wc) (r2 s2 : Int) (n5 : w.heap.size + 1 < b5) (n6 : w.heap.size + 1 < b6) (hne : b5 ≠ b6) :
    CW w b5 b6 A M ((((((((wc.setCell ⟨b5, 0, none⟩ (.int .u64 (lim r2 0))).setCell ⟨b5, 1, none⟩ (.int .u64 (lim r2 1))).setCell ⟨b5, 2, none⟩ (.int .u64 (lim r2 2))).setCell ⟨b5, 3, none⟩ (.int .u64 (lim r2 3))).setCell ⟨b6, 0, none⟩ (.int .u64 (lim s2 0))).setCell ⟨b6, 1, none⟩ (.int .u64 (lim s2 1))).setCell ⟨b6, 2, none⟩ (.int .u64 (lim s2 2))).setCell ⟨b6, 3, none⟩ (.int .u64 (lim s2 3))) r2 s2 := by
  obtain ⟨A5, A6, RA, RM, hB⟩ := h
  have l5 := A5.lt
  have l6 := A6.lt
  have la := r4lt RA
  have lm := r4lt RM
  have D5 := A5.drew.below hbc l5
  have D6 := A6.drew.below hbc l6
  have DA : R4 wc w.heap.size (fun j => .int .u64 (lim A j)) := R4.to (w := wr.drew) RA hbc la
  have DM : R4 wc (w.heap.size + 1) (fun j => .int .u64 (lim M j)) := R4.to (w := wr.drew) RM hbc lm
  have hBc : Below w.heap.size w wc := hB.drew.trans (hbc.mono hB.size)
  refine ⟨?_, ?_, ?_, ?_, ?_⟩
  · exact oth4 (set4 D5 _ _ _ _ (fun j => .int .u64 (lim r2 j)) rfl rfl rfl rfl) (Ne.symm hne) _ _ _ _
  · exact set4 (oth4 D6 hne _ _ _ _) _ _ _ _ (fun j => .int .u64 (lim s2 j)) rfl rfl rfl rfl
  · repeat (first | (with_reducible exact DA) | (with_reducible refine R4.st ?_ (by omega) _))
  · repeat (first | (with_reducible exact DM) | (with_reducible refine R4.st ?_ (by omega) _))
  · repeat (first | (with_reducible exact hBc) | (with_reducible refine Bel.st ?_ (by omega) _))
attribute [local go_sem] eq24
theorem kone {M : Int} (hM : In M) (w : World) : Calls Try.prog 14 #[.agg #[.int .u64 1, .int .u64 0, .int .u64 0, .int .u64 0], .agg #[.int .u64 0, .int .u64 0, .int .u64 0, .int .u64 0], nv M] w fun e w' => e = .returned (nv (md 1 M)) ∧ Below w.heap.size w w' := by
  have := k14 (x := 1) ⟨by omega, by decide⟩ hM w
  rw [nv_one] at this
  exact this
set_option maxRecDepth 100000 in
set_option maxHeartbeats 8000000 in
theorem common_some (A M : Int) (iA : In A) (iM : In M) (hM0 : 0 < M) (w : World) :
    Calls Try.prog 7 #[nv A, nv M] w fun e w' => e = .returned (.bool true) ∧ Below w.heap.size w w' := by
  have hz := nzM iM hM0
  have IN := fun W => inv_any A M iA.1 iA.2 iM.1 iM.2 W
  go_enter Try.func7, Try.ntmps7
  go_upto_region 3 with fail
  go_cut [5, 6] from 13 to 17 (fun s5 s6 wx => ∃ b5 b6 : Nat, s5 = .pointer (some ⟨b5, 0, none⟩) ∧ s6 = .pointer (some ⟨b6, 0, none⟩) ∧ w.heap.size + 1 < b5 ∧ w.heap.size + 1 < b6 ∧ b5 ≠ b6 ∧ CW w b5 b6 A M wx M (A % M))
  case first =>
    clear IN
    go_region_held3 (fun w' => R4 w' w.heap.size (fun j => .int .u64 (lim A j)) ∧ R4 w' (w.heap.size + 1) (fun j => .int .u64 (lim M j)))
      ((go_split_ands; refine ⟨?_, ?_⟩ <;> (first | (with_reducible assumption) | (apply R4.of <;> (simp [go_sem]; done)) | ((with_reducible refine R4.al (R4.al ?_ ?_ _) ?_ _) <;> (first | (with_reducible assumption) | (go_size; done) | fail)) | ((with_reducible refine R4.al ?_ ?_ _) <;> (first | (with_reducible assumption) | (go_size; done) | fail)) | (repeat (first | (with_reducible assumption) | (with_reducible refine R4.st ?_ (by go_size) _) | (with_reducible refine R4.al ?_ (by go_size) _))) | fail)))
      (first | (go_at_call 14; refine (k14' iA iM hM0 _).mono ?_; rintro e wx ⟨rfl, hbc⟩; (have hs : w.heap.size + 1 < wx.heap.size := (by (have hq := hbc.size; (try simp at hq); omega))); have hsz := hbc.size; (try simp at hsz); (have hBx : Below w.heap.size w wx := Below.trans (by go_grown) (hbc.mono (by go_size))); (have RA : R4 wx (w.heap.size) (fun j => .int .u64 (lim A j)) := R4.to (R4.of (by simp [go_sem]) (by simp [go_sem]) (by simp [go_sem]) (by simp [go_sem])) hbc (by go_size)); (have RM : R4 wx (w.heap.size + 1) (fun j => .int .u64 (lim M j)) := R4.to (R4.of (by simp [go_sem]) (by simp [go_sem]) (by simp [go_sem]) (by simp [go_sem])) hbc (by go_size)); (first | (have Zb := Arr.below (Arr.zzd _ _) hbc (by go_size)) | (have Zb := Arr.below (Arr.zz _ _) hbc (by go_size)) | skip); (first | (have Za := Arr.below (Arr.zald _) hbc (by go_size)) | (have Za := Arr.below (Arr.zal _) hbc (by go_size)) | skip); (try simp only [World.size_alloc, World.size_drew] at Za); (try simp only [World.size_alloc, World.size_drew] at Zb); (try (have cZa := Za.c; have zZa := Za.z; have aZa := fun o => (Za.alloc Za.lt o).c; have yZa := fun o => (Za.alloc Za.lt o).z)); (try (have cZb := Zb.c; have zZb := Zb.z; have aZb := fun o => (Zb.alloc Zb.lt o).c; have yZb := fun o => (Zb.alloc Zb.lt o).z))))
    all_goals (go_split_ands; try go_wp2_with fail)
    all_goals
      go_meet
      case rel =>
        refine ⟨_, _, rfl, rfl, by go_size, by go_size, by go_size, ?_, ?_, ?_, ?_, ?_⟩
        · first | ((with_reducible refine set4 (f := fun _ => .int .u64 0) ?_ _ _ _ _ _ rfl rfl rfl rfl); (repeat (first | (with_reducible assumption) | (with_reducible refine Arr.other ?_ (by go_size) _) | (with_reducible refine Arr.alloc ?_ (by go_size) _))); done) | ((with_reducible refine Arr.other (Arr.other (Arr.other (Arr.other ?_ (by go_size) _) (by go_size) _) (by go_size) _) (by go_size) _); first | ((with_reducible refine set4 (f := fun _ => .int .u64 0) ?_ _ _ _ _ _ rfl rfl rfl rfl); (repeat (first | (with_reducible assumption) | (with_reducible refine Arr.other ?_ (by go_size) _) | (with_reducible refine Arr.alloc ?_ (by go_size) _))); done) | (apply Arr.mk4 <;> (simp [go_sem]; done))) | (apply Arr.mk4 <;> (simp [go_sem]; done))
        · first | ((with_reducible refine set4 (f := fun _ => .int .u64 0) ?_ _ _ _ _ _ rfl rfl rfl rfl); (repeat (first | (with_reducible assumption) | (with_reducible refine Arr.other ?_ (by go_size) _) | (with_reducible refine Arr.alloc ?_ (by go_size) _))); done) | ((with_reducible refine Arr.other (Arr.other (Arr.other (Arr.other ?_ (by go_size) _) (by go_size) _) (by go_size) _) (by go_size) _); first | ((with_reducible refine set4 (f := fun _ => .int .u64 0) ?_ _ _ _ _ _ rfl rfl rfl rfl); (repeat (first | (with_reducible assumption) | (with_reducible refine Arr.other ?_ (by go_size) _) | (with_reducible refine Arr.alloc ?_ (by go_size) _))); done) | (apply Arr.mk4 <;> (simp [go_sem]; done))) | (apply Arr.mk4 <;> (simp [go_sem]; done))
        · repeat (first | (with_reducible assumption) | (with_reducible refine R4.st ?_ (by go_size) _) | (with_reducible refine R4.al ?_ (by go_size) _))
        · repeat (first | (with_reducible assumption) | (with_reducible refine R4.st ?_ (by go_size) _) | (with_reducible refine R4.al ?_ (by go_size) _))
        · repeat (first | (with_reducible assumption) | (with_reducible refine Bel.st ?_ (by go_size) _) | (with_reducible refine Bel.al ?_ _))
  case rest =>
    obtain ⟨b5, b6, rfl, rfl, n5, n6, hne, hC⟩ := hcut
    go_wp2_with fail
    go_loopw [18] (fun i wr => ∃ (k : Nat) (r s : Int), k ≤ 600 ∧ i = .int .i64 k ∧ CI A M k r s ∧ CW w b5 b6 A M wr r s) (fun i _ => 600 - (intOf i).toNat)
    case atStart => exact ⟨0, M, A % M, by omega, rfl, CI.start A M iA.1 hM0 iM.2, hC⟩
    case round =>
      clear hC
      obtain ⟨k, r, s, hk, rfl, hI, hD⟩ := hrel
      obtain ⟨A5, A6, RA, RM, hB⟩ := id hD
      have c5 := A5.c
      have c6 := A6.c
      have l5 := A5.lt
      have l6 := A6.lt
      by_cases hs : s = 0
      · subst hs
        have e0 : (lim 0 0 == 0 && (lim 0 1 == 0 && (lim 0 2 == 0 && lim 0 3 == 0))) = true := by decide
        have rg : r.toNat = Nat.gcd M.toNat A.toNat := by have := hI.gc; simpa using this
        have r0 : 0 ≤ r := by have := hI.sr; omega
        have rt : r < top256 := by have := hI.rm; have := iM.2; omega
        have e1 := eq_one r r0 rt
        clear hD hI
        have ca := RA
        have cm := RM
        by_cases hlt : k < 600
        all_goals
          go_wp2_with fail
          refine (IN _).mono ?_
          rintro e w1 ⟨⟨x, ok, ⟨x0, h1, h2, h3⟩, rfl⟩, hb⟩
          have B5 := A5.below hb A5.lt
          have TA := R4.to RA hb (r4lt RA)
          have TM := R4.to RM hb (r4lt RM)
          have hB1 := Bel.call hB hb
          clear hb A5 A6 RA RM hB c5 c6 ca cm IN
          have A7 := Arr.mk4 (w := w1.alloc (.cells #[.int .u64 (lim x 0), .int .u64 (lim x 1), .int .u64 (lim x 2), .int .u64 (lim x 3)] 24)) (b := w1.heap.size) (f := fun j => .int .u64 (lim x j)) (by simp [go_sem]) (by simp [go_sem]) (by simp [go_sem]) (by simp [go_sem]) (by simp [go_sem]) (by simp [go_sem]) (by simp [go_sem]) (by simp [go_sem])
          have C5 := B5.alloc B5.lt (.cells #[.int .u64 (lim x 0), .int .u64 (lim x 1), .int .u64 (lim x 2), .int .u64 (lim x 3)] 24)
          have UA := R4.al TA (r4lt TA) (.cells #[.int .u64 (lim x 0), .int .u64 (lim x 1), .int .u64 (lim x 2), .int .u64 (lim x 3)] 24)
          have UM := R4.al TM (r4lt TM) (.cells #[.int .u64 (lim x 0), .int .u64 (lim x 1), .int .u64 (lim x 2), .int .u64 (lim x 3)] 24)
          have p0 := fun ds os => cell_regrown (C5.c 0 (by omega)) ds os
          have p1 := fun ds os => cell_regrown (C5.c 1 (by omega)) ds os
          have p2 := fun ds os => cell_regrown (C5.c 2 (by omega)) ds os
          have p3 := fun ds os => cell_regrown (C5.c 3 (by omega)) ds os
          have q0 := fun ds os => cell_regrown (A7.c 0 (by omega)) ds os
          have q1 := fun ds os => cell_regrown (A7.c 1 (by omega)) ds os
          have q2 := fun ds os => cell_regrown (A7.c 2 (by omega)) ds os
          have q3 := fun ds os => cell_regrown (A7.c 3 (by omega)) ds os
          have ra0 := fun ds os => cell_regrown (UA 0 (by omega)) ds os
          have ra1 := fun ds os => cell_regrown (UA 1 (by omega)) ds os
          have ra2 := fun ds os => cell_regrown (UA 2 (by omega)) ds os
          have ra3 := fun ds os => cell_regrown (UA 3 (by omega)) ds os
          have rm0 := fun ds os => cell_regrown (UM 0 (by omega)) ds os
          have rm1 := fun ds os => cell_regrown (UM 1 (by omega)) ds os
          have rm2 := fun ds os => cell_regrown (UM 2 (by omega)) ds os
          have rm3 := fun ds os => cell_regrown (UM 3 (by omega)) ds os
          cases ok
          · have ne : ¬ r = 1 := by
              intro h
              have : (false : Bool) = true := h3.2 ⟨hM0, by rw [← rg, h]; rfl⟩
              cases this
            rw [decide_eq_false ne] at e1
            clear h1 h2 h3 rg hz
            go_wp2_with fail
            refine wp_region_quiet_below (by kernel_rfl) (by kernel_rfl) ?_
            repeat (go_big_quiet_step (first | (go_at_call 22; exact Calls.regrown_of (awake_any _))))
            refine wpQuiet_nil ?_
            intro _ hw'
            obtain ⟨⟨dq, osq⟩, hw''⟩ := hw'
            subst hw''
            have hBq := Bel.call (Bel.al hB1 (.cells #[.int .u64 (lim x 0), .int .u64 (lim x 1), .int .u64 (lim x 2), .int .u64 (lim x 3)] 24)) (below_regrown _ dq osq)
            generalize grow (redrawn (w1.alloc (.cells #[.int .u64 (lim x 0), .int .u64 (lim x 1), .int .u64 (lim x 2), .int .u64 (lim x 3)] 24)) dq) osq = wq at *
            go_wp2
            go_ret
            exact ⟨rfl, hBq⟩
          · obtain ⟨hxm, hdv⟩ := h1 rfl
            have r1 : r = 1 := by
              have := (h3.1 rfl).2
              rw [← rg] at this
              omega
            have iX : In x := ⟨x0, by have := iM.2; omega⟩
            have EX : md (A * x) M = md 1 M := by
              rw [md_pos _ hM0, md_pos _ hM0]
              exact Int.emod_eq_emod_iff_emod_sub_eq_zero.2 (Int.emod_eq_zero_of_dvd hdv)
            rw [decide_eq_true r1] at e1
            clear h1 h2 h3 rg hz r1
            go_wp2_with fail
            refine wp_region_quiet_below (by kernel_rfl) (by kernel_rfl) ?_
            repeat (go_big_quiet_step (first | (go_at_call 20; exact Calls.regrown_of (k20 iA iX iM _)) | (go_at_call 14; exact Calls.regrown_of (kone iM _)) | (go_at_call 27; exact Calls.regrown_of (k27 iX iM hxm _)) | (go_at_call 22; exact Calls.regrown_of (awake_any _))))
            refine wpQuiet_nil ?_
            intro _ hw'
            obtain ⟨⟨dq, osq⟩, hw''⟩ := hw'
            subst hw''
            have hBq := Bel.call (Bel.al hB1 (.cells #[.int .u64 (lim x 0), .int .u64 (lim x 1), .int .u64 (lim x 2), .int .u64 (lim x 3)] 24)) (below_regrown _ dq osq)
            generalize grow (redrawn (w1.alloc (.cells #[.int .u64 (lim x 0), .int .u64 (lim x 1), .int .u64 (lim x 2), .int .u64 (lim x 3)] 24)) dq) osq = wq at *
            go_wp2
            go_ret
            exact ⟨rfl, hBq⟩
      · have s0 : 0 < s := by have := hI.sn; omega
        have hlt : k < 600 := Nat.lt_of_not_le fun h => hs (hI.fin h)
        have iS : In s := ⟨by omega, by have := hI.sr; have := hI.rm; have := iM.2; omega⟩
        have iR : In r := ⟨by have := hI.sr; omega, by have := hI.rm; have := iM.2; omega⟩
        have e0 := nzM iS s0
        have hI' := hI.step s0
        have N := fun W => k14' iR iS s0 W
        clear IN hI
        go_wp2_with fail
        go_region_with (go_at_call 14; refine (N _).mono ?_; rintro e wc ⟨rfl, hbc⟩; have D5 := A5.drew.below hbc l5; have D6 := A6.drew.below hbc l6; have c5' := D5.c; have z5' := D5.z; have c6' := D6.c; have z6' := D6.z)
        all_goals
          have ST := CW.step hD hbc s (r % s) n5 n6 hne
          clear c5' z5' c6' z6' D5 D6 hbc hD A5 A6 RA RM N
          go_wp2
          go_roundw
          case rel => exact ⟨k + 1, s, r % s, by omega, by go_num, hI', ST⟩
          case measure => simp [intOf]; omega
end Go.Proofs.Ytcipmgommoflgaa
