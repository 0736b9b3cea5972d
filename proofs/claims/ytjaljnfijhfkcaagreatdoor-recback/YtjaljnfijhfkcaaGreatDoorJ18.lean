/- The reference's words of a key of 32 bytes. -/
import Derived.Test.YtjaljnfijhfkcaaGreatDoorJ17
set_option linter.all false
set_option maxRecDepth 100000
namespace Go.Proofs.YtjaljnfijhfkcaaGreatDoor
open Go.RowKit Go.Sort Lin
set_option maxHeartbeats 8000000 in
theorem rwords_8 (key : ByteArray) (hk : key.size = 32) (KB : Nat → By) (HKB : Hid (∀ j, KB j = kB (bF key) 8 j)) (w : World) :
    Calls Tryz.prog 65 #[.string key] w fun e w' => ∃ g cap, e = .returned (.slice (some ⟨g, 0, none⟩) 240 cap) ∧ Rw w' g 240 cap KB ∧ Below w.heap.size w w' ∧ w.heap.size ≤ g := by
  obtain ⟨cap0, W0, hcv, hR0, hB0⟩ := conv_rw w key (by omega)
  rw [hk] at hcv hR0
  have hR0' : Rw W0 w.heap.size (4 * 8) cap0 KB := hR0.congr (fun j hj => by rw [HKB.out, kb_lo (bF key) 8 j (by omega)])
  have ks : (key.size : Int) = 32 := by omega
  clear hR0
  go_enter Tryz.func65, Tryz.ntmps65
  go_wp2_with fail
  clear hcv
  go_loopw [4, 5, 6] (fun v c i wr => ∃ k g cap : Nat, 8 ≤ k ∧ k ≤ 60 ∧ v = .slice (some ⟨g, 0, none⟩) (4 * k) cap ∧ c = .int .u8 ((rc ((k - 1) / 8)).val : Int) ∧ i = .int .i64 k ∧ Rw wr g (4 * k) cap KB ∧ Below w.heap.size w wr ∧ w.heap.size ≤ g) (fun _ _ i _ => 60 - (intOf i).toNat)
  case atStart => exact ⟨8, w.heap.size, cap0, by omega, by omega, rfl, rfl, rfl, hR0', hB0, Nat.le_refl _⟩
  case round =>
    clear hR0' hB0
    obtain ⟨k, g, cap, hk1, hk2, rfl, rfl, rfl, hR, hB, hgb⟩ := hrel
    have k0 : (8 : Int) ≤ (k : Int) := by omega
    by_cases hlt : k < 60
    · have kN : (k : Int) < 60 := by omega
      obtain ⟨m1, em1⟩ : ∃ m : Nat, k - 1 = m := ⟨_, rfl⟩
      obtain ⟨k2, em2⟩ : ∃ m : Nat, k - 8 = m := ⟨_, rfl⟩
      have HK : Hid (kQ (bF key) 8 k = xQ (kQ (bF key) 8 k2) (tQ 8 k (kQ (bF key) 8 m1))) := by show _ = _; rw [← em1, ← em2]; exact kQ_hi _ _ _ (by omega) (by omega)
      obtain ⟨p0, i0, j0⟩ : ∃ p : Nat, 4 * (k : Int) - 4 = (p : Int) ∧ p = 4 * m1 + 0 := ⟨4 * m1, by omega, rfl⟩
      obtain ⟨p1, i1, j1⟩ : ∃ p : Nat, 4 * (k : Int) - 3 = (p : Int) ∧ p = 4 * m1 + 1 := ⟨4 * m1 + 1, by omega, rfl⟩
      obtain ⟨p2, i2, j2⟩ : ∃ p : Nat, 4 * (k : Int) - 2 = (p : Int) ∧ p = 4 * m1 + 2 := ⟨4 * m1 + 2, by omega, rfl⟩
      obtain ⟨p3, i3, j3⟩ : ∃ p : Nat, 4 * (k : Int) - 1 = (p : Int) ∧ p = 4 * m1 + 3 := ⟨4 * m1 + 3, by omega, rfl⟩
      have ek2 : (k : Int) - 8 = (k2 : Int) := by omega
      have cc : ∀ r p, r < 4 → p = 4 * m1 + r → wr.cell? ⟨g, p, none⟩ = some (.int .u8 ((bQ (kQ (bF key) 8 m1) r).val : Int)) := fun r p hr hp => by
        rw [hp, hR.c (4 * m1 + r) (by omega)]
        unfold bc
        rw [HKB.out, kb4 _ _ _ _ hr]
      have c0 := cc 0 p0 (by omega) j0
      have c1 := cc 1 p1 (by omega) j1
      have c2 := cc 2 p2 (by omega) j2
      have c3 := cc 3 p3 (by omega) j3
      clear cc
      obtain ⟨p, hp⟩ : ∃ q, kQ (bF key) 8 m1 = q := ⟨_, rfl⟩
      rw [hp] at HK c0 c1 c2 c3
      have HP2 : Hid _ := hp
      clear hp
      have r0 := fun ds os => cell_regrown c0 ds os
      have r1 := fun ds os => cell_regrown c1 ds os
      have r2 := fun ds os => cell_regrown c2 ds os
      have r3 := fun ds os => cell_regrown c3 ds os
      have l0 : (p0 : Int) < 4 * (k : Int) := by omega
      have l1 : (p1 : Int) < 4 * (k : Int) := by omega
      have l2 : (p2 : Int) < 4 * (k : Int) := by omega
      have l3 : (p3 : Int) < 4 * (k : Int) := by omega
      obtain ⟨k4, hk4⟩ : ∃ k4, 4 * k = k4 + 1 := ⟨4 * k - 1, by omega⟩
      have HR : Hid (Rw wr g (k4 + 1) cap KB) := by show Rw _ _ _ _ _; rw [← hk4]; exact hR
      have HK4 : Hid (4 * k = k4 + 1) := hk4
      clear hR hk4 c0 c1 c2 c3 j0 j1 j2 j3
      go_wp2_with fail
      refine wp_region_below_tail 24 (by kernel_rfl) (by kernel_rfl) ?_
      simp only [List.take_succ_cons, List.take_zero, List.drop_succ_cons, List.drop_zero]
      repeat (go_big_quiet_step (fail))
      refine wpQuiet_nil ?_
      intro w1 hw'
      obtain ⟨⟨dq, osq⟩, hw''⟩ := hw'
      have hb := below_of hw''
      clear hw'' r0 r1 r2 r3
      have R1 := HR.out.to hb
      have B1 := Bel.call hB hb
      clear hB hb HR i0 i1 i2 i3 l0 l1 l2 l3
      have T1 : Arr (w1.alloc (.cells #[.int .u8 ((bQ p 0).val : Int), .int .u8 ((bQ p 1).val : Int), .int .u8 ((bQ p 2).val : Int), .int .u8 ((bQ p 3).val : Int)] 5)) w1.heap.size 4 (bc (bQ p)) := Arr.new _ _ 5 _ rfl _ 4 (q4_at p)
      have R2 := R1.al (.cells #[.int .u8 ((bQ p 0).val : Int), .int .u8 ((bQ p 1).val : Int), .int .u8 ((bQ p 2).val : Int), .int .u8 ((bQ p 3).val : Int)] 5)
      have B2 := Bel.al B1 (.cells #[.int .u8 ((bQ p 0).val : Int), .int .u8 ((bQ p 1).val : Int), .int .u8 ((bQ p 2).val : Int), .int .u8 ((bQ p 3).val : Int)] 5)
      have ng : g ≠ w1.heap.size := by have := R1.lt; omega
      clear R1 B1
      go_upto_region 8 with (fail)
      generalize w1.alloc (.cells #[.int .u8 ((bQ p 0).val : Int), .int .u8 ((bQ p 1).val : Int), .int .u8 ((bQ p 2).val : Int), .int .u8 ((bQ p 3).val : Int)] 5) = w2 at T1 R2 B2 ⊢
      generalize w1.heap.size = gt at T1 ng ⊢
      by_cases t0 : k % 8 = 0
      · have t1 : (k : Int) % 8 = 0 := by omega
        obtain ⟨rr, hrr⟩ : ∃ r, rc ((k - 1) / 8) = r := ⟨_, rfl⟩
        have hQ : Hid (tQ 8 k p = (xr (sb (bQ p 1)) rr, sb (bQ p 2), sb (bQ p 3), sb (bQ p 0))) := by show _ = _; unfold tQ; rw [if_pos t0, hrr]; rfl
        have ep : Hid (rc (k / 8) = tmF rr 2) := by show _ = _; rw [show k / 8 = (k - 1) / 8 + 1 by omega, ← hrr]; rfl
        have TM := fun W => rtimes_any rr 2 W
        rw [show ((2 : By).val : Int) = 2 from rfl] at TM
        rw [em1] at hrr
        rw [em1, hrr]
        clear hrr
        have RS : ∀ (a : By) W, Calls Tryz.prog 85 #[.int .u8 (a.val : Int)] W fun e w' => e = .returned (.int .u8 ((sb a).val : Int)) ∧ Below W.heap.size W w' := fun a W => (rsub_any a W).mono fun e w' h => ⟨h.1, by rw [h.2]; exact Below.refl _ _⟩
        have ex := xr8 (sb (bQ p 1)) rr
        have s0 := fun ds os => cell_regrown (T1.c 0 (by omega)) ds os
        have s1 := fun ds os => cell_regrown (T1.c 1 (by omega)) ds os
        have s2 := fun ds os => cell_regrown (T1.c 2 (by omega)) ds os
        have s3 := fun ds os => cell_regrown (T1.c 3 (by omega)) ds os
        unfold bc at s0 s1 s2 s3
        go_wp2_with fail
        refine wp_region_below_tail 18 (by kernel_rfl) (by kernel_rfl) ?_
        simp only [List.take_succ_cons, List.take_zero, List.drop_succ_cons, List.drop_zero]
        repeat (go_big_quiet_step (first | (go_at_call 85; exact Calls.regrown_of (RS _ _))))
        refine wpQuiet_nil ?_
        intro w3 hw'
        obtain ⟨⟨dq, osq⟩, hw''⟩ := hw'
        have hb := below_of hw''
        clear hw'' s0 s1 s2 s3
        have R3 := R2.to hb
        have B3 := Bel.call B2 hb
        clear R2 B2 T1 hb
        have R4 := R3.al (.cells #[.int .u8 ((xr (sb (bQ p 1)) rr).val : Int), .int .u8 ((sb (bQ p 2)).val : Int), .int .u8 ((sb (bQ p 3)).val : Int), .int .u8 ((sb (bQ p 0)).val : Int)] 5)
        have B4 := Bel.al B3 (.cells #[.int .u8 ((xr (sb (bQ p 1)) rr).val : Int), .int .u8 ((sb (bQ p 2)).val : Int), .int .u8 ((sb (bQ p 3)).val : Int), .int .u8 ((sb (bQ p 0)).val : Int)] 5)
        have T4 : Arr (w3.alloc (.cells #[.int .u8 ((xr (sb (bQ p 1)) rr).val : Int), .int .u8 ((sb (bQ p 2)).val : Int), .int .u8 ((sb (bQ p 3)).val : Int), .int .u8 ((sb (bQ p 0)).val : Int)] 5)) w3.heap.size 4 (bc (bQ (xr (sb (bQ p 1)) rr, sb (bQ p 2), sb (bQ p 3), sb (bQ p 0)))) := Arr.new _ _ 5 _ rfl _ 4 (q4_at (xr (sb (bQ p 1)) rr, sb (bQ p 2), sb (bQ p 3), sb (bQ p 0)))
        have ngt : g ≠ w3.heap.size := by have := R3.lt; omega
        clear R3 B3 ng
        go_upto_region 10 with (fail)
        generalize w3.alloc (.cells #[.int .u8 ((xr (sb (bQ p 1)) rr).val : Int), .int .u8 ((sb (bQ p 2)).val : Int), .int .u8 ((sb (bQ p 3)).val : Int), .int .u8 ((sb (bQ p 0)).val : Int)] 5) = w4 at T4 R4 B4 ⊢
        generalize w3.heap.size = gu at T4 ngt ⊢
        have RR : Rw w4 g (4 * k + 0) cap KB := by show Rw _ _ (4 * k) _ _; rw [HK4.out]; exact R4
        have TT := T4
        have BB := B4
        clear R4 T4 B4
        clear RS ex
        go_wp2_with fail
        refine (TM _).mono ?_
        rintro e w9 ⟨rfl, rfl⟩
        clear TM
        have HTQ : Hid (∀ m, m < 4 → KB (4 * k + m) = xr (KB (4 * k2 + m)) (bQ (xr (sb (bQ p 1)) rr, sb (bQ p 2), sb (bQ p 3), sb (bQ p 0)) m)) := fun m hm => by
          show _ = _
          have := HK.out
          rw [hQ.out] at this
          rw [HKB.out, HKB.out, kb4 _ _ k _ hm, this, bQ_x _ _ _ hm, kb4 _ _ k2 _ hm]
        clear hQ
        generalize (xr (sb (bQ p 1)) rr, sb (bQ p 2), sb (bQ p 3), sb (bQ p 0)) = q1 at *
        go_wp2_with fail
        go_loopw [4, 8] (fun v j wr => ∃ m g cap : Nat, m ≤ 4 ∧ v = .slice (some ⟨g, 0, none⟩) (4 * k + m) cap ∧ j = .int .i64 m ∧ Rw wr g (4 * k + m) cap KB ∧ Arr wr gu 4 (bc (bQ q1)) ∧ Below w.heap.size w wr ∧ w.heap.size ≤ g ∧ g ≠ gu) (fun _ j _ => 4 - (intOf j).toNat)
        case atStart => exact ⟨0, g, cap, by omega, rfl, rfl, RR, TT, BB, hgb, ngt⟩
        case round =>
          clear RR TT BB hgb ngt
          obtain ⟨m, g, cap, hm, rfl, rfl, hR, hT, hB, hgb, ngt⟩ := hrel
          have m0 : (0 : Int) ≤ (m : Int) := by omega
          by_cases hlm : m < 4
          · have m4 : (m : Int) < 4 := by omega
            obtain ⟨k', hk'⟩ : ∃ k', 4 * k + m = k' + 1 := ⟨4 * k + m - 1, by omega⟩
            have hR1 : Rw wr g (k' + 1) cap KB := by rw [← hk']; exact hR
            have c1 := hR.c (4 * k2 + m) (by omega)
            unfold bc at c1
            have c2 := hT.cv m hlm (.int .u8 ((bQ q1 m).val : Int)) rfl
            have r1 := fun ds os => cell_regrown c1 ds os
            have r2 := fun ds os => cell_regrown c2 ds os
            have ex := xr8 (KB (4 * k2 + m)) (bQ q1 m)
            rw [← HTQ.out m hlm] at ex
            have l1 : 4 * (k2 : Int) + (m : Int) < 4 * (k : Int) + (m : Int) := by omega
            have l2 : (4 * k2 + m : Nat) < 4 * k + m := by omega
            have HR : Hid (Rw wr g (4 * k + m) cap KB) := hR
            have HK1 : Hid (4 * k + m = k' + 1) := hk'
            have HR1 : Hid (Rw wr g (k' + 1) cap KB) := hR1
            clear hR hk' hR1 c1 c2
            generalize KB (4 * k2 + m) = a1 at *
            generalize bQ q1 m = a2 at *
            have HKV : Hid _ := rfl (a := KB (4 * k + m))
            obtain ⟨a3, ha3⟩ : ∃ a, KB (4 * k + m) = a := ⟨_, rfl⟩
            rw [ha3] at ex
            have HA3 : Hid (KB (4 * k + m) = a3) := ha3
            clear ha3
            go_wp2_with fail
            apply wp_region_head_tail 1 14 #[true, false, false, false, false, false, false, false, false, false, false, false, false, false, false, false, false, false] (by kernel_rfl) (by intro c d v a w h; cases d <;> exact h) (by kernel_rfl)
            · exact ⟨.slice (some ⟨g, 0, none⟩) (4 * k + m) cap, Or.inl ⟨rfl, fun _ => rfl⟩, rfl⟩
            simp only [List.take_succ_cons, List.take_zero, List.drop_succ_cons, List.drop_zero, Act.put, List.setIfInBounds_toArray, List.set_cons_succ, List.set_cons_zero]
            repeat (go_big_quiet_step (fail))
            refine wpQuiet_nil ?_
            intro w5 hw'
            obtain ⟨⟨dq, osq⟩, hw''⟩ := hw'
            have hb := below_of hw''
            clear hw'' r1 r2
            have T5 := hT.to' hb
            have B5 := Bel.call hB hb
            have R5 := HR1.out.to hb
            have lt5 : gu < w5.heap.size := T5.lt
            have lg5 : g < w5.heap.size := R5.lt
            have b5 := B5.size
            clear hT hB hb HR HR1
            go_wp2_with (at_builtin; refine stopAt ?_)
            unfold Stop
            refine wpList_app1 _ rfl _ _ rfl g (4 * k + m) cap KB rfl (by rw [HK1.out]; exact R5.al _) w5.heap.size 1 rfl (by unfold bc; rw [HA3.out]; simp) (by omega) ?_
            intro g' cap' w6 R6 hg' hG6
            have T6 := gb_arr hG6 (Ne.symm ngt) (T5.al' (.cells #[.int .u8 (a3.val : Int)] 5))
            have B6 : Below w.heap.size w w6 := (Bel.al B5 (.cells #[.int .u8 (a3.val : Int)] 5)).grown hG6 (by simp; omega) (fun q e => by cases e; exact hgb)
            clear R5 T5 B5
            go_wp2_with fail
            have e1 : w5.heap.size + 1 = (w5.alloc (.cells #[.int .u8 (a3.val : Int)] 5)).heap.size := by simp
            refine ⟨⟨m + 1, g', cap', by omega, by rw [Nat.add_assoc], by go_num, by rw [← Nat.add_assoc]; exact R6, T6, B6, by rcases hg' with h | h <;> omega, by rcases hg' with h | h <;> omega⟩, by simp [intOf]; omega⟩
          · have e : m = 4 := by omega
            rw [show ((m : Nat) : Int) = 4 by omega]
            subst e
            have HR : Hid (Rw wr g (4 * (k + 1)) cap KB) := by rw [show 4 * (k + 1) = 4 * k + 4 by omega]; exact hR
            clear hT hR HTQ
            go_wp2_with fail
            refine ⟨⟨k + 1, g, cap, by omega, by omega, by rw [show 4 * (k + 1) = 4 * k + 4 by omega], by rw [Nat.add_sub_cancel]; first | rfl | (rw [ep.out, em1]; done) | rw [ep.out], by go_num, HR.out, hB, hgb⟩, by simp [intOf]; omega⟩
      · have t1 : ¬ ((k : Int) % 8 = 0) := by omega
        have t1' := beq_false_of_ne t1
        obtain ⟨rr, hrr⟩ : ∃ r, rc ((k - 1) / 8) = r := ⟨_, rfl⟩
        have ep : Hid (rc (k / 8) = rr) := by show _ = _; rw [show k / 8 = (k - 1) / 8 by omega, hrr]
        rw [em1] at hrr
        first | rw [em1, hrr] | rw [hrr]
        clear hrr
        by_cases t2 : k % 8 = 4
        · have t3 : (k : Int) % 8 = 4 := by omega
          have t3' : ((k : Int) % 8 == 4) = true := beq_iff_eq.2 t3
          clear t3
          have hQ : Hid (tQ 8 k p = (sb (bQ p 0), sb (bQ p 1), sb (bQ p 2), sb (bQ p 3))) := by show _ = _; unfold tQ; rw [if_neg (by omega), if_pos ⟨rfl, t2⟩]; rfl
          have RS : ∀ (a : By) W, Calls Tryz.prog 85 #[.int .u8 (a.val : Int)] W fun e w' => e = .returned (.int .u8 ((sb a).val : Int)) ∧ Below W.heap.size W w' := fun a W => (rsub_any a W).mono fun e w' h => ⟨h.1, by rw [h.2]; exact Below.refl _ _⟩
          have s0 := fun ds os => cell_regrown (T1.c 0 (by omega)) ds os
          have s1 := fun ds os => cell_regrown (T1.c 1 (by omega)) ds os
          have s2 := fun ds os => cell_regrown (T1.c 2 (by omega)) ds os
          have s3 := fun ds os => cell_regrown (T1.c 3 (by omega)) ds os
          unfold bc at s0 s1 s2 s3
          go_wp2_with fail
          refine wp_region_below_tail 16 (by kernel_rfl) (by kernel_rfl) ?_
          simp only [List.take_succ_cons, List.take_zero, List.drop_succ_cons, List.drop_zero]
          repeat (go_big_quiet_step (first | (go_at_call 85; exact Calls.regrown_of (RS _ _))))
          refine wpQuiet_nil ?_
          intro w3 hw'
          obtain ⟨⟨dq, osq⟩, hw''⟩ := hw'
          have hb := below_of hw''
          clear hw'' s0 s1 s2 s3
          have R3 := R2.to hb
          have B3 := Bel.call B2 hb
          clear R2 B2 T1 hb
          have R4 := R3.al (.cells #[.int .u8 ((sb (bQ p 0)).val : Int), .int .u8 ((sb (bQ p 1)).val : Int), .int .u8 ((sb (bQ p 2)).val : Int), .int .u8 ((sb (bQ p 3)).val : Int)] 5)
          have B4 := Bel.al B3 (.cells #[.int .u8 ((sb (bQ p 0)).val : Int), .int .u8 ((sb (bQ p 1)).val : Int), .int .u8 ((sb (bQ p 2)).val : Int), .int .u8 ((sb (bQ p 3)).val : Int)] 5)
          have T4 : Arr (w3.alloc (.cells #[.int .u8 ((sb (bQ p 0)).val : Int), .int .u8 ((sb (bQ p 1)).val : Int), .int .u8 ((sb (bQ p 2)).val : Int), .int .u8 ((sb (bQ p 3)).val : Int)] 5)) w3.heap.size 4 (bc (bQ (sb (bQ p 0), sb (bQ p 1), sb (bQ p 2), sb (bQ p 3)))) := Arr.new _ _ 5 _ rfl _ 4 (q4_at (sb (bQ p 0), sb (bQ p 1), sb (bQ p 2), sb (bQ p 3)))
          have ngt : g ≠ w3.heap.size := by have := R3.lt; omega
          clear R3 B3 ng
          go_upto_region 13 with (fail)
          generalize w3.alloc (.cells #[.int .u8 ((sb (bQ p 0)).val : Int), .int .u8 ((sb (bQ p 1)).val : Int), .int .u8 ((sb (bQ p 2)).val : Int), .int .u8 ((sb (bQ p 3)).val : Int)] 5) = w4 at T4 R4 B4 ⊢
          generalize w3.heap.size = gu at T4 ngt ⊢
          have RR : Rw w4 g (4 * k + 0) cap KB := by show Rw _ _ (4 * k) _ _; rw [HK4.out]; exact R4
          have TT := T4
          have BB := B4
          clear R4 T4 B4
          clear RS
          have HTQ : Hid (∀ m, m < 4 → KB (4 * k + m) = xr (KB (4 * k2 + m)) (bQ (sb (bQ p 0), sb (bQ p 1), sb (bQ p 2), sb (bQ p 3)) m)) := fun m hm => by
            show _ = _
            have := HK.out
            rw [hQ.out] at this
            rw [HKB.out, HKB.out, kb4 _ _ k _ hm, this, bQ_x _ _ _ hm, kb4 _ _ k2 _ hm]
          clear hQ
          generalize (sb (bQ p 0), sb (bQ p 1), sb (bQ p 2), sb (bQ p 3)) = q1 at *
          go_wp2_with fail
          go_loopw [4, 8] (fun v j wr => ∃ m g cap : Nat, m ≤ 4 ∧ v = .slice (some ⟨g, 0, none⟩) (4 * k + m) cap ∧ j = .int .i64 m ∧ Rw wr g (4 * k + m) cap KB ∧ Arr wr gu 4 (bc (bQ q1)) ∧ Below w.heap.size w wr ∧ w.heap.size ≤ g ∧ g ≠ gu) (fun _ j _ => 4 - (intOf j).toNat)
          case atStart => exact ⟨0, g, cap, by omega, rfl, rfl, RR, TT, BB, hgb, ngt⟩
          case round =>
            clear RR TT BB hgb ngt
            obtain ⟨m, g, cap, hm, rfl, rfl, hR, hT, hB, hgb, ngt⟩ := hrel
            have m0 : (0 : Int) ≤ (m : Int) := by omega
            by_cases hlm : m < 4
            · have m4 : (m : Int) < 4 := by omega
              obtain ⟨k', hk'⟩ : ∃ k', 4 * k + m = k' + 1 := ⟨4 * k + m - 1, by omega⟩
              have hR1 : Rw wr g (k' + 1) cap KB := by rw [← hk']; exact hR
              have c1 := hR.c (4 * k2 + m) (by omega)
              unfold bc at c1
              have c2 := hT.cv m hlm (.int .u8 ((bQ q1 m).val : Int)) rfl
              have r1 := fun ds os => cell_regrown c1 ds os
              have r2 := fun ds os => cell_regrown c2 ds os
              have ex := xr8 (KB (4 * k2 + m)) (bQ q1 m)
              rw [← HTQ.out m hlm] at ex
              have l1 : 4 * (k2 : Int) + (m : Int) < 4 * (k : Int) + (m : Int) := by omega
              have l2 : (4 * k2 + m : Nat) < 4 * k + m := by omega
              have HR : Hid (Rw wr g (4 * k + m) cap KB) := hR
              have HK1 : Hid (4 * k + m = k' + 1) := hk'
              have HR1 : Hid (Rw wr g (k' + 1) cap KB) := hR1
              clear hR hk' hR1 c1 c2
              generalize KB (4 * k2 + m) = a1 at *
              generalize bQ q1 m = a2 at *
              have HKV : Hid _ := rfl (a := KB (4 * k + m))
              obtain ⟨a3, ha3⟩ : ∃ a, KB (4 * k + m) = a := ⟨_, rfl⟩
              rw [ha3] at ex
              have HA3 : Hid (KB (4 * k + m) = a3) := ha3
              clear ha3
              go_wp2_with fail
              apply wp_region_head_tail 1 14 #[true, false, false, false, false, false, false, false, false, false, false, false, false, false, false, false, false, false] (by kernel_rfl) (by intro c d v a w h; cases d <;> exact h) (by kernel_rfl)
              · exact ⟨.slice (some ⟨g, 0, none⟩) (4 * k + m) cap, Or.inl ⟨rfl, fun _ => rfl⟩, rfl⟩
              simp only [List.take_succ_cons, List.take_zero, List.drop_succ_cons, List.drop_zero, Act.put, List.setIfInBounds_toArray, List.set_cons_succ, List.set_cons_zero]
              repeat (go_big_quiet_step (fail))
              refine wpQuiet_nil ?_
              intro w5 hw'
              obtain ⟨⟨dq, osq⟩, hw''⟩ := hw'
              have hb := below_of hw''
              clear hw'' r1 r2
              have T5 := hT.to' hb
              have B5 := Bel.call hB hb
              have R5 := HR1.out.to hb
              have lt5 : gu < w5.heap.size := T5.lt
              have lg5 : g < w5.heap.size := R5.lt
              have b5 := B5.size
              clear hT hB hb HR HR1
              go_wp2_with (at_builtin; refine stopAt ?_)
              unfold Stop
              refine wpList_app1 _ rfl _ _ rfl g (4 * k + m) cap KB rfl (by rw [HK1.out]; exact R5.al _) w5.heap.size 1 rfl (by unfold bc; rw [HA3.out]; simp) (by omega) ?_
              intro g' cap' w6 R6 hg' hG6
              have T6 := gb_arr hG6 (Ne.symm ngt) (T5.al' (.cells #[.int .u8 (a3.val : Int)] 5))
              have B6 : Below w.heap.size w w6 := (Bel.al B5 (.cells #[.int .u8 (a3.val : Int)] 5)).grown hG6 (by simp; omega) (fun q e => by cases e; exact hgb)
              clear R5 T5 B5
              go_wp2_with fail
              have e1 : w5.heap.size + 1 = (w5.alloc (.cells #[.int .u8 (a3.val : Int)] 5)).heap.size := by simp
              refine ⟨⟨m + 1, g', cap', by omega, by rw [Nat.add_assoc], by go_num, by rw [← Nat.add_assoc]; exact R6, T6, B6, by rcases hg' with h | h <;> omega, by rcases hg' with h | h <;> omega⟩, by simp [intOf]; omega⟩
            · have e : m = 4 := by omega
              rw [show ((m : Nat) : Int) = 4 by omega]
              subst e
              have HR : Hid (Rw wr g (4 * (k + 1)) cap KB) := by rw [show 4 * (k + 1) = 4 * k + 4 by omega]; exact hR
              clear hT hR HTQ
              go_wp2_with fail
              refine ⟨⟨k + 1, g, cap, by omega, by omega, by rw [show 4 * (k + 1) = 4 * k + 4 by omega], by rw [Nat.add_sub_cancel]; first | rfl | (rw [ep.out, em1]; done) | rw [ep.out], by go_num, HR.out, hB, hgb⟩, by simp [intOf]; omega⟩
        · have t3 : ¬ ((k : Int) % 8 = 4) := by omega
          have t3' := beq_false_of_ne t3
          have hQ : Hid (tQ 8 k p = p) := by show _ = _; unfold tQ; rw [if_neg (by omega), if_neg (by omega)]
          have RR : Rw w2 g (4 * k + 0) cap KB := by show Rw _ _ (4 * k) _ _; rw [HK4.out]; exact R2
          have TT := T1
          have BB := B2
          have ngt := ng
          clear R2 T1 B2 ng
          have HTQ : Hid (∀ m, m < 4 → KB (4 * k + m) = xr (KB (4 * k2 + m)) (bQ p m)) := fun m hm => by
            show _ = _
            have := HK.out
            rw [hQ.out] at this
            rw [HKB.out, HKB.out, kb4 _ _ k _ hm, this, bQ_x _ _ _ hm, kb4 _ _ k2 _ hm]
          clear hQ
          go_wp2_with fail
          go_loopw [4, 8] (fun v j wr => ∃ m g cap : Nat, m ≤ 4 ∧ v = .slice (some ⟨g, 0, none⟩) (4 * k + m) cap ∧ j = .int .i64 m ∧ Rw wr g (4 * k + m) cap KB ∧ Arr wr gt 4 (bc (bQ p)) ∧ Below w.heap.size w wr ∧ w.heap.size ≤ g ∧ g ≠ gt) (fun _ j _ => 4 - (intOf j).toNat)
          case atStart => exact ⟨0, g, cap, by omega, rfl, rfl, RR, TT, BB, hgb, ngt⟩
          case round =>
            clear RR TT BB hgb ngt
            obtain ⟨m, g, cap, hm, rfl, rfl, hR, hT, hB, hgb, ngt⟩ := hrel
            have m0 : (0 : Int) ≤ (m : Int) := by omega
            by_cases hlm : m < 4
            · have m4 : (m : Int) < 4 := by omega
              obtain ⟨k', hk'⟩ : ∃ k', 4 * k + m = k' + 1 := ⟨4 * k + m - 1, by omega⟩
              have hR1 : Rw wr g (k' + 1) cap KB := by rw [← hk']; exact hR
              have c1 := hR.c (4 * k2 + m) (by omega)
              unfold bc at c1
              have c2 := hT.cv m hlm (.int .u8 ((bQ p m).val : Int)) rfl
              have r1 := fun ds os => cell_regrown c1 ds os
              have r2 := fun ds os => cell_regrown c2 ds os
              have ex := xr8 (KB (4 * k2 + m)) (bQ p m)
              rw [← HTQ.out m hlm] at ex
              have l1 : 4 * (k2 : Int) + (m : Int) < 4 * (k : Int) + (m : Int) := by omega
              have l2 : (4 * k2 + m : Nat) < 4 * k + m := by omega
              have HR : Hid (Rw wr g (4 * k + m) cap KB) := hR
              have HK1 : Hid (4 * k + m = k' + 1) := hk'
              have HR1 : Hid (Rw wr g (k' + 1) cap KB) := hR1
              clear hR hk' hR1 c1 c2
              generalize KB (4 * k2 + m) = a1 at *
              generalize bQ p m = a2 at *
              have HKV : Hid _ := rfl (a := KB (4 * k + m))
              obtain ⟨a3, ha3⟩ : ∃ a, KB (4 * k + m) = a := ⟨_, rfl⟩
              rw [ha3] at ex
              have HA3 : Hid (KB (4 * k + m) = a3) := ha3
              clear ha3
              go_wp2_with fail
              apply wp_region_head_tail 1 14 #[true, false, false, false, false, false, false, false, false, false, false, false, false, false, false, false, false, false] (by kernel_rfl) (by intro c d v a w h; cases d <;> exact h) (by kernel_rfl)
              · exact ⟨.slice (some ⟨g, 0, none⟩) (4 * k + m) cap, Or.inl ⟨rfl, fun _ => rfl⟩, rfl⟩
              simp only [List.take_succ_cons, List.take_zero, List.drop_succ_cons, List.drop_zero, Act.put, List.setIfInBounds_toArray, List.set_cons_succ, List.set_cons_zero]
              repeat (go_big_quiet_step (fail))
              refine wpQuiet_nil ?_
              intro w5 hw'
              obtain ⟨⟨dq, osq⟩, hw''⟩ := hw'
              have hb := below_of hw''
              clear hw'' r1 r2
              have T5 := hT.to' hb
              have B5 := Bel.call hB hb
              have R5 := HR1.out.to hb
              have lt5 : gt < w5.heap.size := T5.lt
              have lg5 : g < w5.heap.size := R5.lt
              have b5 := B5.size
              clear hT hB hb HR HR1
              go_wp2_with (at_builtin; refine stopAt ?_)
              unfold Stop
              refine wpList_app1 _ rfl _ _ rfl g (4 * k + m) cap KB rfl (by rw [HK1.out]; exact R5.al _) w5.heap.size 1 rfl (by unfold bc; rw [HA3.out]; simp) (by omega) ?_
              intro g' cap' w6 R6 hg' hG6
              have T6 := gb_arr hG6 (Ne.symm ngt) (T5.al' (.cells #[.int .u8 (a3.val : Int)] 5))
              have B6 : Below w.heap.size w w6 := (Bel.al B5 (.cells #[.int .u8 (a3.val : Int)] 5)).grown hG6 (by simp; omega) (fun q e => by cases e; exact hgb)
              clear R5 T5 B5
              go_wp2_with fail
              have e1 : w5.heap.size + 1 = (w5.alloc (.cells #[.int .u8 (a3.val : Int)] 5)).heap.size := by simp
              refine ⟨⟨m + 1, g', cap', by omega, by rw [Nat.add_assoc], by go_num, by rw [← Nat.add_assoc]; exact R6, T6, B6, by rcases hg' with h | h <;> omega, by rcases hg' with h | h <;> omega⟩, by simp [intOf]; omega⟩
            · have e : m = 4 := by omega
              rw [show ((m : Nat) : Int) = 4 by omega]
              subst e
              have HR : Hid (Rw wr g (4 * (k + 1)) cap KB) := by rw [show 4 * (k + 1) = 4 * k + 4 by omega]; exact hR
              clear hT hR HTQ
              go_wp2_with fail
              refine ⟨⟨k + 1, g, cap, by omega, by omega, by rw [show 4 * (k + 1) = 4 * k + 4 by omega], by rw [Nat.add_sub_cancel]; first | rfl | (rw [ep.out, em1]; done) | rw [ep.out], by go_num, HR.out, hB, hgb⟩, by simp [intOf]; omega⟩
    · have kN : ¬ (k : Int) < 60 := by omega
      have e : k = 60 := by omega
      subst e
      have HR : Hid (Rw wr g 240 cap KB) := hR
      clear hR
      go_wp2_with fail
      go_ret
      exact ⟨g, cap, rfl, HR.out, hB, hgb⟩
end Go.Proofs.YtjaljnfijhfkcaaGreatDoor
