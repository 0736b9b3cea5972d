/- A cipher's schedule: the words of a key of 32 bytes. -/
import Derived.Test.YtjaljnfijhfkcaaGreatDoorJ8
set_option linter.all false
set_option maxRecDepth 100000
namespace Go.Proofs.YtjaljnfijhfkcaaGreatDoor
open Go.RowKit Go.Sort Lin
set_option maxHeartbeats 8000000 in
theorem sched_8 (key : ByteArray) (hk : key.size = 32) (b : Nat) (d st : Int) (X0 : Nat → Int) (l0 : Int) (hX0 : ∀ j, X0 j = 0) (w : World) (hC0 : Cph w b key d st zT X0 l0) :
    Calls Tryz.prog 131 #[.pointer (some ⟨b, 0, none⟩)] w fun e w' => e = .returned (.tuple #[]) ∧ w.grownBy w' (some b) ∧ Cph w' b key d st sT (fun j => if j < 60 then wQ (kQ (bF key) 8 j) else 0) 14 := by
  have BC := fun W => becoming_any W
  have HL : Hid (∀ W : World, W.there b 4 256 → W.there b 4 (tbL sb).toArray.size) := fun W h => by rw [List.size_toArray, tbL_len]; exact h
  have HI : Hid ((Tryz.prog.info? 163).map (·.size) = some (tbL sb).toArray.size) := by rw [List.size_toArray, tbL_len]; exact Tryz.info163
  have HO : Hid _ := all_oneCell_toArray (tbL_one sb)
  have HT : Hid (∀ W : World, Cph W b key d st zT X0 l0 → Cph (W.setCells b 4 (tbL sb)) b key d st sT X0 l0) := fun W h => h.setT
  have ks : (key.size : Int) = 32 := by omega
  generalize tbL sb = TL at *
  go_enter Tryz.func131, Tryz.ntmps131
  go_upto_region 0 with (fail)
  refine wp_region_list ?_
  refine wpList_plain (by rfl) fun K1 hK1 => ?_
  have H1 : Hid _ := hK1
  clear hK1
  go_wp2_with fail
  refine H1.out _ _ ?_
  clear H1
  refine wpList_plain (by rfl) fun K1 hK1 => ?_
  have H1 : Hid _ := hK1
  clear hK1
  go_wp2_with fail
  refine (BC _).mono ?_
  rintro e w1 ⟨rfl, hb⟩
  have hC := hC0.to hb
  have hG := gb_of (r := some b) hb
  clear hC0 hb BC
  refine H1.out _ _ ?_
  clear H1
  refine wpList_plain (by rfl) fun K1 hK1 => ?_
  have H1 : Hid _ := hK1
  clear hK1
  have cc := Arr.c hC 0 (by omega)
  go_wp2_with fail
  refine H1.out _ _ ?_
  clear H1
  refine wpList_plain (by rfl) fun K1 hK1 => ?_
  have H1 : Hid _ := hK1
  clear hK1
  go_wp2_with fail
  refine H1.out _ _ ?_
  clear H1
  refine wpList_store_mid (by rfl) 163 (.tmp 9) (.tmp 7) (by rfl) _ _ TL.toArray (by rfl) (by rfl) (HL.out _ hC.there) HI.out HO.out ?_
  refine wpList_nil ?_
  have hC1 := HT.out _ hC
  have hG1 := gb_trans hG (gb_sets w1 b TL 4)
  clear hC hG HL HI HO HT cc
  have eL : TL.toArray.toList = TL := rfl
  rw [eL]
  clear eL
  generalize w1.setCells b 4 TL = w2 at hC1 hG1 ⊢
  have c0 := Arr.c hC1 0 (by omega)
  have c3 := Arr.c hC1 320 (by omega)
  have z3 := Arr.z hC1 320 (by omega)
  rw [cph_0] at c0
  rw [cph_l] at c3
  go_upto_region 4 with (fail)
  have hC := hC1.setL 14
  have hG := gb_trans hG1 (gb_set w2 b 320 (.int .i64 14))
  clear hC1 hG1 c0 c3 z3
  generalize w2.setCell ⟨b, 320, none⟩ (.int .i64 14) = w3 at hC hG ⊢
  have cl := Arr.c hC 320 (by omega)
  rw [cph_l] at cl
  go_wp2_with fail
  go_loopw [27, 3] (fun i p wr => ∃ k : Nat, k ≤ 60 ∧ i = .int .i64 k ∧ p = .int .u8 ((rc ((k - 1) / 8)).val : Int) ∧ w.grownBy wr (some b) ∧ Cph wr b key d st sT (fun j => if j < k then wQ (kQ (bF key) 8 j) else 0) 14) (fun i _ _ => 60 - (intOf i).toNat)
  case atStart => exact ⟨0, by omega, rfl, rfl, hG, hC.congrX (fun j _ => by rw [if_neg (by omega)]; exact hX0 j)⟩
  case round =>
    clear hC hG cl hX0
    obtain ⟨k, hkN, rfl, rfl, hG, hC⟩ := hrel
    have k0 : (0 : Int) ≤ (k : Int) := by omega
    by_cases hlt : k < 60
    · have kN : (k : Int) < 60 := by omega
      by_cases h4 : k < 8
      · have k4 : (k : Int) < 8 := by omega
        have k60 : (k : Int) < 60 := by omega
        have WO := fun W => wordOf_any (key.extract (4 * k) key.size) (by rw [ByteArray.size_extract]; omega) W
        rw [bF_ext key _ 0 (by omega), bF_ext key _ 1 (by omega), bF_ext key _ 2 (by omega), bF_ext key _ 3 (by omega), hk] at WO
        have eq : wd (bF key (4 * k + 0)) (bF key (4 * k + 1)) (bF key (4 * k + 2)) (bF key (4 * k + 3)) = wQ (kQ (bF key) 8 k) := by rw [kQ_lo _ _ _ h4]; rfl
        rw [eq] at WO
        have c0 := Arr.c hC 0 (by omega)
        rw [cph_0] at c0
        have r0 := fun ds os => cell_regrown c0 ds os
        have ep : Hid (rc (k / 8) = rc ((k - 1) / 8)) := by show _ = _; rw [show k / 8 = (k - 1) / 8 by omega]
        obtain ⟨qk, hqk⟩ : ∃ q, kQ (bF key) 8 k = q := ⟨_, rfl⟩
        rw [hqk] at WO
        have HQ : Hid _ := hqk
        clear eq hqk
        go_wp2_with fail
        refine wp_region_below_tail 13 (by kernel_rfl) (by kernel_rfl) ?_
        simp only [List.take_succ_cons, List.take_zero, List.drop_succ_cons, List.drop_zero]
        repeat (go_big_quiet_step (first | (go_at_call 112; exact Calls.regrown_of (WO _))))
        refine wpQuiet_nil ?_
        intro w2 hw'
        obtain ⟨⟨dq, osq⟩, hw''⟩ := hw'
        have hb := below_of hw''
        clear hw'' r0 c0 WO
        have hC2 := hC.to hb
        have hG2 := gb_trans hG (gb_of hb)
        clear hC hG hb
        have c2 := Arr.c hC2 (260 + k) (by omega)
        have z2 := Arr.z hC2 (260 + k) (by omega)
        go_wp2_with fail
        refine ⟨⟨k + 1, by omega, by go_num, by rw [Nat.add_sub_cancel, ep.out], gb_trans hG2 (gb_set _ _ _ _), (hC2.setX k (by omega) _).congrX ?_⟩, by simp [intOf]; omega⟩
        intro j hj
        have := HQ.out
        by_cases e : j = k
        · subst e; rw [if_pos rfl, if_pos (by omega), this]
        · rw [if_neg e]
          by_cases e2 : j < k
          · rw [if_pos e2, if_pos (by omega)]
          · rw [if_neg e2, if_neg (by omega)]
      · have k4 : ¬ (k : Int) < 8 := by omega
        have k60 : (k : Int) < 60 := by omega
        obtain ⟨m1, hm1, em1⟩ : ∃ m : Nat, (k : Int) - 1 = (m : Int) ∧ k - 1 = m := ⟨k - 1, by omega, rfl⟩
        obtain ⟨m2, hm2, em2⟩ : ∃ m : Nat, (k : Int) - 8 = (m : Int) ∧ k - 8 = m := ⟨k - 8, by omega, rfl⟩
        have l1 : (m1 : Int) < 60 := by omega
        have l2 : (m2 : Int) < 60 := by omega
        have c1 := Arr.cv hC (260 + m1) (by omega) (.int .u32 (wQ (kQ (bF key) 8 m1))) (by rw [cph_X m1 (by omega), if_pos (by omega)])
        have HK : Hid (kQ (bF key) 8 k = xQ (kQ (bF key) 8 m2) (tQ 8 k (kQ (bF key) 8 m1))) := by show _ = _; rw [← em1, ← em2]; exact kQ_hi _ _ _ (by omega) (by omega)
        obtain ⟨p1, hp1⟩ : ∃ q, kQ (bF key) 8 m1 = q := ⟨_, rfl⟩
        obtain ⟨p2, hp2⟩ : ∃ q, kQ (bF key) 8 m2 = q := ⟨_, rfl⟩
        rw [hp1, hp2] at HK
        rw [hp1] at c1
        have HP2 : Hid (kQ (bF key) 8 m2 = p2) := hp2
        clear hp1 hp2
        by_cases t0 : k % 8 = 0
        · have t1 : (k : Int) % 8 = 0 := by omega
          have hQ : Hid (tQ 8 k p1 = (xr (sb p1.2.1) (rc ((k - 1) / 8)), sb p1.2.2.1, sb p1.2.2.2, sb p1.1)) := by show _ = _; unfold tQ; rw [if_pos t0]
          have ep : Hid (rc (k / 8) = tmF (rc ((k - 1) / 8)) 2) := by show _ = _; rw [show k / 8 = (k - 1) / 8 + 1 by omega]; rfl
          have TM := fun W => times_any (rc ((k - 1) / 8)) 2 W
          rw [show ((2 : By).val : Int) = 2 from rfl] at TM
          generalize rc ((k - 1) / 8) = r0 at *
          generalize tmF r0 2 = r1 at *
          have RO := fun W => rot_8 p1.1 p1.2.1 p1.2.2.1 p1.2.2.2 W
          have OF := fun W hW => of_any sb b 4 p1.2.1 p1.2.2.1 p1.2.2.2 p1.1 W hW
          have ei : wd p1.1 p1.2.1 p1.2.2.1 p1.2.2.2 = wQ p1 := rfl
          rw [ei] at RO
          have ex : bits .xor .u32 (wd (sb p1.2.1) (sb p1.2.2.1) (sb p1.2.2.2) (sb p1.1)) ((r0.val : Int) * 16777216) = wQ (xr (sb p1.2.1) r0, sb p1.2.2.1, sb p1.2.2.2, sb p1.1) := by
            have : (r0.val : Int) * 16777216 = wd r0 0 0 0 := by unfold wd wdN; simp
            rw [this, wd_xor, xr_zero, xr_zero, xr_zero]
            rfl
          clear ei
          generalize wd (sb p1.2.1) (sb p1.2.2.1) (sb p1.2.2.2) (sb p1.1) = y1 at *
          generalize wd p1.2.1 p1.2.2.1 p1.2.2.2 p1.1 = y0 at *
          generalize (xr (sb p1.2.1) r0, sb p1.2.2.1, sb p1.2.2.2, sb p1.1) = q1 at *
          have r256 : (r0.val : Int) < 256 := by have := r0.2; omega
          have tR := fun ds os => hC.tab.to (below_regrown wr ds os)
          have RO' : ∀ W, Calls Tryz.prog 127 #[.int .u32 (wQ p1), .int .i64 8] W fun e w' => e = .returned (.int .u32 y0) ∧ Below W.heap.size W w' := fun W => (RO W).mono fun e w' h => ⟨h.1, by rw [h.2]; exact Below.refl _ _⟩
          clear RO
          go_wp2_with fail
          refine wp_region_quiet_below (by kernel_rfl) (by kernel_rfl) ?_
          repeat (go_big_quiet_step (first | (go_at_call 127; exact Calls.regrown_of (RO' _)) | (go_at_call 126; exact Calls.regrown_of (OF _ (tR _ _)))))
          refine wpQuiet_nil ?_
          intro w1 hw'
          obtain ⟨⟨dq, osq⟩, hw''⟩ := hw'
          have hb := below_of hw''
          clear hw'' tR RO' OF c1
          have hC1 := hC.to hb
          have hG1 := gb_trans hG (gb_of hb)
          clear hC hG hb
          go_wp2_with fail
          refine (TM _).mono ?_
          rintro e w5 ⟨rfl, rfl⟩
          clear TM
          have cc := Arr.cv hC1 (260 + m2) (by omega) (.int .u32 (wQ p2)) (by rw [cph_X m2 (by omega), if_pos (by omega), HP2.out])
          have rcc := fun ds os => cell_regrown cc ds os
          have ex := wQ_xor p2 q1
          go_wp2_with fail
          refine wp_region_below_tail 15 (by kernel_rfl) (by kernel_rfl) ?_
          simp only [List.take_succ_cons, List.take_zero, List.drop_succ_cons, List.drop_zero]
          repeat (go_big_quiet_step (fail))
          refine wpQuiet_nil ?_
          intro w2 hw'
          obtain ⟨⟨dq, osq⟩, hw''⟩ := hw'
          have hb := below_of hw''
          clear hw'' rcc cc
          have hC2 := hC1.to hb
          have hG2 := gb_trans hG1 (gb_of hb)
          clear hC1 hG1 hb
          have c2 := Arr.c hC2 (260 + k) (by omega)
          have z2 := Arr.z hC2 (260 + k) (by omega)
          go_wp2_with fail
          refine ⟨⟨k + 1, by omega, by go_num, by rw [Nat.add_sub_cancel]; first | rfl | (rw [ep.out, em1]; done) | rw [ep.out], gb_trans hG2 (gb_set _ _ _ _), (hC2.setX k (by omega) _).congrX ?_⟩, by simp [intOf]; omega⟩
          intro j hj
          have := HK.out
          rw [hQ.out] at this
          by_cases e : j = k
          · subst e; rw [if_pos rfl, if_pos (by omega), this]
          · rw [if_neg e]
            by_cases e2 : j < k
            · rw [if_pos e2, if_pos (by omega)]
            · rw [if_neg e2, if_neg (by omega)]
        · have t1 : ¬ ((k : Int) % 8 = 0) := by omega
          have ep : Hid (rc (k / 8) = rc ((k - 1) / 8)) := by show _ = _; rw [show k / 8 = (k - 1) / 8 by omega]
          by_cases t2 : k % 8 = 4
          · have t3 : (k : Int) % 8 = 4 := by omega
            have hQ : Hid (tQ 8 k p1 = sQ p1) := by show _ = _; unfold tQ; rw [if_neg (by omega), if_pos ⟨rfl, t2⟩]
            have OF := fun W hW => of_any sb b 4 p1.1 p1.2.1 p1.2.2.1 p1.2.2.2 W hW
            have eo : wd (sb p1.1) (sb p1.2.1) (sb p1.2.2.1) (sb p1.2.2.2) = wQ (sQ p1) := rfl
            have ei : wd p1.1 p1.2.1 p1.2.2.1 p1.2.2.2 = wQ p1 := rfl
            rw [eo, ei] at OF
            clear eo ei
            generalize sQ p1 = q1 at *
            go_wp2_with fail
            refine (OF _ hC.tab).mono ?_
            rintro e w1 ⟨rfl, hb⟩
            have hC1 := hC.to hb
            have hG1 := gb_trans hG (gb_of hb)
            clear hC hG hb OF
            have cc := Arr.cv hC1 (260 + m2) (by omega) (.int .u32 (wQ p2)) (by rw [cph_X m2 (by omega), if_pos (by omega), HP2.out])
            have rcc := fun ds os => cell_regrown cc ds os
            have ex := wQ_xor p2 q1
            go_wp2_with fail
            refine wp_region_below_tail 15 (by kernel_rfl) (by kernel_rfl) ?_
            simp only [List.take_succ_cons, List.take_zero, List.drop_succ_cons, List.drop_zero]
            repeat (go_big_quiet_step (fail))
            refine wpQuiet_nil ?_
            intro w2 hw'
            obtain ⟨⟨dq, osq⟩, hw''⟩ := hw'
            have hb := below_of hw''
            clear hw'' rcc cc
            have hC2 := hC1.to hb
            have hG2 := gb_trans hG1 (gb_of hb)
            clear hC1 hG1 hb
            have c2 := Arr.c hC2 (260 + k) (by omega)
            have z2 := Arr.z hC2 (260 + k) (by omega)
            go_wp2_with fail
            refine ⟨⟨k + 1, by omega, by go_num, by rw [Nat.add_sub_cancel]; first | rfl | (rw [ep.out, em1]; done) | rw [ep.out], gb_trans hG2 (gb_set _ _ _ _), (hC2.setX k (by omega) _).congrX ?_⟩, by simp [intOf]; omega⟩
            intro j hj
            have := HK.out
            rw [hQ.out] at this
            by_cases e : j = k
            · subst e; rw [if_pos rfl, if_pos (by omega), this]
            · rw [if_neg e]
              by_cases e2 : j < k
              · rw [if_pos e2, if_pos (by omega)]
              · rw [if_neg e2, if_neg (by omega)]
          · have t3 : ¬ ((k : Int) % 8 = 4) := by omega
            have hQ : Hid (tQ 8 k p1 = p1) := by show _ = _; unfold tQ; rw [if_neg (by omega), if_neg (by omega)]
            have hC1 := hC
            have hG1 := hG
            clear hC hG
            obtain ⟨q1, hq1⟩ : ∃ q, p1 = q := ⟨_, rfl⟩
            subst hq1
            have cc := Arr.cv hC1 (260 + m2) (by omega) (.int .u32 (wQ p2)) (by rw [cph_X m2 (by omega), if_pos (by omega), HP2.out])
            have rcc := fun ds os => cell_regrown cc ds os
            have ex := wQ_xor p2 p1
            go_wp2_with fail
            refine wp_region_below_tail 15 (by kernel_rfl) (by kernel_rfl) ?_
            simp only [List.take_succ_cons, List.take_zero, List.drop_succ_cons, List.drop_zero]
            repeat (go_big_quiet_step (fail))
            refine wpQuiet_nil ?_
            intro w2 hw'
            obtain ⟨⟨dq, osq⟩, hw''⟩ := hw'
            have hb := below_of hw''
            clear hw'' rcc cc
            have hC2 := hC1.to hb
            have hG2 := gb_trans hG1 (gb_of hb)
            clear hC1 hG1 hb
            have c2 := Arr.c hC2 (260 + k) (by omega)
            have z2 := Arr.z hC2 (260 + k) (by omega)
            go_wp2_with fail
            refine ⟨⟨k + 1, by omega, by go_num, by rw [Nat.add_sub_cancel]; first | rfl | (rw [ep.out, em1]; done) | rw [ep.out], gb_trans hG2 (gb_set _ _ _ _), (hC2.setX k (by omega) _).congrX ?_⟩, by simp [intOf]; omega⟩
            intro j hj
            have := HK.out
            rw [hQ.out] at this
            by_cases e : j = k
            · subst e; rw [if_pos rfl, if_pos (by omega), this]
            · rw [if_neg e]
              by_cases e2 : j < k
              · rw [if_pos e2, if_pos (by omega)]
              · rw [if_neg e2, if_neg (by omega)]
    · have kN : ¬ (k : Int) < 60 := by omega
      have e : k = 60 := by omega
      subst e
      clear k0
      go_wp2_with fail
      go_end0
      exact ⟨rfl, hG, hC⟩
end Go.Proofs.YtjaljnfijhfkcaaGreatDoor
