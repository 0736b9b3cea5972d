/- What the reference's ToTime tells. -/
import Derived.Test.YtajdfjpcobaioaaGreatDoorR8
set_option linter.all false
set_option maxRecDepth 100000
namespace Go.Proofs.YtajdfjpcobaioaaGreatDoor
open Go.RowKit Go.Sort
theorem rtt_f1 (s : ByteArray) (h : s.size ≠ 15) (hm : s.size ≤ maxLen) (w : World) : Calls Tryz.prog 13 #[.string s] w fun e w' => e = .returned (.tuple #[.int .i64 0, .int .i64 10]) ∧ Below w.heap.size w w' := by
  have h' : ¬ (s.size : Int) = 15 := by omega
  have h2 : ((s.size : Int) == 15) = false := by simp [h']
  go_enter Tryz.func13, Tryz.ntmps13
  go_wp2_with fail
  exact bodyPost_ret (v := .tuple #[.int .i64 0, .int .i64 10]) (by simp [results, Tryz.results13, go_sem]) rfl ⟨rfl, by go_grown⟩
theorem rtt_f2 (s : ByteArray) (h15 : s.size = 15) (h : bt s 14 ≠ 90) (w : World) : Calls Tryz.prog 13 #[.string s] w fun e w' => e = .returned (.tuple #[.int .i64 0, .int .i64 10]) ∧ Below w.heap.size w w' := by
  have I14 : ∀ W, (Instr.index 9 (.string s) (.int .i64 14)).run Tryz.prog W = .ok (.int .u8 (bt s 14)) W := fun W => idxS s 14 (by omega) W
  have cb := bt_bd s 14
  have z15 : (s.size : Int) = 15 := by omega
  have h2 : (bt s 14 == 90) = false := by simp [h]
  generalize bt s 14 = c at *
  go_enter Tryz.func13, Tryz.ntmps13
  go_wp2_with fail
  exact bodyPost_ret (v := .tuple #[.int .i64 0, .int .i64 10]) (by simp [results, Tryz.results13, go_sem]) rfl ⟨rfl, by go_grown⟩
set_option maxHeartbeats 4000000 in
theorem rtt_f3 (s : ByteArray) (h15 : s.size = 15) (h14 : bt s 14 = 90) (hn : Hid (¬ ∀ j, j < 14 → 48 ≤ bt s j ∧ bt s j ≤ 57)) (w : World) : Calls Tryz.prog 13 #[.string s] w fun e w' => e = .returned (.tuple #[.int .i64 0, .int .i64 10]) ∧ Below w.heap.size w w' := by
  obtain ⟨i0', hi, hz0, hz1, hz2⟩ := info_parts Tryz.inf2
  have I14 : ∀ W, (Instr.index 9 (.string s) (.int .i64 14)).run Tryz.prog W = .ok (.int .u8 90) W := fun W => by have := idxS s 14 (by omega) W; rw [h14] at this; exact this
  have z15 : (s.size : Int) = 15 := by omega
  go_enter Tryz.func13, Tryz.ntmps13
  go_wp2_with fail
  go_loopw [4, 5] (fun v ii wr => ∃ (k : Nat) (M : List Value), k ≤ 14 ∧ ii = .int .i64 (k : Int) ∧ wr.ownsRow w.heap.size 2 1 v k M ∧ (∀ j, j < k → 48 ≤ bt s j ∧ bt s j ≤ 57) ∧ Below w.heap.size w wr) (fun _ ii _ => 14 - (intOf ii).toNat)
  case atStart => exact ⟨0, [], by omega, rfl, World.ownsRow_nil _ _ _ _, (fun j hj => by omega), by go_grown⟩
  case round =>
    obtain ⟨k, M, hk, rfl, hown, hall, hB⟩ := hrel
    by_cases hlt : k < 14
    · have k0 : (0 : Int) ≤ (k : Int) := by omega
      have k1 : (k : Int) < 14 := by omega
      have I := idxS s k (by omega)
      have cb := bt_bd s k
      have HA : Hid (∀ j, j < k → 48 ≤ bt s j ∧ bt s j ≤ 57) := hall
      obtain ⟨ao, cv, hv⟩ := ownF hown
      subst hv
      clear hall
      by_cases g1 : bt s k < 48
      · clear hown
        generalize bt s k = c at *
        go_wp2_with fail
        exact bodyPost_ret (v := .tuple #[.int .i64 0, .int .i64 10]) (by simp [results, Tryz.results13, go_sem]) rfl ⟨rfl, hB⟩
      · have c1 : decide (bt s k < 48) = false := decide_eq_false (by omega)
        by_cases g2 : 57 < bt s k
        · clear hown
          generalize bt s k = c at *
          go_wp2_with fail
          exact bodyPost_ret (v := .tuple #[.int .i64 0, .int .i64 10]) (by simp [results, Tryz.results13, go_sem]) rfl ⟨rfl, hB⟩
        · have c2 : decide (57 < bt s k) = false := decide_eq_false (by omega)
          have c3 : (bt s k - 48) % 256 = bt s k - 48 := by omega
          have HK : Hid (∀ j, j < k + 1 → 48 ≤ bt s j ∧ bt s j ≤ 57) := fun j hj => by
            by_cases e : j = k
            · subst e; omega
            · exact HA.out j (by omega)
          have kb : k + 1 ≤ maxLen := by unfold maxLen; omega
          have kb2 : (k + 1) * 8 ≤ 140737488355328 := by omega
          have hs' := hB.size
          have HO : Hid (wr.ownsRow w.heap.size 2 1 (.slice ao k cv) k M) := hown
          clear hown HA
          generalize hX : bt s k = c at *
          clear hX
          go_wp2_with (at_builtin; refine stopAt ?_)
          unfold Stop
          refine wpList_append_own _ rfl _ _ 69 rfl w.heap.size 2 i0' (.int .i64 0) 1 8 Tryz.underlying69 hi hz0 hz1 hz2 rfl (by decide) _ _ _ rfl (World.ownsRow.alloc HO.out _) ⟨_, 0, none⟩ 1 1 [.int .i64 (c - 48)] rfl rfl (news_new _ _ _) (fun u hu => by simp at hu; subst hu; rfl) kb kb2 (by simp; omega) ?_
          intro v' w3 hown' hgrow3 hnil3
          have b3 : Below w.heap.size w w3 := (Bel.al hB _).grown hgrow3 (by simp; omega) (fun q hq => (HO.out.lt q hq).1)
          clear hnil3 hgrow3
          have HO' : Hid (w3.ownsRow w.heap.size 2 1 v' (k + 1) (M ++ [.int .i64 (c - 48)])) := hown'
          clear hown'
          go_wp2_with fail
          exact ⟨⟨k + 1, _, by omega, by go_num, HO'.out, HK.out, b3⟩, by simp [intOf]; omega⟩
    · obtain rfl : k = 14 := by omega
      exact absurd hall hn.out
theorem fY_pair (s : ByteArray) : (10 * (bt s 0 - 48) + (bt s 1 - 48)) * 100 + (10 * (bt s 2 - 48) + (bt s 3 - 48)) = fY s := by unfold fY; omega
theorem cal_or (s : ByteArray) (h : htB s) : ((fY s < 1) ∨ (¬ fY s < 1 ∧ fM s < 1) ∨ (¬ fY s < 1 ∧ ¬ fM s < 1 ∧ 12 < fM s) ∨ (¬ fY s < 1 ∧ ¬ fM s < 1 ∧ ¬ 12 < fM s ∧ fD s < 1) ∨ (¬ fY s < 1 ∧ ¬ fM s < 1 ∧ ¬ 12 < fM s ∧ ¬ fD s < 1 ∧ mD (fY s) (fM s) < fD s) ∨ (¬ fY s < 1 ∧ ¬ fM s < 1 ∧ ¬ 12 < fM s ∧ ¬ fD s < 1 ∧ ¬ mD (fY s) (fM s) < fD s ∧ 23 < fH s) ∨ (¬ fY s < 1 ∧ ¬ fM s < 1 ∧ ¬ 12 < fM s ∧ ¬ fD s < 1 ∧ ¬ mD (fY s) (fM s) < fD s ∧ ¬ 23 < fH s ∧ 59 < fI s) ∨ (¬ fY s < 1 ∧ ¬ fM s < 1 ∧ ¬ 12 < fM s ∧ ¬ fD s < 1 ∧ ¬ mD (fY s) (fM s) < fD s ∧ ¬ 23 < fH s ∧ ¬ 59 < fI s ∧ 59 < fS s)) ∨ (¬ fY s < 1 ∧ ¬ fM s < 1 ∧ ¬ 12 < fM s ∧ ¬ fD s < 1 ∧ ¬ mD (fY s) (fM s) < fD s ∧ ¬ 23 < fH s ∧ ¬ 59 < fI s ∧ ¬ 59 < fS s) := by
  by_cases g0 : fY s < 1
  · exact .inl (.inl g0)
  by_cases g1 : fM s < 1
  · exact .inl (.inr (.inl ⟨g0, g1⟩))
  by_cases g2 : 12 < fM s
  · exact .inl (.inr (.inr (.inl ⟨g0, g1, g2⟩)))
  by_cases g3 : fD s < 1
  · exact .inl (.inr (.inr (.inr (.inl ⟨g0, g1, g2, g3⟩))))
  by_cases g4 : mD (fY s) (fM s) < fD s
  · exact .inl (.inr (.inr (.inr (.inr (.inl ⟨g0, g1, g2, g3, g4⟩)))))
  by_cases g5 : 23 < fH s
  · exact .inl (.inr (.inr (.inr (.inr (.inr (.inl ⟨g0, g1, g2, g3, g4, g5⟩))))))
  by_cases g6 : 59 < fI s
  · exact .inl (.inr (.inr (.inr (.inr (.inr (.inr (.inl ⟨g0, g1, g2, g3, g4, g5, g6⟩)))))))
  by_cases g7 : 59 < fS s
  · exact .inl (.inr (.inr (.inr (.inr (.inr (.inr (.inr ⟨g0, g1, g2, g3, g4, g5, g6, g7⟩)))))))
  exact .inr ⟨g0, g1, g2, g3, g4, g5, g6, g7⟩
theorem rtt_cp (s : ByteArray) (h : htB s) (g c : Nat) (W : World) (hc : ∀ j, j < 14 → W.cell? ⟨g, j, none⟩ = some (.int .i64 (bt s j - 48))) : Calls Tryz.prog 36 #[.slice (some ⟨g, 0, none⟩) 14 c] W fun e w' => (∃ g c, e = .returned (.slice (some ⟨g, 0, none⟩) 7 c) ∧ C7 w' g (10 * (bt s 0 - 48) + (bt s 1 - 48)) (10 * (bt s 2 - 48) + (bt s 3 - 48)) (fM s) (fD s) (fH s) (fI s) (fS s)) ∧ Below W.heap.size W w' := by
  refine (pairs_any (fun j => bt s j - 48) (fun j hj => by have := h.2.2 j hj; omega) g c W hc).mono ?_
  rintro e w' ⟨⟨g2, c2, rfl, hh⟩, hb⟩
  exact ⟨⟨g2, c2, rfl, hh 0 (by omega), hh 1 (by omega), hh 2 (by omega), hh 3 (by omega), hh 4 (by omega), hh 5 (by omega), hh 6 (by omega)⟩, hb⟩
theorem pr_bd (s : ByteArray) (h : htB s) : 0 ≤ 10 * (bt s 0 - 48) + (bt s 1 - 48) ∧ 10 * (bt s 0 - 48) + (bt s 1 - 48) ≤ 99 ∧ 0 ≤ 10 * (bt s 2 - 48) + (bt s 3 - 48) ∧ 10 * (bt s 2 - 48) + (bt s 3 - 48) ≤ 99 := by
  have a := h.2.2 0 (by omega)
  have b := h.2.2 1 (by omega)
  have c := h.2.2 2 (by omega)
  have d := h.2.2 3 (by omega)
  omega
theorem rtoTime_no (s : ByteArray) (hm : s.size ≤ maxLen) (h : ¬ ttOk s) (w : World) : Calls Tryz.prog 13 #[.string s] w fun e w' => e = .returned (.tuple #[.int .i64 0, .int .i64 10]) ∧ Below w.heap.size w w' := by
  by_cases c : htB s
  · obtain ⟨bY, bM, bD, bH, bI, bS⟩ := fld_bd s c
    rcases cal_or s c with hc | hc
    · exact rtt_bad s c.1 c.2.1 c.2.2 _ _ (fM s) (fD s) (fH s) (fI s) (fS s) (fY s) (mD (fY s) (fM s)) 0 (pr_bd s c) (fY_pair s) bM bD bH bI bS hc (fun g cc W hW => rtt_cp s c g cc W hW) (fun m0 m1 W => rLong_any (fY s) (fM s) bY.1 m0 m1 W) w
    · obtain ⟨g0, g1, g2, g3, g4, g5, g6, g7⟩ := hc
      exact absurd ⟨c, ⟨by omega, bY.2, by omega, by omega, by omega, by omega, bH.1, by omega, bI.1, by omega, bS.1, by omega⟩⟩ h
  · by_cases c1 : s.size = 15
    · by_cases c2 : bt s 14 = 90
      · exact rtt_f3 s c1 c2 (fun h2 => c ⟨c1, c2, h2⟩) w
      · exact rtt_f2 s c1 c2 w
    · exact rtt_f1 s c1 hm w
theorem rtoTime_yes (s : ByteArray) (h : ttOk s) (w : World) : Calls Tryz.prog 13 #[.string s] w fun e w' => e = .returned (.tuple #[.int .i64 (secs (fY s) (fM s) (fD s) (fH s) (fI s) (fS s)), .int .i64 0]) ∧ Below w.heap.size w w' := by
  have c := h.form
  obtain ⟨bY, bM, bD, bH, bI, bS⟩ := fld_bd s c
  have k := h.cal
  have a1 := k.y0; have a2 := k.m0; have a3 := k.m1; have a4 := k.d0; have a5 := k.d1; have a6 := k.h1; have a7 := k.i1; have a8 := k.s1
  refine rtt_good s c.1 c.2.1 c.2.2 _ _ (fM s) (fD s) (fH s) (fI s) (fS s) (fY s) (mD (fY s) (fM s)) (dA (fY s)) (pr_bd s c) (fY_pair s) bM bD bH bI bS _ (cum (fY s)) (fun j => mD (fY s) ((j : Int) + 1)) (fun y1 => by have := dA_bd (fY s) y1 (by omega); unfold dA at this ⊢; omega) ⟨rfl, fun j => cum_s _ j, fun j => cum_0 _ j, fun j hj => cum_le _ j hj, fun j => mD_bd _ _⟩ (fun k hk => ?_) (fun y1 W => rdays_b (fY s) y1 (by omega) W) (fun y1 j hj W => rLong_any (fY s) ((j : Int) + 1) bY.1 (by omega) (by omega) W) ⟨by omega, by omega, by omega, by omega, by omega, by omega, by omega, by omega⟩ (fun g cc W hW => rtt_cp s c g cc W hW) (fun m0 m1 W => rLong_any (fY s) (fM s) bY.1 m0 m1 W) w
  unfold secs LT
  rw [show (fM s - 1).toNat = k by omega]
  omega
end Go.Proofs.YtajdfjpcobaioaaGreatDoor
