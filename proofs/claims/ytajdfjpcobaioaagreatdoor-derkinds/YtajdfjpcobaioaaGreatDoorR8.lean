/- The reference's ToTime. -/
import Derived.Test.YtajdfjpcobaioaaGreatDoorR7
set_option linter.all false
set_option maxRecDepth 100000
namespace Go.Proofs.YtajdfjpcobaioaaGreatDoor
open Go.RowKit Go.Sort
set_option maxHeartbeats 8000000 in
theorem rtt_bad (s : ByteArray) (h15 : s.size = 15) (h14 : bt s 14 = 90) (hdg : Hid (∀ j, j < 14 → 48 ≤ bt s j ∧ bt s j ≤ 57)) (p0 p1 m d h i q Y G A : Int) (pb : 0 ≤ p0 ∧ p0 ≤ 99 ∧ 0 ≤ p1 ∧ p1 ≤ 99) (hY : p0 * 100 + p1 = Y) (mb : 0 ≤ m ∧ m ≤ 99) (db : 0 ≤ d ∧ d ≤ 99) (hb' : 0 ≤ h ∧ h ≤ 99) (ib : 0 ≤ i ∧ i ≤ 99) (qb : 0 ≤ q ∧ q ≤ 99) (hc : (Y < 1) ∨ (¬ Y < 1 ∧ m < 1) ∨ (¬ Y < 1 ∧ ¬ m < 1 ∧ 12 < m) ∨ (¬ Y < 1 ∧ ¬ m < 1 ∧ ¬ 12 < m ∧ d < 1) ∨ (¬ Y < 1 ∧ ¬ m < 1 ∧ ¬ 12 < m ∧ ¬ d < 1 ∧ G < d) ∨ (¬ Y < 1 ∧ ¬ m < 1 ∧ ¬ 12 < m ∧ ¬ d < 1 ∧ ¬ G < d ∧ 23 < h) ∨ (¬ Y < 1 ∧ ¬ m < 1 ∧ ¬ 12 < m ∧ ¬ d < 1 ∧ ¬ G < d ∧ ¬ 23 < h ∧ 59 < i) ∨ (¬ Y < 1 ∧ ¬ m < 1 ∧ ¬ 12 < m ∧ ¬ d < 1 ∧ ¬ G < d ∧ ¬ 23 < h ∧ ¬ 59 < i ∧ 59 < q))
    (CP : Hid (∀ (g c : Nat) (W : World), (∀ j, j < 14 → W.cell? ⟨g, j, none⟩ = some (.int .i64 (bt s j - 48))) → Calls Tryz.prog 36 #[.slice (some ⟨g, 0, none⟩) 14 c] W fun e w' => (∃ g c, e = .returned (.slice (some ⟨g, 0, none⟩) 7 c) ∧ C7 w' g p0 p1 m d h i q) ∧ Below W.heap.size W w'))
    (CL : 1 ≤ m → m ≤ 12 → ∀ W, Calls Tryz.prog 29 #[.int .i64 Y, .int .i64 m] W fun e w' => e = .returned (.int .i64 G) ∧ Below W.heap.size W w') (w : World) :
    Calls Tryz.prog 13 #[.string s] w fun e w' => e = .returned (.tuple #[.int .i64 0, .int .i64 10]) ∧ Below w.heap.size w w' := by
  obtain ⟨i0', hi, hz0, hz1, hz2⟩ := info_parts Tryz.inf2
  have I14 : ∀ W, (Instr.index 9 (.string s) (.int .i64 14)).run Tryz.prog W = .ok (.int .u8 90) W := fun W => by have := idxS s 14 (by omega) W; rw [h14] at this; exact this
  have z15 : (s.size : Int) = 15 := by omega
  go_enter Tryz.func13, Tryz.ntmps13
  go_wp2_with fail
  go_loopw [4, 5] (fun v ii wr => ∃ (k : Nat), k ≤ 14 ∧ ii = .int .i64 (k : Int) ∧ wr.ownsRow w.heap.size 2 1 v k (((List.range k).map fun j => bt s j - 48).map (Value.int .i64)) ∧ Below w.heap.size w wr) (fun _ ii _ => 14 - (intOf ii).toNat)
  case atStart => exact ⟨0, by omega, rfl, World.ownsRow_nil _ _ _ _, by go_grown⟩
  case round =>
    obtain ⟨k, hk, rfl, hown, hB⟩ := hrel
    by_cases hlt : k < 14
    · have k0 : (0 : Int) ≤ (k : Int) := by omega
      have k1 : (k : Int) < 14 := by omega
      have I := idxS s k (by omega)
      have cb := hdg.out k hlt
      have c1 : decide (bt s k < 48) = false := decide_eq_false (by omega)
      have c2 : decide (57 < bt s k) = false := decide_eq_false (by omega)
      have c3 : (bt s k - 48) % 256 = bt s k - 48 := by omega
      have HN : Hid (((List.range (k + 1)).map fun j => bt s j - 48).map (Value.int .i64) = ((List.range k).map fun j => bt s j - 48).map (Value.int .i64) ++ [.int .i64 (bt s k - 48)]) := by
        show _ = _
        rw [List.range_succ]; simp
      obtain ⟨ao, cv, hv⟩ := ownF hown
      subst hv
      have kb : k + 1 ≤ maxLen := by unfold maxLen; omega
      have kb2 : (k + 1) * 8 ≤ 140737488355328 := by omega
      have hs' := hB.size
      generalize hM : ((List.range k).map fun j => bt s j - 48).map (Value.int .i64) = M at *
      have HO : Hid (wr.ownsRow w.heap.size 2 1 (.slice ao k cv) k M) := hown
      clear hown hM CP CL hdg 
      generalize bt s k = c at *
      go_wp2_with (at_builtin; refine stopAt ?_)
      unfold Stop
      refine wpList_append_own _ rfl _ _ 69 rfl w.heap.size 2 i0' (.int .i64 0) 1 8 Tryz.underlying69 hi hz0 hz1 hz2 rfl (by decide) _ _ _ rfl (World.ownsRow.alloc HO.out _) ⟨_, 0, none⟩ 1 1 [.int .i64 (c - 48)] rfl rfl (news_new _ _ _) (fun u hu => by simp at hu; subst hu; rfl) kb kb2 (by simp; omega) ?_
      intro v' w3 hown' hgrow3 hnil3
      have b3 : Below w.heap.size w w3 := (Bel.al hB _).grown hgrow3 (by simp; omega) (fun q hq => (HO.out.lt q hq).1)
      clear hnil3 hgrow3
      rw [← HN.out] at hown'
      have HO' : Hid (w3.ownsRow w.heap.size 2 1 v' (k + 1) (((List.range (k + 1)).map fun j => bt s j - 48).map (Value.int .i64))) := hown'
      clear hown'
      go_wp2_with fail
      exact ⟨⟨k + 1, by omega, by go_num, HO'.out, b3⟩, by simp [intOf]; omega⟩
    · obtain rfl : k = 14 := by omega
      have HS : Hid (∃ g c, u4 = .slice (some ⟨g, 0, none⟩) 14 c ∧ ∀ j, j < 14 → wr.cell? ⟨g, j, none⟩ = some (.int .i64 (bt s j - 48))) := by
        rcases hown.2 with ⟨_, h0⟩ | ⟨g, c, cur, hv, _⟩
        · exact absurd h0 (by decide)
        · refine ⟨g, c, hv, fun j hj => ?_⟩
          have := World.ownsRow.cells hown (by rw [hv]; rfl) j (.int .i64 (bt s j - 48)) (by rw [List.getElem?_map, List.getElem?_map, List.getElem?_range hj]; rfl)
          rw [Addr.add_mid, Nat.zero_add] at this
          exact this
      obtain ⟨g1, c1, hv, hcell⟩ := HS.out
      subst hv
      have CQ := CP.out g1 c1 wr hcell
      clear hown hcell HS CP hdg I14
      go_wp2_with (go_at_call 36; refine CQ.mono ?_; rintro e w2 ⟨⟨g, c, rfl, K⟩, hb⟩)
      replace hB := Bel.call hB hb
      clear hb CQ
      obtain ⟨x0, x1, x2, x3, x4, x5, x6⟩ := K
      have r0 := fun ds os => cell_regrown x0 ds os
      have r1 := fun ds os => cell_regrown x1 ds os
      have r2 := fun ds os => cell_regrown x2 ds os
      have r3 := fun ds os => cell_regrown x3 ds os
      have r4 := fun ds os => cell_regrown x4 ds os
      have r5 := fun ds os => cell_regrown x5 ds os
      have r6 := fun ds os => cell_regrown x6 ds os
      obtain ⟨pb0, pb1, pb2, pb3⟩ := pb
      refine wp_region_quiet_below (by kernel_rfl) (by kernel_rfl) ?_
      repeat (go_big_quiet_step (fail))
      refine wpQuiet_nil ?_
      intro w3 hw'
      obtain ⟨⟨dq, osq⟩, hw''⟩ := hw'
      have hb := below_of hw''
      clear hw'' r0 r1 r2 r3 r4 r5 r6
      have K3 := C7.to ⟨x0, x1, x2, x3, x4, x5, x6⟩ hb
      replace hB := Bel.call hB hb
      clear hb x0 x1 x2 x3 x4 x5 x6
      obtain ⟨x0, x1, x2, x3, x4, x5, x6⟩ := K3
      have r0 := fun ds os => cell_regrown x0 ds os
      have r1 := fun ds os => cell_regrown x1 ds os
      have r2 := fun ds os => cell_regrown x2 ds os
      have r3 := fun ds os => cell_regrown x3 ds os
      have r4 := fun ds os => cell_regrown x4 ds os
      have r5 := fun ds os => cell_regrown x5 ds os
      have r6 := fun ds os => cell_regrown x6 ds os
      go_wp2_with fail
      try simp only [hY]
      have Yb : 0 ≤ Y ∧ Y ≤ 9999 := by omega
      clear hY pb0 pb1 pb2 pb3
      rcases hc with g0 | ⟨g0, g1⟩ | ⟨g0, g1, g2⟩ | ⟨g0, g1, g2, g3⟩ | ⟨g0, g1, g2, g3, g4⟩ | ⟨g0, g1, g2, g3, g4, g5⟩ | ⟨g0, g1, g2, g3, g4, g5, g6⟩ | ⟨g0, g1, g2, g3, g4, g5, g6, g7⟩
      · refine wp_region_quiet_below (by kernel_rfl) (by kernel_rfl) ?_
        repeat (go_big_quiet_step (fail))
        refine wpQuiet_nil ?_
        intro w5 hw'
        obtain ⟨⟨dq, osq⟩, hw''⟩ := hw'
        have hb := below_of hw''
        clear hw'' 
        go_wp2_with fail
        exact bodyPost_ret (v := .tuple #[.int .i64 0, .int .i64 10]) (by simp [results, Tryz.results13, go_sem]) rfl ⟨rfl, Bel.call hB hb⟩
      · have e0 : decide (Y < 1) = false := decide_eq_false (by omega)
        refine wp_region_quiet_below (by kernel_rfl) (by kernel_rfl) ?_
        repeat (go_big_quiet_step (fail))
        refine wpQuiet_nil ?_
        intro w5 hw'
        obtain ⟨⟨dq, osq⟩, hw''⟩ := hw'
        have hb := below_of hw''
        clear hw'' 
        go_wp2_with fail
        exact bodyPost_ret (v := .tuple #[.int .i64 0, .int .i64 10]) (by simp [results, Tryz.results13, go_sem]) rfl ⟨rfl, Bel.call hB hb⟩
      · have e0 : decide (Y < 1) = false := decide_eq_false (by omega)
        have e1 : decide (m < 1) = false := decide_eq_false (by omega)
        refine wp_region_quiet_below (by kernel_rfl) (by kernel_rfl) ?_
        repeat (go_big_quiet_step (fail))
        refine wpQuiet_nil ?_
        intro w5 hw'
        obtain ⟨⟨dq, osq⟩, hw''⟩ := hw'
        have hb := below_of hw''
        clear hw'' 
        go_wp2_with fail
        exact bodyPost_ret (v := .tuple #[.int .i64 0, .int .i64 10]) (by simp [results, Tryz.results13, go_sem]) rfl ⟨rfl, Bel.call hB hb⟩
      · have e0 : decide (Y < 1) = false := decide_eq_false (by omega)
        have e1 : decide (m < 1) = false := decide_eq_false (by omega)
        have e2 : decide (12 < m) = false := decide_eq_false (by omega)
        refine wp_region_quiet_below (by kernel_rfl) (by kernel_rfl) ?_
        repeat (go_big_quiet_step (fail))
        refine wpQuiet_nil ?_
        intro w5 hw'
        obtain ⟨⟨dq, osq⟩, hw''⟩ := hw'
        have hb := below_of hw''
        clear hw'' 
        go_wp2_with fail
        exact bodyPost_ret (v := .tuple #[.int .i64 0, .int .i64 10]) (by simp [results, Tryz.results13, go_sem]) rfl ⟨rfl, Bel.call hB hb⟩
      · have e0 : decide (Y < 1) = false := decide_eq_false (by omega)
        have e1 : decide (m < 1) = false := decide_eq_false (by omega)
        have e2 : decide (12 < m) = false := decide_eq_false (by omega)
        have e3 : decide (d < 1) = false := decide_eq_false (by omega)
        have CG := CL (by omega) (by omega)
        refine wp_region_quiet_below (by kernel_rfl) (by kernel_rfl) ?_
        repeat (go_big_quiet_step (first | (go_at_call 29; exact Calls.regrown_of (CG _))))
        refine wpQuiet_nil ?_
        intro w5 hw'
        obtain ⟨⟨dq, osq⟩, hw''⟩ := hw'
        have hb := below_of hw''
        clear hw'' 
        go_wp2_with fail
        exact bodyPost_ret (v := .tuple #[.int .i64 0, .int .i64 10]) (by simp [results, Tryz.results13, go_sem]) rfl ⟨rfl, Bel.call hB hb⟩
      · have e0 : decide (Y < 1) = false := decide_eq_false (by omega)
        have e1 : decide (m < 1) = false := decide_eq_false (by omega)
        have e2 : decide (12 < m) = false := decide_eq_false (by omega)
        have e3 : decide (d < 1) = false := decide_eq_false (by omega)
        have e4 : decide (G < d) = false := decide_eq_false (by omega)
        have CG := CL (by omega) (by omega)
        refine wp_region_quiet_below (by kernel_rfl) (by kernel_rfl) ?_
        repeat (go_big_quiet_step (first | (go_at_call 29; exact Calls.regrown_of (CG _))))
        refine wpQuiet_nil ?_
        intro w5 hw'
        obtain ⟨⟨dq, osq⟩, hw''⟩ := hw'
        have hb := below_of hw''
        clear hw'' 
        go_wp2_with fail
        exact bodyPost_ret (v := .tuple #[.int .i64 0, .int .i64 10]) (by simp [results, Tryz.results13, go_sem]) rfl ⟨rfl, Bel.call hB hb⟩
      · have e0 : decide (Y < 1) = false := decide_eq_false (by omega)
        have e1 : decide (m < 1) = false := decide_eq_false (by omega)
        have e2 : decide (12 < m) = false := decide_eq_false (by omega)
        have e3 : decide (d < 1) = false := decide_eq_false (by omega)
        have e4 : decide (G < d) = false := decide_eq_false (by omega)
        have e5 : decide (23 < h) = false := decide_eq_false (by omega)
        have CG := CL (by omega) (by omega)
        refine wp_region_quiet_below (by kernel_rfl) (by kernel_rfl) ?_
        repeat (go_big_quiet_step (first | (go_at_call 29; exact Calls.regrown_of (CG _))))
        refine wpQuiet_nil ?_
        intro w5 hw'
        obtain ⟨⟨dq, osq⟩, hw''⟩ := hw'
        have hb := below_of hw''
        clear hw'' 
        go_wp2_with fail
        exact bodyPost_ret (v := .tuple #[.int .i64 0, .int .i64 10]) (by simp [results, Tryz.results13, go_sem]) rfl ⟨rfl, Bel.call hB hb⟩
      · have e0 : decide (Y < 1) = false := decide_eq_false (by omega)
        have e1 : decide (m < 1) = false := decide_eq_false (by omega)
        have e2 : decide (12 < m) = false := decide_eq_false (by omega)
        have e3 : decide (d < 1) = false := decide_eq_false (by omega)
        have e4 : decide (G < d) = false := decide_eq_false (by omega)
        have e5 : decide (23 < h) = false := decide_eq_false (by omega)
        have e6 : decide (59 < i) = false := decide_eq_false (by omega)
        have CG := CL (by omega) (by omega)
        refine wp_region_quiet_below (by kernel_rfl) (by kernel_rfl) ?_
        repeat (go_big_quiet_step (first | (go_at_call 29; exact Calls.regrown_of (CG _))))
        refine wpQuiet_nil ?_
        intro w5 hw'
        obtain ⟨⟨dq, osq⟩, hw''⟩ := hw'
        have hb := below_of hw''
        clear hw'' 
        go_wp2_with fail
        exact bodyPost_ret (v := .tuple #[.int .i64 0, .int .i64 10]) (by simp [results, Tryz.results13, go_sem]) rfl ⟨rfl, Bel.call hB hb⟩
set_option maxHeartbeats 8000000 in
theorem rtt_good (s : ByteArray) (h15 : s.size = 15) (h14 : bt s 14 = 90) (hdg : Hid (∀ j, j < 14 → 48 ≤ bt s j ∧ bt s j ≤ 57)) (p0 p1 m d h i q Y G A : Int) (pb : 0 ≤ p0 ∧ p0 ≤ 99 ∧ 0 ≤ p1 ∧ p1 ≤ 99) (hY : p0 * 100 + p1 = Y) (mb : 0 ≤ m ∧ m ≤ 99) (db : 0 ≤ d ∧ d ≤ 99) (hb' : 0 ≤ h ∧ h ≤ 99) (ib : 0 ≤ i ∧ i ≤ 99) (qb : 0 ≤ q ∧ q ≤ 99) (F : Int) (f G' : Nat → Int) (hA : 1 ≤ Y → 0 ≤ A ∧ A ≤ 4000000) (hf : Hid (f 0 = 0 ∧ (∀ j, f (j + 1) = f j + G' j) ∧ (∀ j, 0 ≤ f j) ∧ (∀ j, j ≤ 12 → f j ≤ 372) ∧ (∀ j, 28 ≤ G' j ∧ G' j ≤ 31))) (hF : Hid (∀ k : Nat, m = (k : Int) + 1 → F = -62135596800 + (A + d - 1 + f k) * 86400 + h * 3600 + i * 60 + q)) (C28 : 1 ≤ Y → ∀ W, Calls Tryz.prog 28 #[.int .i64 Y] W fun e w' => e = .returned (.int .i64 A) ∧ Below W.heap.size W w') (CJ : 1 ≤ Y → ∀ (j : Nat), j < 12 → ∀ W, Calls Tryz.prog 29 #[.int .i64 Y, .int .i64 ((j : Int) + 1)] W fun e w' => e = .returned (.int .i64 (G' j)) ∧ Below W.heap.size W w') (hc : (¬ Y < 1 ∧ ¬ m < 1 ∧ ¬ 12 < m ∧ ¬ d < 1 ∧ ¬ G < d ∧ ¬ 23 < h ∧ ¬ 59 < i ∧ ¬ 59 < q))
    (CP : Hid (∀ (g c : Nat) (W : World), (∀ j, j < 14 → W.cell? ⟨g, j, none⟩ = some (.int .i64 (bt s j - 48))) → Calls Tryz.prog 36 #[.slice (some ⟨g, 0, none⟩) 14 c] W fun e w' => (∃ g c, e = .returned (.slice (some ⟨g, 0, none⟩) 7 c) ∧ C7 w' g p0 p1 m d h i q) ∧ Below W.heap.size W w'))
    (CL : 1 ≤ m → m ≤ 12 → ∀ W, Calls Tryz.prog 29 #[.int .i64 Y, .int .i64 m] W fun e w' => e = .returned (.int .i64 G) ∧ Below W.heap.size W w') (w : World) :
    Calls Tryz.prog 13 #[.string s] w fun e w' => e = .returned (.tuple #[.int .i64 F, .int .i64 0]) ∧ Below w.heap.size w w' := by
  obtain ⟨i0', hi, hz0, hz1, hz2⟩ := info_parts Tryz.inf2
  have I14 : ∀ W, (Instr.index 9 (.string s) (.int .i64 14)).run Tryz.prog W = .ok (.int .u8 90) W := fun W => by have := idxS s 14 (by omega) W; rw [h14] at this; exact this
  have z15 : (s.size : Int) = 15 := by omega
  go_enter Tryz.func13, Tryz.ntmps13
  go_wp2_with fail
  go_loopw [4, 5] (fun v ii wr => ∃ (k : Nat), k ≤ 14 ∧ ii = .int .i64 (k : Int) ∧ wr.ownsRow w.heap.size 2 1 v k (((List.range k).map fun j => bt s j - 48).map (Value.int .i64)) ∧ Below w.heap.size w wr) (fun _ ii _ => 14 - (intOf ii).toNat)
  case atStart => exact ⟨0, by omega, rfl, World.ownsRow_nil _ _ _ _, by go_grown⟩
  case round =>
    obtain ⟨k, hk, rfl, hown, hB⟩ := hrel
    by_cases hlt : k < 14
    · have k0 : (0 : Int) ≤ (k : Int) := by omega
      have k1 : (k : Int) < 14 := by omega
      have I := idxS s k (by omega)
      have cb := hdg.out k hlt
      have c1 : decide (bt s k < 48) = false := decide_eq_false (by omega)
      have c2 : decide (57 < bt s k) = false := decide_eq_false (by omega)
      have c3 : (bt s k - 48) % 256 = bt s k - 48 := by omega
      have HN : Hid (((List.range (k + 1)).map fun j => bt s j - 48).map (Value.int .i64) = ((List.range k).map fun j => bt s j - 48).map (Value.int .i64) ++ [.int .i64 (bt s k - 48)]) := by
        show _ = _
        rw [List.range_succ]; simp
      obtain ⟨ao, cv, hv⟩ := ownF hown
      subst hv
      have kb : k + 1 ≤ maxLen := by unfold maxLen; omega
      have kb2 : (k + 1) * 8 ≤ 140737488355328 := by omega
      have hs' := hB.size
      generalize hM : ((List.range k).map fun j => bt s j - 48).map (Value.int .i64) = M at *
      have HO : Hid (wr.ownsRow w.heap.size 2 1 (.slice ao k cv) k M) := hown
      clear hown hM CP CL hdg hf hF C28 CJ hA
      generalize bt s k = c at *
      go_wp2_with (at_builtin; refine stopAt ?_)
      unfold Stop
      refine wpList_append_own _ rfl _ _ 69 rfl w.heap.size 2 i0' (.int .i64 0) 1 8 Tryz.underlying69 hi hz0 hz1 hz2 rfl (by decide) _ _ _ rfl (World.ownsRow.alloc HO.out _) ⟨_, 0, none⟩ 1 1 [.int .i64 (c - 48)] rfl rfl (news_new _ _ _) (fun u hu => by simp at hu; subst hu; rfl) kb kb2 (by simp; omega) ?_
      intro v' w3 hown' hgrow3 hnil3
      have b3 : Below w.heap.size w w3 := (Bel.al hB _).grown hgrow3 (by simp; omega) (fun q hq => (HO.out.lt q hq).1)
      clear hnil3 hgrow3
      rw [← HN.out] at hown'
      have HO' : Hid (w3.ownsRow w.heap.size 2 1 v' (k + 1) (((List.range (k + 1)).map fun j => bt s j - 48).map (Value.int .i64))) := hown'
      clear hown'
      go_wp2_with fail
      exact ⟨⟨k + 1, by omega, by go_num, HO'.out, b3⟩, by simp [intOf]; omega⟩
    · obtain rfl : k = 14 := by omega
      have HS : Hid (∃ g c, u4 = .slice (some ⟨g, 0, none⟩) 14 c ∧ ∀ j, j < 14 → wr.cell? ⟨g, j, none⟩ = some (.int .i64 (bt s j - 48))) := by
        rcases hown.2 with ⟨_, h0⟩ | ⟨g, c, cur, hv, _⟩
        · exact absurd h0 (by decide)
        · refine ⟨g, c, hv, fun j hj => ?_⟩
          have := World.ownsRow.cells hown (by rw [hv]; rfl) j (.int .i64 (bt s j - 48)) (by rw [List.getElem?_map, List.getElem?_map, List.getElem?_range hj]; rfl)
          rw [Addr.add_mid, Nat.zero_add] at this
          exact this
      obtain ⟨g1, c1, hv, hcell⟩ := HS.out
      subst hv
      have CQ := CP.out g1 c1 wr hcell
      clear hown hcell HS CP hdg I14
      go_wp2_with (go_at_call 36; refine CQ.mono ?_; rintro e w2 ⟨⟨g, c, rfl, K⟩, hb⟩)
      replace hB := Bel.call hB hb
      clear hb CQ
      obtain ⟨x0, x1, x2, x3, x4, x5, x6⟩ := K
      have r0 := fun ds os => cell_regrown x0 ds os
      have r1 := fun ds os => cell_regrown x1 ds os
      have r2 := fun ds os => cell_regrown x2 ds os
      have r3 := fun ds os => cell_regrown x3 ds os
      have r4 := fun ds os => cell_regrown x4 ds os
      have r5 := fun ds os => cell_regrown x5 ds os
      have r6 := fun ds os => cell_regrown x6 ds os
      obtain ⟨pb0, pb1, pb2, pb3⟩ := pb
      refine wp_region_quiet_below (by kernel_rfl) (by kernel_rfl) ?_
      repeat (go_big_quiet_step (fail))
      refine wpQuiet_nil ?_
      intro w3 hw'
      obtain ⟨⟨dq, osq⟩, hw''⟩ := hw'
      have hb := below_of hw''
      clear hw'' r0 r1 r2 r3 r4 r5 r6
      have K3 := C7.to ⟨x0, x1, x2, x3, x4, x5, x6⟩ hb
      replace hB := Bel.call hB hb
      clear hb x0 x1 x2 x3 x4 x5 x6
      obtain ⟨x0, x1, x2, x3, x4, x5, x6⟩ := K3
      have r0 := fun ds os => cell_regrown x0 ds os
      have r1 := fun ds os => cell_regrown x1 ds os
      have r2 := fun ds os => cell_regrown x2 ds os
      have r3 := fun ds os => cell_regrown x3 ds os
      have r4 := fun ds os => cell_regrown x4 ds os
      have r5 := fun ds os => cell_regrown x5 ds os
      have r6 := fun ds os => cell_regrown x6 ds os
      go_wp2_with fail
      try simp only [hY]
      have Yb : 0 ≤ Y ∧ Y ≤ 9999 := by omega
      clear hY pb0 pb1 pb2 pb3
      obtain ⟨g0, g1, g2, g3, g4, g5, g6, g7⟩ := hc
      have CG := CL (by omega) (by omega)
      have e0 : decide (Y < 1) = false := decide_eq_false (by omega)
      have e1 : decide (m < 1) = false := decide_eq_false (by omega)
      have e2 : decide (12 < m) = false := decide_eq_false (by omega)
      have e3 : decide (d < 1) = false := decide_eq_false (by omega)
      have e4 : decide (G < d) = false := decide_eq_false (by omega)
      have e5 : decide (23 < h) = false := decide_eq_false (by omega)
      have e6 : decide (59 < i) = false := decide_eq_false (by omega)
      have e7 : decide (59 < q) = false := decide_eq_false (by omega)
      refine wp_region_quiet_below (by kernel_rfl) (by kernel_rfl) ?_
      repeat (go_big_quiet_step (first | (go_at_call 29; exact Calls.regrown_of (CG _))))
      refine wpQuiet_nil ?_
      intro w5 hw'
      obtain ⟨⟨dq, osq⟩, hw''⟩ := hw'
      have hb := below_of hw''
      clear hw'' r0 r1 r2 r3 r4 r5 r6 e0 e1 e2 e3 e4 e5 e6 e7
      have K5 := C7.to ⟨x0, x1, x2, x3, x4, x5, x6⟩ hb
      replace hB := Bel.call hB hb
      clear hb x0 x1 x2 x3 x4 x5 x6
      obtain ⟨x0, x1, x2, x3, x4, x5, x6⟩ := K5
      have r0 := fun ds os => cell_regrown x0 ds os
      have r1 := fun ds os => cell_regrown x1 ds os
      have r2 := fun ds os => cell_regrown x2 ds os
      have r3 := fun ds os => cell_regrown x3 ds os
      have r4 := fun ds os => cell_regrown x4 ds os
      have r5 := fun ds os => cell_regrown x5 ds os
      have r6 := fun ds os => cell_regrown x6 ds os
      go_wp2_with fail
      refine wp_region_quiet_below (by kernel_rfl) (by kernel_rfl) ?_
      repeat (go_big_quiet_step (first | (go_at_call 28; exact Calls.regrown_of (C28 (by omega) _))))
      refine wpQuiet_nil ?_
      intro w6 hw'
      obtain ⟨⟨dq, osq⟩, hw''⟩ := hw'
      have hb := below_of hw''
      clear hw'' r0 r1 r2 r3 r4 r5 r6
      have K6 := C7.to ⟨x0, x1, x2, x3, x4, x5, x6⟩ hb
      replace hB := Bel.call hB hb
      clear hb x0 x1 x2 x3 x4 x5 x6
      have CJ0 : Hid _ := CJ (by omega)
      obtain ⟨kk, hkk, k12⟩ : ∃ kk : Nat, m = (kk : Int) + 1 ∧ kk < 12 := ⟨(m - 1).toNat, by omega, by omega⟩
      subst hkk
      have d0 : 1 ≤ d := by omega
      have d1 : d ≤ 99 := db.2
      have Ab := hA (by omega)
      have A0 := Ab.1
      have A1 := Ab.2
      clear CG CL C28 CJ hA
      go_wp2_with fail
      go_loopw [8, 9] (fun s8 s9 wr => ∃ j : Nat, j ≤ kk ∧ s8 = .int .i64 (A + d - 1 + f j) ∧ s9 = .int .i64 ((j : Int) + 1) ∧ C7 wr g p0 p1 ((kk : Int) + 1) d h i q ∧ Below w.heap.size w wr) (fun _ s9 _ => kk + 1 - (intOf s9).toNat)
      case atStart =>
        refine ⟨0, by omega, ?_, by simp, K6, hB⟩
        rw [hf.out.1]; simp
      case round =>
        clear hB K6
        obtain ⟨j, hj, rfl, rfl, K, hB⟩ := hrel
        obtain ⟨f0, fs, fn, fb, gb⟩ := hf.out
        have b1 := fn j
        have b2 := fb j (by omega)
        have b3 := gb j
        have b4 := fs j
        have CI := CJ0.out j (by omega)
        have j0 : (0 : Int) ≤ (j : Int) := by omega
        have j1 : (j : Int) ≤ 12 := by omega
        have kK := K
        obtain ⟨x0, x1, x2, x3, x4, x5, x6⟩ := K
        by_cases hlt : j < kk
        · have HN : Hid (A + d - 1 + f j + G' j = A + d - 1 + f (j + 1)) := by show _ = _; omega
          have hl1 : (j : Int) + 1 < (kk : Int) + 1 := by omega
          clear f0 fs fn fb gb b4 CJ0
          generalize f j = x at *
          generalize G' j = z at *
          go_wp2_with (go_at_call 29; refine (CI _).mono ?_; rintro e w7 ⟨rfl, hb⟩)
          exact ⟨⟨j + 1, by omega, by first | rw [HN.out] | (rw [← HN.out]; go_num), by go_num, kK.to hb, Bel.call hB hb⟩, by simp [intOf]; omega⟩
        · obtain rfl : j = kk := by omega
          clear f0 fs fn fb gb b4 CJ0 CI
          have hF' := hF.out j rfl
          generalize f j = x at *
          obtain ⟨u, hu⟩ : ∃ u, A + d - 1 + x = u := ⟨_, rfl⟩
          have u0 : -1 ≤ u := by omega
          have u1 : u ≤ 5000000 := by omega
          rw [hu]
          rw [hu] at hF'
          have HU : Hid (F = -62135596800 + u * 86400 + h * 3600 + i * 60 + q) := hF'
          clear hF hF' hu hf
          have h0 := hb'.1
          have i0 := ib.1
          have q0 := qb.1
          have h9 := hb'.2
          have i9 := ib.2
          have q9 := qb.2
          have r0 := fun ds os => cell_regrown x0 ds os
          have r1 := fun ds os => cell_regrown x1 ds os
          have r2 := fun ds os => cell_regrown x2 ds os
          have r3 := fun ds os => cell_regrown x3 ds os
          have r4 := fun ds os => cell_regrown x4 ds os
          have r5 := fun ds os => cell_regrown x5 ds os
          have r6 := fun ds os => cell_regrown x6 ds os
          go_wp2_with fail
          refine wp_region_quiet_below (by kernel_rfl) (by kernel_rfl) ?_
          repeat (go_big_quiet_step (fail))
          refine wpQuiet_nil ?_
          intro w8 hw'
          obtain ⟨⟨dq, osq⟩, hw''⟩ := hw'
          have hb := below_of hw''
          clear hw'' 
          go_wp2_with fail
          exact bodyPost_ret (v := .tuple #[.int .i64 F, .int .i64 0]) (by rw [HU.out]; simp [results, Tryz.results13, go_sem]) rfl ⟨rfl, Bel.call hB hb⟩
end Go.Proofs.YtajdfjpcobaioaaGreatDoor
