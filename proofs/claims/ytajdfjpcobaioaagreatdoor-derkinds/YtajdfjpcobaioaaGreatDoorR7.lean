/- The reference's pairs of digits and ToTime. -/
import Derived.Test.YtajdfjpcobaioaaGreatDoorR6
import Derived.Test.YtajdfjpcobaioaaGreatDoorD17
import Derived.Test.YtajdfjpcobaioaaGreatDoorD19
set_option linter.all false
set_option maxRecDepth 100000
namespace Go.Proofs.YtajdfjpcobaioaaGreatDoor
open Go.RowKit Go.Sort
theorem Tryz.inf2 : (Tryz.prog.info? 2).map (fun i => (i.zero, i.size, i.bytes)) = some (some (.int .i64 0), 1, 8) := by kernel_rfl
def prL (d : Nat → Int) (k : Nat) : List Int := (List.range k).map fun j => 10 * d (2 * j) + d (2 * j + 1)
theorem prL_s (d : Nat → Int) (k : Nat) : prL d (k + 1) = prL d k ++ [10 * d (2 * k) + d (2 * k + 1)] := by unfold prL; rw [List.range_succ, List.map_append]; rfl
theorem prL_len (d : Nat → Int) (k : Nat) : (prL d k).length = k := by simp [prL]
set_option maxHeartbeats 4000000 in
theorem pairs_any (d : Nat → Int) (hd : ∀ j, j < 14 → 0 ≤ d j ∧ d j ≤ 9) (g0 c0 : Nat) (w : World) (hc : ∀ j, j < 14 → w.cell? ⟨g0, j, none⟩ = some (.int .i64 (d j))) : Calls Tryz.prog 36 #[.slice (some ⟨g0, 0, none⟩) 14 c0] w fun e w' => (∃ g c, e = .returned (.slice (some ⟨g, 0, none⟩) 7 c) ∧ ∀ j, j < 7 → w'.cell? ⟨g, j, none⟩ = some (.int .i64 (10 * d (2 * j) + d (2 * j + 1)))) ∧ Below w.heap.size w w' := by
  obtain ⟨i0, hi, hz0, hz1, hz2⟩ := info_parts Tryz.inf2
  have HC : Hid (∀ j, j < 14 → w.cell? ⟨g0, j, none⟩ = some (.int .i64 (d j))) := hc
  have HD : Hid (∀ j, j < 14 → 0 ≤ d j ∧ d j ≤ 9) := hd
  clear hc hd
  go_enter Tryz.func36, Tryz.ntmps36
  go_wp2_with fail
  go_loopw [3, 4] (fun v i wr => ∃ (k q : Nat), k ≤ 7 ∧ q = 2 * k ∧ i = .int .i64 (q : Int) ∧ wr.ownsRow w.heap.size 2 1 v k ((prL d k).map (Value.int .i64)) ∧ Below w.heap.size w wr) (fun _ i _ => 14 - (intOf i).toNat)
  case atStart => exact ⟨0, 0, by omega, rfl, rfl, World.ownsRow_nil _ _ _ _, Below.refl _ _⟩
  case round =>
    obtain ⟨k, q, hk, hq, rfl, hown, hB⟩ := hrel
    by_cases hlt : k < 7
    · have q0 : (0 : Int) ≤ (q : Int) := by omega
      have q1 : (q : Int) + 1 < 14 := by omega
      obtain ⟨q', hq'⟩ : ∃ q' : Nat, (q : Int) + 1 = (q' : Int) := ⟨q + 1, by omega⟩
      have p1 : wr.cell? ⟨g0, q, none⟩ = some (.int .i64 (d q)) := by
        have := HC.out q (by omega)
        exact (hB.cell (block_lt_of_cell this)).trans this
      have p2 : wr.cell? ⟨g0, q', none⟩ = some (.int .i64 (d q')) := by
        have := HC.out q' (by omega)
        exact (hB.cell (block_lt_of_cell this)).trans this
      have b1 := HD.out q (by omega)
      have b2 := HD.out q' (by omega)
      have HN : Hid (prL d (k + 1) = prL d k ++ [10 * d q + d q']) := by
        show _ = _
        rw [prL_s, hq, show q' = 2 * k + 1 by omega]
      obtain ⟨ao, cv, hv⟩ := ownF hown
      subst hv
      have HO : Hid (wr.ownsRow w.heap.size 2 1 (.slice ao k cv) k ((prL d k).map (Value.int .i64))) := hown
      have HQ : Hid (q = 2 * k ∧ (q : Int) + 1 = (q' : Int)) := ⟨hq, hq'⟩
      have kb : k + 1 ≤ maxLen := by unfold maxLen; omega
      have kb2 : (k + 1) * 8 ≤ 140737488355328 := by omega
      have q2 : (q' : Int) < 14 := by omega
      have q3 : (0 : Int) ≤ (q' : Int) := by omega
      clear hown hq HC HD
      generalize d q = x at *
      generalize d q' = y at *
      have r1 := fun ds os => cell_regrown p1 ds os
      have r2 := fun ds os => cell_regrown p2 ds os
      go_wp2_with fail
      apply wp_region_head_tail 1 11 #[true, false, false, false, false, false, false, false, false, false, false, false, false, false, false] (by kernel_rfl) (by intro c d v a w h; cases d <;> exact h) (by kernel_rfl)
      · exact ⟨.slice ao k cv, Or.inl ⟨rfl, fun _ => rfl⟩, rfl⟩
      simp only [List.take_succ_cons, List.take_zero, List.drop_succ_cons, List.drop_zero, Act.put, List.setIfInBounds_toArray, List.set_cons_succ, List.set_cons_zero]
      repeat (go_big_quiet_step (fail))
      refine wpQuiet_nil ?_
      intro w5 hw'
      obtain ⟨⟨dq, osq⟩, hw''⟩ := hw'
      have hb := below_of hw''
      clear hw'' r1 r2 p1 p2
      replace hB := Bel.call hB hb
      have HO5 : Hid (w5.ownsRow w.heap.size 2 1 (.slice ao k cv) k ((prL d k).map (Value.int .i64))) := own_to HO.out hb
      have hs5 := hB.size
      clear HO hb
      go_wp2_with (at_builtin; refine stopAt ?_)
      unfold Stop
      refine wpList_append_own _ rfl _ _ 69 rfl w.heap.size 2 i0 (.int .i64 0) 1 8 Tryz.underlying69 hi hz0 hz1 hz2 rfl (by decide) _ _ _ rfl (World.ownsRow.alloc HO5.out _) ⟨_, 0, none⟩ 1 1 [.int .i64 (10 * x + y)] rfl rfl (news_new _ _ _) (fun u hu => by simp at hu; subst hu; rfl) kb kb2 (by simp; omega) ?_
      intro v' w3 hown' hgrow3 hnil3
      have b3 : Below w.heap.size w w3 := (Bel.al hB _).grown hgrow3 (by simp; omega) (fun q hq => (HO5.out.lt q hq).1)
      clear hnil3 hgrow3
      have HO' : Hid (w3.ownsRow w.heap.size 2 1 v' (k + 1) ((prL d (k + 1)).map (Value.int .i64))) := by
        show World.ownsRow _ _ _ _ _ _ _
        rw [HN.out, List.map_append]
        exact hown'
      clear hown'
      go_wp2_with fail
      have hQ := HQ.out
      exact ⟨⟨k + 1, q + 2, by omega, by omega, by first | go_num | (congr 1; omega), HO'.out, b3⟩, by simp [intOf]; omega⟩
    · obtain rfl : k = 7 := by omega
      subst hq
      have hc := hown.2
      have HS : Hid (∃ g c, u3 = .slice (some ⟨g, 0, none⟩) 7 c ∧ ∀ j, j < 7 → wr.cell? ⟨g, j, none⟩ = some (.int .i64 (10 * d (2 * j) + d (2 * j + 1)))) := by
        rcases hc with ⟨_, h0⟩ | ⟨g, c, cur, hv, _⟩
        · exact absurd h0 (by decide)
        · refine ⟨g, c, hv, fun j hj => ?_⟩
          have := World.ownsRow.cells hown (by rw [hv]; rfl) j (.int .i64 (10 * d (2 * j) + d (2 * j + 1))) (by rw [List.getElem?_map]; unfold prL; rw [List.getElem?_map, List.getElem?_range hj]; rfl)
          rw [Addr.add_mid, Nat.zero_add] at this
          exact this
      obtain ⟨g, c, hv, hcell⟩ := HS.out
      subst hv
      have HG : Hid _ := hcell
      clear hown hc hcell HS HC HD
      go_wp2_with fail
      go_ret
      exact ⟨⟨g, c, rfl, HG.out⟩, hB⟩
/-- Seven cells. -/
def C7 (w : World) (g : Nat) (a b c d e f h : Int) : Prop := w.cell? ⟨g, 0, none⟩ = some (.int .i64 a) ∧ w.cell? ⟨g, 1, none⟩ = some (.int .i64 b) ∧ w.cell? ⟨g, 2, none⟩ = some (.int .i64 c) ∧ w.cell? ⟨g, 3, none⟩ = some (.int .i64 d) ∧ w.cell? ⟨g, 4, none⟩ = some (.int .i64 e) ∧ w.cell? ⟨g, 5, none⟩ = some (.int .i64 f) ∧ w.cell? ⟨g, 6, none⟩ = some (.int .i64 h)
theorem C7.to {w w' : World} {g : Nat} {a b c d e f h : Int} (k : C7 w g a b c d e f h) (hb : Below w.heap.size w w') : C7 w' g a b c d e f h := by
  obtain ⟨h0, h1, h2, h3, h4, h5, h6⟩ := k
  exact ⟨(hb.cell (block_lt_of_cell h0)).trans h0, (hb.cell (block_lt_of_cell h1)).trans h1, (hb.cell (block_lt_of_cell h2)).trans h2, (hb.cell (block_lt_of_cell h3)).trans h3, (hb.cell (block_lt_of_cell h4)).trans h4, (hb.cell (block_lt_of_cell h5)).trans h5, (hb.cell (block_lt_of_cell h6)).trans h6⟩
end Go.Proofs.YtajdfjpcobaioaaGreatDoor
