/- What the laws' own helpers answer: short, digit, hexed. -/
import Derived.Test.YtbmnmmdkpemknaaDoorR5
set_option linter.all false
set_option maxRecDepth 100000
namespace Go.Proofs.YtbmnmmdkpemknaaDoor
open Go.RowKit Go.Sort
theorem short_any (s : ByteArray) (hs : s.size ≤ maxLen) (w : World) : Calls Tryd.prog 11 #[.string s] w fun e w' => e = .returned (.bool (decide ((s.size : Int) ≤ 20000))) ∧ w' = w := by
  unfold maxLen at hs
  go_enter Tryd.func11, Tryd.ntmps11
  go_wp2
  go_ret
  exact ⟨rfl, rfl⟩
/-- What a digit stands for. -/
def dgv (c : Int) : Int := if 97 ≤ c then c - 97 + 10 else c - 48
theorem digit_any (c : Int) (h0 : 48 ≤ c) (h1 : c < 128) (w : World) : Calls Tryd.prog 38 #[.int .u8 c] w fun e w' => e = .returned (.int .u8 (dgv c)) ∧ Below w.heap.size w w' := by
  unfold dgv
  by_cases h : 97 ≤ c
  · rw [if_pos h]
    go_enter Tryd.func38, Tryd.ntmps38
    go_wp2
    go_ret
    exact ⟨rfl, Below.refl _ _⟩
  · rw [if_neg h]
    go_enter Tryd.func38, Tryd.ntmps38
    go_wp2
    go_ret
    exact ⟨rfl, Below.refl _ _⟩
/-- The byte that two digits tell. -/
def hxB (s : ByteArray) (j : Nat) : Int := bits .or .u8 (dgv (bt s (2 * j)) * 16 % 256) (dgv (bt s (2 * j + 1)))
def hxL (s : ByteArray) (k : Nat) : List Int := (List.range k).map (hxB s)
theorem hxL_succ (s : ByteArray) (k : Nat) : hxL s (k + 1) = hxL s k ++ [hxB s k] := by simp [hxL, List.range_succ]
set_option maxHeartbeats 2000000 in
theorem hexed_core (s S : ByteArray) (m : Nat) (hm : s.size = 2 * m) (m0 : 0 < m) (m1 : m ≤ 1000) (hd : ∀ j, j < 2 * m → 48 ≤ bt s j ∧ bt s j < 128) (hS : S = mkS (hxL s m)) (w : World) :
    Calls Tryd.prog 27 #[.string s] w fun e w' => e = .returned (.string S) ∧ Below w.heap.size w w' := by
  obtain ⟨i0, hi, hz0, hz1, hz2⟩ := info_parts Tryd.info5
  go_enter Tryd.func27, Tryd.ntmps27
  go_wp2_with fail
  go_loopw [3, 4] (fun v i wr => ∃ (k q : Nat) (Lv : List Value), k ≤ m ∧ q = 2 * k ∧ i = .int .i64 q ∧ wr.ownsRow w.heap.size 5 1 v k Lv ∧ Lv = (hxL s k).map (Value.int .u8) ∧ Below w.heap.size w wr)
    (fun _ i _ => 2 * m - (intOf i).toNat)
  case atStart => exact ⟨0, 0, [], by omega, rfl, rfl, World.ownsRow_nil _ _ _ _, rfl, Below.refl _ _⟩
  case round =>
    obtain ⟨k, q, Lv, hk, hq, rfl, hown, hLv, hB⟩ := hrel
    by_cases hlt : k < m
    · have q0 : (0 : Int) ≤ (q : Int) := by omega
      have q1 : (q : Int) + 1 < (s.size : Int) := by omega
      have q2 : (q : Int) + 1 < 2000 := by omega
      have I0 := fun W => idxS s q (by omega) W
      have I1 := fun W => idxS s (q + 1) (by omega) W
      rw [show ((q + 1 : Nat) : Int) = (q : Int) + 1 by omega] at I1
      have d0 := hd q (by omega)
      have d1 := hd (q + 1) (by omega)
      have D0 := fun W => digit_any (bt s q) d0.1 d0.2 W
      have D1 := fun W => digit_any (bt s (q + 1)) d1.1 d1.2 W
      have HL : Hid ((hxL s (k + 1)).map (Value.int .u8) = Lv ++ [.int .u8 (bits .or .u8 (dgv (bt s q) * 16 % 256) (dgv (bt s (q + 1))))]) := by
        show _ = _
        rw [hxL_succ, List.map_append, hLv, hq]; rfl
      obtain ⟨ao, cv, hv'⟩ := own_form hown
      subst hv'
      have kb : k + 1 ≤ maxLen := by unfold maxLen; omega
      have kb2 : (k + 1) * 1 ≤ 140737488355328 := by omega
      have HO : Hid (wr.ownsRow w.heap.size 5 1 (.slice ao k cv) k Lv) := hown
      have HQ : Hid (q = 2 * k) := hq
      have HM : Hid (s.size = 2 * m) := hm
      generalize dgv (bt s q) = x at *
      generalize dgv (bt s (q + 1)) = y at *
      generalize bt s q = c0 at *
      generalize bt s (q + 1) = c1 at *
      clear hLv hown hS hd d0 d1 hq hm
      go_wp2_with fail
      apply wp_region_head_tail 1 11 #[true, false, false, false, false, false, false, false, false, false, false, false, false, false, false] (by kernel_rfl) (by intro c d v a w h; cases d <;> exact h) (by kernel_rfl)
      · exact ⟨.slice ao k cv, Or.inl ⟨rfl, fun _ => rfl⟩, rfl⟩
      simp only [List.take_succ_cons, List.take_zero, List.drop_succ_cons, List.drop_zero, Act.put, List.setIfInBounds_toArray, List.set_cons_succ, List.set_cons_zero]
      repeat (go_big_quiet_step (first | (go_at_call 38; with_reducible first | exact Calls.regrown_of (D0 _) | exact Calls.regrown_of (D1 _))))
      refine wpQuiet_nil ?_
      intro w5 hw'
      obtain ⟨⟨dq, osq⟩, hw''⟩ := hw'
      have hb := below_of hw''
      clear hw''
      have hB5 := Bel.call hB hb
      have HO5 : Hid (w5.ownsRow w.heap.size 5 1 (.slice ao k cv) k Lv) := World.ownsRow.kept HO.out (gby' hb) (by cases ao <;> simp [Value.ownBlock])
      have ls := hB5.size
      have sb : ∀ ob, w.heap.size ≤ (w5.alloc ob).heap.size := fun ob => by simp; omega
      clear HO hB hb D0 D1 I0 I1
      go_wp2_with (at_builtin; refine stopAt ?_)
      unfold Stop
      refine wpList_append_own _ rfl _ _ 54 rfl w.heap.size 5 i0 (.int .u8 0) 1 1 Tryd.underlying54 hi hz0 hz1 hz2 rfl (by decide) _ _ _ rfl (World.ownsRow.alloc HO5.out _) ⟨_, 0, none⟩ 1 1 [.int .u8 (bits .or .u8 (x * 16 % 256) y)] rfl rfl (news_new _ _ _) (fun u hu => by simp at hu; subst hu; rfl) kb kb2 (sb _) ?_
      intro v' w3 hown' hgrow3 hnil3
      have b3 : Below w.heap.size w w3 := (hB5.alloc hB5.size _).grown hgrow3 (sb _) (fun q hq => (HO5.out.lt q hq).1)
      clear hnil3 hgrow3 hB5
      go_wp2_with fail
      have o1 := HQ.out
      have o2 := HM.out
      refine ⟨⟨k + 1, q + 2, _, by omega, by omega, by go_num, hown', HL.out.symm, b3⟩, by simp [intOf]; omega⟩
    · have e : k = m := by omega
      subst e
      obtain ⟨g, cq, hv'⟩ := own_some hown (by omega)
      subst hv'
      subst hLv
      have cv := convC wr g k cq (hxL s k) (by simp [hxL]) (World.ownsRow.cells hown rfl)
      rw [← hS] at cv
      have q1 : ¬ (q : Int) + 1 < (s.size : Int) := by omega
      have q2 : (q : Int) + 1 < 3000 := by omega
      clear hown hS hd
      go_wp2_with fail
      go_ret
      exact ⟨rfl, hB⟩
end Go.Proofs.YtbmnmmdkpemknaaDoor
