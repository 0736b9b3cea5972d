/- The reference: Split (small seat). -/
import Derived.Test.YtjaljnfijhfkcaaR1
set_option linter.all false
set_option maxRecDepth 100000
namespace Go.Proofs.Ytjaljnfijhfkcaa
open Go.RowKit Go.Shelf Go.Sort Go.Lib
set_option maxHeartbeats 4000000 in
theorem rSplit_any (kd : Int) (s : ByteArray) (hs : s.size ≤ 1000000) (w : World) :
    Calls Try.prog 12 #[.int .i64 kd, .string s] w fun e w' => ∃ v, e = .returned v ∧ w'.ownsRow w.heap.size 23 2 v (pcs s).length (rcC kd (pcs s)) ∧ Below w.heap.size w w' := by
  obtain ⟨i0, hi, hi2⟩ := Option.map_eq_some_iff.1 Try.infoR
  have hz0 : i0.zero = some (.agg #[.int .i64 0, .string ⟨#[]⟩]) := by injection hi2
  have hz1 : i0.size = 2 := by injection hi2 with _ h; injection h
  have hz2 : i0.bytes = 24 := by injection hi2 with _ h; injection h
  clear hi2
  go_enter Try.func12, Try.ntmps12
  go_wp2_with fail
  go_loopw [1, 5] (fun t v wr => ∃ k : Nat, k ≤ nP s ∧ t = .string (rsS s k) ∧ wr.ownsRow w.heap.size 23 2 v k (rcC kd (upP s k)) ∧ Below w.heap.size w wr) (fun t _ _ => lnV t)
  case atStart => exact ⟨0, by omega, by rw [rsS_0], World.ownsRow_nil _ _ _ _, Below.refl _ _⟩
  case round =>
    obtain ⟨k, hk, rfl, hrow, hB⟩ := hrel
    have z := rsS_size s k
    by_cases hlt : 16384 * k < s.size
    · have te := ne_nil_of (t := rsS s k) (by omega)
      have hkn : k < nP s := by unfold nP; omega
      have HU : Hid (upP s (k + 1) = upP s k ++ [pc s k]) := upP_succ s k
      have HZ : Hid ((rsS s (k + 1)).size < (rsS s k).size) := by
        show _ < _
        rw [rsS_size, rsS_size]; omega
      have kn : k < 1000 := by unfold nP at hkn; omega
      have kb : k + 1 ≤ maxLen := by unfold maxLen; omega
      have kb2 : (k + 1) * 24 ≤ 140737488355328 := by omega
      have hsz := hB.size
      have sb : ∀ ob, w.heap.size ≤ (wr.alloc ob).heap.size := fun ob => by simp; omega
      have t1 : ((rsS s k).size : Int) ≤ 1000000 := by omega
      obtain ⟨ao, cv, rfl⟩ := own_formR hrow
      have HR : Hid (wr.ownsRow w.heap.size 23 2 (.slice ao k cv) k (rcC kd (upP s k))) := hrow
      clear hrow
      by_cases hm : (rsS s k).size ≤ 16384
      · skip
        have P1 := rsS_pc s k (rsS s k).size (.inr ⟨rfl, hm⟩)
        have P2 := rsS_rs s k (rsS s k).size (.inr ⟨rfl, hm⟩)
        have P3 : pc s k = rsS s k := by
          rw [← P1]
          apply ba_ext
          rw [ext_list, List.drop_zero, Nat.sub_zero, List.take_of_length_le (by rw [len_list]; exact Nat.le_refl _)]
        have m1 : ((rsS s k).size : Int) ≤ 16384 := by omega
        have mn : min ((rsS s k).size : Int) 16384 = ((rsS s k).size : Int) := by omega
        rw [P3] at HU
        have HP : Hid ((rsS s k).extract (rsS s k).size (rsS s k).size = rsS s (k + 1)) := P2
        clear P1 P2 P3 hm z hlt
        obtain ⟨t', ht'⟩ : ∃ t', rsS s (k + 1) = t' := ⟨_, rfl⟩
        have HT : Hid (rsS s (k + 1) = t') := ht'
        rw [ht'] at HZ HP
        clear ht'
        generalize rsS s k = t at *
        go_wp2_with (at_builtin; refine wpList_append_own _ rfl _ _ 35 rfl w.heap.size 23 i0 (.agg #[.int .i64 0, .string ⟨#[]⟩]) 2 24 Try.underlying35 hi hz0 hz1 hz2 rfl (by decide) _ _ _ rfl (World.ownsRow.alloc HR.out _) ⟨wr.heap.size, 0, none⟩ 1 1 [.int .i64 kd, .string t] rfl rfl (news_new wr [.int .i64 kd, .string t] 23) (by simp [Value.oneCell']) kb kb2 (sb _) ?_; refine stopAt ?_)
        unfold Stop
        intro v' w3 hown' hgrow3 hnil3
        have b3 : Below w.heap.size w w3 := (hB.alloc hB.size _).grown hgrow3 (by go_size) (fun q hq => (HR.out.lt q hq).1)
        clear hnil3 hgrow3
        have HO' : Hid (w3.ownsRow w.heap.size 23 2 v' (k + 1) (rcC kd (upP s (k + 1)))) := by
          show World.ownsRow _ _ _ _ _ _ _
          rw [HU.out, rcC_snoc]
          exact hown'
        clear hown'
        go_wp2_with fail
        refine ⟨⟨k + 1, by omega, ?_, HO'.out, b3⟩, ?_⟩
        · first | (rw [HT.out, ← HP.out]; done) | (rw [HT.out, ← HP.out]; simp)
        · have := HZ.out
          rw [← HP.out] at this
          simpa [lnV] using this
      · skip
        have P1 := rsS_pc s k 16384 (.inl rfl)
        have P2 := rsS_rs s k 16384 (.inl rfl)
        have m1 : ¬ ((rsS s k).size : Int) ≤ 16384 := by omega
        have m2 : 16384 ≤ ((rsS s k).size : Int) := by omega
        have m3 : 16384 < ((rsS s k).size : Int) := by omega
        have mn : min ((rsS s k).size : Int) 16384 = 16384 := by omega
        rw [← P1] at HU
        have HP : Hid ((rsS s k).extract 16384 (rsS s k).size = rsS s (k + 1)) := P2
        clear P1 P2 hm z hlt
        obtain ⟨t', ht'⟩ : ∃ t', rsS s (k + 1) = t' := ⟨_, rfl⟩
        have HT : Hid (rsS s (k + 1) = t') := ht'
        rw [ht'] at HZ HP
        clear ht'
        generalize rsS s k = t at *
        go_wp2_with (at_builtin; refine wpList_append_own _ rfl _ _ 35 rfl w.heap.size 23 i0 (.agg #[.int .i64 0, .string ⟨#[]⟩]) 2 24 Try.underlying35 hi hz0 hz1 hz2 rfl (by decide) _ _ _ rfl (World.ownsRow.alloc HR.out _) ⟨wr.heap.size, 0, none⟩ 1 1 [.int .i64 kd, .string (t.extract 0 16384)] rfl rfl (news_new wr [.int .i64 kd, .string (t.extract 0 16384)] 23) (by simp [Value.oneCell']) kb kb2 (sb _) ?_; refine stopAt ?_)
        unfold Stop
        intro v' w3 hown' hgrow3 hnil3
        have b3 : Below w.heap.size w w3 := (hB.alloc hB.size _).grown hgrow3 (by go_size) (fun q hq => (HR.out.lt q hq).1)
        clear hnil3 hgrow3
        have HO' : Hid (w3.ownsRow w.heap.size 23 2 v' (k + 1) (rcC kd (upP s (k + 1)))) := by
          show World.ownsRow _ _ _ _ _ _ _
          rw [HU.out, rcC_snoc]
          exact hown'
        clear hown'
        go_wp2_with fail
        refine ⟨⟨k + 1, by omega, ?_, HO'.out, b3⟩, ?_⟩
        · first | (rw [HT.out, ← HP.out]; done) | (rw [HT.out, ← HP.out]; simp)
        · have := HZ.out
          rw [← HP.out] at this
          simpa [lnV] using this
    · have hn0 : (rsS s k).size = 0 := by omega
      have e0 : rsS s k = ⟨#[]⟩ := ba_ext (by have := List.eq_nil_of_length_eq_zero (l := (rsS s k).data.toList) (by rw [len_list]; exact hn0); rw [this])
      rw [e0]
      have ek : nP s = k := by unfold nP at hk ⊢; omega
      have HE : Hid (upP s k = pcs s ∧ (pcs s).length = k) := by
        unfold pcs
        rw [ek]
        exact ⟨rfl, by simp [upP]⟩
      obtain ⟨ao, cv, rfl⟩ := own_formR hrow
      have HR : Hid (wr.ownsRow w.heap.size 23 2 (.slice ao k cv) k (rcC kd (upP s k))) := hrow
      clear hrow z hlt hk ek e0 hn0
      go_wp2
      go_ret
      refine ⟨_, rfl, ?_, hB⟩
      rw [HE.out.2, ← HE.out.1]
      exact HR.out
end Go.Proofs.Ytjaljnfijhfkcaa
