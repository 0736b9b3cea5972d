/- Rows of numbers as they stand within a tag: the walk to the end. -/
import Derived.Test.YtajdfjpcobaioaaGreatDoorD12
set_option linter.all false
set_option maxRecDepth 100000
namespace Go.Proofs.YtajdfjpcobaioaaGreatDoor
open Go.RowKit Go.Sort
theorem own_to {W W' : World} {b n s : Nat} {e : TypeId} {v : Value} {xs : List Value} (h : W.ownsRow b e s v n xs) (hb : Below W.heap.size W W') : W'.ownsRow b e s v n xs := by
  refine ⟨h.1, ?_⟩
  rcases h.2 with h2 | ⟨g, cap, cur, h1, h2, h3, h4⟩
  · exact .inl h2
  · refine .inr ⟨g, cap, cur, h1, h2, ?_, h4⟩
    have hg : g < W.heap.size := by
      rcases Nat.lt_or_ge g W.heap.size with c | c
      · exact c
      · rw [Array.getElem?_eq_none c] at h3; cases h3
    rw [hb.block g hg]; exact h3
set_option maxHeartbeats 4000000 in
theorem oid_y (a a2 : Addr) (n cap : Nat) (x y m : Int) (ls : List Int) (S : ByteArray) (w : World) (h2 : 2 ≤ n) (h16 : n ≤ 16) (hls : ls.length = n - 2) (c0 : w.cell? a = some (.int .u32 x)) (c1 : w.cell? ⟨a.block, a.off + 1, none⟩ = some (.int .u32 y)) (x0 : 0 ≤ x) (x1 : x ≤ 2) (y0 : 0 ≤ y) (y1 : y ≤ m) (m47 : m ≤ 47)
    (cut : ∀ W : World, (Instr.slice 25 (.slice (some a) n cap) (some (.int .i64 2)) none none).run Tryz.prog W = .ok (.slice (some a2) (n - 2) (cap - 2)) W)
    (ck : Hid (∀ k z, ls[k]? = some z → w.cell? (a2.add k) = some (.int .u32 z))) (hz : Hid (∀ z ∈ ls, 0 ≤ z ∧ z < 4294967296)) (hS : Hid (mkS ((40 * x + y) :: ls.flatMap svL) = S))
    (C38 : ∀ W, Calls Tryz.prog 22 #[.int .u32 x] W fun e w' => e = .returned (.int .u32 m) ∧ Below W.heap.size W w')
    (C39 : Hid (∀ z, 0 ≤ z → z < 4294967296 → ∀ w : World, Calls Tryz.prog 23 #[.int .u32 z] w fun e w' => (∃ g c, e = .returned (.slice (some ⟨g, 0, none⟩) (svL z).length c) ∧ w.heap.size ≤ g ∧ Arr w' g (svL z).length (fun j => .int .u8 ((svL z).getD j 0))) ∧ Below w.heap.size w w')) :
    Calls Tryz.prog 6 #[.slice (some a) n cap] w fun e w' => e = .returned (.tuple #[.string S, .int .i64 0]) ∧ Below w.heap.size w w' := by
  obtain ⟨i0, hi, hz0, hz1, hz2⟩ := info_parts Tryz.info5
  have n2 : (2 : Int) ≤ (n : Int) := by omega
  have n16 : (n : Int) ≤ 16 := by omega
  have hd : decide (2 < x) = false := decide_eq_false (by omega)
  have hd2 : decide (m < y) = false := decide_eq_false (by omega)
  have r0 := fun ds os => cell_regrown c0 ds os
  have r1 := fun ds os => cell_regrown c1 ds os
  go_enter Tryz.func6, Tryz.ntmps6
  go_wp2_with fail
  refine wp_region_quiet_below (by kernel_rfl) (by kernel_rfl) ?_
  repeat (go_big_quiet_step (first | (go_at_call 22; exact Calls.regrown_of (C38 _))))
  refine wpQuiet_nil ?_
  intro w1 hw'
  obtain ⟨⟨dq, osq⟩, hw''⟩ := hw'
  have hb := below_of hw''
  clear hw'' r0 r1 C38
  have e0 : w1.cell? a = some (.int .u32 x) := (hb.cell (block_lt_of_cell c0)).trans c0
  have e1 : w1.cell? ⟨a.block, a.off + 1, none⟩ = some (.int .u32 y) := (hb.cell (block_lt_of_cell c1)).trans c1
  have hB := hb
  have CK : Hid (∀ k z, ls[k]? = some z → ∀ W, Below w.heap.size w W → W.cell? (a2.add k) = some (.int .u32 z)) := fun k z hk W hW => (hW.cell (block_lt_of_cell (ck.out k z hk))).trans (ck.out k z hk)
  clear hb c0 c1 ck
  go_wp2_with fail
  have r0 := fun ds os => cell_regrown e0 ds os
  have r1 := fun ds os => cell_regrown e1 ds os
  have q1 : (40 * x + y) % 256 = 40 * x + y := by omega
  refine wp_region_below_tail 9 (by kernel_rfl) (by kernel_rfl) ?_
  simp only [List.take_succ_cons, List.take_zero, List.drop_succ_cons, List.drop_zero]
  repeat (go_big_quiet_step (fail))
  refine wpQuiet_nil ?_
  intro w2 hw'
  obtain ⟨⟨dq, osq⟩, hw''⟩ := hw'
  have hb := below_of hw''
  clear hw'' r0 r1 e0 e1
  replace hB := Bel.call hB hb
  clear hb
  have hs2 := hB.size
  have own0 : (w2.alloc (.cells #[.int .u8 (40 * x + y)] 5)).ownsRow w.heap.size 5 1 (.slice (some ⟨w2.heap.size, 0, none⟩) 1 1) 1 ([40 * x + y].map (Value.int .u8)) :=
    ⟨rfl, .inr ⟨w2.heap.size, 1, #[.int .u8 (40 * x + y)], rfl, hs2, Array.getElem?_push_size, by omega, by unfold maxLen; omega, rfl, rfl⟩⟩
  have b0 : Below w.heap.size w (w2.alloc (.cells #[.int .u8 (40 * x + y)] 5)) := Bel.al hB _
  have HO0 : Hid _ := own0
  have HB0 : Hid _ := b0
  generalize hX : 40 * x + y = X at *
  clear own0 b0 hd hd2
  obtain ⟨k2, hk2⟩ : ∃ k2 : Nat, n - 2 = k2 := ⟨_, rfl⟩
  rw [hk2] at cut hls
  have HX : Hid (40 * x + y = X) := hX
  clear hX q1 x0 x1 y0 y1 m47
  have k20 : (k2 : Int) ≤ 14 := by omega
  go_wp2_with fail
  go_loopw [4, 43] (fun v i wr => ∃ (k : Nat) (L : List Int), k ≤ k2 ∧ i = .int .i64 (k : Int) ∧ L.length ≤ 1 + 5 * k ∧ 1 ≤ L.length ∧ L = X :: (ls.take k).flatMap svL ∧ wr.ownsRow w.heap.size 5 1 v L.length (L.map (Value.int .u8)) ∧ Below w.heap.size w wr)
    (fun _ i _ => k2 - (intOf i).toNat)
  case atStart => exact ⟨0, [X], by omega, rfl, by simp, by simp, rfl, HO0.out, HB0.out⟩
  case round =>
    clear HO0 HB0 hB hs2
    obtain ⟨k, L, hk, rfl, hL5, hL1, hL, hown, hB⟩ := hrel
    by_cases hlt : k < k2
    · have k0 : (0 : Int) ≤ (k : Int) := by omega
      have k1 : (k : Int) < (k2 : Int) := by omega
      obtain ⟨z, hzk⟩ : ∃ z, ls[k]? = some z := ⟨_, List.getElem?_eq_getElem (by omega)⟩
      have zb := hz.out z (List.mem_of_getElem? hzk)
      have cz := CK.out k z hzk wr hB
      have C := C39.out z zb.1 zb.2
      have lz := svL_len z
      have HL : Hid (L ++ svL z = X :: (ls.take (k + 1)).flatMap svL) := by
        show _ = _
        rw [hL, List.take_add_one, hzk, List.flatMap_append]
        simp
      have HL5 : Hid (L.length + (svL z).length ≤ 1 + 5 * (k + 1)) := by show _ ≤ _; omega
      have HV : Hid (Bys (svL z)) := svL_bys z
      generalize svL z = V at *
      obtain ⟨ao, cv, hv⟩ := own_form hown
      subst hv
      have kb : L.length + V.length ≤ maxLen := by unfold maxLen; omega
      have kb2 : (L.length + V.length) * 1 ≤ 140737488355328 := by omega
      have hs := hB.size
      have HO : Hid (wr.ownsRow w.heap.size 5 1 (.slice ao L.length cv) L.length (L.map (Value.int .u8))) := hown
      clear hL hown hL5 CK C39 hz cut
      go_wp2_with (first | (go_at_call 23; refine (C _).mono ?_; rintro e w3 ⟨⟨g, c, rfl, hg, hA⟩, hb3⟩) | (at_builtin; refine stopAt ?_))
      unfold Stop
      refine wpList_append_own _ rfl _ _ 51 rfl w.heap.size 5 i0 (.int .u8 0) 1 1 Tryz.underlying51 hi hz0 hz1 hz2 rfl (by decide) _ _ _ rfl (own_to HO.out hb3) ⟨g, 0, none⟩ V.length c (V.map (Value.int .u8)) rfl (by simp) (fun j u hj => by
        rw [Addr.add_mid, Nat.zero_add]
        rw [List.getElem?_map] at hj
        cases hv : V[j]? with
        | none => rw [hv] at hj; cases hj
        | some q =>
          rw [hv] at hj
          have hlt : j < V.length := (List.getElem?_eq_some_iff.1 hv).1
          have := hA.c j hlt
          rw [this, ← hj, List.getD_eq_getElem?_getD, hv]; rfl) (fun u hu => by obtain ⟨q, _, rfl⟩ := List.mem_map.1 hu; rfl) kb kb2 (by have := hb3.size; omega) ?_
      intro v' w4 hown' hgrow3 hnil3
      have b3 : Below w.heap.size w w4 := (Bel.call hB hb3).grown hgrow3 (by have := hb3.size; omega) (fun q hq => (HO.out.lt q hq).1)
      clear hnil3 hgrow3 hA hg
      have HO' : Hid (w4.ownsRow w.heap.size 5 1 v' (L ++ V).length ((L ++ V).map (Value.int .u8))) := by
        show World.ownsRow _ _ _ _ _ _ _
        rw [List.length_append, List.map_append]
        exact hown'
      clear hown'
      go_wp2_with fail
      exact ⟨⟨k + 1, L ++ V, by omega, by go_num, by rw [List.length_append]; exact HL5.out, by rw [List.length_append]; omega, HL.out, HO'.out, b3⟩, by simp [intOf]; omega⟩
    · obtain rfl : k = k2 := by omega
      obtain ⟨g, c, hv⟩ := own_some hown (by omega)
      subst hv
      have cv := convC wr g L.length c L rfl (World.ownsRow.cells hown rfl)
      have HS : Hid (mkS L = S) := by
        show _ = _
        rw [hL, ← hls, List.take_length]; exact hS.out
      generalize hq : L.length = q at *
      clear hown hL hq CK C39 hz cut
      generalize mkS L = T at *
      go_wp2_with fail
      exact bodyPost_ret (v := .tuple #[.string T, .int .i64 0]) (by simp [results, Tryz.results6, go_sem]) rfl ⟨by rw [HS.out], hB⟩
/-- What Oid tells. -/
def oidR (l : List Int) : Value := if oidE l = 0 then .tuple #[.string (mkS (oidL l)), .int .i64 0] else .tuple #[.string ⟨#[]⟩, .int .i64 (oidE l)]
theorem oid_any (v : Value) (l : List Int) (w : World) (h : Wds w v l) (hm : l.length ≤ maxLen) (hb : ∀ x ∈ l, 0 ≤ x ∧ x < 4294967296) (hcap : ∀ a n c, v = .slice (some a) n c → c ≤ maxLen) : Calls Tryz.prog 6 #[v] w fun e w' => e = .returned (oidR l) ∧ Below w.heap.size w w' := by
  unfold oidR
  by_cases c1 : l.length < 2
  · have e : oidE l = 11 := by unfold oidE; rw [if_pos c1]
    rw [e, if_neg (by decide)]; exact oid_s v l w h c1
  by_cases c2 : 16 < l.length
  · have e : oidE l = 18 := by unfold oidE; rw [if_neg c1, if_pos c2]
    rw [e, if_neg (by decide)]; exact oid_m v l w h c2
  rcases h with ⟨rfl, rfl⟩ | ⟨a, cap, rfl, h0, h2⟩
  · simp at c1
  have g0 : l[0]? = some (l.getD 0 0) := by rw [List.getD_eq_getElem?_getD, List.getElem?_eq_getElem (by omega)]; rfl
  have g1 : l[1]? = some (l.getD 1 0) := by rw [List.getD_eq_getElem?_getD, List.getElem?_eq_getElem (by omega)]; rfl
  have e0 : w.cell? a = some (.int .u32 (l.getD 0 0)) := by have := h2 0 _ g0; simpa [Addr.add] using this
  have e1 : w.cell? ⟨a.block, a.off + 1, none⟩ = some (.int .u32 (l.getD 1 0)) := by have := h2 1 _ g1; simpa [Addr.add] using this
  have b0 := hb _ (List.mem_of_getElem? g0)
  have b1 := hb _ (List.mem_of_getElem? g1)
  have C38 := fun W => mostSecond_any (l.getD 0 0) W
  by_cases c3 : 2 < l.getD 0 0 ∨ msF (l.getD 0 0) < l.getD 1 0
  · have e : oidE l = 13 := by unfold oidE; rw [if_neg c1, if_neg c2, if_pos c3]
    rw [e, if_neg (by decide)]
    exact oid_n a l.length cap _ _ _ w (by omega) (by omega) e0 e1 c3 C38
  · have e : oidE l = 0 := by unfold oidE; rw [if_neg c1, if_neg c2, if_neg c3]
    rw [e, if_pos rfl]
    obtain ⟨a2, hc, ha2⟩ := cut2 a l.length cap (by omega) h0 (hcap a _ cap rfl)
    have m47 : msF (l.getD 0 0) ≤ 47 := by unfold msF; split <;> omega
    refine oid_y a a2 l.length cap _ _ _ (l.drop 2) _ w (by omega) (by omega) (by simp) e0 e1 b0.1 (by omega) b1.1 (by omega) m47 hc (fun k z hk => ?_) (fun z hz => hb z (List.mem_of_mem_drop hz)) rfl C38 (fun z z0 z1 W => sevens_any z z0 z1 W)
    rw [List.getElem?_drop] at hk
    have hlt : 2 + k < l.length := (List.getElem?_eq_some_iff.1 hk).1
    rw [ha2 (by omega), ← h2 (2 + k) z hk]
    congr 1
    cases k with
    | zero => rfl
    | succ k => simp [Addr.add]; omega
end Go.Proofs.YtajdfjpcobaioaaGreatDoor
