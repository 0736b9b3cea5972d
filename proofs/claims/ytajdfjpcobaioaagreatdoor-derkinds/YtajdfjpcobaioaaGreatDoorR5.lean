/- The reference's ToOid. -/
import Derived.Test.YtajdfjpcobaioaaGreatDoorD19
set_option linter.all false
set_option maxRecDepth 100000
namespace Go.Proofs.YtajdfjpcobaioaaGreatDoor
open Go.RowKit Go.Sort
theorem rto_s (w : World) : Calls Tryz.prog 9 #[.string ⟨#[]⟩] w fun e w' => e = .returned (.tuple #[.slice none 0 0, .int .i64 11]) ∧ Below w.heap.size w w' := by
  go_enter Tryz.func9, Tryz.ntmps9
  go_wp2_with fail
  exact bodyPost_ret (v := .tuple #[.slice none 0 0, .int .i64 11]) (by simp [results, Tryz.results9, go_sem]) rfl ⟨rfl, by go_grown⟩
theorem rto_h (s : ByteArray) (hs : 0 < s.size) (h : 128 ≤ bt s 0) (w : World) : Calls Tryz.prog 9 #[.string s] w fun e w' => e = .returned (.tuple #[.slice none 0 0, .int .i64 10]) ∧ Below w.heap.size w w' := by
  have I := idx0 s hs
  have b0 := bt_bd s 0
  have em := emp_no s hs
  generalize bt s 0 = x at *
  go_enter Tryz.func9, Tryz.ntmps9
  go_wp2_with fail
  exact bodyPost_ret (v := .tuple #[.slice none 0 0, .int .i64 10]) (by simp [results, Tryz.results9, go_sem]) rfl ⟨rfl, by go_grown⟩
set_option maxHeartbeats 8000000 in
theorem rto_any (s : ByteArray) (hs : 0 < s.size) (hm : s.size ≤ maxLen) (h : bt s 0 < 128) (O : List Int) (E : Int) (hO : Hid (pr ((sL s).drop 1) [o1 (bt s 0), bt s 0 - 40 * o1 (bt s 0)] 0 false = (O, E))) (w : World) :
    Calls Tryz.prog 9 #[.string s] w fun e w' => (∃ v, e = .returned (.tuple #[v, .int .i64 E]) ∧ Wds w' v (if E = 0 then O else []) ∧ ∀ a k c, v = .slice (some a) k c → c ≤ maxLen) ∧ Below w.heap.size w w' := by
  obtain ⟨i0, hi, hz0, hz1, hz2⟩ := info_parts Tryz.info52
  have I := idx0 s hs
  have b0 := bt_bd s 0
  have em := emp_no s hs
  unfold maxLen at hm
  have hz : (s.size : Int) ≤ 9223372036854775807 := by omega
  generalize bt s 0 = x at *
  by_cases g : x / 40 < 2
  · have e1 : o1 x = x / 40 := by unfold o1; rw [if_pos g]
    rw [e1] at hO
    clear e1
    have q0 : 0 ≤ x / 40 := by omega
    have q1 : (x - 40 * (x / 40)) % 4294967296 = x - 40 * (x / 40) := by omega
    have own0 : (w.alloc (.cells #[.int .u32 (x / 40), .int .u32 (x - 40 * (x / 40))] 52)).ownsRow w.heap.size 52 1 (.slice (some ⟨w.heap.size, 0, none⟩) 2 2) 2 ([(x / 40), (x - 40 * (x / 40))].map (Value.int .u32)) :=
      ⟨rfl, .inr ⟨w.heap.size, 2, #[.int .u32 (x / 40), .int .u32 (x - 40 * (x / 40))], rfl, Nat.le_refl _, Array.getElem?_push_size, by omega, by unfold maxLen; omega, rfl, rfl⟩⟩
    go_enter Tryz.func9, Tryz.ntmps9
    go_wp2_with fail
    go_loopw [5, 6, 7, 8] (fun v n b i wr => ∃ (k : Nat) (m : Int) (bb : Bool) (L : List Int), 1 ≤ k ∧ k ≤ s.size ∧ n = .int .u64 m ∧ b = .bool bb ∧ i = .int .i64 (k : Int) ∧ 0 ≤ m ∧ m ≤ 4294967295 ∧ 2 ≤ L.length ∧ L.length ≤ 16 ∧ wr.ownsRow w.heap.size 52 1 v L.length (L.map (Value.int .u32)) ∧ pr ((sL s).drop k) L m bb = (O, E) ∧ Below w.heap.size w wr) (fun _ _ _ i _ => s.size - (intOf i).toNat)
    case atStart => exact ⟨1, 0, false, [(x / 40), (x - 40 * (x / 40))], by omega, by omega, rfl, rfl, rfl, by omega, by omega, by simp, by simp, own0, hO.out, by go_grown⟩
    case round =>
      clear own0 hO I em
      obtain ⟨k, m, bb, L, hk1, hk, rfl, rfl, rfl, m0, m1, hL2, hL16, hown, hp, hB⟩ := hrel
      obtain ⟨ao, cv, hv⟩ := ownF hown
      have HW : Hid _ := ownS (by omega) rfl hown
      subst hv
      by_cases hlt : k < s.size
      · have k0 : (0 : Int) ≤ (k : Int) := by omega
        have k1 : (k : Int) < (s.size : Int) := by omega
        have I := idxS s k hlt
        have cb := bt_bd s k
        rw [sL_drop s k hlt, pr] at hp
        by_cases g0 : bb = false ∧ bt s k = 128
        · rw [if_pos g0] at hp
          simp only [Prod.mk.injEq] at hp
          obtain ⟨rfl, rfl⟩ := hp
          obtain ⟨rfl, g0'⟩ := g0
          rw [g0'] at I
          clear g0' cb hown HW
          go_wp2_with fail
          exact bodyPost_ret (v := .tuple #[.slice none 0 0, .int .i64 10]) (by simp [results, Tryz.results9, go_sem]) rfl ⟨⟨_, rfl, by first | exact .inl ⟨rfl, rfl⟩ | (rw [if_neg (by decide)]; exact .inl ⟨rfl, rfl⟩), fun a k c h => by cases h⟩, hB⟩
        · rw [if_neg g0] at hp
          have g0' : bb = true ∨ (bb = false ∧ (bt s k == 128) = false) := by
            cases bb with
            | true => exact .inl rfl
            | false => exact .inr ⟨rfl, by simp; exact fun h => g0 ⟨rfl, h⟩⟩
          clear g0
          by_cases g1 : 4294967295 < m * 128 + bt s k % 128
          · rw [if_pos g1] at hp
            simp only [Prod.mk.injEq] at hp
            obtain ⟨rfl, rfl⟩ := hp
            clear hown HW
            have g1' : 4294967296 ≤ m * 128 + bt s k % 128 := by omega
            generalize bt s k = c at *
            rcases g0' with rfl | ⟨rfl, g0'⟩
            all_goals
              go_wp2_with fail
              exact bodyPost_ret (v := .tuple #[.slice none 0 0, .int .i64 13]) (by simp [results, Tryz.results9, go_sem]) rfl ⟨⟨_, rfl, by first | exact .inl ⟨rfl, rfl⟩ | (rw [if_neg (by decide)]; exact .inl ⟨rfl, rfl⟩), fun a k c h => by cases h⟩, hB⟩
          · rw [if_neg g1] at hp
            have g1' : decide (4294967296 ≤ m * 128 + bt s k % 128) = false := decide_eq_false (by omega)
            by_cases g2 : bt s k < 128
            · rw [if_pos g2] at hp
              by_cases g3 : L.length = 16
              · rw [if_pos g3] at hp
                simp only [Prod.mk.injEq] at hp
                obtain ⟨rfl, rfl⟩ := hp
                have g3' : (L.length : Int) = 16 := by omega
                generalize L.length = ln at *
                subst g3
                clear hown HW
                generalize bt s k = c at *
                rcases g0' with rfl | ⟨rfl, g0'⟩
                all_goals
                  go_wp2_with fail
                  exact bodyPost_ret (v := .tuple #[.slice none 0 0, .int .i64 18]) (by simp [results, Tryz.results9, go_sem]) rfl ⟨⟨_, rfl, by first | exact .inl ⟨rfl, rfl⟩ | (rw [if_neg (by decide)]; exact .inl ⟨rfl, rfl⟩), fun a k c h => by cases h⟩, hB⟩
              · rw [if_neg g3] at hp
                have g3' : ((L.length : Int) == 16) = false := by simp; omega
                have HP : Hid (pr ((sL s).drop (k + 1)) (L ++ [m * 128 + bt s k % 128]) 0 false = (O, E)) := hp
                have HO : Hid (wr.ownsRow w.heap.size 52 1 (.slice ao L.length cv) L.length (L.map (Value.int .u32))) := hown
                have HL : Hid (2 ≤ L.length ∧ L.length ≤ 16 ∧ ¬ L.length = 16) := ⟨hL2, hL16, g3⟩
                have l16 : (L.length : Int) ≤ 16 := by omega
                have kb : L.length + 1 ≤ maxLen := by unfold maxLen; omega
                have kb2 : (L.length + 1) * 4 ≤ 140737488355328 := by omega
                have hs' := hB.size
                clear hown hp hL2 hL16 g3 HW
                have nb : (m * 128 + bt s k % 128) % 4294967296 = m * 128 + bt s k % 128 := by omega
                generalize bt s k = c at *
                rcases g0' with rfl | ⟨rfl, g0'⟩
                all_goals
                  go_wp2_with (at_builtin; refine stopAt ?_)
                  unfold Stop
                  refine wpList_append_own _ rfl _ _ 25 rfl w.heap.size 52 i0 (.int .u32 0) 1 4 Tryz.underlying25 hi hz0 hz1 hz2 rfl (by decide) _ _ _ rfl (World.ownsRow.alloc HO.out _) ⟨_, 0, none⟩ 1 1 [.int .u32 (m * 128 + c % 128)] rfl rfl (news_new _ _ _) (fun u hu => by simp at hu; subst hu; rfl) kb kb2 (by simp; omega) ?_
                  intro v' w3 hown' hgrow3 hnil3
                  have b3 : Below w.heap.size w w3 := (Bel.al hB _).grown hgrow3 (by simp; omega) (fun q hq => (HO.out.lt q hq).1)
                  clear hnil3 hgrow3
                  have HO' : Hid (w3.ownsRow w.heap.size 52 1 v' (L ++ [m * 128 + c % 128]).length ((L ++ [m * 128 + c % 128]).map (Value.int .u32))) := by
                    show World.ownsRow _ _ _ _ _ _ _
                    rw [List.length_append, List.map_append]
                    exact hown'
                  clear hown'
                  go_wp2_with fail
                  refine ⟨⟨k + 1, 0, false, L ++ [m * 128 + c % 128], by omega, by omega, rfl, rfl, by go_num, by omega, by omega, ?_, ?_, HO'.out, HP.out, b3⟩, by simp [intOf]; omega⟩
                  · have := HL.out; simp; omega
                  · have := HL.out; simp; omega
            · rw [if_neg g2] at hp
              have HP : Hid (pr ((sL s).drop (k + 1)) L (m * 128 + bt s k % 128) true = (O, E)) := hp
              have HO : Hid (wr.ownsRow w.heap.size 52 1 (.slice ao L.length cv) L.length (L.map (Value.int .u32))) := hown
              have HL : Hid (2 ≤ L.length ∧ L.length ≤ 16) := ⟨hL2, hL16⟩
              have g2' : decide (bt s k < 128) = false := decide_eq_false g2
              clear hown hp hL2 hL16 HW
              generalize bt s k = c at *
              rcases g0' with rfl | ⟨rfl, g0'⟩
              all_goals
                go_wp2_with fail
                exact ⟨⟨k + 1, m * 128 + c % 128, true, L, by omega, by omega, by go_num, rfl, by go_num, by omega, by omega, HL.out.1, HL.out.2, HO.out, HP.out, hB⟩, by simp [intOf]; omega⟩
      · obtain rfl : k = s.size := by omega
        rw [List.drop_eq_nil_of_le (by rw [sL_len]; exact Nat.le_refl _), pr] at hp
        cases bb with
        | true =>
          simp at hp
          obtain ⟨rfl, rfl⟩ := hp
          clear hown HW
          go_wp2_with fail
          exact bodyPost_ret (v := .tuple #[.slice none 0 0, .int .i64 11]) (by simp [results, Tryz.results9, go_sem]) rfl ⟨⟨_, rfl, by first | exact .inl ⟨rfl, rfl⟩ | (rw [if_neg (by decide)]; exact .inl ⟨rfl, rfl⟩), fun a k c h => by cases h⟩, hB⟩
        | false =>
          simp at hp
          obtain ⟨rfl, rfl⟩ := hp
          clear hown
          go_wp2_with fail
          exact bodyPost_ret (v := .tuple #[.slice ao L.length cv, .int .i64 0]) (by simp [results, Tryz.results9, go_sem]) rfl ⟨⟨_, rfl, by first | exact HW.out.1 | (rw [if_pos rfl]; exact HW.out.1), HW.out.2⟩, hB⟩
  · have e1 : o1 x = 2 := by unfold o1; rw [if_neg g]
    rw [e1, show (40 : Int) * 2 = 80 by decide] at hO
    clear e1
    have q1 : (x - 80) % 4294967296 = x - 80 := by omega
    rcases (show x / 40 = 2 ∨ x / 40 = 3 by omega) with q2 | q2
    · clear g
      have own0 : (w.alloc (.cells #[.int .u32 2, .int .u32 (x - 80)] 52)).ownsRow w.heap.size 52 1 (.slice (some ⟨w.heap.size, 0, none⟩) 2 2) 2 ([2, (x - 80)].map (Value.int .u32)) :=
        ⟨rfl, .inr ⟨w.heap.size, 2, #[.int .u32 2, .int .u32 (x - 80)], rfl, Nat.le_refl _, Array.getElem?_push_size, by omega, by unfold maxLen; omega, rfl, rfl⟩⟩
      go_enter Tryz.func9, Tryz.ntmps9
      go_wp2_with fail
      clear q2
      go_loopw [5, 6, 7, 8] (fun v n b i wr => ∃ (k : Nat) (m : Int) (bb : Bool) (L : List Int), 1 ≤ k ∧ k ≤ s.size ∧ n = .int .u64 m ∧ b = .bool bb ∧ i = .int .i64 (k : Int) ∧ 0 ≤ m ∧ m ≤ 4294967295 ∧ 2 ≤ L.length ∧ L.length ≤ 16 ∧ wr.ownsRow w.heap.size 52 1 v L.length (L.map (Value.int .u32)) ∧ pr ((sL s).drop k) L m bb = (O, E) ∧ Below w.heap.size w wr) (fun _ _ _ i _ => s.size - (intOf i).toNat)
      case atStart => exact ⟨1, 0, false, [2, (x - 80)], by omega, by omega, rfl, rfl, rfl, by omega, by omega, by simp, by simp, own0, hO.out, by go_grown⟩
      case round =>
        clear own0 hO I em
        obtain ⟨k, m, bb, L, hk1, hk, rfl, rfl, rfl, m0, m1, hL2, hL16, hown, hp, hB⟩ := hrel
        obtain ⟨ao, cv, hv⟩ := ownF hown
        have HW : Hid _ := ownS (by omega) rfl hown
        subst hv
        by_cases hlt : k < s.size
        · have k0 : (0 : Int) ≤ (k : Int) := by omega
          have k1 : (k : Int) < (s.size : Int) := by omega
          have I := idxS s k hlt
          have cb := bt_bd s k
          rw [sL_drop s k hlt, pr] at hp
          by_cases g0 : bb = false ∧ bt s k = 128
          · rw [if_pos g0] at hp
            simp only [Prod.mk.injEq] at hp
            obtain ⟨rfl, rfl⟩ := hp
            obtain ⟨rfl, g0'⟩ := g0
            rw [g0'] at I
            clear g0' cb hown HW
            go_wp2_with fail
            exact bodyPost_ret (v := .tuple #[.slice none 0 0, .int .i64 10]) (by simp [results, Tryz.results9, go_sem]) rfl ⟨⟨_, rfl, by first | exact .inl ⟨rfl, rfl⟩ | (rw [if_neg (by decide)]; exact .inl ⟨rfl, rfl⟩), fun a k c h => by cases h⟩, hB⟩
          · rw [if_neg g0] at hp
            have g0' : bb = true ∨ (bb = false ∧ (bt s k == 128) = false) := by
              cases bb with
              | true => exact .inl rfl
              | false => exact .inr ⟨rfl, by simp; exact fun h => g0 ⟨rfl, h⟩⟩
            clear g0
            by_cases g1 : 4294967295 < m * 128 + bt s k % 128
            · rw [if_pos g1] at hp
              simp only [Prod.mk.injEq] at hp
              obtain ⟨rfl, rfl⟩ := hp
              clear hown HW
              have g1' : 4294967296 ≤ m * 128 + bt s k % 128 := by omega
              generalize bt s k = c at *
              rcases g0' with rfl | ⟨rfl, g0'⟩
              all_goals
                go_wp2_with fail
                exact bodyPost_ret (v := .tuple #[.slice none 0 0, .int .i64 13]) (by simp [results, Tryz.results9, go_sem]) rfl ⟨⟨_, rfl, by first | exact .inl ⟨rfl, rfl⟩ | (rw [if_neg (by decide)]; exact .inl ⟨rfl, rfl⟩), fun a k c h => by cases h⟩, hB⟩
            · rw [if_neg g1] at hp
              have g1' : decide (4294967296 ≤ m * 128 + bt s k % 128) = false := decide_eq_false (by omega)
              by_cases g2 : bt s k < 128
              · rw [if_pos g2] at hp
                by_cases g3 : L.length = 16
                · rw [if_pos g3] at hp
                  simp only [Prod.mk.injEq] at hp
                  obtain ⟨rfl, rfl⟩ := hp
                  have g3' : (L.length : Int) = 16 := by omega
                  generalize L.length = ln at *
                  subst g3
                  clear hown HW
                  generalize bt s k = c at *
                  rcases g0' with rfl | ⟨rfl, g0'⟩
                  all_goals
                    go_wp2_with fail
                    exact bodyPost_ret (v := .tuple #[.slice none 0 0, .int .i64 18]) (by simp [results, Tryz.results9, go_sem]) rfl ⟨⟨_, rfl, by first | exact .inl ⟨rfl, rfl⟩ | (rw [if_neg (by decide)]; exact .inl ⟨rfl, rfl⟩), fun a k c h => by cases h⟩, hB⟩
                · rw [if_neg g3] at hp
                  have g3' : ((L.length : Int) == 16) = false := by simp; omega
                  have HP : Hid (pr ((sL s).drop (k + 1)) (L ++ [m * 128 + bt s k % 128]) 0 false = (O, E)) := hp
                  have HO : Hid (wr.ownsRow w.heap.size 52 1 (.slice ao L.length cv) L.length (L.map (Value.int .u32))) := hown
                  have HL : Hid (2 ≤ L.length ∧ L.length ≤ 16 ∧ ¬ L.length = 16) := ⟨hL2, hL16, g3⟩
                  have l16 : (L.length : Int) ≤ 16 := by omega
                  have kb : L.length + 1 ≤ maxLen := by unfold maxLen; omega
                  have kb2 : (L.length + 1) * 4 ≤ 140737488355328 := by omega
                  have hs' := hB.size
                  clear hown hp hL2 hL16 g3 HW
                  have nb : (m * 128 + bt s k % 128) % 4294967296 = m * 128 + bt s k % 128 := by omega
                  generalize bt s k = c at *
                  rcases g0' with rfl | ⟨rfl, g0'⟩
                  all_goals
                    go_wp2_with (at_builtin; refine stopAt ?_)
                    unfold Stop
                    refine wpList_append_own _ rfl _ _ 25 rfl w.heap.size 52 i0 (.int .u32 0) 1 4 Tryz.underlying25 hi hz0 hz1 hz2 rfl (by decide) _ _ _ rfl (World.ownsRow.alloc HO.out _) ⟨_, 0, none⟩ 1 1 [.int .u32 (m * 128 + c % 128)] rfl rfl (news_new _ _ _) (fun u hu => by simp at hu; subst hu; rfl) kb kb2 (by simp; omega) ?_
                    intro v' w3 hown' hgrow3 hnil3
                    have b3 : Below w.heap.size w w3 := (Bel.al hB _).grown hgrow3 (by simp; omega) (fun q hq => (HO.out.lt q hq).1)
                    clear hnil3 hgrow3
                    have HO' : Hid (w3.ownsRow w.heap.size 52 1 v' (L ++ [m * 128 + c % 128]).length ((L ++ [m * 128 + c % 128]).map (Value.int .u32))) := by
                      show World.ownsRow _ _ _ _ _ _ _
                      rw [List.length_append, List.map_append]
                      exact hown'
                    clear hown'
                    go_wp2_with fail
                    refine ⟨⟨k + 1, 0, false, L ++ [m * 128 + c % 128], by omega, by omega, rfl, rfl, by go_num, by omega, by omega, ?_, ?_, HO'.out, HP.out, b3⟩, by simp [intOf]; omega⟩
                    · have := HL.out; simp; omega
                    · have := HL.out; simp; omega
              · rw [if_neg g2] at hp
                have HP : Hid (pr ((sL s).drop (k + 1)) L (m * 128 + bt s k % 128) true = (O, E)) := hp
                have HO : Hid (wr.ownsRow w.heap.size 52 1 (.slice ao L.length cv) L.length (L.map (Value.int .u32))) := hown
                have HL : Hid (2 ≤ L.length ∧ L.length ≤ 16) := ⟨hL2, hL16⟩
                have g2' : decide (bt s k < 128) = false := decide_eq_false g2
                clear hown hp hL2 hL16 HW
                generalize bt s k = c at *
                rcases g0' with rfl | ⟨rfl, g0'⟩
                all_goals
                  go_wp2_with fail
                  exact ⟨⟨k + 1, m * 128 + c % 128, true, L, by omega, by omega, by go_num, rfl, by go_num, by omega, by omega, HL.out.1, HL.out.2, HO.out, HP.out, hB⟩, by simp [intOf]; omega⟩
        · obtain rfl : k = s.size := by omega
          rw [List.drop_eq_nil_of_le (by rw [sL_len]; exact Nat.le_refl _), pr] at hp
          cases bb with
          | true =>
            simp at hp
            obtain ⟨rfl, rfl⟩ := hp
            clear hown HW
            go_wp2_with fail
            exact bodyPost_ret (v := .tuple #[.slice none 0 0, .int .i64 11]) (by simp [results, Tryz.results9, go_sem]) rfl ⟨⟨_, rfl, by first | exact .inl ⟨rfl, rfl⟩ | (rw [if_neg (by decide)]; exact .inl ⟨rfl, rfl⟩), fun a k c h => by cases h⟩, hB⟩
          | false =>
            simp at hp
            obtain ⟨rfl, rfl⟩ := hp
            clear hown
            go_wp2_with fail
            exact bodyPost_ret (v := .tuple #[.slice ao L.length cv, .int .i64 0]) (by simp [results, Tryz.results9, go_sem]) rfl ⟨⟨_, rfl, by first | exact HW.out.1 | (rw [if_pos rfl]; exact HW.out.1), HW.out.2⟩, hB⟩
    · clear g
      have own0 : (w.alloc (.cells #[.int .u32 2, .int .u32 (x - 80)] 52)).ownsRow w.heap.size 52 1 (.slice (some ⟨w.heap.size, 0, none⟩) 2 2) 2 ([2, (x - 80)].map (Value.int .u32)) :=
        ⟨rfl, .inr ⟨w.heap.size, 2, #[.int .u32 2, .int .u32 (x - 80)], rfl, Nat.le_refl _, Array.getElem?_push_size, by omega, by unfold maxLen; omega, rfl, rfl⟩⟩
      go_enter Tryz.func9, Tryz.ntmps9
      go_wp2_with fail
      clear q2
      go_loopw [5, 6, 7, 8] (fun v n b i wr => ∃ (k : Nat) (m : Int) (bb : Bool) (L : List Int), 1 ≤ k ∧ k ≤ s.size ∧ n = .int .u64 m ∧ b = .bool bb ∧ i = .int .i64 (k : Int) ∧ 0 ≤ m ∧ m ≤ 4294967295 ∧ 2 ≤ L.length ∧ L.length ≤ 16 ∧ wr.ownsRow w.heap.size 52 1 v L.length (L.map (Value.int .u32)) ∧ pr ((sL s).drop k) L m bb = (O, E) ∧ Below w.heap.size w wr) (fun _ _ _ i _ => s.size - (intOf i).toNat)
      case atStart => exact ⟨1, 0, false, [2, (x - 80)], by omega, by omega, rfl, rfl, rfl, by omega, by omega, by simp, by simp, own0, hO.out, by go_grown⟩
      case round =>
        clear own0 hO I em
        obtain ⟨k, m, bb, L, hk1, hk, rfl, rfl, rfl, m0, m1, hL2, hL16, hown, hp, hB⟩ := hrel
        obtain ⟨ao, cv, hv⟩ := ownF hown
        have HW : Hid _ := ownS (by omega) rfl hown
        subst hv
        by_cases hlt : k < s.size
        · have k0 : (0 : Int) ≤ (k : Int) := by omega
          have k1 : (k : Int) < (s.size : Int) := by omega
          have I := idxS s k hlt
          have cb := bt_bd s k
          rw [sL_drop s k hlt, pr] at hp
          by_cases g0 : bb = false ∧ bt s k = 128
          · rw [if_pos g0] at hp
            simp only [Prod.mk.injEq] at hp
            obtain ⟨rfl, rfl⟩ := hp
            obtain ⟨rfl, g0'⟩ := g0
            rw [g0'] at I
            clear g0' cb hown HW
            go_wp2_with fail
            exact bodyPost_ret (v := .tuple #[.slice none 0 0, .int .i64 10]) (by simp [results, Tryz.results9, go_sem]) rfl ⟨⟨_, rfl, by first | exact .inl ⟨rfl, rfl⟩ | (rw [if_neg (by decide)]; exact .inl ⟨rfl, rfl⟩), fun a k c h => by cases h⟩, hB⟩
          · rw [if_neg g0] at hp
            have g0' : bb = true ∨ (bb = false ∧ (bt s k == 128) = false) := by
              cases bb with
              | true => exact .inl rfl
              | false => exact .inr ⟨rfl, by simp; exact fun h => g0 ⟨rfl, h⟩⟩
            clear g0
            by_cases g1 : 4294967295 < m * 128 + bt s k % 128
            · rw [if_pos g1] at hp
              simp only [Prod.mk.injEq] at hp
              obtain ⟨rfl, rfl⟩ := hp
              clear hown HW
              have g1' : 4294967296 ≤ m * 128 + bt s k % 128 := by omega
              generalize bt s k = c at *
              rcases g0' with rfl | ⟨rfl, g0'⟩
              all_goals
                go_wp2_with fail
                exact bodyPost_ret (v := .tuple #[.slice none 0 0, .int .i64 13]) (by simp [results, Tryz.results9, go_sem]) rfl ⟨⟨_, rfl, by first | exact .inl ⟨rfl, rfl⟩ | (rw [if_neg (by decide)]; exact .inl ⟨rfl, rfl⟩), fun a k c h => by cases h⟩, hB⟩
            · rw [if_neg g1] at hp
              have g1' : decide (4294967296 ≤ m * 128 + bt s k % 128) = false := decide_eq_false (by omega)
              by_cases g2 : bt s k < 128
              · rw [if_pos g2] at hp
                by_cases g3 : L.length = 16
                · rw [if_pos g3] at hp
                  simp only [Prod.mk.injEq] at hp
                  obtain ⟨rfl, rfl⟩ := hp
                  have g3' : (L.length : Int) = 16 := by omega
                  generalize L.length = ln at *
                  subst g3
                  clear hown HW
                  generalize bt s k = c at *
                  rcases g0' with rfl | ⟨rfl, g0'⟩
                  all_goals
                    go_wp2_with fail
                    exact bodyPost_ret (v := .tuple #[.slice none 0 0, .int .i64 18]) (by simp [results, Tryz.results9, go_sem]) rfl ⟨⟨_, rfl, by first | exact .inl ⟨rfl, rfl⟩ | (rw [if_neg (by decide)]; exact .inl ⟨rfl, rfl⟩), fun a k c h => by cases h⟩, hB⟩
                · rw [if_neg g3] at hp
                  have g3' : ((L.length : Int) == 16) = false := by simp; omega
                  have HP : Hid (pr ((sL s).drop (k + 1)) (L ++ [m * 128 + bt s k % 128]) 0 false = (O, E)) := hp
                  have HO : Hid (wr.ownsRow w.heap.size 52 1 (.slice ao L.length cv) L.length (L.map (Value.int .u32))) := hown
                  have HL : Hid (2 ≤ L.length ∧ L.length ≤ 16 ∧ ¬ L.length = 16) := ⟨hL2, hL16, g3⟩
                  have l16 : (L.length : Int) ≤ 16 := by omega
                  have kb : L.length + 1 ≤ maxLen := by unfold maxLen; omega
                  have kb2 : (L.length + 1) * 4 ≤ 140737488355328 := by omega
                  have hs' := hB.size
                  clear hown hp hL2 hL16 g3 HW
                  have nb : (m * 128 + bt s k % 128) % 4294967296 = m * 128 + bt s k % 128 := by omega
                  generalize bt s k = c at *
                  rcases g0' with rfl | ⟨rfl, g0'⟩
                  all_goals
                    go_wp2_with (at_builtin; refine stopAt ?_)
                    unfold Stop
                    refine wpList_append_own _ rfl _ _ 25 rfl w.heap.size 52 i0 (.int .u32 0) 1 4 Tryz.underlying25 hi hz0 hz1 hz2 rfl (by decide) _ _ _ rfl (World.ownsRow.alloc HO.out _) ⟨_, 0, none⟩ 1 1 [.int .u32 (m * 128 + c % 128)] rfl rfl (news_new _ _ _) (fun u hu => by simp at hu; subst hu; rfl) kb kb2 (by simp; omega) ?_
                    intro v' w3 hown' hgrow3 hnil3
                    have b3 : Below w.heap.size w w3 := (Bel.al hB _).grown hgrow3 (by simp; omega) (fun q hq => (HO.out.lt q hq).1)
                    clear hnil3 hgrow3
                    have HO' : Hid (w3.ownsRow w.heap.size 52 1 v' (L ++ [m * 128 + c % 128]).length ((L ++ [m * 128 + c % 128]).map (Value.int .u32))) := by
                      show World.ownsRow _ _ _ _ _ _ _
                      rw [List.length_append, List.map_append]
                      exact hown'
                    clear hown'
                    go_wp2_with fail
                    refine ⟨⟨k + 1, 0, false, L ++ [m * 128 + c % 128], by omega, by omega, rfl, rfl, by go_num, by omega, by omega, ?_, ?_, HO'.out, HP.out, b3⟩, by simp [intOf]; omega⟩
                    · have := HL.out; simp; omega
                    · have := HL.out; simp; omega
              · rw [if_neg g2] at hp
                have HP : Hid (pr ((sL s).drop (k + 1)) L (m * 128 + bt s k % 128) true = (O, E)) := hp
                have HO : Hid (wr.ownsRow w.heap.size 52 1 (.slice ao L.length cv) L.length (L.map (Value.int .u32))) := hown
                have HL : Hid (2 ≤ L.length ∧ L.length ≤ 16) := ⟨hL2, hL16⟩
                have g2' : decide (bt s k < 128) = false := decide_eq_false g2
                clear hown hp hL2 hL16 HW
                generalize bt s k = c at *
                rcases g0' with rfl | ⟨rfl, g0'⟩
                all_goals
                  go_wp2_with fail
                  exact ⟨⟨k + 1, m * 128 + c % 128, true, L, by omega, by omega, by go_num, rfl, by go_num, by omega, by omega, HL.out.1, HL.out.2, HO.out, HP.out, hB⟩, by simp [intOf]; omega⟩
        · obtain rfl : k = s.size := by omega
          rw [List.drop_eq_nil_of_le (by rw [sL_len]; exact Nat.le_refl _), pr] at hp
          cases bb with
          | true =>
            simp at hp
            obtain ⟨rfl, rfl⟩ := hp
            clear hown HW
            go_wp2_with fail
            exact bodyPost_ret (v := .tuple #[.slice none 0 0, .int .i64 11]) (by simp [results, Tryz.results9, go_sem]) rfl ⟨⟨_, rfl, by first | exact .inl ⟨rfl, rfl⟩ | (rw [if_neg (by decide)]; exact .inl ⟨rfl, rfl⟩), fun a k c h => by cases h⟩, hB⟩
          | false =>
            simp at hp
            obtain ⟨rfl, rfl⟩ := hp
            clear hown
            go_wp2_with fail
            exact bodyPost_ret (v := .tuple #[.slice ao L.length cv, .int .i64 0]) (by simp [results, Tryz.results9, go_sem]) rfl ⟨⟨_, rfl, by first | exact HW.out.1 | (rw [if_pos rfl]; exact HW.out.1), HW.out.2⟩, hB⟩
theorem rtoOid_any (s : ByteArray) (hm : s.size ≤ maxLen) (w : World) : Calls Tryz.prog 9 #[.string s] w fun e w' => (∃ v, e = .returned (.tuple #[v, .int .i64 (toO (sL s)).2]) ∧ Wds w' v (if (toO (sL s)).2 = 0 then (toO (sL s)).1 else []) ∧ ∀ a k c, v = .slice (some a) k c → c ≤ maxLen) ∧ Below w.heap.size w w' := by
  by_cases h0 : s.size = 0
  · have e : s = ⟨#[]⟩ := by
      apply ba_ext
      have := len_list s
      rw [h0] at this
      rw [List.eq_nil_of_length_eq_zero this]
    subst e
    refine (rto_s w).mono ?_
    rintro e w' ⟨rfl, hb⟩
    exact ⟨⟨_, rfl, .inl ⟨rfl, rfl⟩, fun a k c h => by cases h⟩, hb⟩
  have hs : 0 < s.size := by omega
  have ec : sL s = bt s 0 :: (sL s).drop 1 := by
    have := sL_drop s 0 hs
    simpa using this
  by_cases h1 : 128 ≤ bt s 0
  · have e : toO (sL s) = ([], 10) := by unfold toO; rw [ec, if_neg (by simp), if_pos (by simpa using h1)]
    rw [e]
    refine (rto_h s hs h1 w).mono ?_
    rintro e w' ⟨rfl, hb⟩
    exact ⟨⟨_, rfl, .inl ⟨rfl, rfl⟩, fun a k c h => by cases h⟩, hb⟩
  have e : toO (sL s) = pr ((sL s).drop 1) [o1 (bt s 0), bt s 0 - 40 * o1 (bt s 0)] 0 false := by
    unfold toO; rw [ec, if_neg (by simp), if_neg (by simpa using h1)]; rfl
  exact rto_any s hs hm (by omega) _ _ (by show _ = _; rw [← e]) w
end Go.Proofs.YtajdfjpcobaioaaGreatDoor
