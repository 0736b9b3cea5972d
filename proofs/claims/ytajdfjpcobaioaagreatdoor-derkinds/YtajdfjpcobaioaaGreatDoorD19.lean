/- Rows of numbers, read. -/
import Derived.Test.YtajdfjpcobaioaaGreatDoorD18
import Derived.Test.YtajdfjpcobaioaaGreatDoorD13
set_option linter.all false
set_option maxRecDepth 100000
namespace Go.Proofs.YtajdfjpcobaioaaGreatDoor
open Go.RowKit Go.Sort
theorem Tryz.info52 : (Tryz.prog.info? 52).map (fun i => (i.zero, i.size, i.bytes)) = some (some (.int .u32 0), 1, 4) := by kernel_rfl
theorem ownF {W : World} {b n e s : Nat} {v : Value} {xs : List Value} (h : W.ownsRow b e s v n xs) : ∃ ao c, v = .slice ao n c := by
  rcases h.2 with ⟨h, h0⟩ | ⟨g, c, _, h, _⟩
  · exact ⟨none, 0, by rw [h, h0]⟩
  · exact ⟨_, c, h⟩
theorem ownS {W : World} {b n e : Nat} {v : Value} {ns : List Int} (hn : n ≠ 0) (hl : ns.length = n) (h : W.ownsRow b e 1 v n (ns.map (Value.int .u32))) : Wds W v ns ∧ ∀ a k c, v = .slice (some a) k c → c ≤ maxLen := by
  rcases h.2 with ⟨_, h⟩ | ⟨g, c, cur, hv, _, hg, hc, hm, _⟩
  · exact absurd h hn
  · refine ⟨.inr ⟨⟨g, 0, none⟩, c, by rw [hv, hl], by rw [hl]; exact hc, fun i x hx => ?_⟩, fun a k c' h2 => by rw [hv] at h2; cases h2; exact hm⟩
    have := World.ownsRow.cells h (by rw [hv]; rfl) i (.int .u32 x) (by rw [List.getElem?_map, hx]; rfl)
    exact this
theorem to_s (w : World) : Calls Tryz.prog 8 #[.string ⟨#[]⟩] w fun e w' => e = .returned (.tuple #[.slice none 0 0, .int .i64 11]) ∧ Below w.heap.size w w' := by
  go_enter Tryz.func8, Tryz.ntmps8
  go_wp2_with fail
  exact bodyPost_ret (v := .tuple #[.slice none 0 0, .int .i64 11]) (by simp [results, Tryz.results8, go_sem]) rfl ⟨rfl, by go_grown⟩
theorem to_h (s : ByteArray) (hs : 0 < s.size) (h : 128 ≤ bt s 0) (w : World) : Calls Tryz.prog 8 #[.string s] w fun e w' => e = .returned (.tuple #[.slice none 0 0, .int .i64 10]) ∧ Below w.heap.size w w' := by
  have I := idx0 s hs
  have b0 := bt_bd s 0
  have em := emp_no s hs
  generalize bt s 0 = x at *
  go_enter Tryz.func8, Tryz.ntmps8
  go_wp2_with fail
  exact bodyPost_ret (v := .tuple #[.slice none 0 0, .int .i64 10]) (by simp [results, Tryz.results8, go_sem]) rfl ⟨rfl, by go_grown⟩
theorem cut1' (s : ByteArray) (hs : 0 < s.size) (hm : s.size ≤ maxLen) (W : World) : (Instr.slice 9 (.string s) (some (.int .i64 1)) none none).run Tryz.prog W = .ok (.string (s.extract 1 s.size)) W := cut1 s hs hm W
def szOf : Value → Nat
  | .string s => s.size
  | _ => 0
def o1 (c : Int) : Int := if c / 40 < 2 then c / 40 else 2
set_option maxHeartbeats 4000000 in
theorem to_any (s : ByteArray) (hs : 0 < s.size) (hm : s.size ≤ maxLen) (h : bt s 0 < 128) (O : List Int) (E : Int) (hO : Hid (pr (sL (s.extract 1 s.size)) [o1 (bt s 0), bt s 0 - 40 * o1 (bt s 0)] 0 false = (O, E)))
    (CR : Hid (∀ (S : ByteArray), 0 < S.size → S.size ≤ maxLen → ∀ W, Calls Tryz.prog 25 #[.string S] W fun e w' => e = .returned (if bt S 0 = 128 then .tuple #[.int .u32 0, .string ⟨#[]⟩, .int .i64 10] else .tuple #[.int .u32 (rsF (sL S) 0).1, .string (mkS (rsF (sL S) 0).2.1), .int .i64 (rsF (sL S) 0).2.2]) ∧ Below W.heap.size W w')) (w : World) :
    Calls Tryz.prog 8 #[.string s] w fun e w' => (∃ v, e = .returned (.tuple #[v, .int .i64 E]) ∧ Wds w' v (if E = 0 then O else []) ∧ ∀ a k c, v = .slice (some a) k c → c ≤ maxLen) ∧ Below w.heap.size w w' := by
  obtain ⟨i0, hi, hz0, hz1, hz2⟩ := info_parts Tryz.info52
  have I := idx0 s hs
  have b0 := bt_bd s 0
  have em := emp_no s hs
  have ct := cut1' s hs hm
  have zS : (s.extract 1 s.size).size ≤ maxLen := by rw [ext_sz s 1 s.size (Nat.le_refl _)]; omega
  generalize s.extract 1 s.size = T at *
  generalize bt s 0 = x at *
  by_cases g : x / 40 < 2
  · have e1 : o1 x = x / 40 := by unfold o1; rw [if_pos g]
    rw [e1] at hO
    clear e1
    have q0 : 0 ≤ x / 40 := by omega
    have q1 : (x - 40 * (x / 40)) % 4294967296 = x - 40 * (x / 40) := by omega
    have own0 : (w.alloc (.cells #[.int .u32 (x / 40), .int .u32 (x - 40 * (x / 40))] 52)).ownsRow w.heap.size 52 1 (.slice (some ⟨w.heap.size, 0, none⟩) 2 2) 2 ([(x / 40), (x - 40 * (x / 40))].map (Value.int .u32)) :=
      ⟨rfl, .inr ⟨w.heap.size, 2, #[.int .u32 (x / 40), .int .u32 (x - 40 * (x / 40))], rfl, Nat.le_refl _, Array.getElem?_push_size, by omega, by unfold maxLen; omega, rfl, rfl⟩⟩
    go_enter Tryz.func8, Tryz.ntmps8
    go_wp2_with fail
    go_loopw [6, 7] (fun v r wr => ∃ (L : List Int) (U : ByteArray), r = .string U ∧ U.size ≤ maxLen ∧ 2 ≤ L.length ∧ L.length ≤ 16 ∧ wr.ownsRow w.heap.size 52 1 v L.length (L.map (Value.int .u32)) ∧ pr (sL U) L 0 false = (O, E) ∧ Below w.heap.size w wr) (fun _ r _ => szOf r)
    case atStart => exact ⟨[(x / 40), (x - 40 * (x / 40))], T, rfl, zS, by simp, by simp, own0, hO.out, by go_grown⟩
    case round =>
      clear own0 hO I ct em
      obtain ⟨L, U, rfl, hU, hL2, hL16, hown, hp, hB⟩ := hrel
      by_cases hu : U.size = 0
      · have eU : U = ⟨#[]⟩ := by
          apply ba_ext
          have := len_list U
          rw [hu] at this
          rw [List.eq_nil_of_length_eq_zero this]
        subst eU
        have e2 : pr (sL ⟨#[]⟩) L 0 false = (L, 0) := rfl
        rw [e2] at hp
        simp only [Prod.mk.injEq] at hp
        obtain ⟨rfl, rfl⟩ := hp
        have HW : Hid _ := ownS (by omega) rfl hown
        clear hown
        go_wp2_with fail
        exact bodyPost_ret (v := .tuple #[u6, .int .i64 0]) (by simp [results, Tryz.results8, go_sem]) rfl ⟨⟨u6, rfl, by first | exact HW.out.1 | (rw [if_pos rfl]; exact HW.out.1), HW.out.2⟩, hB⟩
      · have em := emp_no U (by omega)
        have C := CR.out U (by omega) hU
        have ec : sL U = bt U 0 :: (sL U).drop 1 := by
          have := sL_drop U 0 (by omega)
          simpa using this
        by_cases g0 : bt U 0 = 128
        · have C' : ∀ W, Calls Tryz.prog 25 #[.string U] W fun e w' => e = .returned (.tuple #[.int .u32 0, .string ⟨#[]⟩, .int .i64 10]) ∧ Below W.heap.size W w' := fun W => by have := C W; rw [if_pos g0] at this; exact this
          have hE : O = [] ∧ E = 10 := by
            rw [ec, pr, if_pos ⟨rfl, g0⟩] at hp
            simp only [Prod.mk.injEq] at hp
            exact ⟨hp.1.symm, hp.2.symm⟩
          obtain ⟨rfl, rfl⟩ := hE
          obtain ⟨ao, cv, hv⟩ := ownF hown
          subst hv
          clear C hp ec hown CR
          go_wp2_with (go_at_call 25; refine (C' _).mono ?_; rintro e w1 ⟨rfl, hb⟩)
          exact bodyPost_ret (v := .tuple #[.slice none 0 0, .int .i64 10]) (by simp [results, Tryz.results8, go_sem]) rfl ⟨⟨_, rfl, by first | exact .inl ⟨rfl, rfl⟩ | (rw [if_neg (by decide)]; exact .inl ⟨rfl, rfl⟩), fun a k c h => by cases h⟩, Bel.call hB hb⟩
        · have hp' := hp
          rw [ec, pr_start _ _ _ g0, ← ec, pr_rs] at hp'
          have rb := rsF_bd (sL U) (sL_bys U) 0 (by omega)
          have C' : ∀ W, Calls Tryz.prog 25 #[.string U] W fun e w' => e = .returned (.tuple #[.int .u32 (rsF (sL U) 0).1, .string (mkS (rsF (sL U) 0).2.1), .int .i64 (rsF (sL U) 0).2.2]) ∧ Below W.heap.size W w' := fun W => by have := C W; rw [if_neg g0] at this; exact this
          clear C hp
          obtain ⟨ao, cv, hv⟩ := ownF hown
          subst hv
          have lU := sL_len U
          generalize hN : (rsF (sL U) 0).1 = n at *
          generalize hR : (rsF (sL U) 0).2.1 = R at *
          generalize hX : (rsF (sL U) 0).2.2 = ee at *
          clear hN hR hX ec
          by_cases g1 : ee = 0
          · subst g1
            have hlen := rb.2.2.2 rfl
            have rbR := rb.2.2.1
            have n0 := rb.1
            have n1 := rb.2.1
            clear rb
            rw [if_neg (by simp)] at hp'
            by_cases g2 : L.length = 16
            · rw [if_pos g2] at hp'
              simp only [Prod.mk.injEq] at hp'
              obtain ⟨rfl, rfl⟩ := hp'
              have g2' : (L.length : Int) = 16 := by omega
              generalize L.length = ln at *
              subst g2
              clear hown CR
              go_wp2_with (go_at_call 25; refine (C' _).mono ?_; rintro e w1 ⟨rfl, hb⟩)
              exact bodyPost_ret (v := .tuple #[.slice none 0 0, .int .i64 18]) (by simp [results, Tryz.results8, go_sem]) rfl ⟨⟨_, rfl, by first | exact .inl ⟨rfl, rfl⟩ | (rw [if_neg (by decide)]; exact .inl ⟨rfl, rfl⟩), fun a k c h => by cases h⟩, Bel.call hB hb⟩
            · rw [if_neg g2] at hp'
              have g2' : ((L.length : Int) == 16) = false := by simp; omega
              have HP : Hid (pr (sL (mkS R)) (L ++ [n]) 0 false = (O, E)) := by
                show _ = _
                rw [sL_mkS R rbR]; exact hp'
              have HO : Hid (wr.ownsRow w.heap.size 52 1 (.slice ao L.length cv) L.length (L.map (Value.int .u32))) := hown
              have zR : (mkS R).size < U.size := by rw [mkS_size]; omega
              have HL : Hid (2 ≤ L.length ∧ L.length ≤ 16 ∧ ¬ L.length = 16) := ⟨hL2, hL16, g2⟩
              have l16 : (L.length : Int) ≤ 16 := by omega
              generalize mkS R = RR at *
              have kb : L.length + 1 ≤ maxLen := by unfold maxLen; omega
              have kb2 : (L.length + 1) * 4 ≤ 140737488355328 := by omega
              have hs' := hB.size
              clear hown hp' hlen rbR CR hL2 hL16 g2
              go_wp2_with (first | (go_at_call 25; refine (C' _).mono ?_; rintro e w1 ⟨rfl, hb⟩) | (at_builtin; refine stopAt ?_))
              unfold Stop
              refine wpList_append_own _ rfl _ _ 25 rfl w.heap.size 52 i0 (.int .u32 0) 1 4 Tryz.underlying25 hi hz0 hz1 hz2 rfl (by decide) _ _ _ rfl (World.ownsRow.alloc (own_to HO.out hb) _) ⟨_, 0, none⟩ 1 1 [.int .u32 n] rfl rfl (news_new _ _ _) (fun u hu => by simp at hu; subst hu; rfl) kb kb2 (by have := hb.size; simp; omega) ?_
              intro v' w3 hown' hgrow3 hnil3
              have b3 : Below w.heap.size w w3 := (Bel.al (Bel.call hB hb) _).grown hgrow3 (by have := hb.size; simp; omega) (fun q hq => (HO.out.lt q hq).1)
              clear hnil3 hgrow3
              have HO' : Hid (w3.ownsRow w.heap.size 52 1 v' (L ++ [n]).length ((L ++ [n]).map (Value.int .u32))) := by
                show World.ownsRow _ _ _ _ _ _ _
                rw [List.length_append, List.map_append]
                exact hown'
              clear hown'
              go_wp2_with fail
              refine ⟨⟨L ++ [n], RR, rfl, by omega, ?_, ?_, HO'.out, HP.out, b3⟩, zR⟩
              · have := HL.out; simp; omega
              · have := HL.out; simp; omega
          · rw [if_pos g1] at hp'
            simp only [Prod.mk.injEq] at hp'
            obtain ⟨rfl, rfl⟩ := hp'
            clear hown rb CR
            go_wp2_with (go_at_call 25; refine (C' _).mono ?_; rintro e w1 ⟨rfl, hb⟩)
            exact bodyPost_ret (v := .tuple #[.slice none 0 0, .int .i64 ee]) (by simp [results, Tryz.results8, go_sem]) rfl ⟨⟨_, rfl, by first | exact .inl ⟨rfl, rfl⟩ | (rw [if_neg g1]; exact .inl ⟨rfl, rfl⟩), fun a k c h => by cases h⟩, Bel.call hB hb⟩
  · have e1 : o1 x = 2 := by unfold o1; rw [if_neg g]
    rw [e1, show (40 : Int) * 2 = 80 by decide] at hO
    clear e1
    have q1 : (x - 80) % 4294967296 = x - 80 := by omega
    rcases (show x / 40 = 2 ∨ x / 40 = 3 by omega) with q2 | q2
    · clear g
      have own0 : (w.alloc (.cells #[.int .u32 2, .int .u32 (x - 80)] 52)).ownsRow w.heap.size 52 1 (.slice (some ⟨w.heap.size, 0, none⟩) 2 2) 2 ([2, (x - 80)].map (Value.int .u32)) :=
        ⟨rfl, .inr ⟨w.heap.size, 2, #[.int .u32 2, .int .u32 (x - 80)], rfl, Nat.le_refl _, Array.getElem?_push_size, by omega, by unfold maxLen; omega, rfl, rfl⟩⟩
      go_enter Tryz.func8, Tryz.ntmps8
      go_wp2_with fail
      clear q2
      go_loopw [6, 7] (fun v r wr => ∃ (L : List Int) (U : ByteArray), r = .string U ∧ U.size ≤ maxLen ∧ 2 ≤ L.length ∧ L.length ≤ 16 ∧ wr.ownsRow w.heap.size 52 1 v L.length (L.map (Value.int .u32)) ∧ pr (sL U) L 0 false = (O, E) ∧ Below w.heap.size w wr) (fun _ r _ => szOf r)
      case atStart => exact ⟨[2, (x - 80)], T, rfl, zS, by simp, by simp, own0, hO.out, by go_grown⟩
      case round =>
        clear own0 hO I ct em
        obtain ⟨L, U, rfl, hU, hL2, hL16, hown, hp, hB⟩ := hrel
        by_cases hu : U.size = 0
        · have eU : U = ⟨#[]⟩ := by
            apply ba_ext
            have := len_list U
            rw [hu] at this
            rw [List.eq_nil_of_length_eq_zero this]
          subst eU
          have e2 : pr (sL ⟨#[]⟩) L 0 false = (L, 0) := rfl
          rw [e2] at hp
          simp only [Prod.mk.injEq] at hp
          obtain ⟨rfl, rfl⟩ := hp
          have HW : Hid _ := ownS (by omega) rfl hown
          clear hown
          go_wp2_with fail
          exact bodyPost_ret (v := .tuple #[u6, .int .i64 0]) (by simp [results, Tryz.results8, go_sem]) rfl ⟨⟨u6, rfl, by first | exact HW.out.1 | (rw [if_pos rfl]; exact HW.out.1), HW.out.2⟩, hB⟩
        · have em := emp_no U (by omega)
          have C := CR.out U (by omega) hU
          have ec : sL U = bt U 0 :: (sL U).drop 1 := by
            have := sL_drop U 0 (by omega)
            simpa using this
          by_cases g0 : bt U 0 = 128
          · have C' : ∀ W, Calls Tryz.prog 25 #[.string U] W fun e w' => e = .returned (.tuple #[.int .u32 0, .string ⟨#[]⟩, .int .i64 10]) ∧ Below W.heap.size W w' := fun W => by have := C W; rw [if_pos g0] at this; exact this
            have hE : O = [] ∧ E = 10 := by
              rw [ec, pr, if_pos ⟨rfl, g0⟩] at hp
              simp only [Prod.mk.injEq] at hp
              exact ⟨hp.1.symm, hp.2.symm⟩
            obtain ⟨rfl, rfl⟩ := hE
            obtain ⟨ao, cv, hv⟩ := ownF hown
            subst hv
            clear C hp ec hown CR
            go_wp2_with (go_at_call 25; refine (C' _).mono ?_; rintro e w1 ⟨rfl, hb⟩)
            exact bodyPost_ret (v := .tuple #[.slice none 0 0, .int .i64 10]) (by simp [results, Tryz.results8, go_sem]) rfl ⟨⟨_, rfl, by first | exact .inl ⟨rfl, rfl⟩ | (rw [if_neg (by decide)]; exact .inl ⟨rfl, rfl⟩), fun a k c h => by cases h⟩, Bel.call hB hb⟩
          · have hp' := hp
            rw [ec, pr_start _ _ _ g0, ← ec, pr_rs] at hp'
            have rb := rsF_bd (sL U) (sL_bys U) 0 (by omega)
            have C' : ∀ W, Calls Tryz.prog 25 #[.string U] W fun e w' => e = .returned (.tuple #[.int .u32 (rsF (sL U) 0).1, .string (mkS (rsF (sL U) 0).2.1), .int .i64 (rsF (sL U) 0).2.2]) ∧ Below W.heap.size W w' := fun W => by have := C W; rw [if_neg g0] at this; exact this
            clear C hp
            obtain ⟨ao, cv, hv⟩ := ownF hown
            subst hv
            have lU := sL_len U
            generalize hN : (rsF (sL U) 0).1 = n at *
            generalize hR : (rsF (sL U) 0).2.1 = R at *
            generalize hX : (rsF (sL U) 0).2.2 = ee at *
            clear hN hR hX ec
            by_cases g1 : ee = 0
            · subst g1
              have hlen := rb.2.2.2 rfl
              have rbR := rb.2.2.1
              have n0 := rb.1
              have n1 := rb.2.1
              clear rb
              rw [if_neg (by simp)] at hp'
              by_cases g2 : L.length = 16
              · rw [if_pos g2] at hp'
                simp only [Prod.mk.injEq] at hp'
                obtain ⟨rfl, rfl⟩ := hp'
                have g2' : (L.length : Int) = 16 := by omega
                generalize L.length = ln at *
                subst g2
                clear hown CR
                go_wp2_with (go_at_call 25; refine (C' _).mono ?_; rintro e w1 ⟨rfl, hb⟩)
                exact bodyPost_ret (v := .tuple #[.slice none 0 0, .int .i64 18]) (by simp [results, Tryz.results8, go_sem]) rfl ⟨⟨_, rfl, by first | exact .inl ⟨rfl, rfl⟩ | (rw [if_neg (by decide)]; exact .inl ⟨rfl, rfl⟩), fun a k c h => by cases h⟩, Bel.call hB hb⟩
              · rw [if_neg g2] at hp'
                have g2' : ((L.length : Int) == 16) = false := by simp; omega
                have HP : Hid (pr (sL (mkS R)) (L ++ [n]) 0 false = (O, E)) := by
                  show _ = _
                  rw [sL_mkS R rbR]; exact hp'
                have HO : Hid (wr.ownsRow w.heap.size 52 1 (.slice ao L.length cv) L.length (L.map (Value.int .u32))) := hown
                have zR : (mkS R).size < U.size := by rw [mkS_size]; omega
                have HL : Hid (2 ≤ L.length ∧ L.length ≤ 16 ∧ ¬ L.length = 16) := ⟨hL2, hL16, g2⟩
                have l16 : (L.length : Int) ≤ 16 := by omega
                generalize mkS R = RR at *
                have kb : L.length + 1 ≤ maxLen := by unfold maxLen; omega
                have kb2 : (L.length + 1) * 4 ≤ 140737488355328 := by omega
                have hs' := hB.size
                clear hown hp' hlen rbR CR hL2 hL16 g2
                go_wp2_with (first | (go_at_call 25; refine (C' _).mono ?_; rintro e w1 ⟨rfl, hb⟩) | (at_builtin; refine stopAt ?_))
                unfold Stop
                refine wpList_append_own _ rfl _ _ 25 rfl w.heap.size 52 i0 (.int .u32 0) 1 4 Tryz.underlying25 hi hz0 hz1 hz2 rfl (by decide) _ _ _ rfl (World.ownsRow.alloc (own_to HO.out hb) _) ⟨_, 0, none⟩ 1 1 [.int .u32 n] rfl rfl (news_new _ _ _) (fun u hu => by simp at hu; subst hu; rfl) kb kb2 (by have := hb.size; simp; omega) ?_
                intro v' w3 hown' hgrow3 hnil3
                have b3 : Below w.heap.size w w3 := (Bel.al (Bel.call hB hb) _).grown hgrow3 (by have := hb.size; simp; omega) (fun q hq => (HO.out.lt q hq).1)
                clear hnil3 hgrow3
                have HO' : Hid (w3.ownsRow w.heap.size 52 1 v' (L ++ [n]).length ((L ++ [n]).map (Value.int .u32))) := by
                  show World.ownsRow _ _ _ _ _ _ _
                  rw [List.length_append, List.map_append]
                  exact hown'
                clear hown'
                go_wp2_with fail
                refine ⟨⟨L ++ [n], RR, rfl, by omega, ?_, ?_, HO'.out, HP.out, b3⟩, zR⟩
                · have := HL.out; simp; omega
                · have := HL.out; simp; omega
            · rw [if_pos g1] at hp'
              simp only [Prod.mk.injEq] at hp'
              obtain ⟨rfl, rfl⟩ := hp'
              clear hown rb CR
              go_wp2_with (go_at_call 25; refine (C' _).mono ?_; rintro e w1 ⟨rfl, hb⟩)
              exact bodyPost_ret (v := .tuple #[.slice none 0 0, .int .i64 ee]) (by simp [results, Tryz.results8, go_sem]) rfl ⟨⟨_, rfl, by first | exact .inl ⟨rfl, rfl⟩ | (rw [if_neg g1]; exact .inl ⟨rfl, rfl⟩), fun a k c h => by cases h⟩, Bel.call hB hb⟩
    · clear g
      have own0 : (w.alloc (.cells #[.int .u32 2, .int .u32 (x - 80)] 52)).ownsRow w.heap.size 52 1 (.slice (some ⟨w.heap.size, 0, none⟩) 2 2) 2 ([2, (x - 80)].map (Value.int .u32)) :=
        ⟨rfl, .inr ⟨w.heap.size, 2, #[.int .u32 2, .int .u32 (x - 80)], rfl, Nat.le_refl _, Array.getElem?_push_size, by omega, by unfold maxLen; omega, rfl, rfl⟩⟩
      go_enter Tryz.func8, Tryz.ntmps8
      go_wp2_with fail
      clear q2
      go_loopw [6, 7] (fun v r wr => ∃ (L : List Int) (U : ByteArray), r = .string U ∧ U.size ≤ maxLen ∧ 2 ≤ L.length ∧ L.length ≤ 16 ∧ wr.ownsRow w.heap.size 52 1 v L.length (L.map (Value.int .u32)) ∧ pr (sL U) L 0 false = (O, E) ∧ Below w.heap.size w wr) (fun _ r _ => szOf r)
      case atStart => exact ⟨[2, (x - 80)], T, rfl, zS, by simp, by simp, own0, hO.out, by go_grown⟩
      case round =>
        clear own0 hO I ct em
        obtain ⟨L, U, rfl, hU, hL2, hL16, hown, hp, hB⟩ := hrel
        by_cases hu : U.size = 0
        · have eU : U = ⟨#[]⟩ := by
            apply ba_ext
            have := len_list U
            rw [hu] at this
            rw [List.eq_nil_of_length_eq_zero this]
          subst eU
          have e2 : pr (sL ⟨#[]⟩) L 0 false = (L, 0) := rfl
          rw [e2] at hp
          simp only [Prod.mk.injEq] at hp
          obtain ⟨rfl, rfl⟩ := hp
          have HW : Hid _ := ownS (by omega) rfl hown
          clear hown
          go_wp2_with fail
          exact bodyPost_ret (v := .tuple #[u6, .int .i64 0]) (by simp [results, Tryz.results8, go_sem]) rfl ⟨⟨u6, rfl, by first | exact HW.out.1 | (rw [if_pos rfl]; exact HW.out.1), HW.out.2⟩, hB⟩
        · have em := emp_no U (by omega)
          have C := CR.out U (by omega) hU
          have ec : sL U = bt U 0 :: (sL U).drop 1 := by
            have := sL_drop U 0 (by omega)
            simpa using this
          by_cases g0 : bt U 0 = 128
          · have C' : ∀ W, Calls Tryz.prog 25 #[.string U] W fun e w' => e = .returned (.tuple #[.int .u32 0, .string ⟨#[]⟩, .int .i64 10]) ∧ Below W.heap.size W w' := fun W => by have := C W; rw [if_pos g0] at this; exact this
            have hE : O = [] ∧ E = 10 := by
              rw [ec, pr, if_pos ⟨rfl, g0⟩] at hp
              simp only [Prod.mk.injEq] at hp
              exact ⟨hp.1.symm, hp.2.symm⟩
            obtain ⟨rfl, rfl⟩ := hE
            obtain ⟨ao, cv, hv⟩ := ownF hown
            subst hv
            clear C hp ec hown CR
            go_wp2_with (go_at_call 25; refine (C' _).mono ?_; rintro e w1 ⟨rfl, hb⟩)
            exact bodyPost_ret (v := .tuple #[.slice none 0 0, .int .i64 10]) (by simp [results, Tryz.results8, go_sem]) rfl ⟨⟨_, rfl, by first | exact .inl ⟨rfl, rfl⟩ | (rw [if_neg (by decide)]; exact .inl ⟨rfl, rfl⟩), fun a k c h => by cases h⟩, Bel.call hB hb⟩
          · have hp' := hp
            rw [ec, pr_start _ _ _ g0, ← ec, pr_rs] at hp'
            have rb := rsF_bd (sL U) (sL_bys U) 0 (by omega)
            have C' : ∀ W, Calls Tryz.prog 25 #[.string U] W fun e w' => e = .returned (.tuple #[.int .u32 (rsF (sL U) 0).1, .string (mkS (rsF (sL U) 0).2.1), .int .i64 (rsF (sL U) 0).2.2]) ∧ Below W.heap.size W w' := fun W => by have := C W; rw [if_neg g0] at this; exact this
            clear C hp
            obtain ⟨ao, cv, hv⟩ := ownF hown
            subst hv
            have lU := sL_len U
            generalize hN : (rsF (sL U) 0).1 = n at *
            generalize hR : (rsF (sL U) 0).2.1 = R at *
            generalize hX : (rsF (sL U) 0).2.2 = ee at *
            clear hN hR hX ec
            by_cases g1 : ee = 0
            · subst g1
              have hlen := rb.2.2.2 rfl
              have rbR := rb.2.2.1
              have n0 := rb.1
              have n1 := rb.2.1
              clear rb
              rw [if_neg (by simp)] at hp'
              by_cases g2 : L.length = 16
              · rw [if_pos g2] at hp'
                simp only [Prod.mk.injEq] at hp'
                obtain ⟨rfl, rfl⟩ := hp'
                have g2' : (L.length : Int) = 16 := by omega
                generalize L.length = ln at *
                subst g2
                clear hown CR
                go_wp2_with (go_at_call 25; refine (C' _).mono ?_; rintro e w1 ⟨rfl, hb⟩)
                exact bodyPost_ret (v := .tuple #[.slice none 0 0, .int .i64 18]) (by simp [results, Tryz.results8, go_sem]) rfl ⟨⟨_, rfl, by first | exact .inl ⟨rfl, rfl⟩ | (rw [if_neg (by decide)]; exact .inl ⟨rfl, rfl⟩), fun a k c h => by cases h⟩, Bel.call hB hb⟩
              · rw [if_neg g2] at hp'
                have g2' : ((L.length : Int) == 16) = false := by simp; omega
                have HP : Hid (pr (sL (mkS R)) (L ++ [n]) 0 false = (O, E)) := by
                  show _ = _
                  rw [sL_mkS R rbR]; exact hp'
                have HO : Hid (wr.ownsRow w.heap.size 52 1 (.slice ao L.length cv) L.length (L.map (Value.int .u32))) := hown
                have zR : (mkS R).size < U.size := by rw [mkS_size]; omega
                have HL : Hid (2 ≤ L.length ∧ L.length ≤ 16 ∧ ¬ L.length = 16) := ⟨hL2, hL16, g2⟩
                have l16 : (L.length : Int) ≤ 16 := by omega
                generalize mkS R = RR at *
                have kb : L.length + 1 ≤ maxLen := by unfold maxLen; omega
                have kb2 : (L.length + 1) * 4 ≤ 140737488355328 := by omega
                have hs' := hB.size
                clear hown hp' hlen rbR CR hL2 hL16 g2
                go_wp2_with (first | (go_at_call 25; refine (C' _).mono ?_; rintro e w1 ⟨rfl, hb⟩) | (at_builtin; refine stopAt ?_))
                unfold Stop
                refine wpList_append_own _ rfl _ _ 25 rfl w.heap.size 52 i0 (.int .u32 0) 1 4 Tryz.underlying25 hi hz0 hz1 hz2 rfl (by decide) _ _ _ rfl (World.ownsRow.alloc (own_to HO.out hb) _) ⟨_, 0, none⟩ 1 1 [.int .u32 n] rfl rfl (news_new _ _ _) (fun u hu => by simp at hu; subst hu; rfl) kb kb2 (by have := hb.size; simp; omega) ?_
                intro v' w3 hown' hgrow3 hnil3
                have b3 : Below w.heap.size w w3 := (Bel.al (Bel.call hB hb) _).grown hgrow3 (by have := hb.size; simp; omega) (fun q hq => (HO.out.lt q hq).1)
                clear hnil3 hgrow3
                have HO' : Hid (w3.ownsRow w.heap.size 52 1 v' (L ++ [n]).length ((L ++ [n]).map (Value.int .u32))) := by
                  show World.ownsRow _ _ _ _ _ _ _
                  rw [List.length_append, List.map_append]
                  exact hown'
                clear hown'
                go_wp2_with fail
                refine ⟨⟨L ++ [n], RR, rfl, by omega, ?_, ?_, HO'.out, HP.out, b3⟩, zR⟩
                · have := HL.out; simp; omega
                · have := HL.out; simp; omega
            · rw [if_pos g1] at hp'
              simp only [Prod.mk.injEq] at hp'
              obtain ⟨rfl, rfl⟩ := hp'
              clear hown rb CR
              go_wp2_with (go_at_call 25; refine (C' _).mono ?_; rintro e w1 ⟨rfl, hb⟩)
              exact bodyPost_ret (v := .tuple #[.slice none 0 0, .int .i64 ee]) (by simp [results, Tryz.results8, go_sem]) rfl ⟨⟨_, rfl, by first | exact .inl ⟨rfl, rfl⟩ | (rw [if_neg g1]; exact .inl ⟨rfl, rfl⟩), fun a k c h => by cases h⟩, Bel.call hB hb⟩
/-- What ToOid tells. -/
def toO (l : List Int) : List Int × Int := if l = [] then ([], 11) else if 128 ≤ l.headD 0 then ([], 10) else pr l.tail [o1 (l.headD 0), l.headD 0 - 40 * o1 (l.headD 0)] 0 false
theorem toOid_any (s : ByteArray) (hm : s.size ≤ maxLen) (w : World) : Calls Tryz.prog 8 #[.string s] w fun e w' => (∃ v, e = .returned (.tuple #[v, .int .i64 (toO (sL s)).2]) ∧ Wds w' v (if (toO (sL s)).2 = 0 then (toO (sL s)).1 else []) ∧ ∀ a k c, v = .slice (some a) k c → c ≤ maxLen) ∧ Below w.heap.size w w' := by
  by_cases h0 : s.size = 0
  · have e : s = ⟨#[]⟩ := by
      apply ba_ext
      have := len_list s
      rw [h0] at this
      rw [List.eq_nil_of_length_eq_zero this]
    subst e
    refine (to_s w).mono ?_
    rintro e w' ⟨rfl, hb⟩
    exact ⟨⟨_, rfl, .inl ⟨rfl, rfl⟩, fun a k c h => by cases h⟩, hb⟩
  have hs : 0 < s.size := by omega
  have ec : sL s = bt s 0 :: (sL s).drop 1 := by
    have := sL_drop s 0 hs
    simpa using this
  by_cases h1 : 128 ≤ bt s 0
  · have e : toO (sL s) = ([], 10) := by unfold toO; rw [ec, if_neg (by simp), if_pos (by simpa using h1)]
    rw [e]
    refine (to_h s hs h1 w).mono ?_
    rintro e w' ⟨rfl, hb⟩
    exact ⟨⟨_, rfl, .inl ⟨rfl, rfl⟩, fun a k c h => by cases h⟩, hb⟩
  have e1 : sL (s.extract 1 s.size) = (sL s).drop 1 := by
    rw [sL_ext']
    apply List.take_of_length_le
    rw [List.length_drop, sL_len]; omega
  have e : toO (sL s) = pr (sL (s.extract 1 s.size)) [o1 (bt s 0), bt s 0 - 40 * o1 (bt s 0)] 0 false := by
    rw [e1]; unfold toO; rw [ec, if_neg (by simp), if_neg (by simpa using h1)]; rfl
  exact to_any s hs hm (by omega) _ _ (by show _ = _; rw [← e]) (fun S hS hSm W => by
    by_cases g : bt S 0 = 128
    · rw [if_pos g]; exact rs_h S hS g W
    · rw [if_neg g]
      refine rs_any S hS hSm g _ _ _ ?_ W
      show _ = _
      rw [sL_mkS _ (rsF_bd (sL S) (sL_bys S) 0 (by omega)).2.2.1]) w
end Go.Proofs.YtajdfjpcobaioaaGreatDoor
