/- Package hand: messages that can be, kind by kind. -/
import Derived.Test.YtjdpeedghpblgaaGreatDoorJ26
set_option linter.all false
set_option maxRecDepth 100000
namespace Go.Proofs.YtjdpeedghpblgaaGreatDoor
open Go.RowKit Go.Sort Go.Shelf
abbrev gL (k : Int) (a1 a2 a3 a4 a5 : ByteArray) (cv : Value) (q0 q1 q2 q3 q4 q5 q6 q7 : Int) (am : ByteArray) : List Value := [.int .i64 k, .string a1, .string a2, .string a3, .string a4, .string a5, cv, .int .u64 q0, .int .u64 q1, .int .u64 q2, .int .u64 q3, .int .u64 q4, .int .u64 q5, .int .u64 q6, .int .u64 q7, .string am]
theorem gL_is (k : Int) (a1 a2 a3 a4 a5 : ByteArray) (cv : Value) (cs : List ByteArray) (am : ByteArray) : gL k a1 a2 a3 a4 a5 cv 0 0 0 0 0 0 0 0 am = (⟨k, a1, a2, a3, a4, a5, cs, 0, 0, am⟩ : Mg).l cv := by unfold gL Mg.l; simp only [lim_0]
theorem gL_is' (k : Int) (a1 a2 a3 a4 a5 : ByteArray) (cv : Value) (cs : List ByteArray) (x y : Int) (am : ByteArray) : gL k a1 a2 a3 a4 a5 cv (lim x 0) (lim x 1) (lim x 2) (lim x 3) (lim y 0) (lim y 1) (lim y 2) (lim y 3) am = (⟨k, a1, a2, a3, a4, a5, cs, x, y, am⟩ : Mg).l cv := rfl
set_option maxHeartbeats 4000000 in
theorem fCl (m : Mg) (hk : m.k = 1) (fits : m.ok) (y1 : m.cs.length ≤ 9223372036854775807) (y2 : ∀ t ∈ m.cs, t.size ≤ 9223372036854775807) (y3 : m.nm.size ≤ 9223372036854775807) (u : Value) (w : World) (hu : Txs w u m.cs) :
    Calls Tryz.prog 34 #[m.v u] w fun e w' => e = .returned (.bool (ftB m)) ∧ Below w.heap.size w w' := by
  obtain ⟨a0, c, rfl, _⟩ := hu.form
  have eo : onM m = ⟨1, m.rn, m.ss, m.sh, m.nm, m.al, [], 0, 0, nS⟩ := by unfold onM; simp [hk]
  have HF : Hid (ftB m = (smB m (onM m) && ((decide (m.rn.size = 32)) && ((decide (m.ss.size ≤ 32)) && ((decide (m.sh.size = 32)) && ((hoB m.nm) && (decide (m.al.size ≠ 0 ∧ m.al.size ≤ 32)))))))) := by
    show _ = _
    have k1 : kdB m.k = true := by rw [hk]; rfl
    have k2 : knB m = ((decide (m.rn.size = 32)) && ((decide (m.ss.size ≤ 32)) && ((decide (m.sh.size = 32)) && ((hoB m.nm) && (decide (m.al.size ≠ 0 ∧ m.al.size ≤ 32)))))) := by
      unfold knB
      rw [if_pos hk]
      all_goals (rw [Bool.eq_iff_iff]; simp only [Bool.and_eq_true, decide_eq_true_eq, ceB]; try (constructor <;> (intro h; simp_all)))
    unfold ftB
    rw [k1, k2, Bool.true_and]
  have CS := fun W (hB : Below w.heap.size w W) => hSame_any m (onM m) fits (by rw [eo]; exact ⟨Int.le_refl _, by show (0 : Int) < top256; decide, Int.le_refl _, by show (0 : Int) < top256; decide⟩) (.slice a0 m.cs.length c) (nC) y1 W (hu.to hB) (by rw [eo]; exact Txs.nil _)
  have EV : (onM m).v (nC) = .agg (gL 1 m.rn m.ss m.sh m.nm m.al (nC) 0 0 0 0 0 0 0 0 nS).toArray := by rw [eo]; rw [gL_is _ _ _ _ _ _ _ [] _]; rfl
  rw [EV] at CS
  have hC : Cells (gL 1 m.rn m.ss m.sh m.nm m.al (nC) 0 0 0 0 0 0 0 0 nS) 16 ((onM m).c (nC)) := by rw [eo]; rw [gL_is _ _ _ _ _ _ _ [] _]; exact Mg.cells _ _ rfl
  clear EV eo
  have hL := m.cells (.slice a0 m.cs.length c) rfl
  rw [m.v_l] at *
  have HU : Hid (∀ W, Below w.heap.size w W → Txs W (.slice a0 m.cs.length c) m.cs) := fun W hB => hu.to hB
  have F0 : m.c (.slice a0 m.cs.length c) 0 = .int .i64 1 := by show Value.int .i64 m.k = _; rw [hk]
  have F1 : m.c (.slice a0 m.cs.length c) 1 = .string m.rn := by rfl
  have F2 : m.c (.slice a0 m.cs.length c) 2 = .string m.ss := by rfl
  have F3 : m.c (.slice a0 m.cs.length c) 3 = .string m.sh := by rfl
  have F4 : m.c (.slice a0 m.cs.length c) 4 = .string m.nm := by rfl
  have F5 : m.c (.slice a0 m.cs.length c) 5 = .string m.al := by rfl
  generalize m.l (.slice a0 m.cs.length c) = L at *
  have A1 := hL.new w 29 w.heap.size rfl
  have hB1 : Below w.heap.size w (w.alloc (.cells L.toArray 29)) := by go_grown
  go_enter Tryz.func34, Tryz.ntmps34
  go_upto_region 1 with (fail)
  generalize w.alloc (.cells L.toArray 29) = W1 at *
  have l0 := A1.cv 0 (by omega) _ F0
  have l1 := A1.cv 1 (by omega) _ F1
  have l2 := A1.cv 2 (by omega) _ F2
  have l3 := A1.cv 3 (by omega) _ F3
  have l4 := A1.cv 4 (by omega) _ F4
  have l5 := A1.cv 5 (by omega) _ F5
  have HA1 : Hid _ := A1
  clear A1
  have A3 := newZ W1 W1.heap.size rfl
  have HA : Hid _ := A3
  clear A3
  go_upto_region 2 with (refine hC.wst tM HA.out (by rfl) (.tmp 3) (.tmp 16) (by rfl) (by rfl) (by rfl) ?_)
  have A3 := hC.set HA.out
  have bb := below_setCells (Below.alloc (Below.refl W1.heap.size W1) (Nat.le_refl _) (.cells z16 29)) (b := W1.heap.size) (Nat.le_refl _) (gL 1 m.rn m.ss m.sh m.nm m.al (nC) 0 0 0 0 0 0 0 0 nS) 0
  have A1 := Arr.to' (n := 15) HA1.out bb
  replace hB1 := Bel.call hB1 bb
  clear HA HA1 bb l0 l1 l2 l3 l4 l5
  generalize (W1.alloc (.cells z16 29)).setCells W1.heap.size 0 (gL 1 m.rn m.ss m.sh m.nm m.al (nC) 0 0 0 0 0 0 0 0 nS) = W2 at *
  generalize W1.heap.size = b3 at *
  generalize gL 1 m.rn m.ss m.sh m.nm m.al (nC) 0 0 0 0 0 0 0 0 nS = LL at *
  go_wp2_with (first | (refine hL.wld tM A1 0 (by omega) (fun j _ => by rw [Nat.zero_add]) (by rfl) (.tmp 1) (by rfl) (by rfl) ?_) | (refine hC.wld tM A3 0 (by omega) (fun j _ => by rw [Nat.zero_add]) (by rfl) (.tmp 3) (by rfl) (by rfl) ?_) | (go_at_call 15; refine (CS _ hB1).mono ?_; refine stopAt ?_))
  unfold Stop
  rintro e W3 ⟨rfl, hb⟩
  have A4 := Arr.to' (n := 15) A1 hb
  replace hB1 := Bel.call hB1 hb
  clear hb A1 A3 CS hC
  cases hs : smB m (onM m) with
  | false =>
    have HX : Hid (ftB m = false) := by show _ = _; rw [HF.out, hs]; rfl
    clear hs A4
    go_wp2
    go_ret
    exact ⟨by rw [HX.out]; rfl, hB1⟩
  | true =>
    have HSm : Hid _ := hs
    clear hs
    have l10 := A4.cv 1 (by omega) _ F1
    have l21 := A4.cv 2 (by omega) _ F2
    have l32 := A4.cv 3 (by omega) _ F3
    have l43 := A4.cv 4 (by omega) _ F4
    have l54 := A4.cv 5 (by omega) _ F5
    clear A4
    have C0 := fun b h W => isWord_b m.rn b h W
    cases h0 : decide (m.rn.size = 32) with
    | false =>
      have HX : Hid (ftB m = false) := by show _ = _; rw [HF.out, HSm.out, h0]; rfl
      go_wp2_with (first | (go_at_call 69; refine (C0 _ h0 _).mono ?_; intro ee ww hh; rw [hh.1, hh.2]; clear hh ee ww))
      go_ret
      exact ⟨by rw [HX.out]; rfl, hB1⟩
    | true =>
      have H0 : Hid _ := h0
      clear h0
      have C1 := fun b h W => isSession_b m.ss b h W
      cases h1 : decide (m.ss.size ≤ 32) with
      | false =>
        have HX : Hid (ftB m = false) := by show _ = _; rw [HF.out, HSm.out, H0.out, h1]; rfl
        go_wp2_with (first | (go_at_call 70; refine (C1 _ h1 _).mono ?_; intro ee ww hh; rw [hh.1, hh.2]; clear hh ee ww) | (go_at_call 69; refine (C0 _ H0.out _).mono ?_; intro ee ww hh; rw [hh.1, hh.2]; clear hh ee ww))
        go_ret
        exact ⟨by rw [HX.out]; rfl, hB1⟩
      | true =>
        have H1 : Hid _ := h1
        clear h1
        have C2 := fun b h W => isWord_b m.sh b h W
        cases h2 : decide (m.sh.size = 32) with
        | false =>
          have HX : Hid (ftB m = false) := by show _ = _; rw [HF.out, HSm.out, H0.out, H1.out, h2]; rfl
          go_wp2_with (first | (go_at_call 69; refine (C2 _ h2 _).mono ?_; intro ee ww hh; rw [hh.1, hh.2]; clear hh ee ww) | (go_at_call 70; refine (C1 _ H1.out _).mono ?_; intro ee ww hh; rw [hh.1, hh.2]; clear hh ee ww) | (go_at_call 69; refine (C0 _ H0.out _).mono ?_; intro ee ww hh; rw [hh.1, hh.2]; clear hh ee ww))
          go_ret
          exact ⟨by rw [HX.out]; rfl, hB1⟩
        | true =>
          have H2 : Hid _ := h2
          clear h2
          have C3 := fun b h W => isName_b m.nm (by unfold maxLen; omega) b h W
          cases h3 : hoB m.nm with
          | false =>
            have HX : Hid (ftB m = false) := by show _ = _; rw [HF.out, HSm.out, H0.out, H1.out, H2.out, h3]; rfl
            go_wp2_with (first | (go_at_call 71; refine (C3 _ h3 _).mono ?_; intro ee ww hh; rw [hh.1, hh.2]; clear hh ee ww) | (go_at_call 69; refine (C2 _ H2.out _).mono ?_; intro ee ww hh; rw [hh.1, hh.2]; clear hh ee ww) | (go_at_call 70; refine (C1 _ H1.out _).mono ?_; intro ee ww hh; rw [hh.1, hh.2]; clear hh ee ww) | (go_at_call 69; refine (C0 _ H0.out _).mono ?_; intro ee ww hh; rw [hh.1, hh.2]; clear hh ee ww))
            go_ret
            exact ⟨by rw [HX.out]; rfl, hB1⟩
          | true =>
            have H3 : Hid _ := h3
            clear h3
            have C4 := fun b h W => isAlpn_b m.al b h W
            cases h4 : decide (m.al.size ≠ 0 ∧ m.al.size ≤ 32) with
            | false =>
              have HX : Hid (ftB m = false) := by show _ = _; rw [HF.out, HSm.out, H0.out, H1.out, H2.out, H3.out, h4]; rfl
              go_wp2_with (first | (go_at_call 72; refine (C4 _ h4 _).mono ?_; intro ee ww hh; rw [hh.1, hh.2]; clear hh ee ww) | (go_at_call 71; refine (C3 _ H3.out _).mono ?_; intro ee ww hh; rw [hh.1, hh.2]; clear hh ee ww) | (go_at_call 69; refine (C2 _ H2.out _).mono ?_; intro ee ww hh; rw [hh.1, hh.2]; clear hh ee ww) | (go_at_call 70; refine (C1 _ H1.out _).mono ?_; intro ee ww hh; rw [hh.1, hh.2]; clear hh ee ww) | (go_at_call 69; refine (C0 _ H0.out _).mono ?_; intro ee ww hh; rw [hh.1, hh.2]; clear hh ee ww))
              go_ret
              exact ⟨by rw [HX.out]; rfl, hB1⟩
            | true =>
              have H4 : Hid _ := h4
              clear h4
              have HX : Hid (ftB m = true) := by show _ = _; rw [HF.out, HSm.out, H0.out, H1.out, H2.out, H3.out, H4.out]; rfl
              go_wp2_with (first | (go_at_call 72; refine (C4 _ H4.out _).mono ?_; intro ee ww hh; rw [hh.1, hh.2]; clear hh ee ww) | (go_at_call 71; refine (C3 _ H3.out _).mono ?_; intro ee ww hh; rw [hh.1, hh.2]; clear hh ee ww) | (go_at_call 69; refine (C2 _ H2.out _).mono ?_; intro ee ww hh; rw [hh.1, hh.2]; clear hh ee ww) | (go_at_call 70; refine (C1 _ H1.out _).mono ?_; intro ee ww hh; rw [hh.1, hh.2]; clear hh ee ww) | (go_at_call 69; refine (C0 _ H0.out _).mono ?_; intro ee ww hh; rw [hh.1, hh.2]; clear hh ee ww))
              go_ret
              exact ⟨by rw [HX.out]; rfl, hB1⟩
set_option maxHeartbeats 4000000 in
theorem fSv (m : Mg) (hk : m.k = 2) (fits : m.ok) (y1 : m.cs.length ≤ 9223372036854775807) (y2 : ∀ t ∈ m.cs, t.size ≤ 9223372036854775807) (y3 : m.nm.size ≤ 9223372036854775807) (u : Value) (w : World) (hu : Txs w u m.cs) :
    Calls Tryz.prog 37 #[m.v u] w fun e w' => e = .returned (.bool (ftB m)) ∧ Below w.heap.size w w' := by
  obtain ⟨a0, c, rfl, _⟩ := hu.form
  have eo : onM m = ⟨2, m.rn, m.ss, m.sh, nS, nS, [], 0, 0, nS⟩ := by unfold onM; simp [hk]
  have HF : Hid (ftB m = (smB m (onM m) && ((decide (m.rn.size = 32)) && ((decide (m.ss.size ≤ 32)) && (decide (m.sh.size = 32)))))) := by
    show _ = _
    have k1 : kdB m.k = true := by rw [hk]; rfl
    have k2 : knB m = ((decide (m.rn.size = 32)) && ((decide (m.ss.size ≤ 32)) && (decide (m.sh.size = 32)))) := by
      unfold knB
      rw [if_neg (by rw [hk]; decide), if_pos hk]
      all_goals (rw [Bool.eq_iff_iff]; simp only [Bool.and_eq_true, decide_eq_true_eq, ceB]; try (constructor <;> (intro h; simp_all)))
    unfold ftB
    rw [k1, k2, Bool.true_and]
  have CS := fun W (hB : Below w.heap.size w W) => hSame_any m (onM m) fits (by rw [eo]; exact ⟨Int.le_refl _, by show (0 : Int) < top256; decide, Int.le_refl _, by show (0 : Int) < top256; decide⟩) (.slice a0 m.cs.length c) (nC) y1 W (hu.to hB) (by rw [eo]; exact Txs.nil _)
  have EV : (onM m).v (nC) = .agg (gL 2 m.rn m.ss m.sh nS nS (nC) 0 0 0 0 0 0 0 0 nS).toArray := by rw [eo]; rw [gL_is _ _ _ _ _ _ _ [] _]; rfl
  rw [EV] at CS
  have hC : Cells (gL 2 m.rn m.ss m.sh nS nS (nC) 0 0 0 0 0 0 0 0 nS) 16 ((onM m).c (nC)) := by rw [eo]; rw [gL_is _ _ _ _ _ _ _ [] _]; exact Mg.cells _ _ rfl
  clear EV eo
  have hL := m.cells (.slice a0 m.cs.length c) rfl
  rw [m.v_l] at *
  have HU : Hid (∀ W, Below w.heap.size w W → Txs W (.slice a0 m.cs.length c) m.cs) := fun W hB => hu.to hB
  have F0 : m.c (.slice a0 m.cs.length c) 0 = .int .i64 2 := by show Value.int .i64 m.k = _; rw [hk]
  have F1 : m.c (.slice a0 m.cs.length c) 1 = .string m.rn := by rfl
  have F2 : m.c (.slice a0 m.cs.length c) 2 = .string m.ss := by rfl
  have F3 : m.c (.slice a0 m.cs.length c) 3 = .string m.sh := by rfl
  generalize m.l (.slice a0 m.cs.length c) = L at *
  have A1 := hL.new w 29 w.heap.size rfl
  have hB1 : Below w.heap.size w (w.alloc (.cells L.toArray 29)) := by go_grown
  go_enter Tryz.func37, Tryz.ntmps37
  go_upto_region 1 with (fail)
  generalize w.alloc (.cells L.toArray 29) = W1 at *
  have l0 := A1.cv 0 (by omega) _ F0
  have l1 := A1.cv 1 (by omega) _ F1
  have l2 := A1.cv 2 (by omega) _ F2
  have l3 := A1.cv 3 (by omega) _ F3
  have HA1 : Hid _ := A1
  clear A1
  have A3 := newZ W1 W1.heap.size rfl
  have HA : Hid _ := A3
  clear A3
  go_upto_region 2 with (refine hC.wst tM HA.out (by rfl) (.tmp 3) (.tmp 12) (by rfl) (by rfl) (by rfl) ?_)
  have A3 := hC.set HA.out
  have bb := below_setCells (Below.alloc (Below.refl W1.heap.size W1) (Nat.le_refl _) (.cells z16 29)) (b := W1.heap.size) (Nat.le_refl _) (gL 2 m.rn m.ss m.sh nS nS (nC) 0 0 0 0 0 0 0 0 nS) 0
  have A1 := Arr.to' (n := 15) HA1.out bb
  replace hB1 := Bel.call hB1 bb
  clear HA HA1 bb l0 l1 l2 l3
  generalize (W1.alloc (.cells z16 29)).setCells W1.heap.size 0 (gL 2 m.rn m.ss m.sh nS nS (nC) 0 0 0 0 0 0 0 0 nS) = W2 at *
  generalize W1.heap.size = b3 at *
  generalize gL 2 m.rn m.ss m.sh nS nS (nC) 0 0 0 0 0 0 0 0 nS = LL at *
  go_wp2_with (first | (refine hL.wld tM A1 0 (by omega) (fun j _ => by rw [Nat.zero_add]) (by rfl) (.tmp 1) (by rfl) (by rfl) ?_) | (refine hC.wld tM A3 0 (by omega) (fun j _ => by rw [Nat.zero_add]) (by rfl) (.tmp 3) (by rfl) (by rfl) ?_) | (go_at_call 15; refine (CS _ hB1).mono ?_; refine stopAt ?_))
  unfold Stop
  rintro e W3 ⟨rfl, hb⟩
  have A4 := Arr.to' (n := 15) A1 hb
  replace hB1 := Bel.call hB1 hb
  clear hb A1 A3 CS hC
  cases hs : smB m (onM m) with
  | false =>
    have HX : Hid (ftB m = false) := by show _ = _; rw [HF.out, hs]; rfl
    clear hs A4
    go_wp2
    go_ret
    exact ⟨by rw [HX.out]; rfl, hB1⟩
  | true =>
    have HSm : Hid _ := hs
    clear hs
    have l10 := A4.cv 1 (by omega) _ F1
    have l21 := A4.cv 2 (by omega) _ F2
    have l32 := A4.cv 3 (by omega) _ F3
    clear A4
    have C0 := fun b h W => isWord_b m.rn b h W
    cases h0 : decide (m.rn.size = 32) with
    | false =>
      have HX : Hid (ftB m = false) := by show _ = _; rw [HF.out, HSm.out, h0]; rfl
      go_wp2_with (first | (go_at_call 69; refine (C0 _ h0 _).mono ?_; intro ee ww hh; rw [hh.1, hh.2]; clear hh ee ww))
      go_ret
      exact ⟨by rw [HX.out]; rfl, hB1⟩
    | true =>
      have H0 : Hid _ := h0
      clear h0
      have C1 := fun b h W => isSession_b m.ss b h W
      cases h1 : decide (m.ss.size ≤ 32) with
      | false =>
        have HX : Hid (ftB m = false) := by show _ = _; rw [HF.out, HSm.out, H0.out, h1]; rfl
        go_wp2_with (first | (go_at_call 70; refine (C1 _ h1 _).mono ?_; intro ee ww hh; rw [hh.1, hh.2]; clear hh ee ww) | (go_at_call 69; refine (C0 _ H0.out _).mono ?_; intro ee ww hh; rw [hh.1, hh.2]; clear hh ee ww))
        go_ret
        exact ⟨by rw [HX.out]; rfl, hB1⟩
      | true =>
        have H1 : Hid _ := h1
        clear h1
        have C2 := fun b h W => isWord_b m.sh b h W
        cases h2 : decide (m.sh.size = 32) with
        | false =>
          have HX : Hid (ftB m = false) := by show _ = _; rw [HF.out, HSm.out, H0.out, H1.out, h2]; rfl
          go_wp2_with (first | (go_at_call 69; refine (C2 _ h2 _).mono ?_; intro ee ww hh; rw [hh.1, hh.2]; clear hh ee ww) | (go_at_call 70; refine (C1 _ H1.out _).mono ?_; intro ee ww hh; rw [hh.1, hh.2]; clear hh ee ww) | (go_at_call 69; refine (C0 _ H0.out _).mono ?_; intro ee ww hh; rw [hh.1, hh.2]; clear hh ee ww))
          go_ret
          exact ⟨by rw [HX.out]; rfl, hB1⟩
        | true =>
          have H2 : Hid _ := h2
          clear h2
          have HX : Hid (ftB m = true) := by show _ = _; rw [HF.out, HSm.out, H0.out, H1.out, H2.out]; rfl
          go_wp2_with (first | (go_at_call 69; refine (C2 _ H2.out _).mono ?_; intro ee ww hh; rw [hh.1, hh.2]; clear hh ee ww) | (go_at_call 70; refine (C1 _ H1.out _).mono ?_; intro ee ww hh; rw [hh.1, hh.2]; clear hh ee ww) | (go_at_call 69; refine (C0 _ H0.out _).mono ?_; intro ee ww hh; rw [hh.1, hh.2]; clear hh ee ww))
          go_ret
          exact ⟨by rw [HX.out]; rfl, hB1⟩
set_option maxHeartbeats 4000000 in
theorem fEx (m : Mg) (hk : m.k = 8) (fits : m.ok) (y1 : m.cs.length ≤ 9223372036854775807) (y2 : ∀ t ∈ m.cs, t.size ≤ 9223372036854775807) (y3 : m.nm.size ≤ 9223372036854775807) (u : Value) (w : World) (hu : Txs w u m.cs) :
    Calls Tryz.prog 40 #[m.v u] w fun e w' => e = .returned (.bool (ftB m)) ∧ Below w.heap.size w w' := by
  obtain ⟨a0, c, rfl, _⟩ := hu.form
  have eo : onM m = ⟨8, nS, nS, nS, nS, m.al, [], 0, 0, nS⟩ := by unfold onM; simp [hk]
  have HF : Hid (ftB m = (smB m (onM m) && (decide (m.al.size ≠ 0 ∧ m.al.size ≤ 32)))) := by
    show _ = _
    have k1 : kdB m.k = true := by rw [hk]; rfl
    have k2 : knB m = (decide (m.al.size ≠ 0 ∧ m.al.size ≤ 32)) := by
      unfold knB
      rw [if_neg (by rw [hk]; decide), if_neg (by rw [hk]; decide), if_pos hk]
      all_goals (rw [Bool.eq_iff_iff]; simp only [Bool.and_eq_true, decide_eq_true_eq, ceB]; try (constructor <;> (intro h; simp_all)))
    unfold ftB
    rw [k1, k2, Bool.true_and]
  have CS := fun W (hB : Below w.heap.size w W) => hSame_any m (onM m) fits (by rw [eo]; exact ⟨Int.le_refl _, by show (0 : Int) < top256; decide, Int.le_refl _, by show (0 : Int) < top256; decide⟩) (.slice a0 m.cs.length c) (nC) y1 W (hu.to hB) (by rw [eo]; exact Txs.nil _)
  have EV : (onM m).v (nC) = .agg (gL 8 nS nS nS nS m.al (nC) 0 0 0 0 0 0 0 0 nS).toArray := by rw [eo]; rw [gL_is _ _ _ _ _ _ _ [] _]; rfl
  rw [EV] at CS
  have hC : Cells (gL 8 nS nS nS nS m.al (nC) 0 0 0 0 0 0 0 0 nS) 16 ((onM m).c (nC)) := by rw [eo]; rw [gL_is _ _ _ _ _ _ _ [] _]; exact Mg.cells _ _ rfl
  clear EV eo
  have hL := m.cells (.slice a0 m.cs.length c) rfl
  rw [m.v_l] at *
  have HU : Hid (∀ W, Below w.heap.size w W → Txs W (.slice a0 m.cs.length c) m.cs) := fun W hB => hu.to hB
  have F0 : m.c (.slice a0 m.cs.length c) 0 = .int .i64 8 := by show Value.int .i64 m.k = _; rw [hk]
  have F5 : m.c (.slice a0 m.cs.length c) 5 = .string m.al := by rfl
  generalize m.l (.slice a0 m.cs.length c) = L at *
  have A1 := hL.new w 29 w.heap.size rfl
  have hB1 : Below w.heap.size w (w.alloc (.cells L.toArray 29)) := by go_grown
  go_enter Tryz.func40, Tryz.ntmps40
  go_upto_region 1 with (fail)
  generalize w.alloc (.cells L.toArray 29) = W1 at *
  have l0 := A1.cv 0 (by omega) _ F0
  have l5 := A1.cv 5 (by omega) _ F5
  have HA1 : Hid _ := A1
  clear A1
  have A3 := newZ W1 W1.heap.size rfl
  have HA : Hid _ := A3
  clear A3
  go_upto_region 2 with (refine hC.wst tM HA.out (by rfl) (.tmp 3) (.tmp 8) (by rfl) (by rfl) (by rfl) ?_)
  have A3 := hC.set HA.out
  have bb := below_setCells (Below.alloc (Below.refl W1.heap.size W1) (Nat.le_refl _) (.cells z16 29)) (b := W1.heap.size) (Nat.le_refl _) (gL 8 nS nS nS nS m.al (nC) 0 0 0 0 0 0 0 0 nS) 0
  have A1 := Arr.to' (n := 15) HA1.out bb
  replace hB1 := Bel.call hB1 bb
  clear HA HA1 bb l0 l5
  generalize (W1.alloc (.cells z16 29)).setCells W1.heap.size 0 (gL 8 nS nS nS nS m.al (nC) 0 0 0 0 0 0 0 0 nS) = W2 at *
  generalize W1.heap.size = b3 at *
  generalize gL 8 nS nS nS nS m.al (nC) 0 0 0 0 0 0 0 0 nS = LL at *
  go_wp2_with (first | (refine hL.wld tM A1 0 (by omega) (fun j _ => by rw [Nat.zero_add]) (by rfl) (.tmp 1) (by rfl) (by rfl) ?_) | (refine hC.wld tM A3 0 (by omega) (fun j _ => by rw [Nat.zero_add]) (by rfl) (.tmp 3) (by rfl) (by rfl) ?_) | (go_at_call 15; refine (CS _ hB1).mono ?_; refine stopAt ?_))
  unfold Stop
  rintro e W3 ⟨rfl, hb⟩
  have A4 := Arr.to' (n := 15) A1 hb
  replace hB1 := Bel.call hB1 hb
  clear hb A1 A3 CS hC
  cases hs : smB m (onM m) with
  | false =>
    have HX : Hid (ftB m = false) := by show _ = _; rw [HF.out, hs]; rfl
    clear hs A4
    go_wp2
    go_ret
    exact ⟨by rw [HX.out]; rfl, hB1⟩
  | true =>
    have HSm : Hid _ := hs
    clear hs
    have l50 := A4.cv 5 (by omega) _ F5
    clear A4
    have C0 := fun b h W => isAlpn_b m.al b h W
    cases h0 : decide (m.al.size ≠ 0 ∧ m.al.size ≤ 32) with
    | false =>
      have HX : Hid (ftB m = false) := by show _ = _; rw [HF.out, HSm.out, h0]; rfl
      go_wp2_with (first | (go_at_call 72; refine (C0 _ h0 _).mono ?_; intro ee ww hh; rw [hh.1, hh.2]; clear hh ee ww))
      go_ret
      exact ⟨by rw [HX.out]; rfl, hB1⟩
    | true =>
      have H0 : Hid _ := h0
      clear h0
      have HX : Hid (ftB m = true) := by show _ = _; rw [HF.out, HSm.out, H0.out]; rfl
      go_wp2_with (first | (go_at_call 72; refine (C0 _ H0.out _).mono ?_; intro ee ww hh; rw [hh.1, hh.2]; clear hh ee ww))
      go_ret
      exact ⟨by rw [HX.out]; rfl, hB1⟩
set_option maxHeartbeats 4000000 in
theorem fCt (m : Mg) (hk : m.k = 11) (fits : m.ok) (y1 : m.cs.length ≤ 9223372036854775807) (y2 : ∀ t ∈ m.cs, t.size ≤ 9223372036854775807) (y3 : m.nm.size ≤ 9223372036854775807) (u : Value) (w : World) (hu : Txs w u m.cs) :
    Calls Tryz.prog 43 #[m.v u] w fun e w' => e = .returned (.bool (ftB m)) ∧ Below w.heap.size w w' := by
  obtain ⟨a0, c, rfl, _⟩ := hu.form
  have eo : onM m = ⟨11, nS, nS, nS, nS, nS, m.cs, 0, 0, nS⟩ := by unfold onM; simp [hk]
  have HF : Hid (ftB m = (smB m (onM m) && (ceB m.cs))) := by
    show _ = _
    have k1 : kdB m.k = true := by rw [hk]; rfl
    have k2 : knB m = (ceB m.cs) := by
      unfold knB
      rw [if_neg (by rw [hk]; decide), if_neg (by rw [hk]; decide), if_neg (by rw [hk]; decide), if_pos hk]
      all_goals (rw [Bool.eq_iff_iff]; simp only [Bool.and_eq_true, decide_eq_true_eq, ceB]; try (constructor <;> (intro h; simp_all)))
    unfold ftB
    rw [k1, k2, Bool.true_and]
  have CS := fun W (hB : Below w.heap.size w W) => hSame_any m (onM m) fits (by rw [eo]; exact ⟨Int.le_refl _, by show (0 : Int) < top256; decide, Int.le_refl _, by show (0 : Int) < top256; decide⟩) (.slice a0 m.cs.length c) (.slice a0 m.cs.length c) y1 W (hu.to hB) (by rw [eo]; exact hu.to hB)
  have EV : (onM m).v (.slice a0 m.cs.length c) = .agg (gL 11 nS nS nS nS nS (.slice a0 m.cs.length c) 0 0 0 0 0 0 0 0 nS).toArray := by rw [eo]; rw [gL_is _ _ _ _ _ _ _ m.cs _]; rfl
  rw [EV] at CS
  have hC : Cells (gL 11 nS nS nS nS nS (.slice a0 m.cs.length c) 0 0 0 0 0 0 0 0 nS) 16 ((onM m).c (.slice a0 m.cs.length c)) := by rw [eo]; rw [gL_is _ _ _ _ _ _ _ m.cs _]; exact Mg.cells _ _ rfl
  clear EV eo
  have hL := m.cells (.slice a0 m.cs.length c) rfl
  rw [m.v_l] at *
  have HU : Hid (∀ W, Below w.heap.size w W → Txs W (.slice a0 m.cs.length c) m.cs) := fun W hB => hu.to hB
  have F0 : m.c (.slice a0 m.cs.length c) 0 = .int .i64 11 := by show Value.int .i64 m.k = _; rw [hk]
  have F6 : m.c (.slice a0 m.cs.length c) 6 = .slice a0 m.cs.length c := by rfl
  generalize m.l (.slice a0 m.cs.length c) = L at *
  have A1 := hL.new w 29 w.heap.size rfl
  have hB1 : Below w.heap.size w (w.alloc (.cells L.toArray 29)) := by go_grown
  go_enter Tryz.func43, Tryz.ntmps43
  go_upto_region 1 with (fail)
  generalize w.alloc (.cells L.toArray 29) = W1 at *
  have l0 := A1.cv 0 (by omega) _ F0
  have l6 := A1.cv 6 (by omega) _ F6
  have HA1 : Hid _ := A1
  clear A1
  have A3 := newZ W1 W1.heap.size rfl
  have HA : Hid _ := A3
  clear A3
  go_upto_region 2 with (refine hC.wst tM HA.out (by rfl) (.tmp 3) (.tmp 8) (by rfl) (by rfl) (by rfl) ?_)
  have A3 := hC.set HA.out
  have bb := below_setCells (Below.alloc (Below.refl W1.heap.size W1) (Nat.le_refl _) (.cells z16 29)) (b := W1.heap.size) (Nat.le_refl _) (gL 11 nS nS nS nS nS (.slice a0 m.cs.length c) 0 0 0 0 0 0 0 0 nS) 0
  have A1 := Arr.to' (n := 15) HA1.out bb
  replace hB1 := Bel.call hB1 bb
  clear HA HA1 bb l0 l6
  generalize (W1.alloc (.cells z16 29)).setCells W1.heap.size 0 (gL 11 nS nS nS nS nS (.slice a0 m.cs.length c) 0 0 0 0 0 0 0 0 nS) = W2 at *
  generalize W1.heap.size = b3 at *
  generalize gL 11 nS nS nS nS nS (.slice a0 m.cs.length c) 0 0 0 0 0 0 0 0 nS = LL at *
  go_wp2_with (first | (refine hL.wld tM A1 0 (by omega) (fun j _ => by rw [Nat.zero_add]) (by rfl) (.tmp 1) (by rfl) (by rfl) ?_) | (refine hC.wld tM A3 0 (by omega) (fun j _ => by rw [Nat.zero_add]) (by rfl) (.tmp 3) (by rfl) (by rfl) ?_) | (go_at_call 15; refine (CS _ hB1).mono ?_; refine stopAt ?_))
  unfold Stop
  rintro e W3 ⟨rfl, hb⟩
  have A4 := Arr.to' (n := 15) A1 hb
  replace hB1 := Bel.call hB1 hb
  clear hb A1 A3 CS hC
  cases hs : smB m (onM m) with
  | false =>
    have HX : Hid (ftB m = false) := by show _ = _; rw [HF.out, hs]; rfl
    clear hs A4
    go_wp2
    go_ret
    exact ⟨by rw [HX.out]; rfl, hB1⟩
  | true =>
    have HSm : Hid _ := hs
    clear hs
    have l60 := A4.cv 6 (by omega) _ F6
    clear A4
    have C0 := fun b h W => fun hB => areCerts_b (.slice a0 m.cs.length c) m.cs y1 y2 b h W (HU.out W hB)
    cases h0 : ceB m.cs with
    | false =>
      have HX : Hid (ftB m = false) := by show _ = _; rw [HF.out, HSm.out, h0]; rfl
      go_wp2_with (first | (go_at_call 80; refine (C0 _ h0 _ hB1).mono ?_; intro ee ww hh; rw [hh.1, hh.2]; clear hh ee ww))
      go_ret
      exact ⟨by rw [HX.out]; rfl, hB1⟩
    | true =>
      have H0 : Hid _ := h0
      clear h0
      have HX : Hid (ftB m = true) := by show _ = _; rw [HF.out, HSm.out, H0.out]; rfl
      go_wp2_with (first | (go_at_call 80; refine (C0 _ H0.out _ hB1).mono ?_; intro ee ww hh; rw [hh.1, hh.2]; clear hh ee ww))
      go_ret
      exact ⟨by rw [HX.out]; rfl, hB1⟩
set_option maxHeartbeats 4000000 in
theorem fVf (m : Mg) (hk : m.k = 15) (fits : m.ok) (y1 : m.cs.length ≤ 9223372036854775807) (y2 : ∀ t ∈ m.cs, t.size ≤ 9223372036854775807) (y3 : m.nm.size ≤ 9223372036854775807) (u : Value) (w : World) (hu : Txs w u m.cs) :
    Calls Tryz.prog 46 #[m.v u] w fun e w' => e = .returned (.bool (ftB m)) ∧ Below w.heap.size w w' := by
  obtain ⟨a0, c, rfl, _⟩ := hu.form
  have eo : onM m = ⟨15, nS, nS, nS, nS, nS, [], m.x, m.y, nS⟩ := by unfold onM; simp [hk]
  have HF : Hid (ftB m = (smB m (onM m) && true)) := by
    show _ = _
    have k1 : kdB m.k = true := by rw [hk]; rfl
    have k2 : knB m = true := by
      unfold knB
      rw [if_neg (by rw [hk]; decide), if_neg (by rw [hk]; decide), if_neg (by rw [hk]; decide), if_neg (by rw [hk]; decide), if_neg (by rw [hk]; decide)]
      all_goals rfl
    unfold ftB
    rw [k1, k2, Bool.true_and]
  have CS := fun W (hB : Below w.heap.size w W) => hSame_any m (onM m) fits (by rw [eo]; exact fits) (.slice a0 m.cs.length c) (nC) y1 W (hu.to hB) (by rw [eo]; exact Txs.nil _)
  have EV : (onM m).v (nC) = .agg (gL 15 nS nS nS nS nS (nC) (lim m.x 0) (lim m.x 1) (lim m.x 2) (lim m.x 3) (lim m.y 0) (lim m.y 1) (lim m.y 2) (lim m.y 3) nS).toArray := by rw [eo]
  rw [EV] at CS
  have hC : Cells (gL 15 nS nS nS nS nS (nC) (lim m.x 0) (lim m.x 1) (lim m.x 2) (lim m.x 3) (lim m.y 0) (lim m.y 1) (lim m.y 2) (lim m.y 3) nS) 16 ((onM m).c (nC)) := by rw [eo]; rw [gL_is' _ _ _ _ _ _ _ [] _ _ _]; exact Mg.cells _ _ rfl
  clear EV eo
  have hL := m.cells (.slice a0 m.cs.length c) rfl
  rw [m.v_l] at *
  have HU : Hid (∀ W, Below w.heap.size w W → Txs W (.slice a0 m.cs.length c) m.cs) := fun W hB => hu.to hB
  have F0 : m.c (.slice a0 m.cs.length c) 0 = .int .i64 15 := by show Value.int .i64 m.k = _; rw [hk]
  have F7 : m.c (.slice a0 m.cs.length c) 7 = .int .u64 (lim m.x 0) := by rfl
  have F8 : m.c (.slice a0 m.cs.length c) 8 = .int .u64 (lim m.x 1) := by rfl
  have F9 : m.c (.slice a0 m.cs.length c) 9 = .int .u64 (lim m.x 2) := by rfl
  have F10 : m.c (.slice a0 m.cs.length c) 10 = .int .u64 (lim m.x 3) := by rfl
  have F11 : m.c (.slice a0 m.cs.length c) 11 = .int .u64 (lim m.y 0) := by rfl
  have F12 : m.c (.slice a0 m.cs.length c) 12 = .int .u64 (lim m.y 1) := by rfl
  have F13 : m.c (.slice a0 m.cs.length c) 13 = .int .u64 (lim m.y 2) := by rfl
  have F14 : m.c (.slice a0 m.cs.length c) 14 = .int .u64 (lim m.y 3) := by rfl
  generalize m.l (.slice a0 m.cs.length c) = L at *
  have A1 := hL.new w 29 w.heap.size rfl
  have hB1 : Below w.heap.size w (w.alloc (.cells L.toArray 29)) := by go_grown
  go_enter Tryz.func46, Tryz.ntmps46
  go_upto_region 1 with (fail)
  generalize w.alloc (.cells L.toArray 29) = W1 at *
  have l0 := A1.cv 0 (by omega) _ F0
  have l7 := A1.cv 7 (by omega) _ F7
  have l8 := A1.cv 8 (by omega) _ F8
  have l9 := A1.cv 9 (by omega) _ F9
  have l10 := A1.cv 10 (by omega) _ F10
  have l11 := A1.cv 11 (by omega) _ F11
  have l12 := A1.cv 12 (by omega) _ F12
  have l13 := A1.cv 13 (by omega) _ F13
  have l14 := A1.cv 14 (by omega) _ F14
  have HA1 : Hid _ := A1
  clear A1
  have A3 := newZ W1 W1.heap.size rfl
  have HA : Hid _ := A3
  clear A3
  go_upto_region 2 with (refine hC.wst tM HA.out (by rfl) (.tmp 3) (.tmp 8) (by rfl) (by rfl) (by rfl) ?_)
  have A3 := hC.set HA.out
  have bb := below_setCells (Below.alloc (Below.refl W1.heap.size W1) (Nat.le_refl _) (.cells z16 29)) (b := W1.heap.size) (Nat.le_refl _) (gL 15 nS nS nS nS nS (nC) (lim m.x 0) (lim m.x 1) (lim m.x 2) (lim m.x 3) (lim m.y 0) (lim m.y 1) (lim m.y 2) (lim m.y 3) nS) 0
  have A1 := Arr.to' (n := 15) HA1.out bb
  replace hB1 := Bel.call hB1 bb
  clear HA HA1 bb l0 l7 l8 l9 l10 l11 l12 l13 l14
  generalize (W1.alloc (.cells z16 29)).setCells W1.heap.size 0 (gL 15 nS nS nS nS nS (nC) (lim m.x 0) (lim m.x 1) (lim m.x 2) (lim m.x 3) (lim m.y 0) (lim m.y 1) (lim m.y 2) (lim m.y 3) nS) = W2 at *
  generalize W1.heap.size = b3 at *
  generalize gL 15 nS nS nS nS nS (nC) (lim m.x 0) (lim m.x 1) (lim m.x 2) (lim m.x 3) (lim m.y 0) (lim m.y 1) (lim m.y 2) (lim m.y 3) nS = LL at *
  go_wp2_with (first | (refine hL.wld tM A1 0 (by omega) (fun j _ => by rw [Nat.zero_add]) (by rfl) (.tmp 1) (by rfl) (by rfl) ?_) | (refine hC.wld tM A3 0 (by omega) (fun j _ => by rw [Nat.zero_add]) (by rfl) (.tmp 3) (by rfl) (by rfl) ?_) | (go_at_call 15; refine (CS _ hB1).mono ?_; refine stopAt ?_))
  unfold Stop
  rintro e W3 ⟨rfl, hb⟩
  have A4 := Arr.to' (n := 15) A1 hb
  replace hB1 := Bel.call hB1 hb
  clear hb A1 A3 CS hC
  cases hs : smB m (onM m) with
  | false =>
    have HX : Hid (ftB m = false) := by show _ = _; rw [HF.out, hs]; rfl
    clear hs A4
    go_wp2
    go_ret
    exact ⟨by rw [HX.out]; rfl, hB1⟩
  | true =>
    have HSm : Hid _ := hs
    clear hs
    have HX : Hid (ftB m = true) := by show _ = _; rw [HF.out, HSm.out]; rfl
    go_wp2
    go_ret
    exact ⟨by rw [HX.out]; rfl, hB1⟩
set_option maxHeartbeats 4000000 in
theorem fFi (m : Mg) (hk : m.k = 20) (fits : m.ok) (y1 : m.cs.length ≤ 9223372036854775807) (y2 : ∀ t ∈ m.cs, t.size ≤ 9223372036854775807) (y3 : m.nm.size ≤ 9223372036854775807) (u : Value) (w : World) (hu : Txs w u m.cs) :
    Calls Tryz.prog 49 #[m.v u] w fun e w' => e = .returned (.bool (ftB m)) ∧ Below w.heap.size w w' := by
  obtain ⟨a0, c, rfl, _⟩ := hu.form
  have eo : onM m = ⟨20, nS, nS, nS, nS, nS, [], 0, 0, m.mc⟩ := by unfold onM; simp [hk]
  have HF : Hid (ftB m = (smB m (onM m) && (decide (m.mc.size = 32)))) := by
    show _ = _
    have k1 : kdB m.k = true := by rw [hk]; rfl
    have k2 : knB m = (decide (m.mc.size = 32)) := by
      unfold knB
      rw [if_neg (by rw [hk]; decide), if_neg (by rw [hk]; decide), if_neg (by rw [hk]; decide), if_neg (by rw [hk]; decide), if_pos hk]
      all_goals (rw [Bool.eq_iff_iff]; simp only [Bool.and_eq_true, decide_eq_true_eq, ceB]; try (constructor <;> (intro h; simp_all)))
    unfold ftB
    rw [k1, k2, Bool.true_and]
  have CS := fun W (hB : Below w.heap.size w W) => hSame_any m (onM m) fits (by rw [eo]; exact ⟨Int.le_refl _, by show (0 : Int) < top256; decide, Int.le_refl _, by show (0 : Int) < top256; decide⟩) (.slice a0 m.cs.length c) (nC) y1 W (hu.to hB) (by rw [eo]; exact Txs.nil _)
  have EV : (onM m).v (nC) = .agg (gL 20 nS nS nS nS nS (nC) 0 0 0 0 0 0 0 0 m.mc).toArray := by rw [eo]; rw [gL_is _ _ _ _ _ _ _ [] _]; rfl
  rw [EV] at CS
  have hC : Cells (gL 20 nS nS nS nS nS (nC) 0 0 0 0 0 0 0 0 m.mc) 16 ((onM m).c (nC)) := by rw [eo]; rw [gL_is _ _ _ _ _ _ _ [] _]; exact Mg.cells _ _ rfl
  clear EV eo
  have hL := m.cells (.slice a0 m.cs.length c) rfl
  rw [m.v_l] at *
  have HU : Hid (∀ W, Below w.heap.size w W → Txs W (.slice a0 m.cs.length c) m.cs) := fun W hB => hu.to hB
  have F0 : m.c (.slice a0 m.cs.length c) 0 = .int .i64 20 := by show Value.int .i64 m.k = _; rw [hk]
  have F15 : m.c (.slice a0 m.cs.length c) 15 = .string m.mc := by rfl
  generalize m.l (.slice a0 m.cs.length c) = L at *
  have A1 := hL.new w 29 w.heap.size rfl
  have hB1 : Below w.heap.size w (w.alloc (.cells L.toArray 29)) := by go_grown
  go_enter Tryz.func49, Tryz.ntmps49
  go_upto_region 1 with (fail)
  generalize w.alloc (.cells L.toArray 29) = W1 at *
  have l0 := A1.cv 0 (by omega) _ F0
  have l15 := A1.cv 15 (by omega) _ F15
  have HA1 : Hid _ := A1
  clear A1
  have A3 := newZ W1 W1.heap.size rfl
  have HA : Hid _ := A3
  clear A3
  go_upto_region 2 with (refine hC.wst tM HA.out (by rfl) (.tmp 3) (.tmp 8) (by rfl) (by rfl) (by rfl) ?_)
  have A3 := hC.set HA.out
  have bb := below_setCells (Below.alloc (Below.refl W1.heap.size W1) (Nat.le_refl _) (.cells z16 29)) (b := W1.heap.size) (Nat.le_refl _) (gL 20 nS nS nS nS nS (nC) 0 0 0 0 0 0 0 0 m.mc) 0
  have A1 := Arr.to' (n := 15) HA1.out bb
  replace hB1 := Bel.call hB1 bb
  clear HA HA1 bb l0 l15
  generalize (W1.alloc (.cells z16 29)).setCells W1.heap.size 0 (gL 20 nS nS nS nS nS (nC) 0 0 0 0 0 0 0 0 m.mc) = W2 at *
  generalize W1.heap.size = b3 at *
  generalize gL 20 nS nS nS nS nS (nC) 0 0 0 0 0 0 0 0 m.mc = LL at *
  go_wp2_with (first | (refine hL.wld tM A1 0 (by omega) (fun j _ => by rw [Nat.zero_add]) (by rfl) (.tmp 1) (by rfl) (by rfl) ?_) | (refine hC.wld tM A3 0 (by omega) (fun j _ => by rw [Nat.zero_add]) (by rfl) (.tmp 3) (by rfl) (by rfl) ?_) | (go_at_call 15; refine (CS _ hB1).mono ?_; refine stopAt ?_))
  unfold Stop
  rintro e W3 ⟨rfl, hb⟩
  have A4 := Arr.to' (n := 15) A1 hb
  replace hB1 := Bel.call hB1 hb
  clear hb A1 A3 CS hC
  cases hs : smB m (onM m) with
  | false =>
    have HX : Hid (ftB m = false) := by show _ = _; rw [HF.out, hs]; rfl
    clear hs A4
    go_wp2
    go_ret
    exact ⟨by rw [HX.out]; rfl, hB1⟩
  | true =>
    have HSm : Hid _ := hs
    clear hs
    have l150 := A4.cv 15 (by omega) _ F15
    clear A4
    have C0 := fun b h W => isWord_b m.mc b h W
    cases h0 : decide (m.mc.size = 32) with
    | false =>
      have HX : Hid (ftB m = false) := by show _ = _; rw [HF.out, HSm.out, h0]; rfl
      go_wp2_with (first | (go_at_call 69; refine (C0 _ h0 _).mono ?_; intro ee ww hh; rw [hh.1, hh.2]; clear hh ee ww))
      go_ret
      exact ⟨by rw [HX.out]; rfl, hB1⟩
    | true =>
      have H0 : Hid _ := h0
      clear h0
      have HX : Hid (ftB m = true) := by show _ = _; rw [HF.out, HSm.out, H0.out]; rfl
      go_wp2_with (first | (go_at_call 69; refine (C0 _ H0.out _).mono ?_; intro ee ww hh; rw [hh.1, hh.2]; clear hh ee ww))
      go_ret
      exact ⟨by rw [HX.out]; rfl, hB1⟩
end Go.Proofs.YtjdpeedghpblgaaGreatDoor
