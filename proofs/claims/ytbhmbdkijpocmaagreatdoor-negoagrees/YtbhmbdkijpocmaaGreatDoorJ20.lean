/- The laws' own words: NegoAgrees, by what the program's functions do. -/
import Derived.Test.YtbhmbdkijpocmaaGreatDoorJ12
set_option linter.all false
set_option maxRecDepth 100000
namespace Go.Proofs.YtbhmbdkijpocmaaGreatDoor
open Go.RowKit Go.Shelf Go.Sort Go.Lib
set_option maxHeartbeats 8000000 in
theorem NegoAgrees_1 (CA : CAs) (CN : CAn) (CK : CK0) (ws : List Int) (c : Kc) (va vca vcc : Value) (w : World) (HA : Nls w va ws) (HW : Nls w vca c.ws) (HC : Sls w vcc c.cs)
    (a9 : ws.length ≤ 9223372036854775807) (w9 : c.ws.length ≤ 9223372036854775807) (c9 : c.cs.length ≤ 9223372036854775807)
    (g : ¬ (ws.length ≤ 400 ∧ c.ws.length ≤ 400 ∧ c.cs.length ≠ 0 ∧ c.cs.length ≤ 8 ∧ c.h.size = 0 ∧ c.p = 0)) :
    Calls Tryz.prog 5 #[va, kcV c vca vcc] w fun e w' => e = .returned (.bool true) ∧ Below w.heap.size w w' := by
  have CW := awake_any CA CN CK
  obtain ⟨cw, ch, cp, cc⟩ := c
  unfold kcV
  simp only at HW HC w9 c9 g ⊢
  have B8 := Bel.al (Below.refl w.heap.size w) (.cells #[vca, .string ch, .int .i64 cp, vcc] 25)
  obtain ⟨aa, ca, rfl, _⟩ := HA
  obtain ⟨aw, caw, rfl, _⟩ := HW
  obtain ⟨ac, cac, rfl, _⟩ := HC
  have n1 : (ws.length : Int) ≤ 9223372036854775807 := by omega
  have n2 : (cw.length : Int) ≤ 9223372036854775807 := by omega
  have n3 : (cc.length : Int) ≤ 9223372036854775807 := by omega
  clear CA CN CK
  by_cases k1 : 400 < ws.length
  · have i1 : (400 : Int) < (ws.length : Int) := by omega
    clear g
    go_enter Tryz.func5, Tryz.ntmps5
    go_wp2_with (go_at_call 8; refine (CW _).mono ?_; rintro e w9 ⟨rfl, b9⟩)
    go_ret
    exact ⟨rfl, Bel.call B8 b9⟩
  have i1 : ¬ (400 : Int) < (ws.length : Int) := by omega
  by_cases k2 : 400 < cw.length
  · have i2 : (400 : Int) < (cw.length : Int) := by omega
    clear g
    go_enter Tryz.func5, Tryz.ntmps5
    go_wp2_with (go_at_call 8; refine (CW _).mono ?_; rintro e w9 ⟨rfl, b9⟩)
    go_ret
    exact ⟨rfl, Bel.call B8 b9⟩
  have i2 : ¬ (400 : Int) < (cw.length : Int) := by omega
  by_cases k3 : cc.length = 0
  · rw [k3] at B8 ⊢
    clear g n3
    go_enter Tryz.func5, Tryz.ntmps5
    go_wp2_with (go_at_call 8; refine (CW _).mono ?_; rintro e w9 ⟨rfl, b9⟩)
    go_ret
    exact ⟨rfl, Bel.call B8 b9⟩
  have i3 : ((cc.length : Int) == 0) = false := by simpa using (show ¬ (cc.length : Int) = 0 by omega)
  by_cases k4 : 8 < cc.length
  · have i4 : (8 : Int) < (cc.length : Int) := by omega
    clear g
    go_enter Tryz.func5, Tryz.ntmps5
    go_wp2_with (go_at_call 8; refine (CW _).mono ?_; rintro e w9 ⟨rfl, b9⟩)
    go_ret
    exact ⟨rfl, Bel.call B8 b9⟩
  have i4 : ¬ (8 : Int) < (cc.length : Int) := by omega
  by_cases k5 : ch.size = 0
  case neg =>
    have em := emp_no ch (by omega)
    clear g
    go_enter Tryz.func5, Tryz.ntmps5
    go_wp2_with (go_at_call 8; refine (CW _).mono ?_; rintro e w9 ⟨rfl, b9⟩)
    go_ret
    exact ⟨rfl, Bel.call B8 b9⟩
  have k6 : cp ≠ 0 := fun q => g ⟨by omega, by omega, k3, by omega, k5, q⟩
  have i6 : (cp != 0) = true := by simpa using k6
  obtain rfl := emp_is k5
  clear g
  go_enter Tryz.func5, Tryz.ntmps5
  go_wp2_with (go_at_call 8; refine (CW _).mono ?_; rintro e w9 ⟨rfl, b9⟩)
  go_ret
  exact ⟨rfl, Bel.call B8 b9⟩
theorem ask_sz (ws : List Int) (h : ws.length ≤ 400) : ∀ r ∈ askK ws, r.s.size ≤ 9223372036854775807 := by
  intro r hr
  simp only [askK, List.mem_cons, List.not_mem_nil, or_false] at hr
  rcases hr with rfl | rfl | rfl
  · decide
  · show (prS ws).size ≤ _
    unfold prS
    split
    · rw [baL_size, prL_len]; omega
    · decide
  · decide
def noL : List Ke := [⟨true, 1, tw 0⟩, ⟨true, 4, ⟨#[]⟩⟩, endK]
theorem no_sz : ∀ r ∈ noL, r.s.size ≤ 9223372036854775807 := by
  intro r hr
  simp only [noL, List.mem_cons, List.not_mem_nil, or_false] at hr
  rcases hr with rfl | rfl | rfl <;> decide
theorem ok_sz (a : Int) (cs : List ByteArray) (h : cs.all cookB = true) : ∀ r ∈ okK a cs, r.s.size ≤ 9223372036854775807 := by
  intro r hr
  have two : (tw a).size = 2 := by unfold tw; rw [baL_size]; rfl
  have two0 : (tw 0).size = 2 := by unfold tw; rw [baL_size]; rfl
  simp only [okK, cksL, List.mem_append, List.mem_cons, List.not_mem_nil, or_false, List.mem_map] at hr
  rcases hr with ((rfl | rfl) | ⟨s, hs, rfl⟩) | rfl
  · show (tw 0).size ≤ _; omega
  · show (tw a).size ≤ _; omega
  · have := List.all_eq_true.1 h s hs
    unfold cookB at this
    rw [Bool.and_eq_true, Bool.and_eq_true, decide_eq_true_iff, decide_eq_true_iff, decide_eq_true_iff] at this
    show s.size ≤ _
    omega
  · decide
theorem ok_len (a : Int) (cs : List ByteArray) : (okK a cs).length = cs.length + 3 := by
  simp only [okK, cksL, List.length_append, List.length_map, List.length_cons, List.length_nil]
  omega
set_option maxHeartbeats 8000000 in
theorem NegoAgrees_2 (CA : CAs) (CN : CAn) (CK : CK0) (CC : CAc) (ws cw : List Int) (cc : List ByteArray) (va vca vcc : Value) (w : World) (HA : Nls w va ws) (HW : Nls w vca cw) (HC : Sls w vcc cc)
    (g1 : ws.length ≤ 400) (g2 : cw.length ≤ 400) (g3 : cc.length ≠ 0) (g4 : cc.length ≤ 8) (hz : ∀ s ∈ cc, s.size ≤ 9223372036854775807) :
    Calls Tryz.prog 5 #[va, kcV ⟨cw, ⟨#[]⟩, 0, cc⟩ vca vcc] w fun e w' => e = .returned (.bool true) ∧ Below w.heap.size w w' := by
  have CW := awake_any CA CN CK
  unfold kcV
  simp only
  have A8 := Arr.new w #[vca, Value.string ⟨#[]⟩, .int .i64 0, vcc] 25 _ rfl _ 4 (kcC_at vca vcc ⟨#[]⟩ 0)
  have B8 := Bel.al (Below.refl w.heap.size w) (.cells #[vca, .string ⟨#[]⟩, .int .i64 0, vcc] 25)
  have C1 := fun W (hb : Below w.heap.size w W) => CA ws ⟨#[]⟩ 0 va W (HA.to hb) (by omega) (by decide) (by decide) (by decide)
  have C2 := fun W L vl (hb : Below w.heap.size w W) h1 h2 h3 => CN ⟨cw, ⟨#[]⟩, 0, cc⟩ L vca vcc vl W (HW.to hb) (HC.to hb) h1 h2 (by show cw.length ≤ _; omega) (by show cc.length ≤ _; omega) (by show (⟨#[]⟩ : ByteArray).size ≤ _; decide) h3 (by show -9223372036854775808 ≤ (0 : Int); decide) (by show (0 : Int) ≤ _; decide)
  have C3 := fun W L vl (hb : Below w.heap.size w W) h1 h2 h3 => CC ws L va vl W (HA.to hb) h1 h2 (by omega) h3
  unfold kcV at C2
  simp only at C2
  obtain ⟨aa, ca, rfl, fa⟩ := HA
  obtain ⟨aw, caw, rfl, fw⟩ := HW
  have HC0 : Hid (Sls w vcc cc) := HC
  obtain ⟨ac, cac, rfl, fc⟩ := HC
  obtain ⟨n, hn⟩ : ∃ n, ws.length = n := ⟨_, rfl⟩
  obtain ⟨m, hm⟩ : ∃ m, cw.length = m := ⟨_, rfl⟩
  obtain ⟨k, hk⟩ : ∃ k, cc.length = k := ⟨_, rfl⟩
  have HN : Hid (ws.length = n) := hn
  have HM : Hid (cw.length = m) := hm
  have HK : Hid (cc.length = k) := hk
  have FA : Hid (∀ (i : Nat) (x : Int), ws[i]? = some x → ∃ g o, aa = some ⟨g, o, none⟩ ∧ g < w.heap.size ∧ w.cell? ⟨g, o + i, none⟩ = some (.int .i64 x)) := fa
  have FW : Hid (∀ (i : Nat) (x : Int), cw[i]? = some x → ∃ g o, aw = some ⟨g, o, none⟩ ∧ g < w.heap.size ∧ w.cell? ⟨g, o + i, none⟩ = some (.int .i64 x)) := fw
  have FC : Hid (∀ (i : Nat) (s : ByteArray), cc[i]? = some s → ∃ g o, ac = some ⟨g, o, none⟩ ∧ g < w.heap.size ∧ w.cell? ⟨g, o + i, none⟩ = some (.string s)) := fc
  have HZ : Hid (∀ s ∈ cc, s.size ≤ 9223372036854775807) := hz
  rw [hn] at C1 C3 g1 ⊢
  rw [hm] at A8 B8 C2 g2 ⊢
  rw [hk] at A8 B8 C2 g3 g4 ⊢
  rw [hk] at HC0
  have i1 : ¬ (400 : Int) < (n : Int) := by omega
  have i2 : ¬ (400 : Int) < (m : Int) := by omega
  have i3 : ((k : Int) == 0) = false := by simpa using (show ¬ (k : Int) = 0 by omega)
  have i4 : ¬ (8 : Int) < (k : Int) := by omega
  have n0 : (n : Int) ≤ 400 := by omega
  have m0 : (m : Int) ≤ 400 := by omega
  have k0 : (k : Int) ≤ 8 := by omega
  have HLW : Hid (ws.length ≤ 400) := by show _ ≤ _; rw [hn]; exact g1
  have HG3 : Hid (cc.length ≠ 0 ∧ cc.length ≤ 8) := by show _ ∧ _; rw [hk]; exact ⟨g3, g4⟩
  clear CA CN CK CC fa fw fc hn hm hk hz g3
  go_enter Tryz.func5, Tryz.ntmps5
  go_wp2_with fail
  generalize w.alloc (.cells #[.slice aw m caw, .string ⟨#[]⟩, .int .i64 0, .slice ac k cac] 25) = W at *
  have c0 := A8.cv 0 (by decide) (.slice aw m caw) rfl
  have c3 := A8.cv 3 (by decide) (.slice ac k cac) rfl
  go_loop [54] (fun i => ∃ j : Nat, j ≤ k ∧ i = .int .i64 (j : Int) ∧ Hid ((cc.take j).all cookB = true)) (fun i => k - (RowKit.intOf i).toNat)
  case atStart => exact ⟨0, by omega, rfl, rfl⟩
  case round =>
    obtain ⟨j, hj, rfl, hA⟩ := hrel
    have j0 : (0 : Int) ≤ (j : Int) := by omega
    by_cases hlt : j < k
    · have j1 : (j : Int) < (k : Int) := by omega
      obtain ⟨s, hs⟩ : ∃ s, cc[j]? = some s := ⟨_, List.getElem?_eq_getElem (by rw [HK.out]; exact hlt)⟩
      obtain ⟨g, o, rfl, lt, e0⟩ := FC.out j s hs
      have e1 := (B8.cell (p := ⟨g, o + j, none⟩) lt).trans e0
      have CC := nCookie_any s (HZ.out s (List.mem_of_getElem? hs)) W
      have HT : Hid (cc.take (j + 1) = cc.take j ++ [s]) := take_snoc' cc j s hs
      clear hs e0 FC FA FW HN HM HK HZ C1 C2 C3
      cases hck : cookB s
      case false =>
        rw [hck] at CC
        clear hck HT hA
        go_wp2_with fail
        refine CC.mono ?_
        rintro e y1 ⟨rfl, rfl⟩
        clear CC
        go_wp2_with (go_at_call 8; refine (CW _).mono ?_; rintro e w9 ⟨rfl, b9⟩)
        go_ret
        exact ⟨rfl, Bel.call B8 b9⟩
      case true =>
        rw [hck] at CC
        have hA' : Hid ((cc.take (j + 1)).all cookB = true) := by
          show _ = _
          rw [HT.out, List.all_append, hA.out]
          simp only [List.all_cons, List.all_nil, Bool.and_true, Bool.true_and]
          exact hck
        clear hck HT hA
        go_wp2_with fail
        refine CC.mono ?_
        rintro e y1 ⟨rfl, rfl⟩
        clear CC
        go_wp2_with fail
        exact ⟨⟨j + 1, by omega, by go_num, hA'⟩, by simp [RowKit.intOf]; omega⟩
    · have ej : j = k := by omega
      subst ej
      have hT : cc.take j = cc := List.take_of_length_le (by rw [HK.out]; omega)
      rw [hT] at hA
      have HAL : Hid (cc.all cookB = true) := hA.out
      have jn : ¬ (j : Int) < (j : Int) := by omega
      clear hT hA FC HZ HK
      go_wp2_with fail
      go_loop [7, 66] (fun x i => ∃ q : Nat, q ≤ m ∧ i = .int .i64 (q : Int) ∧ x = .int .i64 (chA (cw.take q) ws)) (fun _ i => m - (RowKit.intOf i).toNat)
      case atStart => exact ⟨0, by omega, rfl, rfl⟩
      case round =>
        obtain ⟨q, hq, rfl, rfl⟩ := hrel
        have q0 : (0 : Int) ≤ (q : Int) := by omega
        by_cases hlq : q < m
        · have q1 : (q : Int) < (m : Int) := by omega
          obtain ⟨x, hx⟩ : ∃ x, cw[q]? = some x := ⟨_, List.getElem?_eq_getElem (by rw [HM.out]; exact hlq)⟩
          obtain ⟨g, o, rfl, lt, e0⟩ := FW.out q x hx
          have e1 := (B8.cell (p := ⟨g, o + q, none⟩) lt).trans e0
          have HTk : Hid (chA (cw.take (q + 1)) ws = if chA (cw.take q) ws = 0 then (if 0 < ksI x ∧ hasB ws x = true then x else 0) else chA (cw.take q) ws) := ch_take cw ws q x hx
          generalize chA (cw.take q) ws = y at *
          clear hx e0 FW HM C1 C2 C3 CW HAL
          go_wp2_with fail
          go_loop [10, 72] (fun b i => ∃ r : Nat, r ≤ n ∧ i = .int .i64 (r : Int) ∧ b = .bool (hasB (ws.take r) x)) (fun _ i => n - (RowKit.intOf i).toNat)
          case atStart => exact ⟨0, by omega, rfl, rfl⟩
          case round =>
            obtain ⟨r, hr, rfl, rfl⟩ := hrel
            have r0 : (0 : Int) ≤ (r : Int) := by omega
            by_cases hlr : r < n
            · have r1 : (r : Int) < (n : Int) := by omega
              obtain ⟨z, hz⟩ : ∃ z, ws[r]? = some z := ⟨_, List.getElem?_eq_getElem (by rw [HN.out]; exact hlr)⟩
              obtain ⟨g2, o2, rfl, lt2, e2⟩ := FA.out r z hz
              have e3 := (B8.cell (p := ⟨g2, o2 + r, none⟩) lt2).trans e2
              have ht : Hid (hasB (ws.take (r + 1)) x = (hasB (ws.take r) x || decide (z = x))) := has_take ws r z x hz
              clear hz FA HN e2 HTk
              cases hb : hasB (ws.take r) x
              case true =>
                rw [hb] at ht
                clear hb
                go_wp2_with fail
                exact ⟨⟨r + 1, by omega, by go_num, by rw [ht.out]; rfl⟩, by simp [RowKit.intOf]; omega⟩
              case false =>
                rw [hb] at ht
                clear hb
                by_cases hxa : z = x
                · subst hxa
                  go_wp2_with fail
                  exact ⟨⟨r + 1, by omega, by go_num, by rw [ht.out]; simp⟩, by simp [RowKit.intOf]; omega⟩
                · have nx : (x == z) = false := by simpa using (fun q : x = z => hxa q.symm)
                  go_wp2_with fail
                  exact ⟨⟨r + 1, by omega, by go_num, by rw [ht.out]; simp [hxa]⟩, by simp [RowKit.intOf]; omega⟩
            · have er : r = n := by omega
              subst er
              have hT2 : ws.take r = ws := List.take_of_length_le (by rw [HN.out]; omega)
              rw [hT2]
              have rn : ¬ (r : Int) < (r : Int) := by omega
              clear hT2 FA HN
              cases hb : hasB ws x
              case false =>
                have HV : Hid (chA (cw.take (q + 1)) ws = y) := by
                  show _ = _
                  rw [HTk.out, hb]
                  by_cases hy : y = 0
                  · rw [if_pos hy, if_neg (fun c => by simp at c), hy]
                  · rw [if_neg hy]
                clear hb HTk
                go_wp2_with fail
                exact ⟨⟨q + 1, by omega, by go_num, by rw [HV.out]⟩, by simp [RowKit.intOf]; omega⟩
              case true =>
                by_cases hy : y = 0
                case neg =>
                  have HV : Hid (chA (cw.take (q + 1)) ws = y) := by show _ = _; rw [HTk.out, if_neg hy]
                  have iy : (y == 0) = false := by simpa using hy
                  clear hb HTk
                  go_wp2_with fail
                  exact ⟨⟨q + 1, by omega, by go_num, by rw [HV.out]⟩, by simp [RowKit.intOf]; omega⟩
                subst hy
                by_cases h15 : x = 15
                · subst h15
                  have HV : Hid (chA (cw.take (q + 1)) ws = 15) := by show _ = _; rw [HTk.out, if_pos rfl, if_pos ⟨by decide, hb⟩]
                  clear hb HTk
                  go_wp2_with fail
                  exact ⟨⟨q + 1, by omega, by go_num, by rw [HV.out]⟩, by simp [RowKit.intOf]; omega⟩
                by_cases h17 : x = 17
                · subst h17
                  have HV : Hid (chA (cw.take (q + 1)) ws = 17) := by show _ = _; rw [HTk.out, if_pos rfl, if_pos ⟨by decide, hb⟩]
                  clear hb HTk
                  go_wp2_with fail
                  exact ⟨⟨q + 1, by omega, by go_num, by rw [HV.out]⟩, by simp [RowKit.intOf]; omega⟩
                · have HV : Hid (chA (cw.take (q + 1)) ws = 0) := by
                    show _ = _
                    rw [HTk.out, if_pos rfl, if_neg (fun c => by
                      have := c.1
                      rcases ksI_cases x with d | d | d
                      · exact h15 d.1
                      · exact h17 d.1
                      · rw [d.2.2] at this; exact absurd this (by decide))]
                  have n15 : (x == 15) = false := by simpa using h15
                  have n17 : (x == 17) = false := by simpa using h17
                  clear hb HTk
                  go_wp2_with fail
                  exact ⟨⟨q + 1, by omega, by go_num, by rw [HV.out]⟩, by simp [RowKit.intOf]; omega⟩
        · have eq : q = m := by omega
          subst eq
          have hT3 : cw.take q = cw := List.take_of_length_le (by rw [HM.out]; omega)
          rw [hT3]
          have qn : ¬ (q : Int) < (q : Int) := by omega
          have HX : Hid (chA cw ws = chA cw ws) := rfl
          clear hT3 FW FA HM HN
          obtain ⟨X, hX⟩ : ∃ X, chA cw ws = X := ⟨_, rfl⟩
          rw [hX]
          replace HX : Hid (chA cw ws = X) := hX
          clear hX
          have D1 := C1 W B8
          clear C1
          go_wp2_with fail
          refine D1.mono ?_
          rintro e x1 ⟨⟨u1, rfl, k1⟩, b1⟩
          clear D1
          have hu1 : ∃ a c, u1 = .slice a (askL ws ⟨#[]⟩ 0).length c := by obtain ⟨a, c, e, _⟩ := k1; exact ⟨a, c, e⟩
          obtain ⟨a1, d1, rfl⟩ := hu1
          by_cases hE : askE ws ⟨#[]⟩ 0 = 0
          case neg =>
            have iE : (askE ws ⟨#[]⟩ 0 != 0) = true := by simpa using hE
            generalize askE ws ⟨#[]⟩ 0 = E at *
            have B1 := Bel.call B8 b1
            clear C2 C3 b1 B8 k1
            go_wp2_with fail
            refine (CW _).mono ?_
            rintro e x2 ⟨rfl, b2⟩
            have B2 := Bel.call B1 b2
            go_wp2_with fail
            go_ret
            exact ⟨rfl, B2⟩
          obtain ⟨hL, hpr, hln⟩ := ask_0 ws hE
          rw [hL] at k1 ⊢
          rw [hE]
          have B1 := Bel.call B8 b1
          replace A8 := Arr.to' (n := 3) A8 b1
          have c0 := A8.cv 0 (by decide) (.slice aw q caw) rfl
          have c1 := A8.cv 1 (by decide) (.string ⟨#[]⟩) rfl
          have c2 := A8.cv 2 (by decide) (.int .i64 0) rfl
          have c3 := A8.cv 3 (by decide) (.slice ac j cac) rfl
          have D2 := C2 x1 (askK ws) _ B1 k1 (by show 3 ≤ _; decide) (ask_sz ws HLW.out)
          have hl3 : (askK ws).length = 3 := rfl
          rw [hl3] at D2 ⊢
          clear C2 k1 b1 B8 hl3 hL hE
          by_cases hX0 : X = 0
          · subst hX0
            have hAns : ansR ⟨cw, ⟨#[]⟩, 0, cc⟩ (askK ws) = (noL, 0) := by rw [ans_ask ⟨cw, ⟨#[]⟩, 0, cc⟩ ws hpr hln rfl rfl]; exact if_pos HX.out
            rw [hAns] at D2
            clear hAns hpr hln HX
            simp only at D2
            go_wp2_with fail
            refine D2.mono ?_
            rintro e x2 ⟨⟨u2, rfl, k2⟩, b2⟩
            have B2 := Bel.call B1 b2
            have D3 := C3 x2 noL u2 B2 k2 (by decide) no_sz
            have hno : accE ws noL ≠ 0 := acc_none ws
            rw [acc_zero hno] at D3
            have iE : (accE ws noL != 0) = true := by simpa using hno
            clear hno
            generalize accE ws noL = E at *
            unfold dlV zD at D3
            simp only at D3
            clear C3 D2 k2 b2 B1 c0 c1 c2 c3 A8
            go_wp2_with fail
            refine D3.mono ?_
            rintro e x3 ⟨⟨v3, rfl, k3⟩, b3⟩
            have hv3 : ∃ a c, v3 = .slice a 0 c := by obtain ⟨a, c, e, _⟩ := k3; exact ⟨a, c, e⟩
            obtain ⟨a3, d3, rfl⟩ := hv3
            have B3 := Bel.al (Bel.call B2 b3) (.cells #[.int .i64 0, .slice a3 0 d3, .string ⟨#[]⟩, .int .i64 0] 38)
            clear D3 k3 b3 B2
            go_wp2_with fail
            refine (CW _).mono ?_
            rintro e x4 ⟨rfl, b4⟩
            have B4 := Bel.call B3 b4
            go_wp2_with fail
            go_ret
            exact ⟨rfl, B4⟩
          · have hne : chA cw ws ≠ 0 := by rw [HX.out]; exact hX0
            obtain ⟨y1, y2, _⟩ := chA_is cw ws hne
            rw [HX.out] at y1 y2
            have hAns : ansR ⟨cw, ⟨#[]⟩, 0, cc⟩ (askK ws) = (okK X cc, X) := by
              rw [ans_ask ⟨cw, ⟨#[]⟩, 0, cc⟩ ws hpr hln rfl rfl]
              show (if chA cw ws = 0 then _ else (okK (chA cw ws) cc, chA cw ws)) = _
              rw [HX.out, if_neg hX0]
            rw [hAns] at D2
            obtain ⟨z1, z2⟩ := acc_ok ws X cc y2 y1 HG3.out.1 HG3.out.2 HAL.out
            clear hAns hpr hln HX hne y1 y2
            simp only at D2
            go_wp2_with fail
            refine D2.mono ?_
            rintro e x2 ⟨⟨u2, rfl, k2⟩, b2⟩
            have B2 := Bel.call B1 b2
            have D3 := C3 x2 (okK X cc) u2 B2 k2 (by rw [ok_len]; have := HG3.out.2; omega) (ok_sz X cc HAL.out)
            rw [z1, z2] at D3
            unfold dlV at D3
            simp only at D3
            replace A8 := Arr.to' (n := 3) A8 b2
            clear C3 D2 k2 b2 B1 c0 c1 c2 c3 z1 z2
            go_wp2_with fail
            refine D3.mono ?_
            rintro e x3 ⟨⟨v3, rfl, k3⟩, b3⟩
            have hv3 : ∃ a c, v3 = .slice a cc.length c := by obtain ⟨a, c, e, _⟩ := k3; exact ⟨a, c, e⟩
            obtain ⟨a3, d3, rfl⟩ := hv3
            have b4 := Bel.al b3 (.cells #[.int .i64 X, .slice a3 cc.length d3, .string ⟨#[]⟩, .int .i64 0] 38)
            have B3 := Bel.call B2 b4
            have A7 := Arr.new x3 #[Value.int .i64 X, .slice a3 cc.length d3, .string ⟨#[]⟩, .int .i64 0] 38 _ rfl _ 4 (dlC_at X (.slice a3 cc.length d3) ⟨#[]⟩ 0)
            replace k3 := k3.to (Bel.al (Below.refl _ x3) (.cells #[.int .i64 X, .slice a3 cc.length d3, .string ⟨#[]⟩, .int .i64 0] 38))
            replace A8 := Arr.to' (n := 3) A8 b4
            have kc := Sls.to HC0.out B3
            have S := nSame_any ⟨X, cc, ⟨#[]⟩, 0⟩ ⟨X, cc, ⟨#[]⟩, 0⟩ _ _ _ k3 kc (by show cc.length ≤ _; have := HG3.out.2; omega) (by show cc.length ≤ _; have := HG3.out.2; omega)
            rw [dlB_self] at S
            unfold dlV at S
            simp only at S
            have c3 := A8.cv 3 (by decide) (.slice ac j cac) rfl
            have e0 := A7.cv 0 (by decide) (.int .i64 X) rfl
            have e1 := A7.cv 1 (by decide) (.slice a3 cc.length d3) rfl
            have e2 := A7.cv 2 (by decide) (.string ⟨#[]⟩) rfl
            have e3 := A7.cv 3 (by decide) (.int .i64 0) rfl
            have nX : (X == 0) = false := by simpa using hX0
            clear D3 k3 kc b3 b4 B2 A7 A8
            go_wp2_with fail
            refine S.mono ?_
            rintro e x5 ⟨rfl, b5⟩
            have B5 := Bel.call B3 b5
            clear S b5 B3 c3 e0 e1 e2 e3
            go_wp2_with fail
            refine (CW _).mono ?_
            rintro e x6 ⟨rfl, b6⟩
            have B6 := Bel.call B5 b6
            go_wp2_with fail
            go_ret
            exact ⟨rfl, B6⟩
theorem NegoAgrees_any (CA : CAs) (CN : CAn) (CK : CK0) (CC : CAc) (ws : List Int) (c : Kc) (va vca vcc : Value) (w : World) (HA : Nls w va ws) (HW : Nls w vca c.ws) (HC : Sls w vcc c.cs)
    (a9 : ws.length ≤ 9223372036854775807) (w9 : c.ws.length ≤ 9223372036854775807) (c9 : c.cs.length ≤ 9223372036854775807) (hz : ∀ s ∈ c.cs, s.size ≤ 9223372036854775807) :
    Calls Tryz.prog 5 #[va, kcV c vca vcc] w fun e w' => e = .returned (.bool true) ∧ Below w.heap.size w w' := by
  by_cases g : ws.length ≤ 400 ∧ c.ws.length ≤ 400 ∧ c.cs.length ≠ 0 ∧ c.cs.length ≤ 8 ∧ c.h.size = 0 ∧ c.p = 0
  · obtain ⟨g1, g2, g3, g4, g5, g6⟩ := g
    obtain ⟨cw, ch, cp, cc⟩ := c
    simp only at *
    obtain rfl := emp_is g5
    subst g6
    exact NegoAgrees_2 CA CN CK CC ws cw cc va vca vcc w HA HW HC g1 g2 g3 g4 hz
  · exact NegoAgrees_1 CA CN CK ws c va vca vcc w HA HW HC a9 w9 c9 g
end Go.Proofs.YtbhmbdkijpocmaaGreatDoor
