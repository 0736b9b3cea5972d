/- KeBack, by what the program's functions do. -/
import Derived.Test.YtndfcecimckioaaL3
set_option linter.all false
set_option maxRecDepth 100000
namespace Go.Proofs.Ytndfcecimckioaa
open Go.RowKit Go.Shelf Go.Sort Go.Lib
/-- All but the ends. -/
def fuL (l : List Ke) : List Ke := l.filter fun r => !(decide (r.k = 0))
theorem fuL_take (l : List Ke) (j : Nat) (r : Ke) (h : l[j]? = some r) : fuL (l.take (j + 1)) = if r.k = 0 then fuL (l.take j) else fuL (l.take j) ++ [r] := by
  rw [take_snoc' l j r h]
  unfold fuL
  rw [List.filter_append]
  by_cases hk : r.k = 0
  · rw [if_pos hk]
    simp [hk]
  · rw [if_neg hk]
    simp [hk]
def enK : Ke := ⟨true, 0, ⟨#[]⟩⟩
theorem all_back (l : List Ke) (m : ByteArray) (h : wrR (fuL l ++ [enK]) = 0) : rdE (wrS (fuL l ++ [enK]) ++ m) = 0 ∧ rdR (wrS (fuL l ++ [enK]) ++ m) = m ∧ rdL (wrS (fuL l ++ [enK]) ++ m) = fuL l ++ [enK] ∧ (wrS (fuL l ++ [enK])).size ≤ 2048 := by
  obtain ⟨k0, k1, k2⟩ := wr_facts (fuL l ++ [enK])
  have hE : wrE (fuL l ++ [enK]) = 0 := by
    by_cases he : wrE (fuL l ++ [enK]) = 0
    · exact he
    · rw [(k0 he).1] at h; exact absurd h he
  have hT : ¬ 2048 < tot (fuL l ++ [enK]) := fun ht => by
    rw [(k1 hE ht).1] at h
    cases h
  have hw : wfK (fuL l ++ [enK]) := by
    refine wf_all (fuL l) fun r hr => ⟨wrE_0 hE r (List.mem_append.2 (.inl hr)), ?_⟩
    have := (List.mem_filter.1 hr).2
    simpa using this
  have hS := (k2 hE hT).2
  have hl := tot_len (fuL l ++ [enK])
  rw [hS]
  obtain ⟨a, b, c⟩ := rd_of (baL (catL (fuL l ++ [enK])) ++ m) (fuL l ++ [enK]) m rfl hw (by omega) (by omega)
  exact ⟨a, b, c, by rw [baL_size, catL_len]; omega⟩
theorem rd_wr (s : ByteArray) (h : rdE s = 0) : wrR (rdL s) = 0 ∧ wrS (rdL s) ++ rdR s = s := by
  obtain ⟨g1, g2, g3, g4⟩ := rd_good s h
  obtain ⟨k0, k1, k2⟩ := wr_facts (rdL s)
  have hE := wf_ok _ g2
  have := k2 hE (by omega)
  exact ⟨this.1, by rw [this.2]; exact g1.symm⟩
theorem wf_size (l : List Ke) (h : wfK l) : ∀ r ∈ l, r.s.size ≤ 1024 := by
  induction l with
  | nil => intro r hr; cases hr
  | cons x t ih =>
    obtain ⟨h1, h2, h3, h4⟩ := h
    intro r hr
    rcases List.mem_cons.1 hr with rfl | hr
    · exact h1
    · by_cases h0 : x.k = 0
      · rw [if_pos h0] at h4; rw [h4.2.2] at hr; cases hr
      · rw [if_neg h0] at h4; exact ih h4 r hr
set_option maxHeartbeats 8000000 in
theorem KeBack_any (CW : CWr) (CR : CRd) (CP : CPr) (CT : CTp) (l : List Ke) (m s : ByteArray) (n : List Int) (v vn : Value) (w : World) (H : Kls w v l) (HN : Nls w vn n) (h9 : l.length ≤ 9223372036854775807) (n9 : n.length ≤ 9223372036854775807) (hm : m.size ≤ 140737488355328) (hs : s.size ≤ 9223372036854775807) (hr : ∀ r ∈ l, r.s.size ≤ 9223372036854775807) :
    Calls Try.prog 5 #[v, .string m, .string s, vn] w fun e w' => e = .returned (.bool true) ∧ Below w.heap.size w w' := by
  have CA := awake_any CW CR
  obtain ⟨a, c, rfl, f⟩ := H
  have hv : ∃ a c, vn = .slice a n.length c := by obtain ⟨a, c, e, _⟩ := HN; exact ⟨a, c, e⟩
  obtain ⟨a', c', rfl⟩ := hv
  have m1 : (l.length : Int) ≤ 9223372036854775807 := by omega
  have m2 : (n.length : Int) ≤ 9223372036854775807 := by omega
  have m3 : (s.size : Int) ≤ 9223372036854775807 := by omega
  have m4 : (m.size : Int) ≤ 140737488355328 := by omega
  by_cases h1 : 600 < l.length
  · have i1 : (600 : Int) < (l.length : Int) := by omega
    clear CW CR CP CT f HN hr
    go_enter Try.func5, Try.ntmps5
    go_wp2_with (go_at_call 7; refine (CA _).mono ?_; rintro e w9 ⟨rfl, b9⟩)
    go_ret
    exact ⟨rfl, b9⟩
  have i1 : ¬ (600 : Int) < (l.length : Int) := by omega
  by_cases h2 : 20000 < s.size
  · have i2 : (20000 : Int) < (s.size : Int) := by omega
    clear CW CR CP CT f HN hr
    go_enter Try.func5, Try.ntmps5
    go_wp2_with (go_at_call 7; refine (CA _).mono ?_; rintro e w9 ⟨rfl, b9⟩)
    go_ret
    exact ⟨rfl, b9⟩
  have i2 : ¬ (20000 : Int) < (s.size : Int) := by omega
  by_cases h3 : 600 < n.length
  · have i3 : (600 : Int) < (n.length : Int) := by omega
    clear CW CR CP CT f HN hr
    go_enter Try.func5, Try.ntmps5
    go_wp2_with (go_at_call 7; refine (CA _).mono ?_; rintro e w9 ⟨rfl, b9⟩)
    go_ret
    exact ⟨rfl, b9⟩
  have i3 : ¬ (600 : Int) < (n.length : Int) := by omega
  have fl : (fuL l).length ≤ l.length := List.length_filter_le _ _
  have CW1 := fun v W (h : Kls W v (fuL l ++ [enK])) => CW _ v W h (by rw [List.length_append, List.length_singleton]; omega) (fun r hr' => by
    rcases List.mem_append.1 hr' with h | h
    · exact hr r (List.mem_filter.1 h).1
    · rw [List.mem_singleton.1 h]; decide)
  have HA := all_back l m
  have CRa : wrR (fuL l ++ [enK]) = 0 → ∀ W, Calls Try.prog 10 #[.string (wrS (fuL l ++ [enK]) ++ m)] W fun e w' => (∃ v, e = .returned (.tuple #[v, .string m, .int .i64 0]) ∧ Kls w' v (fuL l ++ [enK])) ∧ Below W.heap.size W w' := fun h W => by
    obtain ⟨a, b, c, d⟩ := HA h
    have := CR (wrS (fuL l ++ [enK]) ++ m) W (by rw [ByteArray.size_append]; omega)
    rwa [a, b, c] at this
  have CS1 := fun v1 v2 W (k1 : Kls W v1 (fuL l ++ [enK])) (k2 : Kls W v2 (fuL l ++ [enK])) => rSame_any _ _ v1 v2 W k1 k2 (by rw [List.length_append, List.length_singleton]; omega) (by rw [List.length_append, List.length_singleton]; omega)
  rw [kesB_self] at CS1
  have C2 := fun W => CR s W (by omega)
  have CW2 : rdE s = 0 → ∀ v W, Kls W v (rdL s) → Calls Try.prog 8 #[v] W fun e w' => e = .returned (.tuple #[.string (wrS (rdL s)), .int .i64 0]) ∧ Below W.heap.size W w' := fun h v W hk => by
    obtain ⟨g1, g2, g3, g4⟩ := rd_good s h
    have := CW (rdL s) v W hk (by omega) (fun r hr' => by have := wf_size _ g2 r hr'; omega)
    rwa [(rd_wr s h).1] at this
  have HWR : Hid (rdE s = 0 → wrS (rdL s) ++ rdR s = s) := fun h => (rd_wr s h).2
  have HWZ : Hid (rdE s = 0 → (wrS (rdL s)).size ≤ 20000 ∧ (rdR s).size ≤ 20000) := fun h => by
    have := congrArg ByteArray.size (rd_wr s h).2
    rw [ByteArray.size_append] at this
    omega
  have HAZ : Hid (wrR (fuL l ++ [enK]) = 0 → (wrS (fuL l ++ [enK])).size ≤ 2048) := fun h => (HA h).2.2.2
  have CP3 := fun W (h : Nls W _ n) => CP n (.slice a' n.length c') W h (by omega)
  have CT2 : prE n = 0 → ∀ W, Calls Try.prog 15 #[.string (prS n)] W fun e w' => (∃ v, e = .returned (.tuple #[v, .int .i64 0]) ∧ Nls w' v n) ∧ Below W.heap.size W w' := fun h W => by
    obtain ⟨a, b⟩ := pr_back n h
    have hz : (prS n).size ≤ 1000000 := by
      unfold prS
      rw [if_pos h, baL_size, prL_len]; omega
    have := CT (prS n) W hz
    rwa [a, b] at this
  have CI := fun v1 v2 W (k1 : Nls W v1 n) (k2 : Nls W v2 n) => rInts_any n n v1 v2 W k1 k2 n9 n9
  rw [decide_eq_true rfl] at CI
  obtain ⟨i0, hi, hz0, hz1, hz2⟩ := info_parts Try.infoK
  have F : Hid (∀ (i : Nat) (x : Ke), l[i]? = some x → ∃ g o, a = some ⟨g, o, none⟩ ∧ g < w.heap.size ∧ C3 w g (o + i * 3) x) := f
  have HLt : Hid (l.take l.length = l) := List.take_length
  obtain ⟨q, hq⟩ : ∃ q, l.length = q := ⟨_, rfl⟩
  have HQ : Hid (l.length = q) := hq
  rw [hq] at i1 m1 HLt ⊢
  have q6 : q ≤ 600 := by omega
  obtain ⟨E1, hE1⟩ : ∃ E1, wrR (fuL l ++ [enK]) = E1 := ⟨_, rfl⟩
  obtain ⟨E2, hE2⟩ : ∃ E2, rdE s = E2 := ⟨_, rfl⟩
  obtain ⟨E3, hE3⟩ : ∃ E3, prE n = E3 := ⟨_, rfl⟩
  rw [hE1] at CW1 CRa HAZ
  rw [hE2] at C2 CW2 HWR HWZ
  rw [hE3] at CP3 CT2
  clear hE1 hE2 hE3 HA CW CR CP CT f hr h1 h2 h3 hq fl
  have own0 : w.ownsRow w.heap.size 47 3 (.slice none 0 0) 0 (flK (fuL (l.take 0))) := ⟨rfl, .inl ⟨rfl, rfl⟩⟩
  have HNw : Hid (Nls w (.slice a' n.length c') n) := HN
  clear HN
  go_enter Try.func5, Try.ntmps5
  go_wp2_with fail
  go_loopw [9, 42] (fun u i wr => ∃ j p : Nat, j ≤ q ∧ p ≤ j ∧ i = .int .i64 (j : Int) ∧ wr.ownsRow w.heap.size 47 3 u p (flK (fuL (l.take j))) ∧ Hid (p = (fuL (l.take j)).length) ∧ Below w.heap.size w wr) (fun _ i _ => q - (intOf i).toNat)
  case atStart => exact ⟨0, 0, by omega, by omega, rfl, own0, rfl, Below.refl _ _⟩
  case round =>
    clear own0
    obtain ⟨j, p, hj, hp, rfl, hown, hM, hB⟩ := hrel
    obtain ⟨ao, cv, rfl⟩ := own_frm hown
    have j0 : (0 : Int) ≤ (j : Int) := by omega
    by_cases hlt : j < q
    · have j1 : (j : Int) < (q : Int) := by omega
      clear CW1 CRa CS1 C2 CW2 HWR HWZ HAZ CP3 CT2 CI CA HNw HLt
      obtain ⟨x, hx⟩ : ∃ m, l[j]? = some m := ⟨_, List.getElem?_eq_getElem (by rw [HQ.out]; exact hlt)⟩
      obtain ⟨g1, q1, e1, lt1, r1⟩ := F.out j x hx
      subst e1
      obtain ⟨x0, x1, x2⟩ := r1.to lt1 hB
      have HU := fuL_take l j x hx
      by_cases hk : x.k = 0
      · rw [if_pos hk] at HU
        have HU' : Hid (fuL (l.take (j + 1)) = fuL (l.take j)) := HU
        have HR : Hid (wr.ownsRow w.heap.size 47 3 (.slice ao p cv) p (flK (fuL (l.take j)))) := hown
        rw [hk] at x1
        have hsz := hB.size
        clear HU hx hown r1 hk
        go_wp2_with fail
        refine ⟨⟨j + 1, p, by omega, by omega, by first | rfl | (congr 1; omega) | simp, by rw [HU'.out]; exact World.ownsRow.alloc HR.out _, by show _ = _; rw [HU'.out]; exact hM.out, Bel.al hB _⟩, ?_⟩
        simp [intOf]; omega
      · rw [if_neg hk] at HU
        have HU' : Hid (fuL (l.take (j + 1)) = fuL (l.take j) ++ [x]) := HU
        have hk2 : (x.k == 0) = false := by simpa using hk
        have HR : Hid ((wr.alloc (.cells #[.bool x.c, .int .i64 x.k, .string x.s] 47)).ownsRow w.heap.size 47 3 (.slice ao p cv) p (flK (fuL (l.take j)))) := World.ownsRow.alloc hown _
        have A1 := Arr.new wr #[Value.bool x.c, .int .i64 x.k, .string x.s] 47 _ rfl _ 3 (keC_at x)
        have B1 := Bel.al hB (.cells #[.bool x.c, .int .i64 x.k, .string x.s] 47)
        clear HU hx r1 hk hown
        go_upto_region 8 with fail
        generalize wr.alloc (.cells #[.bool x.c, .int .i64 x.k, .string x.s] 47) = W at *
        have c0 := A1.cv 0 (by omega) (.bool x.c) rfl
        have c1 := A1.cv 1 (by omega) (.int .i64 x.k) rfl
        have c2 := A1.cv 2 (by omega) (.string x.s) rfl
        have kb : p + 1 ≤ maxLen := by unfold maxLen; omega
        have kb2 : (p + 1) * 32 ≤ 140737488355328 := by omega
        have hsz := B1.size
        have sb : ∀ ob, w.heap.size ≤ (W.alloc ob).heap.size := fun ob => by simp; omega
        clear x0 x1 x2 A1 hB
        go_wp2_with (at_builtin; refine stopAt ?_)
        unfold Stop
        refine wpList_append_own _ rfl _ _ 22 rfl w.heap.size 47 i0 (.agg #[.bool false, .int .i64 0, .string ⟨#[]⟩]) 3 32 Try.underlying22 hi hz0 hz1 hz2 rfl (by decide) _ _ _ rfl (World.ownsRow.alloc HR.out _) ⟨W.heap.size, 0, none⟩ 1 1 [.bool x.c, .int .i64 x.k, .string x.s] rfl rfl (news_new W [.bool x.c, .int .i64 x.k, .string x.s] 47) (fun u hu => by simp at hu; rcases hu with rfl | rfl | rfl <;> rfl) kb kb2 (sb _) ?_
        intro v' w3 hown' hgrow3 hnil3
        have b3 : Below w.heap.size w w3 := (B1.alloc B1.size _).grown hgrow3 (by go_size) (fun q hq => (HR.out.lt q hq).1)
        have HO' : Hid (w3.ownsRow w.heap.size 47 3 v' (p + 1) (flK (fuL (l.take (j + 1))))) := by
          show World.ownsRow _ _ _ _ _ _ _
          rw [HU'.out, flK_app]
          exact hown'
        have HM' : Hid (p + 1 = (fuL (l.take (j + 1))).length) := by
          show _ = _
          rw [HU'.out, List.length_append, ← hM.out]; rfl
        clear hnil3 hgrow3 hown' HU' HR c0 c1 c2
        go_wp2_with fail
        refine ⟨⟨j + 1, p + 1, by omega, by omega, by first | rfl | (congr 1; omega) | simp, HO'.out, HM', b3⟩, ?_⟩
        simp [intOf]; omega
    · have ej : j = q := by omega
      subst ej
      have hM2 := hM.out
      rw [HLt.out] at hown hM2
      have HR : Hid (wr.ownsRow w.heap.size 47 3 (.slice ao p cv) p (flK (fuL l))) := hown
      have HM : Hid (p = (fuL l).length) := hM2
      have kb : p + 1 ≤ maxLen := by unfold maxLen; omega
      have kb2 : (p + 1) * 32 ≤ 140737488355328 := by omega
      have hsz := hB.size
      have sb : ∀ ob, w.heap.size ≤ (wr.alloc ob).heap.size := fun ob => by simp; omega
      clear hown hM2 hM HLt F HQ
      go_wp2_with (at_builtin; refine stopAt ?_)
      unfold Stop
      refine wpList_append_own _ rfl _ _ 22 rfl w.heap.size 47 i0 (.agg #[.bool false, .int .i64 0, .string ⟨#[]⟩]) 3 32 Try.underlying22 hi hz0 hz1 hz2 rfl (by decide) _ _ _ rfl (World.ownsRow.alloc HR.out _) ⟨wr.heap.size, 0, none⟩ 1 1 [.bool true, .int .i64 0, .string ⟨#[]⟩] rfl rfl (news_new wr [.bool true, .int .i64 0, .string ⟨#[]⟩] 47) (fun u hu => by simp at hu; rcases hu with rfl | rfl | rfl <;> rfl) kb kb2 (sb _) ?_
      intro v' w3 hown' hgrow3 hnil3
      have B3 : Below w.heap.size w w3 := (hB.alloc hB.size _).grown hgrow3 (by go_size) (fun q hq => (HR.out.lt q hq).1)
      have K3 : Kls w3 v' (fuL l ++ [enK]) := Kls.own (b := w.heap.size) (by
        rw [List.length_append, List.length_singleton, ← HM.out, flK_app]
        exact hown')
      have N3 : Nls w3 (.slice a' n.length c') n := HNw.out.to B3
      clear hnil3 hgrow3 hown' HR hB HM HNw
      generalize fuL l ++ [enK] = T1 at *
      obtain ⟨a3, c3, rfl⟩ : ∃ a c, v' = .slice a T1.length c := by obtain ⟨a, c, e, _⟩ := K3; exact ⟨a, c, e⟩
      go_wp2_with fail
      refine (CW1 _ _ K3).mono ?_
      rintro e w4 ⟨rfl, b4⟩
      have K4 := K3.to b4
      have N4 := N3.to b4
      have B4 := Bel.call B3 b4
      clear b4 B3 N3 K3 CW1
      by_cases hE1 : E1 = 0
      · subst hE1
        have CRa' := CRa rfl
        have z0 := HAZ.out rfl
        clear CRa HAZ
        generalize wrS T1 = S1 at *
        go_wp2_with fail
        refine (CRa' _).mono ?_
        rintro e w5 ⟨⟨v5, rfl, k5⟩, b5⟩
        have K5 := K4.to b5
        have N5 := N4.to b5
        have B5 := Bel.call B4 b5
        clear b5 B4 N4 K4 CRa'
        obtain ⟨a5, c5, rfl⟩ : ∃ a c, v5 = .slice a T1.length c := by obtain ⟨a, c, e, _⟩ := k5; exact ⟨a, c, e⟩
        go_wp2_with fail
        refine (CS1 _ _ _ k5 K5).mono ?_
        rintro e w6 ⟨rfl, b6⟩
        have N6 := N5.to b6
        have B6 := Bel.call B5 b6
        clear b6 B5 N5 k5 K5 CS1
        go_wp2_with fail
        refine (C2 _).mono ?_
        rintro e wa ⟨⟨va, rfl, ka⟩, ba⟩
        have Na := N6.to ba
        have Ba := Bel.call B6 ba
        clear ba B6 N6 C2
        by_cases hE2 : E2 = 0
        · subst hE2
          have CW2' := CW2 rfl
          have HW : Hid (wrS (rdL s) ++ rdR s = s) := HWR.out rfl
          obtain ⟨z1, z2⟩ := HWZ.out rfl
          clear CW2 HWR HWZ
          generalize wrS (rdL s) = P at *
          generalize rdR s = R at *
          generalize rdL s = T2 at *
          obtain ⟨aa, ca, rfl⟩ : ∃ a c, va = .slice a T2.length c := by obtain ⟨a, c, e, _⟩ := ka; exact ⟨a, c, e⟩
          go_wp2_with fail
          refine (CW2' _ _ ka).mono ?_
          rintro e wb ⟨rfl, bb⟩
          have Nb := Na.to bb
          have Bb := Bel.call Ba bb
          clear bb Ba Na ka CW2'
          have HT : ((P ++ R).toList == s.toList) = true := by rw [HW.out]; exact beq_self_eq_true _
          clear HW
          go_wp2_with fail
          refine (CP3 _ Nb).mono ?_
          rintro e wc ⟨rfl, bc⟩
          have Nc := Nb.to bc
          have Bc := Bel.call Bb bc
          clear bc Bb Nb CP3
          by_cases hE3 : E3 = 0
          · subst hE3
            have CT2' := CT2 rfl
            clear CT2
            go_wp2_with fail
            refine (CT2' _).mono ?_
            rintro e wd ⟨⟨vd, rfl, kd⟩, bd⟩
            have Nd := Nc.to bd
            have Bd := Bel.call Bc bd
            clear bd Bc Nc CT2'
            go_wp2_with fail
            refine (CI _ _ _ kd Nd).mono ?_
            rintro e we ⟨rfl, be⟩
            have Be := Bel.call Bd be
            clear be Bd kd Nd CI
            go_wp2_with fail
            refine (CA _).mono ?_
            rintro e wf ⟨rfl, bf⟩
            have Bf := Bel.call Be bf
            clear bf Be CA
            go_wp2_with fail
            go_ret
            exact ⟨rfl, Bf⟩
          · have hE3' : (E3 == 0) = false := by simpa using hE3
            clear CT2 hE3 CI Nc
            go_wp2_with fail
            refine (CA _).mono ?_
            rintro e wf ⟨rfl, bf⟩
            have Bf := Bel.call Bc bf
            clear bf Bc CA
            go_wp2_with fail
            go_ret
            exact ⟨rfl, Bf⟩
        · have hE2' : (E2 == 0) = false := by simpa using hE2
          clear CW2 HWR HWZ hE2
          generalize rdR s = R at *
          generalize rdL s = T2 at *
          obtain ⟨aa, ca, rfl⟩ : ∃ a c, va = .slice a T2.length c := by obtain ⟨a, c, e, _⟩ := ka; exact ⟨a, c, e⟩
          clear ka
          go_wp2_with fail
          refine (CP3 _ Na).mono ?_
          rintro e wc ⟨rfl, bc⟩
          have Nc := Na.to bc
          have Bc := Bel.call Ba bc
          clear bc Ba Na CP3
          by_cases hE3 : E3 = 0
          · subst hE3
            have CT2' := CT2 rfl
            clear CT2
            go_wp2_with fail
            refine (CT2' _).mono ?_
            rintro e wd ⟨⟨vd, rfl, kd⟩, bd⟩
            have Nd := Nc.to bd
            have Bd := Bel.call Bc bd
            clear bd Bc Nc CT2'
            go_wp2_with fail
            refine (CI _ _ _ kd Nd).mono ?_
            rintro e we ⟨rfl, be⟩
            have Be := Bel.call Bd be
            clear be Bd kd Nd CI
            go_wp2_with fail
            refine (CA _).mono ?_
            rintro e wf ⟨rfl, bf⟩
            have Bf := Bel.call Be bf
            clear bf Be CA
            go_wp2_with fail
            go_ret
            exact ⟨rfl, Bf⟩
          · have hE3' : (E3 == 0) = false := by simpa using hE3
            clear CT2 hE3 CI Nc
            go_wp2_with fail
            refine (CA _).mono ?_
            rintro e wf ⟨rfl, bf⟩
            have Bf := Bel.call Bc bf
            clear bf Bc CA
            go_wp2_with fail
            go_ret
            exact ⟨rfl, Bf⟩
      · have hE1' : (E1 == 0) = false := by simpa using hE1
        clear CRa HAZ hE1 CS1
        generalize wrS T1 = S1 at *
        go_wp2_with fail
        refine (C2 _).mono ?_
        rintro e wa ⟨⟨va, rfl, ka⟩, ba⟩
        have Na := N4.to ba
        have Ba := Bel.call B4 ba
        clear ba B4 N4 C2
        by_cases hE2 : E2 = 0
        · subst hE2
          have CW2' := CW2 rfl
          have HW : Hid (wrS (rdL s) ++ rdR s = s) := HWR.out rfl
          obtain ⟨z1, z2⟩ := HWZ.out rfl
          clear CW2 HWR HWZ
          generalize wrS (rdL s) = P at *
          generalize rdR s = R at *
          generalize rdL s = T2 at *
          obtain ⟨aa, ca, rfl⟩ : ∃ a c, va = .slice a T2.length c := by obtain ⟨a, c, e, _⟩ := ka; exact ⟨a, c, e⟩
          go_wp2_with fail
          refine (CW2' _ _ ka).mono ?_
          rintro e wb ⟨rfl, bb⟩
          have Nb := Na.to bb
          have Bb := Bel.call Ba bb
          clear bb Ba Na ka CW2'
          have HT : ((P ++ R).toList == s.toList) = true := by rw [HW.out]; exact beq_self_eq_true _
          clear HW
          go_wp2_with fail
          refine (CP3 _ Nb).mono ?_
          rintro e wc ⟨rfl, bc⟩
          have Nc := Nb.to bc
          have Bc := Bel.call Bb bc
          clear bc Bb Nb CP3
          by_cases hE3 : E3 = 0
          · subst hE3
            have CT2' := CT2 rfl
            clear CT2
            go_wp2_with fail
            refine (CT2' _).mono ?_
            rintro e wd ⟨⟨vd, rfl, kd⟩, bd⟩
            have Nd := Nc.to bd
            have Bd := Bel.call Bc bd
            clear bd Bc Nc CT2'
            go_wp2_with fail
            refine (CI _ _ _ kd Nd).mono ?_
            rintro e we ⟨rfl, be⟩
            have Be := Bel.call Bd be
            clear be Bd kd Nd CI
            go_wp2_with fail
            refine (CA _).mono ?_
            rintro e wf ⟨rfl, bf⟩
            have Bf := Bel.call Be bf
            clear bf Be CA
            go_wp2_with fail
            go_ret
            exact ⟨rfl, Bf⟩
          · have hE3' : (E3 == 0) = false := by simpa using hE3
            clear CT2 hE3 CI Nc
            go_wp2_with fail
            refine (CA _).mono ?_
            rintro e wf ⟨rfl, bf⟩
            have Bf := Bel.call Bc bf
            clear bf Bc CA
            go_wp2_with fail
            go_ret
            exact ⟨rfl, Bf⟩
        · have hE2' : (E2 == 0) = false := by simpa using hE2
          clear CW2 HWR HWZ hE2
          generalize rdR s = R at *
          generalize rdL s = T2 at *
          obtain ⟨aa, ca, rfl⟩ : ∃ a c, va = .slice a T2.length c := by obtain ⟨a, c, e, _⟩ := ka; exact ⟨a, c, e⟩
          clear ka
          go_wp2_with fail
          refine (CP3 _ Na).mono ?_
          rintro e wc ⟨rfl, bc⟩
          have Nc := Na.to bc
          have Bc := Bel.call Ba bc
          clear bc Ba Na CP3
          by_cases hE3 : E3 = 0
          · subst hE3
            have CT2' := CT2 rfl
            clear CT2
            go_wp2_with fail
            refine (CT2' _).mono ?_
            rintro e wd ⟨⟨vd, rfl, kd⟩, bd⟩
            have Nd := Nc.to bd
            have Bd := Bel.call Bc bd
            clear bd Bc Nc CT2'
            go_wp2_with fail
            refine (CI _ _ _ kd Nd).mono ?_
            rintro e we ⟨rfl, be⟩
            have Be := Bel.call Bd be
            clear be Bd kd Nd CI
            go_wp2_with fail
            refine (CA _).mono ?_
            rintro e wf ⟨rfl, bf⟩
            have Bf := Bel.call Be bf
            clear bf Be CA
            go_wp2_with fail
            go_ret
            exact ⟨rfl, Bf⟩
          · have hE3' : (E3 == 0) = false := by simpa using hE3
            clear CT2 hE3 CI Nc
            go_wp2_with fail
            refine (CA _).mono ?_
            rintro e wf ⟨rfl, bf⟩
            have Bf := Bel.call Bc bf
            clear bf Bc CA
            go_wp2_with fail
            go_ret
            exact ⟨rfl, Bf⟩
end Go.Proofs.Ytndfcecimckioaa
