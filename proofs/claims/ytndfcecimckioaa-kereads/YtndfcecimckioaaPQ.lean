/- The program: Find, Unknown. -/
import Derived.Test.YtndfcecimckioaaPT
set_option linter.all false
set_option maxRecDepth 100000
namespace Go.Proofs.Ytndfcecimckioaa
open Go.RowKit Go.Shelf Go.Sort
set_option maxHeartbeats 4000000 in
theorem tF : CFd := by
  intro l kd v w H h9
  obtain ⟨a, c, rfl, f⟩ := H
  obtain ⟨i0, hi, hz0, hz1, hz2⟩ := info_parts Try.infoK
  obtain ⟨n, hn⟩ : ∃ n, l.length = n := ⟨_, rfl⟩
  have HN : Hid (l.length = n) := hn
  have n0 : (n : Int) ≤ 100000 := by omega
  have F : Hid (∀ (i : Nat) (x : Ke), l[i]? = some x → ∃ g o, a = some ⟨g, o, none⟩ ∧ g < w.heap.size ∧ C3 w g (o + i * 3) x) := f
  have own0 : w.ownsRow w.heap.size 47 3 (.slice none 0 0) 0 (flK (fdL (l.take 0) kd)) := ⟨rfl, .inl ⟨rfl, rfl⟩⟩
  rw [hn] at h9 ⊢
  clear f hn
  go_enter Try.func18, Try.ntmps18
  go_wp2_with fail
  go_loopw [5, 10] (fun u i wr => ∃ j m : Nat, j ≤ n ∧ m ≤ j ∧ i = .int .i64 (j : Int) ∧ wr.ownsRow w.heap.size 47 3 u m (flK (fdL (l.take j) kd)) ∧ Hid (m = (fdL (l.take j) kd).length) ∧ Below w.heap.size w wr) (fun _ i _ => n - (intOf i).toNat)
  case atStart => exact ⟨0, 0, by omega, by omega, rfl, own0, rfl, Below.refl _ _⟩
  case round =>
    clear own0
    obtain ⟨j, m, hj, hm, rfl, hown, hM, hB⟩ := hrel
    obtain ⟨ao, cv, rfl⟩ := own_frm hown
    have j0 : (0 : Int) ≤ (j : Int) := by omega
    by_cases hlt : j < n
    · have j1 : (j : Int) < (n : Int) := by omega
      obtain ⟨x, hx⟩ : ∃ m, l[j]? = some m := ⟨_, List.getElem?_eq_getElem (by rw [HN.out]; exact hlt)⟩
      obtain ⟨g1, q1, e1, lt1, r1⟩ := F.out j x hx
      subst e1
      obtain ⟨x0, x1, x2⟩ := r1.to lt1 hB
      have HU := fdL_take l kd j x hx
      have A1 := Arr.new wr #[Value.bool x.c, .int .i64 x.k, .string x.s] 47 _ rfl _ 3 (keC_at x)
      have B1 := Bel.al hB (.cells #[.bool x.c, .int .i64 x.k, .string x.s] 47)
      have hsz := hB.size
      by_cases hk : x.k = kd
      · rw [if_pos hk] at HU
        have HU' : Hid (fdL (l.take (j + 1)) kd = fdL (l.take j) kd ++ [x]) := HU
        have HR : Hid ((wr.alloc (.cells #[.bool x.c, .int .i64 x.k, .string x.s] 47)).ownsRow w.heap.size 47 3 (.slice ao m cv) m (flK (fdL (l.take j) kd))) := World.ownsRow.alloc hown _
        have kb : m + 1 ≤ maxLen := by unfold maxLen; omega
        have kb2 : (m + 1) * 32 ≤ 140737488355328 := by omega
        have HX : Hid (x.k = kd) := hk
        clear HU hx hown r1 hk
        rw [HX.out] at x1 A1 B1 HR
        go_upto_region 6 with (fail)
        generalize wr.alloc (.cells #[.bool x.c, .int .i64 kd, .string x.s] 47) = W4 at *
        have c0 := A1.cv 0 (by omega) (.bool x.c) rfl
        have c1 := A1.cv 1 (by omega) (.int .i64 kd) rfl
        have c2 := A1.cv 2 (by omega) (.string x.s) rfl
        have s4 := B1.size
        have sb : ∀ ob, w.heap.size ≤ (W4.alloc ob).heap.size := fun ob => by simp; omega
        clear A1 x0 x1 x2
        go_wp2_with (at_builtin; refine stopAt ?_)
        unfold Stop
        refine wpList_append_own _ rfl _ _ 22 rfl w.heap.size 47 i0 (.agg #[.bool false, .int .i64 0, .string ⟨#[]⟩]) 3 32 Try.underlying22 hi hz0 hz1 hz2 rfl (by decide) _ _ _ rfl (World.ownsRow.alloc HR.out _) ⟨W4.heap.size, 0, none⟩ 1 1 [.bool x.c, .int .i64 kd, .string x.s] rfl rfl (news_new W4 [.bool x.c, .int .i64 kd, .string x.s] 47) (fun u hu => by simp at hu; rcases hu with rfl | rfl | rfl <;> rfl) kb kb2 (sb _) ?_
        intro v' w3 hown' hgrow3 hnil3
        have b3 : Below w.heap.size w w3 := (B1.alloc B1.size _).grown hgrow3 (by go_size) (fun q hq => (HR.out.lt q hq).1)
        have HO' : Hid (w3.ownsRow w.heap.size 47 3 v' (m + 1) (flK (fdL (l.take (j + 1)) kd))) := by
          show World.ownsRow _ _ _ _ _ _ _
          rw [HU'.out, flK_app]
          show World.ownsRow _ _ _ _ _ _ (_ ++ [.bool x.c, .int .i64 x.k, .string x.s])
          rw [HX.out]
          exact hown'
        have HM' : Hid (m + 1 = (fdL (l.take (j + 1)) kd).length) := by
          show _ = _
          rw [HU'.out, List.length_append, ← hM.out]; rfl
        clear hnil3 hgrow3 hown' HU' HR
        go_wp2_with fail
        refine ⟨⟨j + 1, m + 1, by omega, by omega, by first | rfl | (congr 1; omega) | simp, HO'.out, HM', b3⟩, ?_⟩
        simp [intOf]; omega
      · rw [if_neg hk] at HU
        have HU' : Hid (fdL (l.take (j + 1)) kd = fdL (l.take j) kd) := HU
        have HR : Hid ((wr.alloc (.cells #[.bool x.c, .int .i64 x.k, .string x.s] 47)).ownsRow w.heap.size 47 3 (.slice ao m cv) m (flK (fdL (l.take j) kd))) := World.ownsRow.alloc hown _
        have hk2 : (x.k == kd) = false := by simpa using hk
        clear HU hx hown r1 hk A1
        generalize x.k = y at *
        go_wp2_with fail
        refine ⟨⟨j + 1, m, by omega, by omega, by first | rfl | (congr 1; omega) | simp, by rw [HU'.out]; exact HR.out, by show _ = _; rw [HU'.out]; exact hM.out, B1⟩, ?_⟩
        simp [intOf]; omega
    · have ej : j = n := by omega
      subst ej
      have HT : l.take j = l := List.take_of_length_le (by rw [HN.out]; omega)
      have HK : Hid (Kls wr (.slice ao m cv) (fdL l kd)) := by
        refine Kls.own (b := w.heap.size) ?_
        have := hM.out
        rw [HT] at this hown
        rw [← this]
        exact hown
      clear hown HT hM HN F
      go_wp2_with fail
      go_ret
      exact ⟨⟨_, rfl, HK.out⟩, hB⟩
theorem known_any (k : Int) (w : World) : Calls Try.prog 31 #[.int .i64 k] w fun e w' => e = .returned (.bool (!(decide (k < 0) || decide (8 ≤ k)))) ∧ Below w.heap.size w w' := by
  by_cases h0 : k < 0
  · rw [decide_eq_true h0]
    go_enter Try.func31, Try.ntmps31
    go_wp2
    go_ret
    exact ⟨rfl, Below.refl _ _⟩
  · by_cases h8 : 8 ≤ k
    · rw [decide_eq_false h0, decide_eq_true h8]
      go_enter Try.func31, Try.ntmps31
      go_wp2
      go_ret
      refine ⟨?_, Below.refl _ _⟩
      show Ending.returned (Value.bool (decide (k < 8))) = _
      rw [decide_eq_false (by omega)]
    · rw [decide_eq_false h0, decide_eq_false h8]
      go_enter Try.func31, Try.ntmps31
      go_wp2
      go_ret
      exact ⟨rfl, Below.refl _ _⟩
set_option maxHeartbeats 4000000 in
theorem tU : CUn := by
  intro l v w H h9
  obtain ⟨a, c, rfl, f⟩ := H
  obtain ⟨n, hn⟩ : ∃ n, l.length = n := ⟨_, rfl⟩
  have HN : Hid (l.length = n) := hn
  have n0 : (n : Int) ≤ 100000 := by omega
  have F : Hid (∀ (i : Nat) (x : Ke), l[i]? = some x → ∃ g o, a = some ⟨g, o, none⟩ ∧ g < w.heap.size ∧ C3 w g (o + i * 3) x) := f
  have HA : Hid (∀ (j : Nat) (x : Ke), l[j]? = some x → (∀ q ∈ l.take j, unB q = false) → unB x = true → unI l 0 = (j : Int)) := fun j x hx hq hu => by
    have hs := split_at' l j x hx
    have hlen : (l.take j).length = j := by rw [List.length_take]; have := (List.getElem?_eq_some_iff.1 hx).1; omega
    rw [hs, unI_at _ _ _ hq, if_pos hu, hlen, Nat.zero_add]
  have HE : Hid ((∀ q ∈ l, unB q = false) → unI l 0 = -1) := fun h => unI_none l h 0
  rw [hn] at h9 ⊢
  clear f hn
  generalize unI l 0 = U at *
  go_enter Try.func20, Try.ntmps20
  go_wp2_with fail
  go_loopw [7] (fun i wr => ∃ j : Nat, j ≤ n ∧ i = .int .i64 (j : Int) ∧ Hid (∀ q ∈ l.take j, unB q = false) ∧ Below w.heap.size w wr) (fun i _ => n - (intOf i).toNat)
  case atStart => exact ⟨0, by omega, rfl, (fun q hq => by cases hq), Below.refl _ _⟩
  case round =>
    obtain ⟨j, hj, rfl, hA, hB⟩ := hrel
    have j0 : (0 : Int) ≤ (j : Int) := by omega
    by_cases hlt : j < n
    · have j1 : (j : Int) < (n : Int) := by omega
      obtain ⟨x, hx⟩ : ∃ m, l[j]? = some m := ⟨_, List.getElem?_eq_getElem (by rw [HN.out]; exact hlt)⟩
      obtain ⟨g1, q1, e1, lt1, r1⟩ := F.out j x hx
      subst e1
      obtain ⟨x0, x1, x2⟩ := r1.to lt1 hB
      have HY : Hid (unB x = true → U = (j : Int)) := HA.out j x hx hA.out
      have HZ : Hid (unB x = false → ∀ q ∈ l.take (j + 1), unB q = false) := fun hu q hq => by
        rw [take_snoc' l j x hx] at hq
        rcases List.mem_append.1 hq with hq | hq
        · exact hA.out q hq
        · rw [List.mem_singleton.1 hq]; exact hu
      have B1 := Bel.al hB (.cells #[.bool x.c, .int .i64 x.k, .string x.s] 47)
      clear hx r1 HA HE hA F HN
      obtain ⟨xc, xk, xs⟩ := x
      simp only at x0 x1 x2 B1
      cases xc
      · have HQ : Hid (∀ q ∈ l.take (j + 1), unB q = false) := HZ.out (unB_0 rfl)
        clear HY HZ
        go_wp2_with fail
        refine ⟨⟨j + 1, by omega, by first | rfl | (congr 1; omega) | simp, HQ, B1⟩, ?_⟩
        simp [intOf]; omega
      · obtain ⟨u, hu⟩ : ∃ u, unB ⟨true, xk, xs⟩ = u := ⟨_, rfl⟩
        have CK := fun W => known_any xk W
        rw [show (decide (xk < 0) || decide (8 ≤ xk)) = u from by rw [← hu]; rfl] at CK
        rw [hu] at HY HZ
        clear hu
        cases u
        · have HQ : Hid (∀ q ∈ l.take (j + 1), unB q = false) := HZ.out rfl
          clear HY HZ
          go_wp2_with fail
          refine (CK _).mono ?_
          rintro e w5 ⟨rfl, hb⟩
          have B5 := Bel.call B1 hb
          clear hb B1 hB CK x0 x1 x2
          go_wp2_with fail
          refine ⟨⟨j + 1, by omega, by first | rfl | (congr 1; omega) | simp, HQ, B5⟩, ?_⟩
          simp [intOf]; omega
        · have HQ : Hid (U = (j : Int)) := HY.out rfl
          clear HY HZ
          go_wp2_with fail
          refine (CK _).mono ?_
          rintro e w5 ⟨rfl, hb⟩
          have B5 := Bel.call B1 hb
          clear hb B1 hB CK x0 x1 x2
          go_wp2_with fail
          go_ret
          exact ⟨by rw [HQ.out]; rfl, B5⟩
    · have ej : j = n := by omega
      subst ej
      have HT : l.take j = l := List.take_of_length_le (by rw [HN.out]; omega)
      have HQ : Hid (U = -1) := HE.out (by rw [← HT]; exact hA.out)
      clear HT hA HN F HA HE
      go_wp2_with fail
      go_ret
      exact ⟨by rw [HQ.out]; rfl, hB⟩
end Go.Proofs.Ytndfcecimckioaa
