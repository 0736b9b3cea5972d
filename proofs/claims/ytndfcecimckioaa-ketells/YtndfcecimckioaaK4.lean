/- The reference: Find, Unknown. -/
import Derived.Test.YtndfcecimckioaaK3
set_option linter.all false
set_option maxRecDepth 100000
namespace Go.Proofs.Ytndfcecimckioaa
open Go.RowKit Go.Shelf Go.Sort Go.Lib
/-- Those of a kind among the first. -/
theorem fdL_take (l : List Ke) (k : Int) (j : Nat) (r : Ke) (h : l[j]? = some r) : fdL (l.take (j + 1)) k = if r.k = k then fdL (l.take j) k ++ [r] else fdL (l.take j) k := by
  rw [take_snoc' l j r h]
  unfold fdL
  rw [List.filter_append]
  by_cases hk : r.k = k
  · rw [if_pos hk]
    simp [hk]
  · rw [if_neg hk]
    simp [hk]
theorem fdL_len (l : List Ke) (k : Int) : (fdL l k).length ≤ l.length := List.length_filter_le _ _
theorem flK_len (l : List Ke) : (flK l).length = 3 * l.length := by
  induction l with
  | nil => rfl
  | cons r l ih => show (flK l).length + 1 + 1 + 1 = _; rw [ih, List.length_cons]; omega
set_option maxHeartbeats 4000000 in
theorem rFind_any (l : List Ke) (kd : Int) (v : Value) (w : World) (H : Kls w v l) (h9 : l.length ≤ 100000) :
    Calls Try.prog 19 #[v, .int .i64 kd] w fun e w' => (∃ v', e = .returned v' ∧ Kls w' v' (fdL l kd)) ∧ Below w.heap.size w w' := by
  obtain ⟨a, c, rfl, f⟩ := H
  obtain ⟨i0, hi, hz0, hz1, hz2⟩ := info_parts Try.infoK
  obtain ⟨n, hn⟩ : ∃ n, l.length = n := ⟨_, rfl⟩
  have HN : Hid (l.length = n) := hn
  have n0 : (n : Int) ≤ 100000 := by omega
  have F : Hid (∀ (i : Nat) (x : Ke), l[i]? = some x → ∃ g o, a = some ⟨g, o, none⟩ ∧ g < w.heap.size ∧ C3 w g (o + i * 3) x) := f
  have own0 : w.ownsRow w.heap.size 47 3 (.slice none 0 0) 0 (flK (fdL (l.take 0) kd)) := ⟨rfl, .inl ⟨rfl, rfl⟩⟩
  rw [hn] at h9 ⊢
  clear f hn
  go_enter Try.func19, Try.ntmps19
  go_wp2_with fail
  go_loopw [5, 6] (fun u i wr => ∃ j m : Nat, j ≤ n ∧ m ≤ j ∧ i = .int .i64 (j : Int) ∧ wr.ownsRow w.heap.size 47 3 u m (flK (fdL (l.take j) kd)) ∧ Hid (m = (fdL (l.take j) kd).length) ∧ Below w.heap.size w wr) (fun _ i _ => n - (intOf i).toNat)
  case atStart => exact ⟨0, 0, by omega, by omega, rfl, own0, rfl, Below.refl _ _⟩
  case round =>
    clear own0
    obtain ⟨j, m, hj, hm, rfl, hown, hM, hB⟩ := hrel
    obtain ⟨ao, cv, rfl⟩ := own_frm hown
    have j0 : (0 : Int) ≤ (j : Int) := by omega
    by_cases hlt : j < n
    · have j1 : (j : Int) < (n : Int) := by omega
      obtain ⟨x, hx⟩ : ∃ m, l[j]? = some m := ⟨_, List.getElem?_eq_getElem (by rw [HN.out]; exact hlt)⟩
      obtain ⟨g1, q1, e1, lt1, r1⟩ := F.out j x hx
      subst e1
      obtain ⟨x0, x1, x2⟩ := r1.to lt1 hB
      have HU := fdL_take l kd j x hx
      by_cases hk : x.k = kd
      · rw [if_pos hk] at HU
        have HU' : Hid (fdL (l.take (j + 1)) kd = fdL (l.take j) kd ++ [x]) := HU
        have HR : Hid (wr.ownsRow w.heap.size 47 3 (.slice ao m cv) m (flK (fdL (l.take j) kd))) := hown
        have kb : m + 1 ≤ maxLen := by unfold maxLen; omega
        have kb2 : (m + 1) * 32 ≤ 140737488355328 := by omega
        have hsz := hB.size
        have sb : ∀ ob, w.heap.size ≤ (wr.alloc ob).heap.size := fun ob => by simp; omega
        have HX : Hid (x.k = kd) := hk
        clear HU hx hown r1 hk
        rw [HX.out] at x1
        go_wp2_with (at_builtin; refine stopAt ?_)
        unfold Stop
        refine wpList_append_own _ rfl _ _ 22 rfl w.heap.size 47 i0 (.agg #[.bool false, .int .i64 0, .string ⟨#[]⟩]) 3 32 Try.underlying22 hi hz0 hz1 hz2 rfl (by decide) _ _ _ rfl (World.ownsRow.alloc HR.out _) ⟨wr.heap.size, 0, none⟩ 1 1 [.bool x.c, .int .i64 kd, .string x.s] rfl rfl (news_new wr [.bool x.c, .int .i64 kd, .string x.s] 47) (fun u hu => by simp at hu; rcases hu with rfl | rfl | rfl <;> rfl) kb kb2 (sb _) ?_
        intro v' w3 hown' hgrow3 hnil3
        have b3 : Below w.heap.size w w3 := (hB.alloc hB.size _).grown hgrow3 (by go_size) (fun q hq => (HR.out.lt q hq).1)
        have HO' : Hid (w3.ownsRow w.heap.size 47 3 v' (m + 1) (flK (fdL (l.take (j + 1)) kd))) := by
          show World.ownsRow _ _ _ _ _ _ _
          rw [HU'.out, flK_app]
          show World.ownsRow _ _ _ _ _ _ (_ ++ [.bool x.c, .int .i64 x.k, .string x.s])
          rw [HX.out]
          exact hown'
        have HM' : Hid (m + 1 = (fdL (l.take (j + 1)) kd).length) := by
          show _ = _
          rw [HU'.out, List.length_append, ← hM.out]; rfl
        clear hnil3 hgrow3 hown' HU' HR
        go_wp2_with fail
        refine ⟨⟨j + 1, m + 1, by omega, by omega, by first | rfl | (congr 1; omega) | simp, HO'.out, HM', b3⟩, ?_⟩
        simp [intOf]; omega
      · rw [if_neg hk] at HU
        have HU' : Hid (fdL (l.take (j + 1)) kd = fdL (l.take j) kd) := HU
        have HR : Hid (wr.ownsRow w.heap.size 47 3 (.slice ao m cv) m (flK (fdL (l.take j) kd))) := hown
        have hk2 : (x.k == kd) = false := by simpa using hk
        clear HU hx hown r1 hk
        generalize x.k = y at *
        go_wp2_with fail
        refine ⟨⟨j + 1, m, by omega, by omega, by first | rfl | (congr 1; omega) | simp, by rw [HU'.out]; exact HR.out, by show _ = _; rw [HU'.out]; exact hM.out, hB⟩, ?_⟩
        simp [intOf]; omega
    · have ej : j = n := by omega
      subst ej
      have HT : l.take j = l := List.take_of_length_le (by rw [HN.out]; omega)
      have HK : Hid (Kls wr (.slice ao m cv) (fdL l kd)) := by
        refine Kls.own (b := w.heap.size) ?_
        have := hM.out
        rw [HT] at this hown
        rw [← this]
        exact hown
      clear hown HT hM HN F
      go_wp2_with fail
      go_ret
      exact ⟨⟨_, rfl, HK.out⟩, hB⟩
theorem unB_0 {r : Ke} (h : r.c = false) : unB r = false := by unfold unB; rw [h]; rfl
set_option maxHeartbeats 4000000 in
theorem rUnknown_any (l : List Ke) (v : Value) (w : World) (H : Kls w v l) (h9 : l.length ≤ 9223372036854775807) :
    Calls Try.prog 21 #[v] w fun e w' => e = .returned (.int .i64 (unI l 0)) ∧ Below w.heap.size w w' := by
  obtain ⟨a, c, rfl, f⟩ := H
  obtain ⟨n, hn⟩ : ∃ n, l.length = n := ⟨_, rfl⟩
  have HN : Hid (l.length = n) := hn
  have n0 : (n : Int) ≤ 9223372036854775807 := by omega
  have F : Hid (∀ (i : Nat) (x : Ke), l[i]? = some x → ∃ g o, a = some ⟨g, o, none⟩ ∧ g < w.heap.size ∧ C3 w g (o + i * 3) x) := f
  have HA : Hid (∀ (j : Nat) (x : Ke), l[j]? = some x → (∀ q ∈ l.take j, unB q = false) → unB x = true → unI l 0 = (j : Int)) := fun j x hx hq hu => by
    have hs := split_at' l j x hx
    have hlen : (l.take j).length = j := by rw [List.length_take]; have := (List.getElem?_eq_some_iff.1 hx).1; omega
    rw [hs, unI_at _ _ _ hq, if_pos hu, hlen, Nat.zero_add]
  have HE : Hid ((∀ q ∈ l, unB q = false) → unI l 0 = -1) := fun h => unI_none l h 0
  rw [hn] at h9 ⊢
  clear f hn
  generalize unI l 0 = U at *
  go_enter Try.func21, Try.ntmps21
  go_wp2_with fail
  go_loopw [3] (fun i wr => ∃ j : Nat, j ≤ n ∧ i = .int .i64 (j : Int) ∧ Hid (∀ q ∈ l.take j, unB q = false) ∧ Below w.heap.size w wr) (fun i _ => n - (intOf i).toNat)
  case atStart => exact ⟨0, by omega, rfl, (fun q hq => by cases hq), Below.refl _ _⟩
  case round =>
    obtain ⟨j, hj, rfl, hA, hB⟩ := hrel
    have j0 : (0 : Int) ≤ (j : Int) := by omega
    by_cases hlt : j < n
    · have j1 : (j : Int) < (n : Int) := by omega
      obtain ⟨x, hx⟩ : ∃ m, l[j]? = some m := ⟨_, List.getElem?_eq_getElem (by rw [HN.out]; exact hlt)⟩
      obtain ⟨g1, q1, e1, lt1, r1⟩ := F.out j x hx
      subst e1
      obtain ⟨x0, x1, x2⟩ := r1.to lt1 hB
      have HY : Hid (unB x = true → U = (j : Int)) := HA.out j x hx hA.out
      have HZ : Hid (unB x = false → ∀ q ∈ l.take (j + 1), unB q = false) := fun hu q hq => by
        rw [take_snoc' l j x hx] at hq
        rcases List.mem_append.1 hq with hq | hq
        · exact hA.out q hq
        · rw [List.mem_singleton.1 hq]; exact hu
      clear hx r1 HA HE hA F HN
      obtain ⟨xc, xk, xs⟩ := x
      simp only at x0 x1 x2
      cases xc
      · have HQ : Hid (∀ q ∈ l.take (j + 1), unB q = false) := HZ.out (unB_0 rfl)
        clear HY HZ
        go_wp2_with fail
        refine ⟨⟨j + 1, by omega, by first | rfl | (congr 1; omega) | simp, HQ, hB⟩, ?_⟩
        simp [intOf]; omega
      · by_cases h0 : xk < 0
        · have HQ : Hid (U = (j : Int)) := HY.out (by unfold unB; simp only; rw [decide_eq_true h0]; rfl)
          clear HY HZ
          go_wp2_with fail
          go_ret
          exact ⟨by rw [HQ.out]; rfl, hB⟩
        · by_cases h8 : 8 ≤ xk
          · have HQ : Hid (U = (j : Int)) := HY.out (by unfold unB; simp only; rw [decide_eq_true h8, Bool.or_true]; rfl)
            clear HY HZ
            go_wp2_with fail
            go_ret
            exact ⟨by rw [HQ.out]; rfl, hB⟩
          · have HQ : Hid (∀ q ∈ l.take (j + 1), unB q = false) := HZ.out (by unfold unB; simp only; rw [decide_eq_false h8, decide_eq_false h0]; rfl)
            clear HY HZ
            go_wp2_with fail
            refine ⟨⟨j + 1, by omega, by first | rfl | (congr 1; omega) | simp, HQ, hB⟩, ?_⟩
            simp [intOf]; omega
    · have ej : j = n := by omega
      subst ej
      have HT : l.take j = l := List.take_of_length_le (by rw [HN.out]; omega)
      have HQ : Hid (U = -1) := HE.out (by rw [← HT]; exact hA.out)
      clear HT hA HN F HA HE
      go_wp2_with fail
      go_ret
      exact ⟨by rw [HQ.out]; rfl, hB⟩
end Go.Proofs.Ytndfcecimckioaa
