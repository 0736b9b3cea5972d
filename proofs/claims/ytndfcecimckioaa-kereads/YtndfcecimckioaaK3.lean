/- The reference: Ints, Same, Find, Unknown. -/
import Derived.Test.YtndfcecimckioaaK2
set_option linter.all false
set_option maxRecDepth 100000
namespace Go.Proofs.Ytndfcecimckioaa
open Go.RowKit Go.Shelf Go.Sort Go.Lib
theorem nsB_no (l1 l2 : List Int) (i : Nat) (x y : Int) (h1 : l1[i]? = some x) (h2 : l2[i]? = some y) (h : x ≠ y) : decide (l1 = l2) = false :=
  decide_eq_false fun e => by rw [e, h2] at h1; injection h1 with h1; exact h h1.symm
set_option maxHeartbeats 2000000 in
theorem rInts_any (l1 l2 : List Int) (v1 v2 : Value) (w : World) (H1 : Nls w v1 l1) (H2 : Nls w v2 l2) (h9 : l1.length ≤ 9223372036854775807) (h9' : l2.length ≤ 9223372036854775807) :
    Calls Try.prog 17 #[v1, v2] w fun e w' => e = .returned (.bool (decide (l1 = l2))) ∧ Below w.heap.size w w' := by
  obtain ⟨a1, c1, rfl, f1⟩ := H1
  obtain ⟨a2, c2, rfl, f2⟩ := H2
  by_cases hl : l1.length = l2.length
  case neg =>
    have e : decide (l1 = l2) = false := decide_eq_false fun e => hl (by rw [e])
    rw [e]
    have n2 : (((l1.length : Nat) : Int) == ((l2.length : Nat) : Int)) = false := by simpa using (show ¬ ((l1.length : Nat) : Int) = ((l2.length : Nat) : Int) by omega)
    clear f1 f2 e
    go_enter Try.func17, Try.ntmps17
    go_wp2
    go_ret
    exact ⟨rfl, Below.refl _ _⟩
  obtain ⟨n, hn⟩ : ∃ n, l1.length = n := ⟨_, rfl⟩
  have HN1 : Hid (l1.length = n) := hn
  have HN2 : Hid (l2.length = n) := by show _ = _; omega
  have n0 : (n : Int) ≤ 9223372036854775807 := by omega
  have HF : Hid (∀ (i : Nat) (x y : Int), l1[i]? = some x → l2[i]? = some y → x ≠ y → decide (l1 = l2) = false) := nsB_no l1 l2
  have HT : Hid ((∀ i : Nat, i < n → l1[i]? = l2[i]?) → decide (l1 = l2) = true) := fun h => by
    refine decide_eq_true (List.ext_getElem? fun i => ?_)
    by_cases hi : i < n
    · exact h i hi
    · rw [List.getElem?_eq_none (by omega), List.getElem?_eq_none (by omega)]
  rw [hn, ← hl, hn]
  have F1 : Hid (∀ (i : Nat) (x : Int), l1[i]? = some x → ∃ g o, a1 = some ⟨g, o, none⟩ ∧ g < w.heap.size ∧ w.cell? ⟨g, o + i, none⟩ = some (.int .i64 x)) := f1
  have F2 : Hid (∀ (i : Nat) (x : Int), l2[i]? = some x → ∃ g o, a2 = some ⟨g, o, none⟩ ∧ g < w.heap.size ∧ w.cell? ⟨g, o + i, none⟩ = some (.int .i64 x)) := f2
  clear f1 f2 hl hn h9 h9'
  generalize decide (l1 = l2) = D at *
  go_enter Try.func17, Try.ntmps17
  go_wp2_with fail
  go_loopw [5] (fun i wr => ∃ j : Nat, j ≤ n ∧ i = .int .i64 (j : Int) ∧ Below w.heap.size w wr ∧ Hid (∀ q : Nat, q < j → l1[q]? = l2[q]?)) (fun i _ => n - (Go.RowKit.intOf i).toNat)
  case atStart => exact ⟨0, by omega, rfl, Below.refl _ _, fun q hq => absurd hq (Nat.not_lt_zero _)⟩
  case round =>
    obtain ⟨j, hj, rfl, hB, ht⟩ := hrel
    have j0 : (0 : Int) ≤ (j : Int) := by omega
    by_cases hlt : j < n
    · have j1 : (j : Int) < (n : Int) := by omega
      obtain ⟨x, hx⟩ : ∃ m, l1[j]? = some m := ⟨_, List.getElem?_eq_getElem (by rw [HN1.out]; exact hlt)⟩
      obtain ⟨y, hy⟩ : ∃ m, l2[j]? = some m := ⟨_, List.getElem?_eq_getElem (by rw [HN2.out]; exact hlt)⟩
      obtain ⟨g1, q1, e1, lt1, r1⟩ := F1.out j x hx
      obtain ⟨g2, q2, e2, lt2, r2⟩ := F2.out j y hy
      subst e1 e2
      have r1' := (hB.cell (p := ⟨g1, q1 + j, none⟩) lt1).trans r1
      have r2' := (hB.cell (p := ⟨g2, q2 + j, none⟩) lt2).trans r2
      have R1 := fun ds os => cell_regrown r1' ds os
      have R2 := fun ds os => cell_regrown r2' ds os
      clear r1 r2 r1' r2'
      by_cases hq : x = y
      · subst hq
        have ht' : Hid (∀ q : Nat, q < j + 1 → l1[q]? = l2[q]?) := fun q hq => by
          by_cases e : q = j
          · subst e; rw [hx, hy]
          · exact ht.out q (by omega)
        clear ht hx hy HF HT F1 F2 HN1 HN2
        go_wp2_with fail
        refine wp_region_quiet_below (by kernel_rfl) (by kernel_rfl) ?_
        repeat (go_big_quiet_step (fail))
        refine wpQuiet_nil ?_
        intro w3 hw'
        obtain ⟨⟨dq, osq⟩, hw''⟩ := hw'
        have hb := below_of hw''
        clear hw'' R1 R2
        have B1 := Bel.call hB hb
        go_wp2_with fail
        refine ⟨⟨j + 1, by omega, by first | rfl | (congr 1; omega) | simp, B1, ht'⟩, ?_⟩
        simp [intOf]; omega
      · have HD : Hid (D = false) := HF.out j x y hx hy hq
        have hq2 : (x == y) = false := by simpa using hq
        clear ht hx hy HF HT F1 F2 HN1 HN2
        go_wp2_with fail
        refine wp_region_quiet_below (by kernel_rfl) (by kernel_rfl) ?_
        repeat (go_big_quiet_step (fail))
        refine wpQuiet_nil ?_
        intro w3 hw'
        obtain ⟨⟨dq, osq⟩, hw''⟩ := hw'
        have hb := below_of hw''
        clear hw'' R1 R2
        have B1 := Bel.call hB hb
        go_wp2_with fail
        go_ret
        exact ⟨by rw [HD.out]; rfl, B1⟩
    · have ej : j = n := by omega
      subst ej
      have HD : Hid (D = true) := HT.out ht.out
      clear ht HF HT F1 F2 HN1 HN2
      go_wp2_with fail
      go_ret
      exact ⟨by rw [HD.out]; rfl, hB⟩
theorem eqKe' (a b : Ke) (t : Bool) (h : keB a b = t) (w : World) : (Op.equalIn 10000 47 (.agg #[.bool a.c, .int .i64 a.k, .string a.s]) (.agg #[.bool b.c, .int .i64 b.k, .string b.s])).run Try.prog w = .ok t w := by rw [eqKe, h]
theorem ksB_no (l1 l2 : List Ke) (i : Nat) (x y : Ke) (h1 : l1[i]? = some x) (h2 : l2[i]? = some y) (h : keB x y = false) : kesB l1 l2 = false := by
  cases hq : kesB l1 l2
  · rfl
  · rw [(kesB_iff l1 l2).1 hq, h2] at h1
    injection h1 with h1
    subst h1
    rw [(keB_iff y y).2 rfl] at h
    cases h
set_option maxHeartbeats 4000000 in
theorem rSame_any (l1 l2 : List Ke) (v1 v2 : Value) (w : World) (H1 : Kls w v1 l1) (H2 : Kls w v2 l2) (h9 : l1.length ≤ 9223372036854775807) (h9' : l2.length ≤ 9223372036854775807) :
    Calls Try.prog 12 #[v1, v2] w fun e w' => e = .returned (.bool (kesB l1 l2)) ∧ Below w.heap.size w w' := by
  obtain ⟨a1, c1, rfl, f1⟩ := H1
  obtain ⟨a2, c2, rfl, f2⟩ := H2
  by_cases hl : l1.length = l2.length
  case neg =>
    have e : kesB l1 l2 = false := by unfold kesB; rw [decide_eq_false hl]; rfl
    rw [e]
    have n2 : (((l1.length : Nat) : Int) == ((l2.length : Nat) : Int)) = false := by simpa using (show ¬ ((l1.length : Nat) : Int) = ((l2.length : Nat) : Int) by omega)
    clear f1 f2 e
    go_enter Try.func12, Try.ntmps12
    go_wp2
    go_ret
    exact ⟨rfl, Below.refl _ _⟩
  obtain ⟨n, hn⟩ : ∃ n, l1.length = n := ⟨_, rfl⟩
  have HN1 : Hid (l1.length = n) := hn
  have HN2 : Hid (l2.length = n) := by show _ = _; omega
  have n0 : (n : Int) ≤ 9223372036854775807 := by omega
  have HF : Hid (∀ (i : Nat) (x y : Ke), l1[i]? = some x → l2[i]? = some y → keB x y = false → kesB l1 l2 = false) := ksB_no l1 l2
  have HT : Hid ((∀ i : Nat, i < n → l1[i]? = l2[i]?) → kesB l1 l2 = true) := fun h => by
    refine (kesB_iff l1 l2).2 (List.ext_getElem? fun i => ?_)
    by_cases hi : i < n
    · exact h i hi
    · rw [List.getElem?_eq_none (by omega), List.getElem?_eq_none (by omega)]
  rw [hn, ← hl, hn]
  have F1 : Hid (∀ (i : Nat) (x : Ke), l1[i]? = some x → ∃ g o, a1 = some ⟨g, o, none⟩ ∧ g < w.heap.size ∧ C3 w g (o + i * 3) x) := f1
  have F2 : Hid (∀ (i : Nat) (x : Ke), l2[i]? = some x → ∃ g o, a2 = some ⟨g, o, none⟩ ∧ g < w.heap.size ∧ C3 w g (o + i * 3) x) := f2
  clear f1 f2 hl hn h9 h9'
  generalize kesB l1 l2 = D at *
  go_enter Try.func12, Try.ntmps12
  go_wp2_with fail
  go_loopw [5] (fun i wr => ∃ j : Nat, j ≤ n ∧ i = .int .i64 (j : Int) ∧ Below w.heap.size w wr ∧ Hid (∀ q : Nat, q < j → l1[q]? = l2[q]?)) (fun i _ => n - (Go.RowKit.intOf i).toNat)
  case atStart => exact ⟨0, by omega, rfl, Below.refl _ _, fun q hq => absurd hq (Nat.not_lt_zero _)⟩
  case round =>
    obtain ⟨j, hj, rfl, hB, ht⟩ := hrel
    have j0 : (0 : Int) ≤ (j : Int) := by omega
    by_cases hlt : j < n
    · have j1 : (j : Int) < (n : Int) := by omega
      obtain ⟨x, hx⟩ : ∃ m, l1[j]? = some m := ⟨_, List.getElem?_eq_getElem (by rw [HN1.out]; exact hlt)⟩
      obtain ⟨y, hy⟩ : ∃ m, l2[j]? = some m := ⟨_, List.getElem?_eq_getElem (by rw [HN2.out]; exact hlt)⟩
      obtain ⟨g1, q1, e1, lt1, r1⟩ := F1.out j x hx
      obtain ⟨g2, q2, e2, lt2, r2⟩ := F2.out j y hy
      subst e1 e2
      obtain ⟨x0, x1, x2⟩ := r1.to lt1 hB
      obtain ⟨y0, y1, y2⟩ := r2.to lt2 hB
      have X0 := fun ds os => cell_regrown x0 ds os
      have X1 := fun ds os => cell_regrown x1 ds os
      have X2 := fun ds os => cell_regrown x2 ds os
      have Y0 := fun ds os => cell_regrown y0 ds os
      have Y1 := fun ds os => cell_regrown y1 ds os
      have Y2 := fun ds os => cell_regrown y2 ds os
      have ht' : Hid (keB x y = true → ∀ q : Nat, q < j + 1 → l1[q]? = l2[q]?) := fun hk q hq => by
        by_cases e : q = j
        · subst e; rw [hx, hy, (keB_iff x y).1 hk]
        · exact ht.out q (by omega)
      have HD' : Hid (keB x y = false → D = false) := HF.out j x y hx hy
      clear r1 r2 x0 x1 x2 y0 y1 y2 ht hx hy HF HT F1 F2 HN1 HN2
      cases hq : keB x y
      case true =>
        have Q := eqKe' x y true hq
        have ht2 : Hid (∀ q : Nat, q < j + 1 → l1[q]? = l2[q]?) := ht'.out hq
        clear ht' HD' hq
        go_wp2_with fail
        refine wp_region_quiet_below (by kernel_rfl) (by kernel_rfl) ?_
        repeat (go_big_quiet_step (fail))
        refine wpQuiet_nil ?_
        intro w3 hw'
        obtain ⟨⟨dq, osq⟩, hw''⟩ := hw'
        have hb := below_of hw''
        clear hw'' X0 X1 X2 Y0 Y1 Y2
        have B1 := Bel.call hB hb
        go_wp2_with fail
        refine ⟨⟨j + 1, by omega, by first | rfl | (congr 1; omega) | simp, B1, ht2⟩, ?_⟩
        simp [intOf]; omega
      case false =>
        have Q := eqKe' x y false hq
        have HD : Hid (D = false) := HD'.out hq
        clear ht' HD' hq
        go_wp2_with fail
        refine wp_region_quiet_below (by kernel_rfl) (by kernel_rfl) ?_
        repeat (go_big_quiet_step (fail))
        refine wpQuiet_nil ?_
        intro w3 hw'
        obtain ⟨⟨dq, osq⟩, hw''⟩ := hw'
        have hb := below_of hw''
        clear hw'' X0 X1 X2 Y0 Y1 Y2
        have B1 := Bel.call hB hb
        go_wp2_with fail
        go_ret
        exact ⟨by rw [HD.out]; rfl, B1⟩
    · have ej : j = n := by omega
      subst ej
      have HD : Hid (D = true) := HT.out ht.out
      clear ht HF HT F1 F2 HN1 HN2
      go_wp2_with fail
      go_ret
      exact ⟨by rw [HD.out]; rfl, hB⟩
end Go.Proofs.Ytndfcecimckioaa
