/- The reference: Pairs, ToPairs, Ints. -/
import Derived.Test.YtndfcecimckioaaK1
set_option linter.all false
set_option maxRecDepth 100000
namespace Go.Proofs.Ytndfcecimckioaa
open Go.RowKit Go.Shelf Go.Sort Go.Lib
theorem take_snoc' {α : Type} (l : List α) (k : Nat) (x : α) (h : l[k]? = some x) : l.take (k + 1) = l.take k ++ [x] := by
  obtain ⟨hk, e⟩ := List.getElem?_eq_some_iff.1 h
  rw [List.take_succ_eq_append_getElem hk, e]
theorem split_at' {α : Type} (l : List α) (k : Nat) (x : α) (h : l[k]? = some x) : l = l.take k ++ x :: l.drop (k + 1) := by
  obtain ⟨hk, e⟩ := List.getElem?_eq_some_iff.1 h
  rw [← e, List.getElem_cons_drop, List.take_append_drop]
theorem prE_bad (l : List Int) (h : ¬ 512 < l.length) (x : Int) (hx : x ∈ l) (hw : inW x = false) : prE l = 13 := by
  unfold prE
  rw [if_neg h, if_neg]
  intro ha
  have := List.all_eq_true.1 ha x hx
  rw [hw] at this
  cases this
set_option maxHeartbeats 2000000 in
theorem rPairs_any (l : List Int) (v : Value) (w : World) (H : Nls w v l) (h9 : l.length ≤ 9223372036854775807) :
    Calls Try.prog 14 #[v] w fun e w' => e = .returned (.tuple #[.string (prS l), .int .i64 (prE l)]) ∧ Below w.heap.size w w' := by
  obtain ⟨a, c, rfl, f⟩ := H
  by_cases h5 : 512 < l.length
  · have e1 : prE l = 18 := by unfold prE; rw [if_pos h5]
    have e2 : prS l = ⟨#[]⟩ := by unfold prS; rw [e1]; rfl
    rw [e1, e2]
    have i0 : (512 : Int) < (l.length : Int) := by omega
    have i1 : (l.length : Int) ≤ 9223372036854775807 := by omega
    clear f e1 e2
    go_enter Try.func14, Try.ntmps14
    go_wp2
    refine bodyPost_ret (v := .tuple #[.string ⟨#[]⟩, .int .i64 18]) (by simp [results, Try.results14, go_sem]) rfl ⟨rfl, Below.refl _ _⟩
  · have i0 : ¬ (512 : Int) < (l.length : Int) := by omega
    have i1 : (l.length : Int) ≤ 512 := by omega
    have F : Hid (∀ (i : Nat) (n : Int), l[i]? = some n → ∃ g o, a = some ⟨g, o, none⟩ ∧ g < w.heap.size ∧ w.cell? ⟨g, o + i, none⟩ = some (.int .i64 n)) := f
    have HB : Hid (∀ x ∈ l, inW x = false → prE l = 13) := fun x hx hw => prE_bad l h5 x hx hw
    have HG : Hid (l.all inW = true → prE l = 0) := fun h => by unfold prE; rw [if_neg h5, if_pos h]
    obtain ⟨n, hn⟩ : ∃ n, l.length = n := ⟨_, rfl⟩
    have HN : Hid (l.length = n) := hn
    rw [hn] at i0 i1 ⊢
    clear f h5 hn h9
    go_enter Try.func14, Try.ntmps14
    go_wp2_with fail
    go_loopw [4, 5] (fun t i wr => ∃ k : Nat, k ≤ n ∧ i = .int .i64 (k : Int) ∧ t = .string (baL (prL (l.take k))) ∧ Hid ((l.take k).all inW = true) ∧ Below w.heap.size w wr) (fun _ i _ => n - (intOf i).toNat)
    case atStart => exact ⟨0, by omega, rfl, rfl, rfl, Below.refl _ _⟩
    case round =>
      obtain ⟨k, hk, rfl, rfl, hA, hB⟩ := hrel
      have k0 : (0 : Int) ≤ (k : Int) := by omega
      by_cases hlt : k < n
      · have k1 : (k : Int) < (n : Int) := by omega
        obtain ⟨x, hx⟩ : ∃ x, l[k]? = some x := ⟨_, List.getElem?_eq_getElem (by rw [HN.out]; exact hlt)⟩
        obtain ⟨g, o, rfl, lt, c0⟩ := F.out k x hx
        have c1 := (hB.cell (p := ⟨g, o + k, none⟩) lt).trans c0
        have hm : x ∈ l := List.mem_of_getElem? hx
        have HT : Hid (l.take (k + 1) = l.take k ++ [x]) := take_snoc' l k x hx
        by_cases h0 : x < 0
        · have e1 : prE l = 13 := HB.out x hm (by unfold inW; rw [decide_eq_false (by omega)]; rfl)
          have e2 : prS l = ⟨#[]⟩ := by unfold prS; rw [e1]; rfl
          have E1 : Hid (prE l = 13) := e1
          have E2 : Hid (prS l = ⟨#[]⟩) := e2
          clear e1 e2 hx hm HT F HB HG HN hA c0
          generalize baL (prL (l.take k)) = t at *
          go_wp2_with fail
          refine bodyPost_ret (v := .tuple #[.string ⟨#[]⟩, .int .i64 13]) (by simp [results, Try.results14, go_sem]) rfl ⟨by rw [E1.out, E2.out], hB⟩
        by_cases h1 : 65535 < x
        · have e1 : prE l = 13 := HB.out x hm (by unfold inW; rw [decide_eq_false (p := x ≤ 65535) (by omega), Bool.and_false])
          have e2 : prS l = ⟨#[]⟩ := by unfold prS; rw [e1]; rfl
          have E1 : Hid (prE l = 13) := e1
          have E2 : Hid (prS l = ⟨#[]⟩) := e2
          clear e1 e2 hx hm HT F HB HG HN hA c0
          generalize baL (prL (l.take k)) = t at *
          go_wp2_with fail
          refine bodyPost_ret (v := .tuple #[.string ⟨#[]⟩, .int .i64 13]) (by simp [results, Try.results14, go_sem]) rfl ⟨by rw [E1.out, E2.out], hB⟩
        · obtain ⟨m, rfl⟩ : ∃ m : Nat, x = (m : Int) := ⟨x.toNat, by omega⟩
          have CT := fun W => rtwo_any m (by omega) W
          have hA' : Hid ((l.take (k + 1)).all inW = true) := by
            show _ = _
            rw [HT.out, List.all_append, hA.out]
            unfold inW
            simp only [List.all_cons, List.all_nil, Bool.and_true, Bool.true_and]
            rw [decide_eq_true (by omega), decide_eq_true (by omega)]
            rfl
          have HE : Hid (baL (prL (l.take k)) ++ baL (twL m) = baL (prL (l.take (k + 1)))) := by
            show _ = _
            rw [HT.out, prL_app, baL_app]
            rfl
          have s1 : (baL (prL (l.take k))).size ≤ 1024 := by rw [baL_size, prL_len, List.length_take]; omega
          have s2 : (baL (twL m)).size = 2 := by rw [baL_size]; rfl
          clear hx hm HT F HB HG HN hA c0
          generalize baL (prL (l.take k)) = t at *
          generalize baL (twL m) = t2 at *
          go_wp2_with (go_at_call 27; refine (CT _).mono ?_; rintro e w1 ⟨rfl, b1⟩)
          refine ⟨⟨k + 1, by omega, by first | rfl | (congr 1; omega) | simp, by first | rw [HE.out] | exact congrArg Value.string HE.out, hA', Bel.call hB b1⟩, ?_⟩
          simp [intOf]; omega
      · have ek : k = n := by omega
        subst ek
        have HT : l.take k = l := List.take_of_length_le (by rw [HN.out]; omega)
        have e1 : prE l = 0 := HG.out (by rw [← HT]; exact hA.out)
        have e2 : prS l = baL (prL (l.take k)) := by unfold prS; rw [e1, if_pos rfl, HT]
        obtain ⟨t, ht⟩ : ∃ t, baL (prL (l.take k)) = t := ⟨_, rfl⟩
        rw [ht] at e2 ⊢
        have E1 : Hid (prE l = 0) := e1
        have E2 : Hid (prS l = t) := e2
        clear e1 e2 ht HT F HB HG HN hA
        go_wp2_with fail
        refine bodyPost_ret (v := .tuple #[.string t, .int .i64 0]) (by simp [results, Try.results14, go_sem]) rfl ⟨by rw [E1.out, E2.out], hB⟩
theorem tpL_at (t : List UInt8) : ∀ (j : Nat), 2 * j + 1 < t.length → tpL (t.take (2 * (j + 1))) = tpL (t.take (2 * j)) ++ [(((t[2 * j]?.getD 0).toNat * 256 + (t[2 * j + 1]?.getD 0).toNat : Nat) : Int)] := by
  induction t using tpL.induct with
  | case1 a b t ih =>
    intro j hj
    cases j with
    | zero => rfl
    | succ j =>
      have := ih j (by simp at hj; omega)
      rw [show 2 * (j + 1 + 1) = (2 * (j + 1)) + 2 by omega, show 2 * (j + 1) = 2 * j + 2 by omega, show 2 * j + 2 + 1 = (2 * j + 1) + 2 by omega]
      simp only [List.take_succ_cons, List.getElem?_cons_succ]
      rw [tpL, tpL, List.cons_append]
      congr 1
  | case2 t h =>
    intro j hj
    match t, h with
    | [], _ => simp at hj
    | [a], _ => simp at hj
    | a :: b :: t, h => exact absurd rfl (h a b t)
theorem tpL_len (t : List UInt8) : (tpL t).length = t.length / 2 := by
  induction t using tpL.induct with
  | case1 a b t ih => rw [tpL, List.length_cons, ih, List.length_cons, List.length_cons]; omega
  | case2 t h =>
    match t, h with
    | [], _ => rfl
    | [a], _ => simp [tpL]
    | a :: b :: t, h => exact absurd rfl (h a b t)
/-- The first numbers of a text. -/
def tpU (s : ByteArray) (j : Nat) : List Int := tpL (s.data.toList.take (2 * j))
theorem tpU_succ (s : ByteArray) (j : Nat) (h : 2 * j + 1 < s.size) : tpU s (j + 1) = tpU s j ++ [bt s (2 * j) * 256 + bt s (2 * j + 1)] := by
  unfold tpU
  rw [tpL_at s.data.toList j (by rw [len_list]; exact h)]
  unfold bt
  rw [Array.getElem?_toList, Array.getElem?_toList]
  rfl
theorem tpU_len (s : ByteArray) (j : Nat) (h : 2 * j ≤ s.size) : (tpU s j).length = j := by
  unfold tpU; rw [tpL_len, List.length_take, len_list]; omega
theorem Try.info3 : (Try.prog.info? 3).map (fun i => (i.zero, i.size, i.bytes)) = some (some (.int .i64 0), 1, 8) := by kernel_rfl
set_option maxHeartbeats 2000000 in
theorem rToPairs_any (s : ByteArray) (hs : s.size ≤ 9223372036854775807) (w : World) :
    Calls Try.prog 16 #[.string s] w fun e w' => (∃ v, e = .returned (.tuple #[v, .int .i64 (tpE s.size)]) ∧ Nls w' v (tpR s)) ∧ Below w.heap.size w w' := by
  have i0 : (s.size : Int) ≤ 9223372036854775807 := by omega
  by_cases h1 : s.size % 2 = 1
  · have e1 : tpE s.size = 10 := by unfold tpE; rw [if_pos h1]
    have E2 : Hid (tpR s = []) := by show _ = _; unfold tpR; rw [e1]; rfl
    have i1 : (s.size : Int) % 2 = 1 := by omega
    rw [e1]
    clear e1
    go_enter Try.func16, Try.ntmps16
    go_wp2
    refine bodyPost_ret (v := .tuple #[.slice none 0 0, .int .i64 10]) (by simp [results, Try.results16, go_sem]) rfl ⟨⟨_, rfl, by rw [E2.out]; exact Nls.nil _⟩, Below.refl _ _⟩
  have i1 : ((s.size : Int) % 2 == 1) = false := by simp; omega
  have i2 : ¬ (s.size : Int) % 2 = 1 := by omega
  by_cases h2 : 1024 < s.size
  · have e1 : tpE s.size = 12 := by unfold tpE; rw [if_neg h1, if_pos h2]
    have E2 : Hid (tpR s = []) := by show _ = _; unfold tpR; rw [e1]; rfl
    have i3 : (1024 : Int) < (s.size : Int) := by omega
    rw [e1]
    clear e1
    go_enter Try.func16, Try.ntmps16
    go_wp2
    refine bodyPost_ret (v := .tuple #[.slice none 0 0, .int .i64 12]) (by simp [results, Try.results16, go_sem]) rfl ⟨⟨_, rfl, by rw [E2.out]; exact Nls.nil _⟩, Below.refl _ _⟩
  have i3 : ¬ (1024 : Int) < (s.size : Int) := by omega
  have e1 : tpE s.size = 0 := by unfold tpE; rw [if_neg h1, if_neg h2]
  have E2 : Hid (∀ j, j * 2 = s.size → tpU s j = tpR s) := fun j hj => by
    unfold tpR tpU
    rw [e1, if_pos rfl, List.take_of_length_le (by rw [len_list]; omega)]
  obtain ⟨i0', hi, hz0, hz1, hz2⟩ := info_parts Try.info3
  have own0 : w.ownsRow w.heap.size 3 1 (.slice none 0 0) 0 ((tpU s 0).map (Value.int .i64)) := ⟨rfl, .inl ⟨rfl, rfl⟩⟩
  rw [e1]
  have HM : Hid (s.size % 2 = 0) := by show _ = _; omega
  have i5 : (s.size : Int) ≤ 1024 := by omega
  have g5 : s.size ≤ 1024 := by omega
  clear h1 h2 e1
  go_enter Try.func16, Try.ntmps16
  go_wp2_with fail
  go_loopw [4, 5] (fun v i wr => ∃ j : Nat, 2 * j ≤ s.size ∧ i = .int .i64 (2 * (j : Int)) ∧ wr.ownsRow w.heap.size 3 1 v j ((tpU s j).map (Value.int .i64)) ∧ Below w.heap.size w wr) (fun _ i _ => s.size - (intOf i).toNat)
  case atStart => exact ⟨0, by omega, rfl, own0, Below.refl _ _⟩
  case round =>
    clear own0
    obtain ⟨j, hj, rfl, hown, hB⟩ := hrel
    obtain ⟨ao, cv, rfl⟩ := own_frm hown
    have j0 : (0 : Int) ≤ 2 * (j : Int) := by omega
    by_cases hlt : 2 * j < s.size
    · have hlt2 : 2 * j + 1 < s.size := by have := HM.out; omega
      have j1 : 2 * (j : Int) < (s.size : Int) := by omega
      have j2 : 2 * (j : Int) + 1 < (s.size : Int) := by omega
      have I0 := fun W => idxS s (2 * j) hlt W
      have I1 := fun W => idxS s (2 * j + 1) hlt2 W
      rw [show ((2 * j : Nat) : Int) = 2 * (j : Int) by omega] at I0
      rw [show ((2 * j + 1 : Nat) : Int) = 2 * (j : Int) + 1 by omega] at I1
      have HU : Hid (tpU s (j + 1) = tpU s j ++ [bt s (2 * j) * 256 + bt s (2 * j + 1)]) := tpU_succ s j hlt2
      obtain ⟨a0, a1⟩ := bt_bd s (2 * j)
      obtain ⟨b0, b1⟩ := bt_bd s (2 * j + 1)
      have HR : Hid (wr.ownsRow w.heap.size 3 1 (.slice ao j cv) j ((tpU s j).map (Value.int .i64))) := hown
      have kb : j + 1 ≤ maxLen := by unfold maxLen; omega
      have kb2 : (j + 1) * 8 ≤ 140737488355328 := by omega
      have hsz := hB.size
      clear hown
      generalize bt s (2 * j) = x at *
      generalize bt s (2 * j + 1) = y at *
      go_wp2_with fail
      apply wp_region_head_tail 1 11 #[true, false, false, false, false, false, false, false, false, false, false, false, false, false, false] (by kernel_rfl) (by intro c d v a w h; cases d <;> exact h) (by kernel_rfl)
      · exact ⟨.slice ao j cv, Or.inl ⟨rfl, fun _ => rfl⟩, rfl⟩
      simp only [List.take_succ_cons, List.take_zero, List.drop_succ_cons, List.drop_zero, Act.put, List.setIfInBounds_toArray, List.set_cons_succ, List.set_cons_zero]
      repeat (go_big_quiet_step (fail))
      refine wpQuiet_nil ?_
      intro w5 hw'
      obtain ⟨⟨dq, osq⟩, hw''⟩ := hw'
      have hb := below_of hw''
      clear hw'' I0 I1
      have B5 := Bel.call hB hb
      have HO5 : Hid (w5.ownsRow w.heap.size 3 1 (.slice ao j cv) j ((tpU s j).map (Value.int .i64))) := World.ownsRow.kept HR.out (gby hb) (by cases ao <;> simp [Value.ownBlock])
      have hsz5 := B5.size
      have sb : ∀ ob, w.heap.size ≤ (w5.alloc ob).heap.size := fun ob => by simp; omega
      clear HR hB hb
      go_wp2_with (at_builtin; refine stopAt ?_)
      unfold Stop
      refine wpList_append_own _ rfl _ _ 35 rfl w.heap.size 3 i0' (.int .i64 0) 1 8 Try.underlying35 hi hz0 hz1 hz2 rfl (by decide) _ _ _ rfl (World.ownsRow.alloc HO5.out _) ⟨_, 0, none⟩ 1 1 [.int .i64 (x * 256 + y)] rfl rfl (news_new _ _ _) (fun u hu => by simp at hu; rw [hu]; rfl) kb kb2 (sb _) ?_
      intro v' w3 hown' hgrow3 hnil3
      have b3 : Below w.heap.size w w3 := (B5.alloc B5.size _).grown hgrow3 (by go_size) (fun q hq => (HO5.out.lt q hq).1)
      have HO' : Hid (w3.ownsRow w.heap.size 3 1 v' (j + 1) ((tpU s (j + 1)).map (Value.int .i64))) := by
        show World.ownsRow _ _ _ _ _ _ _
        rw [HU.out, List.map_append]
        exact hown'
      clear hnil3 hgrow3 hown' HU
      go_wp2_with fail
      refine ⟨⟨j + 1, by omega, by first | rfl | (congr 1; omega) | (simp; omega), HO'.out, b3⟩, ?_⟩
      simp [intOf]; omega
    · have ej : j * 2 = s.size := by omega
      have HT : Hid (Nls wr (.slice ao j cv) (tpU s j)) := by
        have := Nls.own (l := tpU s j) (W := wr) (b := w.heap.size) (v := .slice ao j cv) (by rw [tpU_len s j hj]; exact hown)
        exact this
      have HE : Hid (tpU s j = tpR s) := E2.out j ej
      clear hown E2
      go_wp2_with fail
      refine bodyPost_ret (v := .tuple #[.slice ao j cv, .int .i64 0]) (by simp [results, Try.results16, go_sem]) rfl ⟨⟨_, rfl, by rw [← HE.out]; exact HT.out⟩, hB⟩
end Go.Proofs.Ytndfcecimckioaa
