/- The program: Pairs, ToPairs. -/
import Derived.Test.YtndfcecimckioaaPB
set_option linter.all false
set_option maxRecDepth 100000
namespace Go.Proofs.Ytndfcecimckioaa
open Go.RowKit Go.Shelf Go.Sort
set_option maxHeartbeats 4000000 in
theorem tP : CPr := by
  intro l v w H h9
  obtain ⟨a, c, rfl, f⟩ := H
  by_cases h5 : 512 < l.length
  · have e1 : prE l = 18 := by unfold prE; rw [if_pos h5]
    have e2 : prS l = ⟨#[]⟩ := by unfold prS; rw [e1]; rfl
    rw [e1, e2]
    have i0 : (512 : Int) < (l.length : Int) := by omega
    have i1 : (l.length : Int) ≤ 9223372036854775807 := by omega
    clear f e1 e2
    go_enter Try.func13, Try.ntmps13
    go_wp2
    refine bodyPost_ret (v := .tuple #[.string ⟨#[]⟩, .int .i64 18]) (by simp [results, Try.results13, go_sem]) rfl ⟨rfl, Below.refl _ _⟩
  · have i0 : ¬ (512 : Int) < (l.length : Int) := by omega
    have i1 : (l.length : Int) ≤ 512 := by omega
    have F : Hid (∀ (i : Nat) (n : Int), l[i]? = some n → ∃ g o, a = some ⟨g, o, none⟩ ∧ g < w.heap.size ∧ w.cell? ⟨g, o + i, none⟩ = some (.int .i64 n)) := f
    have HB : Hid (∀ x ∈ l, inW x = false → prE l = 13) := fun x hx hw => prE_bad l h5 x hx hw
    have HG : Hid (l.all inW = true → prE l = 0) := fun h => by unfold prE; rw [if_neg h5, if_pos h]
    obtain ⟨n, hn⟩ : ∃ n, l.length = n := ⟨_, rfl⟩
    have HN : Hid (l.length = n) := hn
    rw [hn] at i0 i1 ⊢
    clear f h5 hn h9
    have I0 := isB_fresh w w.heap.size rfl w.heap.size (Nat.le_refl _)
    have hB2 := Bel.al (Below.refl w.heap.size w) (.cells #[.pointer none, .slice none 0 0] 56)
    have sW : (w.alloc (.cells #[.pointer none, .slice none 0 0] 56)).heap.size = w.heap.size + 1 := by simp
    obtain ⟨b, hb⟩ : ∃ b, w.heap.size = b := ⟨_, rfl⟩
    rw [hb] at I0 sW
    go_enter Try.func13, Try.ntmps13
    go_wp2_with fail
    generalize w.alloc (.cells #[.pointer none, .slice none 0 0] 56) = W2 at *
    go_loopw [12] (fun i wr => ∃ k : Nat, k ≤ n ∧ i = .int .i64 (k : Int) ∧ Lib.IsBuilder 56 5 b b (Lib.strCells (baL (prL (l.take k)))) wr ∧ Hid ((l.take k).all inW = true) ∧ Below b W2 wr) (fun i _ => n - (intOf i).toNat)
    case atStart => exact ⟨0, by omega, rfl, I0, rfl, Below.refl _ _⟩
    case round =>
      clear I0
      obtain ⟨k, hk, rfl, hI, hA, hB3⟩ := hrel
      have k0 : (0 : Int) ≤ (k : Int) := by omega
      have s2 := hB3.size
      have s2' : b ≤ wr.heap.size := by omega
      have hBw : Below w.heap.size w wr := hB2.trans (hB3.mono (B' := w.heap.size) (by omega))
      by_cases hlt : k < n
      · have k1 : (k : Int) < (n : Int) := by omega
        obtain ⟨x, hx⟩ : ∃ x, l[k]? = some x := ⟨_, List.getElem?_eq_getElem (by rw [HN.out]; exact hlt)⟩
        obtain ⟨g, o, rfl, lt, c0⟩ := F.out k x hx
        have c1 := (hBw.cell (p := ⟨g, o + k, none⟩) lt).trans c0
        have hm : x ∈ l := List.mem_of_getElem? hx
        have HT : Hid (l.take (k + 1) = l.take k ++ [x]) := take_snoc' l k x hx
        by_cases h0 : x < 0
        · have e1 : prE l = 13 := HB.out x hm (by unfold inW; rw [decide_eq_false (by omega)]; rfl)
          have e2 : prS l = ⟨#[]⟩ := by unfold prS; rw [e1]; rfl
          have E1 : Hid (prE l = 13) := e1
          have E2 : Hid (prS l = ⟨#[]⟩) := e2
          clear e1 e2 hx hm HT F HB HG HN hA c0 hI hB3
          go_wp2_with fail
          refine bodyPost_ret (v := .tuple #[.string ⟨#[]⟩, .int .i64 13]) (by simp [results, Try.results13, go_sem]) rfl ⟨by rw [E1.out, E2.out], by first | exact hBw | (rw [← hb]; exact hBw)⟩
        by_cases h1 : 65535 < x
        · have e1 : prE l = 13 := HB.out x hm (by unfold inW; rw [decide_eq_false (p := x ≤ 65535) (by omega), Bool.and_false])
          have e2 : prS l = ⟨#[]⟩ := by unfold prS; rw [e1]; rfl
          have E1 : Hid (prE l = 13) := e1
          have E2 : Hid (prS l = ⟨#[]⟩) := e2
          clear e1 e2 hx hm HT F HB HG HN hA c0 hI hB3
          go_wp2_with fail
          refine bodyPost_ret (v := .tuple #[.string ⟨#[]⟩, .int .i64 13]) (by simp [results, Try.results13, go_sem]) rfl ⟨by rw [E1.out, E2.out], by first | exact hBw | (rw [← hb]; exact hBw)⟩
        · obtain ⟨m, rfl⟩ : ∃ m : Nat, x = (m : Int) := ⟨x.toNat, by omega⟩
          have CT := fun W => pair_any m (by omega) W
          have hA' : Hid ((l.take (k + 1)).all inW = true) := by
            show _ = _
            rw [HT.out, List.all_append, hA.out]
            unfold inW
            simp only [List.all_cons, List.all_nil, Bool.and_true, Bool.true_and]
            rw [decide_eq_true (by omega), decide_eq_true (by omega)]
            rfl
          have HE : Hid (baL (prL (l.take (k + 1))) = baL (prL (l.take k)) ++ baL (twL m)) := by
            show _ = _
            rw [HT.out, prL_app, baL_app]
            rfl
          have s1 : (baL (prL (l.take k))).size ≤ 1024 := by rw [baL_size, prL_len, List.length_take]; omega
          have z2 : (baL (twL m)).size = 2 := by rw [baL_size]; rfl
          have HI : Hid _ := hI
          clear hx hm HT F HB HG HN hA c0 hI hBw
          generalize baL (prL (l.take k)) = t at *
          generalize baL (twL m) = t2 at *
          have hlen : (Lib.strCells t).length + t2.size ≤ 1000000 := by rw [Lib.strCells_length]; omega
          go_wp2_with fail
          refine (CT _).mono ?_
          rintro e w5 ⟨rfl, hb5⟩
          have I5 := isB_to HI.out hb5
          have hB5 := hB3.trans (hb5.mono (B' := b) (by omega))
          have s5 := hb5.size
          have BW := bw_any b b _ t2 w5 I5 hlen (by omega)
          clear hb5 hB3 I5 HI hlen CT
          go_wp2_with fail
          refine BW.mono ?_
          rintro e w6 ⟨rfl, hI6, hb6⟩
          go_wp2_with fail
          exact ⟨⟨k + 1, by omega, by go_num, by rw [HE.out, strC_app]; exact .inr hI6, hA', hB5.trans hb6⟩, by simp [intOf]; omega⟩
      · have ek : k = n := by omega
        subst ek
        have HT : l.take k = l := List.take_of_length_le (by rw [HN.out]; omega)
        have e1 : prE l = 0 := HG.out (by rw [← HT]; exact hA.out)
        have e2 : prS l = baL (prL l) := by unfold prS; rw [e1, if_pos rfl]
        rw [HT, bytes_cells] at hI
        have ST := sh_Builder_String_any _ _ _ wr hI (by omega)
        have es : (⟨(baL (prL l)).data.toList.toArray⟩ : ByteArray) = baL (prL l) := by simp
        rw [es] at ST
        have E1 : Hid (prE l = 0) := e1
        have E2 : Hid (prS l = baL (prL l)) := e2
        have i2 : ¬ (k : Int) < (k : Int) := by omega
        clear hI HT es e1 e2 F HB HG HN hA
        generalize baL (prL l) = X at *
        go_wp2_with fail
        refine ST.mono ?_
        rintro e w3 ⟨rfl, hb3⟩
        have hB4 : Below w.heap.size w w3 := (hB2.trans ((hB3.trans hb3).mono (B' := w.heap.size) (by omega)))
        clear hb3 ST hB3
        go_wp2_with fail
        refine bodyPost_ret (v := .tuple #[.string X, .int .i64 0]) (by simp [results, Try.results13, go_sem]) rfl ⟨by rw [E1.out, E2.out], by first | exact hB4 | (rw [← hb]; exact hB4)⟩
end Go.Proofs.Ytndfcecimckioaa
