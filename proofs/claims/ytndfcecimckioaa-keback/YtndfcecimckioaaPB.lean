/- The program: Write. -/
import Derived.Test.YtndfcecimckioaaPA
import Derived.Test.YtndfcecimckioaaL1
set_option linter.all false
set_option maxRecDepth 100000
namespace Go.Proofs.Ytndfcecimckioaa
open Go.RowKit Go.Shelf Go.Sort
theorem bytes_cells (s : ByteArray) : Lib.strCells s = Lib.byteCells s.data.toList := by
  unfold Lib.strCells Lib.byteCells
  rfl
theorem strC_app (a b : ByteArray) : Lib.strCells (a ++ b) = Lib.strCells a ++ Lib.strCells b := by
  unfold Lib.strCells
  simp
theorem isB_fresh (w : World) (b : Nat) (hb : b = w.heap.size) (B : Nat) (hB : B ≤ b) : Lib.IsBuilder 56 5 B b [] (w.alloc (.cells #[.pointer none, .slice none 0 0] 56)) := by
  subst hb
  exact .inl ⟨hB, .slice none 0 0, by show (w.heap.push _)[w.heap.size]? = _; simp, ⟨rfl, .inl ⟨rfl, rfl⟩⟩, by simp [Value.ownBlock]⟩
theorem isB_to {w w' : World} {B b : Nat} {bs : List Value} (h : Lib.IsBuilder 56 5 B b bs w) (hb : Below w.heap.size w w') : Lib.IsBuilder 56 5 B b bs w' := by
  have go : ∀ p, Lib.BuilderAt 56 5 B b p bs w → Lib.BuilderAt 56 5 B b p bs w' := fun p ⟨h1, v, h2, h3, h4⟩ => by
    obtain ⟨ao, cc, rfl⟩ := own_frm h3
    exact ⟨h1, _, (hb.block b (Array.getElem?_eq_some_iff.1 h2).1).trans h2, h3.kept (row := none) ⟨hb.os, hb.tape, hb.output, hb.size, fun k hk _ => hb.block k hk⟩ (by cases ao <;> simp [Value.ownBlock]), h4⟩
  exact h.elim (fun q => .inl (go _ q)) (fun q => .inr (go _ q))
set_option maxHeartbeats 8000000 in
theorem tW : CWr := by
  intro l v w H h9 hs
  obtain ⟨a, c, rfl, f⟩ := H
  obtain ⟨n, hn⟩ : ∃ n, l.length = n := ⟨_, rfl⟩
  have HN : Hid (l.length = n) := hn
  have n0 : (n : Int) ≤ 100000 := by omega
  have F : Hid (∀ (i : Nat) (x : Ke), l[i]? = some x → ∃ g o, a = some ⟨g, o, none⟩ ∧ g < w.heap.size ∧ C3 w g (o + i * 3) x) := f
  have HS : Hid (∀ r ∈ l, r.s.size ≤ 9223372036854775807) := hs
  rw [hn] at h9 ⊢
  clear f hn hs
  go_enter Try.func8, Try.ntmps8
  go_wp2_with fail
  go_loopw [4, 13] (fun t i wr => ∃ (j m : Nat), j ≤ n ∧ i = .int .i64 (j : Int) ∧ t = .int .i64 (m : Int) ∧ m ≤ 1028 * j ∧ Hid (wrE (l.take j) = 0) ∧ Hid (m = tot (l.take j)) ∧ Below w.heap.size w wr) (fun _ i _ => n - (intOf i).toNat)
  case atStart => exact ⟨0, 0, by omega, rfl, rfl, by omega, rfl, rfl, Below.refl _ _⟩
  case round =>
    obtain ⟨j, m, hj, rfl, rfl, hm, hE, hM, hB⟩ := hrel
    have j0 : (0 : Int) ≤ (j : Int) := by omega
    have m0 : (0 : Int) ≤ (m : Int) := by omega
    have m1 : (m : Int) ≤ 102800000 := by omega
    by_cases hlt : j < n
    · have j1 : (j : Int) < (n : Int) := by omega
      obtain ⟨x, hx⟩ : ∃ m, l[j]? = some m := ⟨_, List.getElem?_eq_getElem (by rw [HN.out]; exact hlt)⟩
      obtain ⟨g1, q1, e1, lt1, r1⟩ := F.out j x hx
      subst e1
      obtain ⟨x0, x1, x2⟩ := r1.to lt1 hB
      have HX := HS.out x (List.mem_of_getElem? hx)
      have hbad := wr_bad l j x hx hE.out
      have htot := tot_take l j x hx
      have hwr : okE x = 0 → wrE (l.take (j + 1)) = 0 := fun h => by rw [take_snoc' l j x hx]; exact wrE_snoc_ok _ _ hE.out h
      have hsz : okE x = 0 → x.s.size ≤ 1024 := fun h => (okE_0 h).2.2
      have C1 := fun W => refused_any x HX W
      have C2 := fun (h : x.s.size ≤ 1024) W => size_any x (by omega) W
      have A1 := Arr.new wr #[Value.bool x.c, .int .i64 x.k, .string x.s] 47 _ rfl _ 3 (keC_at x)
      have B0 := Bel.al hB (.cells #[.bool x.c, .int .i64 x.k, .string x.s] 47)
      unfold keV at C1 C2
      have HB : Hid (okE x ≠ 0 → wrR l = okE x ∧ wrS l = ⟨#[]⟩) := hbad
      have HT : Hid (tot (l.take (j + 1)) = tot (l.take j) + 4 + x.s.size) := htot
      have HW : Hid (okE x = 0 → wrE (l.take (j + 1)) = 0) := hwr
      have HZ : Hid (okE x = 0 → x.s.size ≤ 1024) := hsz
      have HM : Hid _ := hM
      clear hbad htot hwr hsz hM hE hx r1 HS F HN hB HX
      generalize x.k = y at *
      generalize x.c = z at *
      generalize x.s = u at *
      generalize okE x = E at *
      go_wp2_with fail
      generalize wr.alloc (.cells #[.bool z, .int .i64 y, .string u] 47) = W at *
      refine (C1 _).mono ?_
      rintro e w1 ⟨rfl, b1⟩
      have A2 := Arr.to' (n := 2) A1 b1
      have c0 := A2.cv 0 (by omega) (.bool z) rfl
      have c1 := A2.cv 1 (by omega) (.int .i64 y) rfl
      have c2 := A2.cv 2 (by omega) (.string u) rfl
      have B1 := Bel.call B0 b1
      clear C1 A1 A2 B0 b1 x0 x1 x2
      by_cases hE : E = 0
      · subst hE
        have hz := HZ.out rfl
        have HW2 : Hid (wrE (l.take (j + 1)) = 0) := HW.out rfl
        clear HW HZ HB
        have C2' := C2 hz
        have u0 : (0 : Int) ≤ (u.size : Int) := by omega
        have u1 : (u.size : Int) ≤ 1024 := by omega
        clear C2 hz
        go_wp2_with fail
        refine (C2' _).mono ?_
        rintro e w2 ⟨rfl, b2⟩
        have B2 := Bel.call B1 b2
        clear C2' c0 c1 c2 b2 B1
        go_wp2_with fail
        refine ⟨⟨j + 1, m + 4 + u.size, by omega, by first | rfl | (congr 1; omega) | simp, by first | rfl | (congr 1; omega) | (simp; omega), by omega, HW2.out, by show _ = _; rw [HT.out, HM.out], B2⟩, ?_⟩
        simp [intOf]; omega
      · obtain ⟨e1, e2⟩ := HB.out hE
        have E1 : Hid (wrR l = E) := e1
        have E2 : Hid (wrS l = ⟨#[]⟩) := e2
        clear C2 e1 e2 HB HT HW HZ HM c0 c1 c2
        go_wp2_with fail
        refine bodyPost_ret (v := .tuple #[.string ⟨#[]⟩, .int .i64 E]) (by simp [results, Try.results8, go_sem]) rfl ⟨by rw [E1.out, E2.out], B1⟩
    · have ej : j = n := by omega
      subst ej
      have HT : l.take j = l := List.take_of_length_le (by rw [HN.out]; omega)
      have hE2 := hE.out
      have hM2 := hM.out
      rw [HT] at hE2 hM2
      obtain ⟨_, k1, k2⟩ := wr_facts l
      by_cases ht : 2048 < tot l
      · have i2 : (2048 : Int) < (m : Int) := by omega
        have E1 : Hid (wrR l = 12) := (k1 hE2 ht).1
        have E2 : Hid (wrS l = ⟨#[]⟩) := (k1 hE2 ht).2
        clear k1 k2 hE2 hM2 HT hE hM HS F HN ht
        go_wp2_with fail
        refine bodyPost_ret (v := .tuple #[.string ⟨#[]⟩, .int .i64 12]) (by simp [results, Try.results8, go_sem]) rfl ⟨by rw [E1.out, E2.out], hB⟩
      · have i2 : ¬ (2048 : Int) < (m : Int) := by omega
        have E1 : Hid (wrR l = 0) := (k2 hE2 ht).1
        have E2 : Hid (wrS l = baL (catL l)) := (k2 hE2 ht).2
        have HA : Hid (∀ r ∈ l, okE r = 0) := wrE_0 hE2
        have HTt : Hid (tot l ≤ 2048) := by show _ ≤ _; omega
        have I0 := isB_fresh wr wr.heap.size rfl wr.heap.size (Nat.le_refl _)
        have hB2 := Bel.al hB (.cells #[.pointer none, .slice none 0 0] 56)
        have sW : (wr.alloc (.cells #[.pointer none, .slice none 0 0] 56)).heap.size = wr.heap.size + 1 := by simp
        have sw := hB.size
        clear k1 k2 hE2 hM2 HT hE hM HS ht hB
        obtain ⟨b, hb⟩ : ∃ b, wr.heap.size = b := ⟨_, rfl⟩
        rw [hb] at I0 sW sw
        go_wp2_with fail
        generalize wr.alloc (.cells #[.pointer none, .slice none 0 0] 56) = W2 at *
        go_loopw [31] (fun i wr => ∃ j2 : Nat, j2 ≤ j ∧ i = .int .i64 (j2 : Int) ∧ Lib.IsBuilder 56 5 b b (Lib.strCells (baL (catL (l.take j2)))) wr ∧ Below b W2 wr) (fun i _ => j - (intOf i).toNat)
        case atStart => exact ⟨0, by omega, rfl, I0, Below.refl _ _⟩
        case round =>
          clear I0
          obtain ⟨j2, hj2, rfl, hI, hB3⟩ := hrel
          have i0 : (0 : Int) ≤ (j2 : Int) := by omega
          have s2 := hB3.size
          have s2' : b ≤ wr.heap.size := by omega
          by_cases hlt2 : j2 < j
          · have i1 : (j2 : Int) < (j : Int) := by omega
            obtain ⟨x, hx⟩ : ∃ m, l[j2]? = some m := ⟨_, List.getElem?_eq_getElem (by rw [HN.out]; exact hlt2)⟩
            obtain ⟨g1, q1, e1, lt1, r1⟩ := F.out j2 x hx
            subst e1
            have r2 := r1.to lt1 hB2
            obtain ⟨x0, x1, x2⟩ : C3 wr g1 (q1 + j2 * 3) x := ⟨(hB3.cell (p := ⟨g1, _, none⟩) (by show g1 < b; omega)).trans r2.1, (hB3.cell (p := ⟨g1, _, none⟩) (by show g1 < b; omega)).trans r2.2.1, (hB3.cell (p := ⟨g1, _, none⟩) (by show g1 < b; omega)).trans r2.2.2⟩
            have ok := HA.out x (List.mem_of_getElem? hx)
            obtain ⟨k0, k1, k2⟩ := okE_0 ok
            have C1 := fun W => head_any x k0 k1 k2 W
            have A1 := Arr.new wr #[Value.bool x.c, .int .i64 x.k, .string x.s] 47 _ rfl _ 3 (keC_at x)
            have hcat := cat_take l j2 x hx
            have HC : Hid (baL (catL (l.take (j2 + 1))) = baL (catL (l.take j2)) ++ ((baL (twL (keN x)) ++ baL (twL x.s.size)) ++ x.s)) := by
              show _ = _
              rw [hcat, ← baL_app, ← baL_app, ← baL_app, baL_of]
            have hz : (baL (catL (l.take j2))).size ≤ 2048 := by
              rw [baL_size, catL_len]
              have := tot_mono l j2
              have := HTt.out
              omega
            have sU : (baL (twL (keN x)) ++ baL (twL x.s.size)).size = 4 := by rw [ByteArray.size_append, baL_size, baL_size]; rfl
            have hlen : (Lib.strCells (baL (catL (l.take j2)))).length + ((baL (twL (keN x)) ++ baL (twL x.s.size)) ++ x.s).size ≤ 1000000 := by
              rw [Lib.strCells_length, ByteArray.size_append, sU]; omega
            unfold keV at C1
            generalize hU : baL (twL (keN x)) ++ baL (twL x.s.size) = U at *
            generalize hP : baL (catL (l.take j2)) = P0 at *
            have HI : Hid _ := hI
            have u0 : (x.s.size : Int) ≤ 1024 := by omega
            have sU' : (U.size : Int) = 4 := by omega
            clear hU hP hI hx r1 r2 ok k0 k1 k2 hcat hz F HN
            generalize x.k = y at *
            generalize x.c = z at *
            generalize x.s = u at *
            have I3 := isB_to HI.out (Below.alloc (Below.refl wr.heap.size wr) (Nat.le_refl _) (.cells #[.bool z, .int .i64 y, .string u] 47))
            have hB4 := hB3.alloc s2' (.cells #[.bool z, .int .i64 y, .string u] 47)
            have s4 : (wr.alloc (.cells #[.bool z, .int .i64 y, .string u] 47)).heap.size = wr.heap.size + 1 := by simp
            clear HI hB3
            go_wp2_with fail
            generalize wr.alloc (.cells #[.bool z, .int .i64 y, .string u] 47) = W4 at *
            have R0 := fun ds os => cell_regrown (A1.cv 0 (by omega) (.bool z) rfl) ds os
            have R1 := fun ds os => cell_regrown (A1.cv 1 (by omega) (.int .i64 y) rfl) ds os
            have R2 := fun ds os => cell_regrown (A1.cv 2 (by omega) (.string u) rfl) ds os
            clear x0 x1 x2 A1
            refine wp_region_below_tail 5 (by kernel_rfl) (by kernel_rfl) ?_
            simp only [List.take_succ_cons, List.take_zero, List.drop_succ_cons, List.drop_zero]
            repeat (go_big_quiet_step (first | (go_at_call 25; exact Calls.regrown_of (C1 _))))
            refine wpQuiet_nil ?_
            intro w5 hw'
            obtain ⟨⟨dq, osq⟩, hw''⟩ := hw'
            have hb5 := below_of hw''
            clear hw'' C1 R0 R1 R2
            have I5 := isB_to I3 hb5
            have hB5 := hB4.trans (hb5.mono (B' := b) (by omega))
            have s5 := hb5.size
            have BW := bw_any b b _ (U ++ u) w5 I5 hlen (by omega)
            clear hb5 hB4 I5 I3 hlen
            go_wp2_with (go_at_call 24; refine BW.mono ?_; rintro e w6 ⟨rfl, hI6, hb6⟩)
            exact ⟨⟨j2 + 1, by omega, by go_num, by rw [HC.out, strC_app]; exact .inr hI6, hB5.trans hb6⟩, by simp [intOf]; omega⟩
          · have ej : j2 = j := by omega
            have i1 : ¬ (j2 : Int) < (j : Int) := by omega
            have te : l.take j2 = l := List.take_of_length_le (by rw [HN.out]; omega)
            rw [te, bytes_cells] at hI
            have ST := sh_Builder_String_any _ _ _ wr hI (by omega)
            have es : (⟨(baL (catL l)).data.toList.toArray⟩ : ByteArray) = baL (catL l) := by simp
            rw [es] at ST
            clear hI te es HA F
            generalize baL (catL l) = X at *
            go_wp2_with fail
            refine ST.mono ?_
            rintro e w3 ⟨rfl, hb3⟩
            have hB4 : Below w.heap.size w w3 := (hB2.trans ((hB3.trans hb3).mono (B' := w.heap.size) (by omega)))
            clear hb3 ST hB3
            go_wp2_with fail
            refine bodyPost_ret (v := .tuple #[.string X, .int .i64 0]) (by simp [results, Try.results8, go_sem]) rfl ⟨by rw [E1.out, E2.out], hB4⟩
end Go.Proofs.Ytndfcecimckioaa
