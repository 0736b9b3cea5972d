/- The reference: Write. -/
import Derived.Test.YtndfcecimckioaaK4
set_option linter.all false
set_option maxRecDepth 100000
namespace Go.Proofs.Ytndfcecimckioaa
open Go.RowKit Go.Shelf Go.Sort Go.Lib
theorem keC_at (r : Ke) : ∀ j, j < 3 → (#[Value.bool r.c, .int .i64 r.k, .string r.s] : Array Value)[j]? = some (([Value.bool r.c, .int .i64 r.k, .string r.s] : List Value).getD j undef) := fun j hj => by
  match j, hj with
  | 0, _ => rfl
  | 1, _ => rfl
  | 2, _ => rfl
theorem wr_facts (l : List Ke) : (wrE l ≠ 0 → wrR l = wrE l ∧ wrS l = ⟨#[]⟩) ∧ (wrE l = 0 → 2048 < tot l → wrR l = 12 ∧ wrS l = ⟨#[]⟩) ∧ (wrE l = 0 → ¬ 2048 < tot l → wrR l = 0 ∧ wrS l = baL (catL l)) := by
  refine ⟨fun h => ?_, fun h h2 => ?_, fun h h2 => ?_⟩
  · have e : wrR l = wrE l := by unfold wrR; rw [if_neg h]
    exact ⟨e, by unfold wrS; rw [if_neg (by rw [e]; exact h)]; rfl⟩
  · have e : wrR l = 12 := by unfold wrR; rw [if_pos h, if_pos h2]
    exact ⟨e, by unfold wrS; rw [if_neg (by rw [e]; decide)]; rfl⟩
  · have e : wrR l = 0 := by unfold wrR; rw [if_pos h, if_neg h2]
    exact ⟨e, by unfold wrS; rw [if_pos e]⟩
theorem wr_bad (l : List Ke) (j : Nat) (r : Ke) (h : l[j]? = some r) (h0 : wrE (l.take j) = 0) (hr : okE r ≠ 0) : wrR l = okE r ∧ wrS l = ⟨#[]⟩ := by
  have e : wrE l = okE r := by
    rw [split_at' l j r h]
    exact wrE_at _ r _ h0 hr
  have := (wr_facts l).1 (by rw [e]; exact hr)
  rw [e] at this
  exact this
theorem tot_take (l : List Ke) (j : Nat) (r : Ke) (h : l[j]? = some r) : tot (l.take (j + 1)) = tot (l.take j) + 4 + r.s.size := by
  rw [take_snoc' l j r h, tot_app]
  show _ + (4 + r.s.size + 0) = _
  omega
theorem cat_take (l : List Ke) (j : Nat) (r : Ke) (h : l[j]? = some r) : catL (l.take (j + 1)) = catL (l.take j) ++ (twL (keN r) ++ twL r.s.size ++ r.s.data.toList) := by
  rw [take_snoc' l j r h, catL_app]
  show _ ++ (recL r ++ []) = _
  rw [List.append_nil]
  rfl
theorem tot_mono (l : List Ke) (j : Nat) : tot (l.take j) ≤ tot l := by
  have := congrArg tot (List.take_append_drop j l)
  rw [tot_app] at this
  omega
set_option maxHeartbeats 8000000 in
theorem rWrite_any (l : List Ke) (v : Value) (w : World) (H : Kls w v l) (h9 : l.length ≤ 9223372036854775807) (hs : ∀ r ∈ l, r.s.size ≤ 9223372036854775807) :
    Calls Try.prog 9 #[v] w fun e w' => e = .returned (.tuple #[.string (wrS l), .int .i64 (wrR l)]) ∧ Below w.heap.size w w' := by
  obtain ⟨a, c, rfl, f⟩ := H
  obtain ⟨n, hn⟩ : ∃ n, l.length = n := ⟨_, rfl⟩
  have HN : Hid (l.length = n) := hn
  have n0 : (n : Int) ≤ 9223372036854775807 := by omega
  have F : Hid (∀ (i : Nat) (x : Ke), l[i]? = some x → ∃ g o, a = some ⟨g, o, none⟩ ∧ g < w.heap.size ∧ C3 w g (o + i * 3) x) := f
  have HS : Hid (∀ r ∈ l, r.s.size ≤ 9223372036854775807) := hs
  rw [hn] at h9 ⊢
  clear f hn hs
  go_enter Try.func9, Try.ntmps9
  go_wp2_with fail
  go_loopw [4, 5, 6] (fun s t i wr => ∃ (j m : Nat) (S : ByteArray), j ≤ n ∧ i = .int .i64 (j : Int) ∧ s = .string S ∧ t = .int .i64 (m : Int) ∧ m ≤ 2049 ∧ S.size ≤ 2048 ∧ Hid (wrE (l.take j) = 0) ∧ Hid (m = min (tot (l.take j)) 2049) ∧ Hid (tot (l.take j) ≤ 2048 → S = baL (catL (l.take j))) ∧ Below w.heap.size w wr) (fun _ _ i _ => n - (intOf i).toNat)
  case atStart => exact ⟨0, 0, ⟨#[]⟩, by omega, rfl, rfl, rfl, by omega, by decide, rfl, rfl, fun _ => rfl, Below.refl _ _⟩
  case round =>
    obtain ⟨j, m, S, hj, rfl, rfl, rfl, hm, hS, hE, hM, hC, hB⟩ := hrel
    have j0 : (0 : Int) ≤ (j : Int) := by omega
    have m0 : (0 : Int) ≤ (m : Int) := by omega
    have m1 : (m : Int) ≤ 2049 := by omega
    by_cases hlt : j < n
    · have j1 : (j : Int) < (n : Int) := by omega
      obtain ⟨x, hx⟩ : ∃ m, l[j]? = some m := ⟨_, List.getElem?_eq_getElem (by rw [HN.out]; exact hlt)⟩
      obtain ⟨g1, q1, e1, lt1, r1⟩ := F.out j x hx
      subst e1
      obtain ⟨x0, x1, x2⟩ := r1.to lt1 hB
      have HX := HS.out x (List.mem_of_getElem? hx)
      have z0 : (0 : Int) ≤ (x.s.size : Int) := by omega
      have z1 : (x.s.size : Int) ≤ 9223372036854775807 := by omega
      have hbad := wr_bad l j x hx hE.out
      have htot := tot_take l j x hx
      have hcat := cat_take l j x hx
      have hwr : okE x = 0 → wrE (l.take (j + 1)) = 0 := fun h => by rw [take_snoc' l j x hx]; exact wrE_snoc_ok _ _ hE.out h
      by_cases h0 : x.k < 0
      · have e : okE x = 13 := by unfold okE; rw [if_pos (.inl h0)]
        obtain ⟨e1, e2⟩ := hbad (by rw [e]; decide)
        have E1 : Hid (wrR l = 13) := by show _ = _; rw [e1, e]
        have E2 : Hid (wrS l = ⟨#[]⟩) := e2
        clear e e1 e2 hbad htot hcat hwr hC hM hE hx r1 HS F HN
        generalize x.k = y at *
        generalize x.c = z at *
        generalize x.s = u at *
        go_wp2_with fail
        refine bodyPost_ret (v := .tuple #[.string ⟨#[]⟩, .int .i64 13]) (by simp [results, Try.results9, go_sem]) rfl ⟨by rw [E1.out, E2.out], by have := hB.size; exact Bel.call hB (by go_grown)⟩
      by_cases h1 : 32767 < x.k
      · have e : okE x = 13 := by unfold okE; rw [if_pos (.inr h1)]
        obtain ⟨e1, e2⟩ := hbad (by rw [e]; decide)
        have E1 : Hid (wrR l = 13) := by show _ = _; rw [e1, e]
        have E2 : Hid (wrS l = ⟨#[]⟩) := e2
        clear e e1 e2 hbad htot hcat hwr hC hM hE hx r1 HS F HN
        generalize x.k = y at *
        generalize x.c = z at *
        generalize x.s = u at *
        go_wp2_with fail
        refine bodyPost_ret (v := .tuple #[.string ⟨#[]⟩, .int .i64 13]) (by simp [results, Try.results9, go_sem]) rfl ⟨by rw [E1.out, E2.out], by have := hB.size; exact Bel.call hB (by go_grown)⟩
      by_cases h2 : 1024 < x.s.size
      · have e : okE x = 12 := by unfold okE; rw [if_neg (by omega), if_pos h2]
        obtain ⟨e1, e2⟩ := hbad (by rw [e]; decide)
        have E1 : Hid (wrR l = 12) := by show _ = _; rw [e1, e]
        have E2 : Hid (wrS l = ⟨#[]⟩) := e2
        have i2 : (1024 : Int) < (x.s.size : Int) := by omega
        clear e e1 e2 hbad htot hcat hwr hC hM hE hx r1 HS F HN
        generalize x.k = y at *
        generalize x.c = z at *
        generalize x.s = u at *
        go_wp2_with fail
        refine bodyPost_ret (v := .tuple #[.string ⟨#[]⟩, .int .i64 12]) (by simp [results, Try.results9, go_sem]) rfl ⟨by rw [E1.out, E2.out], by have := hB.size; exact Bel.call hB (by go_grown)⟩
      have i2 : ¬ (1024 : Int) < (x.s.size : Int) := by omega
      have z2 : (x.s.size : Int) ≤ 1024 := by omega
      have ok0 : okE x = 0 := okE_of ⟨by omega, by omega, by omega⟩
      have HW : Hid (wrE (l.take (j + 1)) = 0) := hwr ok0
      by_cases h3 : 2048 < tot (l.take (j + 1))
      · have M1 : m + 4 + x.s.size ≥ 2049 := by have := hM.out; omega
        have mn : min ((m : Int) + 4 + (x.s.size : Int)) 2049 = 2049 := by omega
        have HM' : Hid (2049 = min (tot (l.take (j + 1))) 2049) := by show _ = _; omega
        have HC' : Hid (tot (l.take (j + 1)) ≤ 2048 → S = baL (catL (l.take (j + 1)))) := fun h => absurd h3 (by omega)
        have i3 : ¬ (m : Int) + 4 + (x.s.size : Int) ≤ 2049 ∨ (m : Int) + 4 + (x.s.size : Int) = 2049 := by omega
        have z3 : (2049 : Int) ≤ (m : Int) + 4 + (x.s.size : Int) := by omega
        clear i3 M1 h3 ok0 hbad htot hcat hwr hC hM hE hx r1 HS F HN
        generalize x.k = y at *
        generalize x.c = z at *
        generalize x.s = u at *
        go_wp2_with fail
        refine ⟨⟨j + 1, 2049, S, by omega, by first | rfl | (congr 1; omega) | simp, rfl, by first | rfl | (rw [mn]; rfl) | (simp; omega), by omega, hS, HW, HM', HC', by have := hB.size; exact Bel.call hB (by go_grown)⟩, ?_⟩
        simp [intOf]; omega
      · have hM' := hM.out
        have M1 : m = tot (l.take j) := by omega
        have M2 : m + 4 + x.s.size = tot (l.take (j + 1)) := by omega
        have mn : min ((m : Int) + 4 + (x.s.size : Int)) 2049 = (m : Int) + 4 + (x.s.size : Int) := by omega
        have HM' : Hid (m + 4 + x.s.size = min (tot (l.take (j + 1))) 2049) := by show _ = _; omega
        have z3 : (m : Int) + 4 + (x.s.size : Int) ≤ 2048 := by omega
        have z4 : ¬ (2048 : Int) < (m : Int) + 4 + (x.s.size : Int) := by omega
        have hC2 := hC.out (by omega)
        have HC' : Hid (S ++ baL (twL (keN x)) ++ baL (twL x.s.size) ++ x.s = baL (catL (l.take (j + 1)))) := by
          show _ = _
          rw [hC2, hcat, ← baL_app, ← baL_app, ← baL_app, baL_of, ap_assoc, ap_assoc, ap_assoc]
        have HZ : Hid ((baL (catL (l.take (j + 1)))).size ≤ 2048) := by
          show _ ≤ _
          rw [baL_size, catL_len]; omega
        have CT2 := fun W => rtwo_any x.s.size (by omega) W
        have CT1 := fun W => rtwo_any (keN x) (keN_lt x (by omega)) W
        obtain ⟨p, hp⟩ : ∃ p : Nat, x.k = (p : Int) := ⟨x.k.toNat, by omega⟩
        have hN : ((keN x : Nat) : Int) = (p : Int) + (if x.c = true then 32768 else 0) := by unfold keN; split <;> omega
        rw [hN] at CT1
        have p1 : (p : Int) ≤ 32767 := by omega
        have p0 : (0 : Int) ≤ (p : Int) := by omega
        have l1 : wr.heap.size ≥ w.heap.size := hB.size
        rw [hp] at x1
        have s1 : (baL (twL (keN x))).size = 2 := by rw [baL_size]; rfl
        have s2 : (baL (twL x.s.size)).size = 2 := by rw [baL_size]; rfl
        have HEz : Hid ((x.s.size : Int) = (x.s.size : Int)) := rfl
        clear HEz hN hp hC2 M1 M2 hM' h3 ok0 hbad htot hcat hwr hC hM hE hx r1 HS F HN h0 h1 h2 HX
        generalize baL (twL (keN x)) = A at *
        generalize baL (twL x.s.size) = B at *
        generalize x.s = u at *
        have A0 := fun (z : Bool) => Arr.new wr #[Value.bool z, .int .i64 (p : Int), .string u] 47 _ rfl _ 3 (keC_at ⟨z, (p : Int), u⟩)
        cases hz : x.c
        case true =>
          rw [hz] at x0 CT1
          rw [if_pos rfl] at CT1
          have A1 := A0 true
          have B0 := Bel.al hB (.cells #[.bool true, .int .i64 (p : Int), .string u] 47)
          clear hz A0 hB
          go_wp2_with fail
          generalize wr.alloc (.cells #[.bool true, .int .i64 (p : Int), .string u] 47) = W at *
          have R2 := fun ds os => cell_regrown (A1.cv 2 (by omega) (.string u) rfl) ds os
          clear x0 x1 x2 A1
          refine wp_region_quiet_below (by kernel_rfl) (by kernel_rfl) ?_
          repeat (go_big_quiet_step (first | (go_at_call 27; first | with_reducible exact Calls.regrown_of (CT1 _) | with_reducible exact Calls.regrown_of (CT2 _))))
          refine wpQuiet_nil ?_
          intro w3 hw'
          obtain ⟨⟨dq, osq⟩, hw''⟩ := hw'
          have hb := below_of hw''
          clear hw'' R2 CT1 CT2
          have B1 := Bel.call B0 hb
          go_wp2_with fail
          refine ⟨⟨j + 1, m + 4 + u.size, _, by omega, by first | rfl | (congr 1; omega) | simp, rfl, by first | rfl | (congr 1; omega) | (simp; omega), by omega, by rw [HC'.out]; exact HZ.out, HW, HM', fun _ => HC'.out, B1⟩, ?_⟩
          simp [intOf]; omega
        case false =>
          rw [hz] at x0 CT1
          rw [if_neg (by decide), Int.add_zero] at CT1
          have A1 := A0 false
          have B0 := Bel.al hB (.cells #[.bool false, .int .i64 (p : Int), .string u] 47)
          clear hz A0 hB
          go_wp2_with fail
          generalize wr.alloc (.cells #[.bool false, .int .i64 (p : Int), .string u] 47) = W at *
          have R2 := fun ds os => cell_regrown (A1.cv 2 (by omega) (.string u) rfl) ds os
          clear x0 x1 x2 A1
          refine wp_region_quiet_below (by kernel_rfl) (by kernel_rfl) ?_
          repeat (go_big_quiet_step (first | (go_at_call 27; first | with_reducible exact Calls.regrown_of (CT1 _) | with_reducible exact Calls.regrown_of (CT2 _))))
          refine wpQuiet_nil ?_
          intro w3 hw'
          obtain ⟨⟨dq, osq⟩, hw''⟩ := hw'
          have hb := below_of hw''
          clear hw'' R2 CT1 CT2
          have B1 := Bel.call B0 hb
          go_wp2_with fail
          refine ⟨⟨j + 1, m + 4 + u.size, _, by omega, by first | rfl | (congr 1; omega) | simp, rfl, by first | rfl | (congr 1; omega) | (simp; omega), by omega, by rw [HC'.out]; exact HZ.out, HW, HM', fun _ => HC'.out, B1⟩, ?_⟩
          simp [intOf]; omega
    · have ej : j = n := by omega
      subst ej
      have HT : l.take j = l := List.take_of_length_le (by rw [HN.out]; omega)
      have hE2 := hE.out
      have hM2 := hM.out
      have hC2 := hC.out
      rw [HT] at hE2 hM2 hC2
      obtain ⟨_, k1, k2⟩ := wr_facts l
      by_cases ht : 2048 < tot l
      · have i2 : (2048 : Int) < (m : Int) := by omega
        have E1 : Hid (wrR l = 12) := (k1 hE2 ht).1
        have E2 : Hid (wrS l = ⟨#[]⟩) := (k1 hE2 ht).2
        clear k1 k2 hE2 hM2 hC2 HT hE hM hC HS F HN ht
        go_wp2_with fail
        refine bodyPost_ret (v := .tuple #[.string ⟨#[]⟩, .int .i64 12]) (by simp [results, Try.results9, go_sem]) rfl ⟨by rw [E1.out, E2.out], hB⟩
      · have i2 : ¬ (2048 : Int) < (m : Int) := by omega
        have E1 : Hid (wrR l = 0) := (k2 hE2 ht).1
        have E2 : Hid (wrS l = S) := by show _ = _; rw [(k2 hE2 ht).2, hC2 (by omega)]
        clear k1 k2 hE2 hM2 hC2 HT hE hM hC HS F HN ht
        go_wp2_with fail
        refine bodyPost_ret (v := .tuple #[.string S, .int .i64 0]) (by simp [results, Try.results9, go_sem]) rfl ⟨by rw [E1.out, E2.out], hB⟩
end Go.Proofs.Ytndfcecimckioaa
