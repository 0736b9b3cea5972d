/- The reference's Cmac and S2v. -/
import Derived.Test.YtogkijjmimaccaaJ33
set_option linter.all false
set_option maxRecDepth 100000
namespace Go.Proofs.Ytogkijjmimaccaa
open Go.RowKit Go.Sort Lin
set_option maxHeartbeats 1000000 in
theorem r10sized_any (key : ByteArray) (w : World) : Calls Try.prog 23 #[.string key] w fun e w' => e = .returned (.bool (isK key)) ∧ w' = w := by
  by_cases h1 : key.size = 16
  · have e : isK key = true := by unfold isK; simp [h1]
    have i1 : (key.size : Int) = 16 := by omega
    rw [e]
    clear e h1
    go_enter Try.func23, Try.ntmps23
    go_wp2
    go_ret
    exact ⟨rfl, rfl⟩
  · have i1 : ¬ (key.size : Int) = 16 := by omega
    by_cases h2 : key.size = 32
    · have e : isK key = true := by unfold isK; simp [h2]
      have i2 : (key.size : Int) = 32 := by omega
      rw [e]
      clear e h1 h2
      go_enter Try.func23, Try.ntmps23
      go_wp2
      go_ret
      exact ⟨rfl, rfl⟩
    · have e : isK key = false := by unfold isK; simp [h1, h2]
      have i2 : ¬ (key.size : Int) = 32 := by omega
      rw [e]
      clear e h1 h2
      go_enter Try.func23, Try.ntmps23
      go_wp2
      go_ret
      refine ⟨?_, rfl⟩
      simp [i1, i2]
set_option maxHeartbeats 1000000 in
theorem rCmac_no (key s : ByteArray) (w : World)
    (C23 : ∀ W, Calls Try.prog 23 #[.string key] W fun e w' => e = .returned (.bool false) ∧ w' = W) :
    Calls Try.prog 11 #[.string key, .string s] w fun e w' => e = .returned (.tuple #[.string ⟨#[]⟩, .int .i64 13]) ∧ Below w.heap.size w w' := by
  have hnot : ∀ (x : Bool) (w : World), (Op.unary .not (.bool x)).run Try.prog w = .ok (.bool (!x)) w := fun _ _ => rfl
  go_enter Try.func11, Try.ntmps11
  go_wp2_with (go_at_call 23; refine (C23 _).mono ?_; rintro e w1 ⟨rfl, rfl⟩)
  exact bodyPost_ret (v := .tuple #[.string ⟨#[]⟩, .int .i64 13]) (by simp [results, Try.results11, go_sem]) rfl ⟨rfl, Below.refl _ _⟩
set_option maxHeartbeats 1000000 in
theorem rCmac_yes (key s T : ByteArray) (w : World)
    (C23 : ∀ W, Calls Try.prog 23 #[.string key] W fun e w' => e = .returned (.bool true) ∧ w' = W)
    (C24 : ∀ W, Calls Try.prog 24 #[.string key, .string s] W fun e w' => e = .returned (.string T) ∧ Below W.heap.size W w') :
    Calls Try.prog 11 #[.string key, .string s] w fun e w' => e = .returned (.tuple #[.string T, .int .i64 0]) ∧ Below w.heap.size w w' := by
  have hnot : ∀ (x : Bool) (w : World), (Op.unary .not (.bool x)).run Try.prog w = .ok (.bool (!x)) w := fun _ _ => rfl
  go_enter Try.func11, Try.ntmps11
  go_wp2_with (go_at_call 23; refine (C23 _).mono ?_; rintro e w1 ⟨rfl, rfl⟩)
  refine (C24 _).mono ?_
  rintro e w2 ⟨rfl, hb⟩
  go_wp2_with fail
  exact bodyPost_ret (v := .tuple #[.string T, .int .i64 0]) (by simp [results, Try.results11, go_sem]) rfl ⟨rfl, hb⟩
theorem isK_kE {key : ByteArray} : isK key = decide (kE key = 0) := by
  unfold kE
  cases isK key <;> simp
theorem rCmac_any (key s : ByteArray) (hs : s.size ≤ 1000000) (w : World) : Calls Try.prog 11 #[.string key, .string s] w fun e w' => e = .returned (.tuple #[.string (cmR key s), .int .i64 (kE key)]) ∧ Below w.heap.size w w' := by
  have C23 := fun W => r10sized_any key W
  rw [isK_kE] at C23
  unfold cmR
  by_cases h : kE key = 0
  · rw [decide_eq_true h] at C23
    rw [if_pos h, h]
    exact rCmac_yes key s _ w C23 (fun W => rcmac_any key s (kE_0.1 h) hs W)
  · rw [decide_eq_false h] at C23
    have e : kE key = 13 := by
      unfold kE at h ⊢
      by_cases q : isK key = true
      · rw [if_pos q] at h; exact absurd rfl h
      · rw [if_neg q]
    rw [if_neg h, e]
    exact rCmac_no key s w C23
set_option maxHeartbeats 1000000 in
theorem rS2v_no (key : ByteArray) (v : Value) (w : World)
    (C23 : ∀ W, Calls Try.prog 23 #[.string key] W fun e w' => e = .returned (.bool false) ∧ w' = W) :
    Calls Try.prog 13 #[.string key, v] w fun e w' => e = .returned (.tuple #[.string ⟨#[]⟩, .int .i64 13]) ∧ Below w.heap.size w w' := by
  have hnot : ∀ (x : Bool) (w : World), (Op.unary .not (.bool x)).run Try.prog w = .ok (.bool (!x)) w := fun _ _ => rfl
  go_enter Try.func13, Try.ntmps13
  go_wp2_with (go_at_call 23; refine (C23 _).mono ?_; rintro e w1 ⟨rfl, rfl⟩)
  exact bodyPost_ret (v := .tuple #[.string ⟨#[]⟩, .int .i64 13]) (by simp [results, Try.results13, go_sem]) rfl ⟨rfl, Below.refl _ _⟩
set_option maxHeartbeats 1000000 in
theorem rS2v_many (key : ByteArray) (a0 : Option Addr) (n cap : Nat) (hn : 127 < n) (w : World)
    (C23 : ∀ W, Calls Try.prog 23 #[.string key] W fun e w' => e = .returned (.bool true) ∧ w' = W) :
    Calls Try.prog 13 #[.string key, .slice a0 n cap] w fun e w' => e = .returned (.tuple #[.string ⟨#[]⟩, .int .i64 18]) ∧ Below w.heap.size w w' := by
  have n1 : (127 : Int) < (n : Int) := by omega
  have hnot : ∀ (x : Bool) (w : World), (Op.unary .not (.bool x)).run Try.prog w = .ok (.bool (!x)) w := fun _ _ => rfl
  go_enter Try.func13, Try.ntmps13
  go_wp2_with (go_at_call 23; refine (C23 _).mono ?_; rintro e w1 ⟨rfl, rfl⟩)
  exact bodyPost_ret (v := .tuple #[.string ⟨#[]⟩, .int .i64 18]) (by simp [results, Try.results13, go_sem]) rfl ⟨rfl, Below.refl _ _⟩
set_option maxHeartbeats 1000000 in
theorem rS2v_none (key : ByteArray) (a0 : Option Addr) (cap : Nat) (Z T : ByteArray) (hZ : Z.size = 15) (w : World)
    (C23 : ∀ W, Calls Try.prog 23 #[.string key] W fun e w' => e = .returned (.bool true) ∧ w' = W)
    (C27 : ∀ W, Calls Try.prog 27 #[.int .i64 15] W fun e w' => e = .returned (.string Z) ∧ Below W.heap.size W w')
    (C24 : ∀ W, Calls Try.prog 24 #[.string key, .string (Z ++ ⟨#[1]⟩)] W fun e w' => e = .returned (.string T) ∧ Below W.heap.size W w') :
    Calls Try.prog 13 #[.string key, .slice a0 0 cap] w fun e w' => e = .returned (.tuple #[.string T, .int .i64 0]) ∧ Below w.heap.size w w' := by
  have n1 : (Z.size : Int) = 15 := by omega
  have hnot : ∀ (x : Bool) (w : World), (Op.unary .not (.bool x)).run Try.prog w = .ok (.bool (!x)) w := fun _ _ => rfl
  go_enter Try.func13, Try.ntmps13
  go_wp2_with (go_at_call 23; refine (C23 _).mono ?_; rintro e w1 ⟨rfl, rfl⟩)
  refine (C27 _).mono ?_
  rintro e w2 ⟨rfl, hb⟩
  go_wp2_with fail
  refine (C24 _).mono ?_
  rintro e w3 ⟨rfl, hb3⟩
  replace hb := Bel.call hb hb3
  clear hb3
  go_wp2_with fail
  exact bodyPost_ret (v := .tuple #[.string T, .int .i64 0]) (by simp [results, Try.results13, go_sem]) rfl ⟨rfl, hb⟩
set_option maxHeartbeats 2000000 in
theorem rS2v_some (key : ByteArray) (a : Addr) (cap m : Nat) (l : List ByteArray) (last : ByteArray) (hl : l.length = m) (hm : m < 127) (w : World) (hls : ∀ s ∈ l, s.size ≤ 1000000) (hs : last.size ≤ 1000000)
    (hx : ∀ (i : Nat) (s : ByteArray), l[i]? = some s → w.cell? (a.add i) = some (.string s)) (hc : w.cell? (a.add m) = some (.string last))
    (C23 : ∀ W, Calls Try.prog 23 #[.string key] W fun e w' => e = .returned (.bool true) ∧ w' = W)
    (C27 : ∀ W, Calls Try.prog 27 #[.int .i64 16] W fun e w' => e = .returned (.string zS) ∧ Below W.heap.size W w')
    (C24 : ∀ s : ByteArray, s.size ≤ 1000000 → ∀ W, Calls Try.prog 24 #[.string key, .string s] W fun e w' => e = .returned (.string (tx (cm key s))) ∧ Below W.heap.size W w')
    (C29 : ∀ f W, Calls Try.prog 29 #[.string (tx f)] W fun e w' => e = .returned (.string (tx (tw f))) ∧ Below W.heap.size W w')
    (C28 : ∀ f g W, Calls Try.prog 28 #[.string (tx f), .string (tx g)] W fun e w' => e = .returned (.string (tx (pl f g))) ∧ Below W.heap.size W w')
    (C28' : ∀ (t : ByteArray) g, t.size = 16 → ∀ W, Calls Try.prog 28 #[.string t, .string (tx g)] W fun e w' => e = .returned (.string (tx (pl (bF t) g))) ∧ Below W.heap.size W w')
    (C30 : ∀ t : ByteArray, t.size < 16 → ∀ W, Calls Try.prog 30 #[.string t] W fun e w' => e = .returned (.string (tx (flF t))) ∧ Below W.heap.size W w') :
    Calls Try.prog 13 #[.string key, .slice (some a) (m + 1) cap] w fun e w' => e = .returned (.tuple #[.string (tx (rowF key l last)), .int .i64 0]) ∧ Below w.heap.size w w' := by
  have m0 : (0 : Int) ≤ (m : Int) := by omega
  have m1 : (m : Int) < 127 := by omega
  have m2 : ((m + 1 : Nat) : Int) - 1 = (m : Int) := by omega
  have m3 : (m : Int) < ((m + 1 : Nat) : Int) := by omega
  have m4 : ¬ (127 : Int) < ((m + 1 : Nat) : Int) := by omega
  have m5 : ¬ ((m + 1 : Nat) : Int) = 0 := by omega
  have m6 : ((m + 1 : Nat) : Int) ≤ 127 := by omega
  obtain ⟨n, hn⟩ : ∃ n, m + 1 = n := ⟨_, rfl⟩
  have HN : Hid (l.length = m) := hl
  rw [hn] at m2 m3 m4 m5 m6 ⊢
  have HNN : Hid (m + 1 = n) := hn
  clear hn hl
  have D24 := C24 zS (by rw [zS_size]; decide)
  have hnot : ∀ (x : Bool) (w : World), (Op.unary .not (.bool x)).run Try.prog w = .ok (.bool (!x)) w := fun _ _ => rfl
  go_enter Try.func13, Try.ntmps13
  go_wp2_with (go_at_call 23; refine (C23 _).mono ?_; rintro e w1 ⟨rfl, rfl⟩)
  refine (C27 _).mono ?_
  rintro e w2 ⟨rfl, hb⟩
  go_wp2_with fail
  refine (D24 _).mono ?_
  rintro e w3 ⟨rfl, hb3⟩
  replace hb := Bel.call hb hb3
  clear hb3 C23 C27 D24
  have T0 : Hid (tx (cm key zS) = tx (rwF key (l.take 0))) := by
    show _ = _
    rw [List.take_zero]
    unfold rwF
    rw [List.foldl_nil]
  rw [T0.out]
  clear T0
  go_wp2_with fail
  go_loopw [6, 7] (fun x i wr => ∃ k : Nat, k ≤ m ∧ i = .int .i64 k ∧ x = .string (tx (rwF key (l.take k))) ∧ Below w1.heap.size w1 wr) (fun _ i _ => m - (intOf i).toNat)
  case atStart => exact ⟨0, by omega, rfl, rfl, hb⟩
  case round =>
    clear hb
    obtain ⟨k, hk, rfl, rfl, hB⟩ := hrel
    have k0 : (0 : Int) ≤ (k : Int) := by omega
    by_cases hlt : k < m
    · have k1' : (k : Int) < (m : Int) := by omega
      have k2' : (k : Int) < (n : Int) := by have := HNN.out; omega
      obtain ⟨s, hsk⟩ : ∃ s, l[k]? = some s := ⟨_, List.getElem?_eq_getElem (by rw [HN.out]; exact hlt)⟩
      have hca := hx k s hsk
      have cc : wr.cell? (a.add k) = some (.string s) := (hB.cell (block_lt_of_cell hca)).trans hca
      have HR : Hid (rwF key (l.take (k + 1)) = pl (tw (rwF key (l.take k))) (cm key s)) := by
        show _ = _
        rw [take_snoc hsk, rwF_app]
      have D24 := C24 s (hls s (List.mem_of_getElem? hsk))
      have D29 := fun W => C29 (rwF key (l.take k)) W
      have D28 := fun W => C28 (tw (rwF key (l.take k))) (cm key s) W
      rw [← HR.out] at D28
      clear hca hsk HR
      obtain ⟨X3, h3⟩ : ∃ X3, tx (rwF key (l.take (k + 1))) = X3 := ⟨_, rfl⟩
      rw [h3] at D28
      have H3 : Hid (tx (rwF key (l.take (k + 1))) = X3) := h3
      clear h3
      generalize tx (tw (rwF key (l.take k))) = X2 at *
      generalize tx (cm key s) = X1 at *
      go_upto_region 11 with (fail)
      refine wp_region_quiet_below (by kernel_rfl) (by kernel_rfl) ?_
      have r0 := fun ds os => cell_regrown cc ds os
      repeat (go_big_quiet_step (first | (go_at_call 29; exact Calls.regrown_of (D29 _)) | (go_at_call 24; exact Calls.regrown_of (D24 _)) | (go_at_call 28; exact Calls.regrown_of (D28 _))))
      refine wpQuiet_nil ?_
      intro w4 hw'
      obtain ⟨⟨dq, osq⟩, hw''⟩ := hw'
      have hb := below_of hw''
      clear hw'' r0 D24 D28 D29
      replace hB := Bel.call hB hb
      clear cc hb
      go_wp2_with fail
      exact ⟨⟨k + 1, by omega, by go_num, by rw [H3.out], hB⟩, by simp [intOf]; omega⟩
    · have e : k = m := by omega
      subst e
      have k1' : ¬ (k : Int) < (k : Int) := by omega
      have cc : wr.cell? (a.add k) = some (.string last) := (hB.cell (block_lt_of_cell hc)).trans hc
      have HR : Hid (rowF key l last = cm key (eT (rwF key (l.take k)) last)) := by
        show _ = _
        rw [List.take_of_length_le (by rw [HN.out]; exact Nat.le_refl _)]
        rfl
      generalize rwF key (l.take k) = d at *
      clear hx hc hls hk hlt
      by_cases h16 : last.size < 16
      · have s1 : (last.size : Int) < 16 := by omega
        have HE : Hid (eT d last = tx (pl (tw d) (flF last))) := by
          show _ = _
          unfold eT
          rw [if_pos h16]
        have D30 := C30 last h16
        have D29 := fun A => C29 d A
        have D28 := fun A => C28 (tw d) (flF last) A
        have D24 := C24 (tx (pl (tw d) (flF last))) (by rw [tx_size]; decide)
        obtain ⟨T, hT⟩ : ∃ T, tx (cm key (tx (pl (tw d) (flF last)))) = T := ⟨_, rfl⟩
        rw [hT] at D24
        have HT : Hid (tx (rowF key l last) = T) := by show _ = _; rw [HR.out, HE.out, hT]
        clear h16 hs C24 C28 C28' C29 C30 hT HR HE
        generalize tx (pl (tw d) (flF last)) = X3 at *
        generalize tx (flF last) = X2 at *
        generalize tx (tw d) = X1 at *
        go_wp2_with fail
        refine (D29 _).mono ?_
        rintro e w5 ⟨rfl, hb5⟩
        replace hb5 := Bel.call hB hb5
        clear hB
        go_wp2_with fail
        refine (D30 _).mono ?_
        rintro e w6 ⟨rfl, hb6⟩
        replace hb6 := Bel.call hb5 hb6
        clear hb5
        go_wp2_with fail
        refine (D28 _).mono ?_
        rintro e w7 ⟨rfl, hb7⟩
        replace hb7 := Bel.call hb6 hb7
        clear hb6
        go_wp2_with fail
        refine (D24 _).mono ?_
        rintro e w8 ⟨rfl, hb8⟩
        replace hb8 := Bel.call hb7 hb8
        clear hb7
        clear D24 D28 D29 D30
        go_wp2_with fail
        exact bodyPost_ret (v := .tuple #[.string T, .int .i64 0]) (by simp [results, Try.results13, go_sem]) rfl ⟨by rw [HT.out], hb8⟩
      · have s1 : ¬ (last.size : Int) < 16 := by omega
        obtain ⟨q, hq⟩ : ∃ q, last.size = q + 16 := ⟨last.size - 16, by omega⟩
        have HE : Hid (eT d last = last.extract 0 q ++ tx (pl (bF (last.extract q last.size)) d)) := by
          show _ = _
          unfold eT
          rw [if_neg h16, show last.size - 16 = q by omega]
        have q0 : (last.size : Int) - 16 = (q : Int) := by omega
        have q1 : (0 : Int) ≤ (q : Int) := by omega
        have q2 : (q : Int) ≤ (last.size : Int) := by omega
        have q3 : q ≤ last.size := by omega
        have q4 : (q : Int) ≤ 1000000 := by omega
        have q5 : ((last.extract 0 q).size : Int) = (q : Int) := by rw [ByteArray.size_extract]; omega
        have D28 := C28' (last.extract q last.size) d (by rw [ByteArray.size_extract]; omega)
        have D24 := C24 (last.extract 0 q ++ tx (pl (bF (last.extract q last.size)) d)) (by rw [app_size, tx_size, ByteArray.size_extract]; omega)
        obtain ⟨T, hT⟩ : ∃ T, tx (cm key (last.extract 0 q ++ tx (pl (bF (last.extract q last.size)) d))) = T := ⟨_, rfl⟩
        rw [hT] at D24
        have HT : Hid (tx (rowF key l last) = T) := by show _ = _; rw [HR.out, HE.out, hT]
        have t1 : ((tx (pl (bF (last.extract q last.size)) d)).size : Int) = 16 := by rw [tx_size]; rfl
        clear h16 hs hq C24 C28 C28' C29 C30 hT HR HE
        generalize tx (pl (bF (last.extract q last.size)) d) = X3 at *
        go_upto_region 16 with (fail)
        refine wp_region_quiet_below (by kernel_rfl) (by kernel_rfl) ?_
        repeat (go_big_quiet_step (first | (go_at_call 28; exact Calls.regrown_of (D28 _)) | (go_at_call 24; exact Calls.regrown_of (D24 _))))
        refine wpQuiet_nil ?_
        intro w4 hw'
        obtain ⟨⟨dq, osq⟩, hw''⟩ := hw'
        have hb := below_of hw''
        clear hw'' D24 D28
        replace hB := Bel.call hB hb
        go_wp2_with fail
        exact bodyPost_ret (v := .tuple #[.string T, .int .i64 0]) (by simp [results, Try.results13, go_sem]) rfl ⟨by rw [HT.out], hB⟩
theorem rXor_pl (f g : Nat → By) (w : World) : Calls Try.prog 28 #[.string (tx f), .string (tx g)] w fun e w' => e = .returned (.string (tx (pl f g))) ∧ Below w.heap.size w w' := by
  have := rXor_tx f (tx g) (by rw [tx_size]; exact Nat.le_refl _) w
  rwa [tx_congr (pl_congr (fun _ _ => rfl) (fun j hj => bF_tx g j hj))] at this
theorem rXor_pl' (t : ByteArray) (g : Nat → By) (ht : t.size = 16) (w : World) : Calls Try.prog 28 #[.string t, .string (tx g)] w fun e w' => e = .returned (.string (tx (pl (bF t) g))) ∧ Below w.heap.size w w' := by
  have := rXor_pl (bF t) g w
  rwa [tx_bF t ht] at this
theorem rS2v_any (key : ByteArray) (v : Value) (l : List ByteArray) (hls : ∀ s ∈ l, s.size ≤ 1000000) (w : World) (hv : Txs w v l) :
    Calls Try.prog 13 #[.string key, v] w fun e w' => e = .returned (.tuple #[.string (s2S key l), .int .i64 (s2E key l)]) ∧ Below w.heap.size w w' := by
  have C23 := fun W => r10sized_any key W
  rw [isK_kE] at C23
  by_cases h : kE key = 0
  · rw [decide_eq_true h] at C23
    have hk := kE_0.1 h
    by_cases h127 : 127 < l.length
    · have e : s2E key l = 18 := by unfold s2E; rw [if_pos h, if_pos h127]
      unfold s2S
      rw [e, if_neg (by decide)]
      obtain ⟨a0, cap, rfl⟩ := txs_len hv
      exact rS2v_many key a0 _ cap h127 w C23
    · have e : s2E key l = 0 := by unfold s2E; rw [if_pos h, if_neg h127]
      unfold s2S
      rw [e, if_pos rfl]
      by_cases h0 : l.length = 0
      · have e2 : s2F key l = cm key oS := by
          have : l = [] := List.eq_nil_of_length_eq_zero h0
          subst this
          rfl
        rw [e2]
        obtain ⟨a0, cap, rfl⟩ := txs_len hv
        rw [h0]
        have C24 := fun W => rcmac_any key oS hk (by rw [oS_size]; decide) W
        rw [← oS_zrs] at C24 ⊢
        exact rS2v_none key a0 cap (zrs 15) _ (zrs_size 15) w C23 (fun W => rzeros_any 15 (by omega) W) C24
      · obtain ⟨s, h1, h2, h3⟩ := last_of h0
        have e2 : s2F key l = rowF key l.dropLast s := by unfold s2F; rw [h1]
        rw [e2]
        rcases hv with ⟨_, hn⟩ | ⟨a, cap, rfl, hcap, hc⟩
        · rw [hn] at h0; exact absurd rfl h0
        · obtain ⟨m, hm⟩ : ∃ m, l.length = m + 1 := ⟨l.length - 1, by omega⟩
          have hc' := hc _ s h2
          rw [hm, Nat.add_sub_cancel] at hc'
          rw [hm]
          have C27 : ∀ W, Calls Try.prog 27 #[.int .i64 16] W fun e w' => e = .returned (.string zS) ∧ Below W.heap.size W w' := fun W => by
            have := rzeros_any 16 (by omega) W
            rw [← zS_zrs] at this
            exact this
          refine rS2v_some key a cap m l.dropLast s (by omega) (by omega) w (fun t ht => hls t (List.dropLast_subset _ ht)) (hls s (List.mem_of_getElem? h2)) (fun i t hi => hc i t ?_) hc' C23 C27 (fun s hs W => rcmac_any key s hk hs W) (fun f W => rtwice_tx f W) (fun f g W => rXor_pl f g W) (fun t g ht W => rXor_pl' t g ht W) (fun t ht W => rwhole_any t ht W)
          have hi' := (List.getElem?_eq_some_iff.1 hi).1
          rw [List.length_dropLast] at hi'
          rw [← hi, List.dropLast_eq_take, List.getElem?_take, if_pos hi']
  · rw [decide_eq_false h] at C23
    have e : s2E key l = kE key := by unfold s2E; rw [if_neg h]
    have e3 : kE key = 13 := by
      unfold kE at h ⊢
      by_cases q : isK key = true
      · rw [if_pos q] at h; exact absurd rfl h
      · rw [if_neg q]
    unfold s2S
    rw [e, if_neg h, e3]
    exact rS2v_no key v w C23
end Go.Proofs.Ytogkijjmimaccaa
