/- Texts joined: Q2, Q4. -/
import Derived.Test.YtjaljnfijhfkcaaGreatDoorJ15
import Derived.Test.YtjaljnfijhfkcaaGreatDoorJ12
/- The reference: products of texts, texts xor each other, filled up, sizes. -/
set_option linter.all false
set_option maxRecDepth 100000
namespace Go.Proofs.YtjaljnfijhfkcaaGreatDoor
open Go.RowKit Go.Sort Lin
theorem row_text (w : World) (g c n : Nat) (h : Arr w g 16 (bc (dg n))) : (convert 50 9 (.slice (some ⟨g, 0, none⟩) 16 c)).run Tryz.prog w = .ok (.string (tN n)) w := by
  have := convC w g 16 c ((List.range 16).map fun j => ((dg n j).val : Int)) (by simp) (by
    intro j u hu
    rw [Addr.add_mid, Nat.zero_add]
    have hj : j < 16 := by have := (List.getElem?_eq_some_iff.1 hu).1; simpa using this
    rw [h.c j hj, ← hu]
    simp [hj, bc])
  rw [this, tN_tx]
  rfl
set_option maxHeartbeats 1000000 in
theorem rXor_any (a b : ByteArray) (hab : a.size ≤ b.size) (ha : a.size ≤ 1000000) (w : World) :
    Calls Tryz.prog 46 #[.string a, .string b] w fun e w' => e = .returned (.string (xS a b)) ∧ Below w.heap.size w w' := by
  obtain ⟨i0, hi, hi0, hi1, hi2⟩ := info_parts Tryz.info5
  have mk := run_make (P := Tryz.prog) w 50 5 i0 (.int .u8 0) Tryz.underlying50 hi hi0 .i64 .i64 a.size a.size (by omega) (by omega) (by rw [hi2]; omega) (by omega)
  rw [hi1] at mk
  have A0 : Arr (w.alloc (.cells (madeCells #[.int .u8 0] a.size) 5)) w.heap.size a.size (bm (plF (bF a) (bF b)) (fun _ => 0) 0) := Arr.new _ _ 5 _ rfl _ _ (fun j hj => by unfold bm; rw [if_neg (by omega)]; exact made_at _ j hj)
  have B0 : Below w.heap.size w (w.alloc (.cells (madeCells #[.int .u8 0] a.size) 5)) := Bel.al (Below.refl _ w) _
  have l0 : w.heap.size < (w.alloc (.cells (madeCells #[.int .u8 0] a.size) 5)).heap.size := by simp
  have a1 : (a.size : Int) ≤ 1000000 := by omega
  go_enter Tryz.func46, Tryz.ntmps46
  go_wp2_with fail
  clear mk hi hi0 hi1 hi2
  go_loopw [6] (fun z wr => ∃ k : Nat, k ≤ a.size ∧ z = .int .i64 k ∧ Below w.heap.size w wr ∧ w.heap.size < wr.heap.size ∧ Arr wr w.heap.size a.size (bm (plF (bF a) (bF b)) (fun _ => 0) k)) (fun z _ => a.size - (intOf z).toNat)
  case atStart => exact ⟨0, by omega, rfl, B0, l0, A0⟩
  case round =>
    clear A0 B0 l0
    obtain ⟨k, hk, rfl, hB, hl, A⟩ := hrel
    by_cases hlt : k < a.size
    · have k0 : (0 : Int) ≤ (k : Int) := by omega
      have k1 : (k : Int) < (a.size : Int) := by omega
      have I1 := fun W => idxS a k hlt W
      have I2 := fun W => idxS b k (by omega) W
      rw [bF_bt] at I1 I2
      have X := xr8 (bF a k) (bF b k)
      have HX : Hid (xr (bF a k) (bF b k) = plF (bF a) (bF b) k) := rfl
      generalize xr (bF a k) (bF b k) = c at *
      go_wp2_with fail
      refine wp_region_below_tail 10 (by kernel_rfl) (by kernel_rfl) ?_
      simp only [List.take_succ_cons, List.take_zero, List.drop_succ_cons, List.drop_zero]
      repeat (go_big_quiet_step (fail))
      refine wpQuiet_nil ?_
      intro w3 hw'
      obtain ⟨⟨dq, osq⟩, hw''⟩ := hw'
      have hb := below_of hw''
      clear hw'' I1 I2 X
      have A3 := A.below hb hl
      have hB3 := Bel.call hB hb
      have hl3 : w.heap.size < w3.heap.size := Nat.lt_of_lt_of_le hl hb.size
      clear A hB hb
      have c0 := A3.c k hlt
      have z0 := A3.z k hlt
      go_wp2_with fail
      refine ⟨⟨k + 1, by omega, by go_num, Bel.st hB3 (by omega) _, by rw [size_set]; exact hl3, (A3.set k hlt _).congr fun j hj => ?_⟩, by simp [intOf]; omega⟩
      unfold bm
      by_cases e : j = k
      · subst e; rw [if_pos rfl, if_pos (by omega), HX.out]
      · rw [if_neg e]
        by_cases e2 : j < k
        · rw [if_pos e2, if_pos (by omega)]
        · rw [if_neg e2, if_neg (by omega)]
    · have e : k = a.size := by omega
      have cv := convC wr w.heap.size a.size a.size (xL a.size (bF a) (bF b)) (by simp [xL]) (by
        intro j q hq
        rw [Addr.add_mid, Nat.zero_add]
        have hj : j < a.size := by have := (List.getElem?_eq_some_iff.1 hq).1; simpa [xL] using this
        rw [A.c j hj, ← hq]
        unfold bm
        rw [if_pos (by omega)]
        simp [xL, hj, plF])
      have k1 : ¬ (k : Int) < (a.size : Int) := by omega
      rw [show mkS (xL a.size (bF a) (bF b)) = xS a b from rfl] at cv
      obtain ⟨T, hT⟩ : ∃ T, xS a b = T := ⟨_, rfl⟩
      rw [hT] at cv
      have HT : Hid (xS a b = T) := hT
      clear A hT
      go_wp2_with fail
      go_ret
      exact ⟨by rw [HT.out]; rfl, hB⟩
set_option maxHeartbeats 1000000 in
theorem rgsized_any (key nonce : ByteArray) (w : World) : Calls Tryz.prog 44 #[.string key, .string nonce] w fun e w' => e = .returned (.int .i64 (rfg key nonce)) ∧ w' = w := by
  unfold rfg
  by_cases h : isK key = true
  · rw [if_pos h]
    have hk := (isK_iff key).1 h
    by_cases h12 : nonce.size = 12
    · rw [if_pos h12]
      have n1 : (nonce.size : Int) = 12 := by omega
      rcases hk with hk | hk
      · have k1 : (key.size : Int) = 16 := by omega
        clear h hk h12
        go_enter Tryz.func44, Tryz.ntmps44
        go_wp2_with fail
        go_ret
        exact ⟨rfl, rfl⟩
      · have k1 : (key.size : Int) = 32 := by omega
        clear h hk h12
        go_enter Tryz.func44, Tryz.ntmps44
        go_wp2_with fail
        go_ret
        exact ⟨rfl, rfl⟩
    · rw [if_neg h12]
      have n1 : ¬ (nonce.size : Int) = 12 := by omega
      rcases hk with hk | hk
      · have k1 : (key.size : Int) = 16 := by omega
        clear h hk h12
        go_enter Tryz.func44, Tryz.ntmps44
        go_wp2_with fail
        go_ret
        exact ⟨rfl, rfl⟩
      · have k1 : (key.size : Int) = 32 := by omega
        clear h hk h12
        go_enter Tryz.func44, Tryz.ntmps44
        go_wp2_with fail
        go_ret
        exact ⟨rfl, rfl⟩
  · rw [if_neg h]
    have hk : ¬ Key key := fun e => h ((isK_iff key).2 e)
    have j1 : ¬ (key.size : Int) = 16 := fun e => hk (.inl (by omega))
    have j2 : ¬ (key.size : Int) = 32 := fun e => hk (.inr (by omega))
    have k1 : ((key.size : Int) != 16) = true := by simp [bne, beq_false_of_ne j1]
    have k2 : ((key.size : Int) != 32) = true := by simp [bne, beq_false_of_ne j2]
    clear h hk j1 j2
    go_enter Tryz.func44, Tryz.ntmps44
    go_wp2_with fail
    go_ret
    exact ⟨rfl, rfl⟩
end Go.Proofs.YtjaljnfijhfkcaaGreatDoor
/- The reference's hash. -/
set_option linter.all false
set_option maxRecDepth 100000
namespace Go.Proofs.YtjaljnfijhfkcaaGreatDoor
open Go.RowKit Go.Sort Lin
/-- The j-th block of a text of whole blocks. -/
def ak (t : ByteArray) (j : Nat) : Nat := be (fun i => bF t (16 * j + i)) 16
def abk (t : ByteArray) (k : Nat) : List Nat := (List.range k).map (ak t)
theorem abk_succ (t : ByteArray) (k : Nat) : abk t (k + 1) = abk t k ++ [ak t k] := by simp [abk, List.range_succ]
theorem dg_0 (j : Nat) : dg 0 j = 0 := by
  apply Fin.ext
  simp [dg, dgm]
set_option maxHeartbeats 1000000 in
theorem rHash_yes (h a s : ByteArray) (hh : h.size = 16) (A1 S1 A2 S2 all : ByteArray) (K : Nat) (hall : ((A1 ++ S1) ++ A2) ++ S2 = all) (hK : all.size = 16 * K) (z1 : A1.size ≤ 2000000) (z2 : S1.size ≤ 2000000) (z3 : A2.size = 8) (z4 : S2.size = 8) (w : World)
    (C25a : ∀ W, Calls Tryz.prog 68 #[.string a] W fun e w' => e = .returned (.string A1) ∧ w' = W)
    (C25s : ∀ W, Calls Tryz.prog 68 #[.string s] W fun e w' => e = .returned (.string S1) ∧ w' = W)
    (C26a : ∀ W, Calls Tryz.prog 90 #[.int .i64 (a.size : Int)] W fun e w' => e = .returned (.string A2) ∧ Below W.heap.size W w')
    (C26s : ∀ W, Calls Tryz.prog 90 #[.int .i64 (s.size : Int)] W fun e w' => e = .returned (.string S2) ∧ Below W.heap.size W w') :
    Calls Tryz.prog 69 #[.string h, .string a, .string s] w fun e w' => e = .returned (.tuple #[.string (tN (hF (bN h) (abk all K))), .int .i64 0]) ∧ Below w.heap.size w w' := by
  obtain ⟨i0, hi, hi0, hi1, hi2⟩ := info_parts Tryz.info5
  have mk := fun W => run_make (P := Tryz.prog) W 50 5 i0 (.int .u8 0) Tryz.underlying50 hi hi0 .i64 .i64 16 16 (by omega) (by omega) (by rw [hi2]; omega) (by omega)
  rw [hi1] at mk
  have h16 : (h.size : Int) = 16 := by omega
  have y1 : (A1.size : Int) ≤ 2000000 := by omega
  have y2 : (S1.size : Int) ≤ 2000000 := by omega
  have y3 : (A2.size : Int) = 8 := by omega
  have y4 : (S2.size : Int) = 8 := by omega
  have y5 : (A1 ++ S1).size ≤ 4000000 := by rw [app_size]; omega
  have y6 : ((A1 ++ S1) ++ A2).size ≤ 5000000 := by rw [app_size]; omega
  have y7 : ((A1 ++ S1).size : Int) ≤ 4000000 := by omega
  have y8 : (((A1 ++ S1) ++ A2).size : Int) ≤ 5000000 := by omega
  have y9 : all.size ≤ 6000000 := by rw [← hall, app_size]; omega
  have HA : Hid (((A1 ++ S1) ++ A2) ++ S2 = all) := hall
  have HH : Hid (h.size = 16) := hh
  clear hall z1 z2 z3 z4 y5 y6 hh
  go_enter Tryz.func69, Tryz.ntmps69
  go_wp2_with fail
  refine (C25a _).mono ?_
  rintro e w1 ⟨rfl, hw⟩
  rw [hw]
  clear hw w1
  go_wp2_with fail
  refine (C25s _).mono ?_
  rintro e w1 ⟨rfl, hw⟩
  rw [hw]
  clear hw w1
  go_wp2_with fail
  refine (C26a _).mono ?_
  rintro e w2 ⟨rfl, B2⟩
  go_wp2_with fail
  refine (C26s _).mono ?_
  rintro e w3 ⟨rfl, B3⟩
  replace B3 := Bel.call B2 B3
  clear C25a C25s C26a C26s B2
  have mk3 := mk w3
  clear mk
  go_wp2_with fail
  clear mk3 hi hi0 hi1 hi2 y1 y2 y3 y4 y7 y8
  rw [HA.out]
  have X0 : Arr (w3.alloc (.cells (madeCells #[.int .u8 0] 16) 5)) w3.heap.size 16 (bc (dg (hF (bN h) (abk all 0)))) := Arr.new _ _ 5 _ rfl _ _ (fun j hj => by
    unfold bc
    rw [show hF (bN h) (abk all 0) = 0 from rfl, dg_0]
    exact made_at _ j hj)
  have B4 := Bel.al B3 (.cells (madeCells #[.int .u8 0] 16) 5)
  have l3 := B3.size
  generalize w3.alloc (.cells (madeCells #[.int .u8 0] 16) 5) = w4 at *
  generalize w3.heap.size = g0 at *
  clear B3
  have k16 : (all.size : Int) = 16 * (K : Int) := by omega
  have K1 : (K : Int) ≤ 1000000 := by omega
  go_loopw [9, 10] (fun x z wr => ∃ k g : Nat, k ≤ K ∧ z = .int .i64 (16 * (k : Int)) ∧ x = .slice (some ⟨g, 0, none⟩) 16 16 ∧ Below w.heap.size w wr ∧ w.heap.size ≤ g ∧ Arr wr g 16 (bc (dg (hF (bN h) (abk all k))))) (fun _ z _ => 16 * K - (intOf z).toNat)
  case atStart => exact ⟨0, g0, by omega, rfl, rfl, B4, l3, X0⟩
  case round =>
    clear B4 X0
    obtain ⟨k, g, hk, rfl, rfl, hB, lg, X⟩ := hrel
    have k0 : (0 : Int) ≤ 16 * (k : Int) := by omega
    by_cases hlt : k < K
    · have k1 : (k : Int) < (K : Int) := by omega
      have HF : Hid (hF (bN h) (abk all (k + 1)) = tB (hF (bN h) (abk all k) ^^^ ak all k) (bN h)) := by
        show _ = _
        rw [abk_succ, hF_app]
      have cl : hF (bN h) (abk all k) < 2 ^ 128 := hF_lt (bN_lt h) _
      generalize hF (bN h) (abk all k) = c at *
      go_wp2_with fail
      go_loopw [11] (fun z wr => ∃ m : Nat, m ≤ 16 ∧ z = .int .i64 m ∧ Below w.heap.size w wr ∧ Arr wr g 16 (bm (fun j => xr (dg c j) (bF all (16 * k + j))) (dg c) m)) (fun z _ => 16 - (intOf z).toNat)
      case atStart => exact ⟨0, by omega, rfl, hB, X.congr fun j hj => by unfold bc bm; rw [if_neg (by omega)]⟩
      case round =>
        clear hB X
        obtain ⟨m, hm, rfl, hB, X⟩ := hrel
        by_cases hlm : m < 16
        · have m0 : (0 : Int) ≤ (m : Int) := by omega
          have m1 : (m : Int) < 16 := by omega
          obtain ⟨q, hq⟩ : ∃ q, 16 * k + m = q := ⟨_, rfl⟩
          have q1 : 16 * (k : Int) + (m : Int) = (q : Int) := by omega
          have q0 : (0 : Int) ≤ (q : Int) := by omega
          have I := fun W => idxS all q (by omega) W
          rw [bF_bt] at I
          have r0 := fun ds os => cell_regrown (X.cv m hlm (.int .u8 ((dg c m).val : Int)) (by unfold bm; rw [if_neg (by omega)])) ds os
          have E := xr8 (dg c m) (bF all q)
          have HX : Hid (xr (dg c m) (bF all (16 * k + m)) = xr (dg c m) (bF all q)) := by show _ = _; rw [hq]
          generalize xr (dg c m) (bF all q) = v at *
          clear hq
          go_wp2_with fail
          refine wp_region_below_tail 13 (by kernel_rfl) (by kernel_rfl) ?_
          simp only [List.take_succ_cons, List.take_zero, List.drop_succ_cons, List.drop_zero]
          repeat (go_big_quiet_step (fail))
          refine wpQuiet_nil ?_
          intro w5 hw'
          obtain ⟨⟨dq, osq⟩, hw''⟩ := hw'
          have hb := below_of hw''
          clear hw'' r0 I E
          have X5 : Arr _ _ 16 _ := X.to' (n := 15) hb
          have B5 := Bel.call hB hb
          clear X hB hb
          have c0 := X5.c m hlm
          have z0 := X5.z m hlm
          go_wp2_with fail
          refine ⟨⟨m + 1, by omega, by go_num, Bel.st B5 lg _, (X5.set m hlm _).congr fun j hj => ?_⟩, by simp [intOf]; omega⟩
          unfold bm
          by_cases e : j = m
          · subst e
            rw [if_pos rfl, if_pos (by omega)]
            show _ = Value.int .u8 ((xr (dg c j) (bF all (16 * k + j))).val : Int)
            rw [HX.out]
          · rw [if_neg e]
            by_cases e2 : j < m
            · rw [if_pos e2, if_pos (by omega)]
            · rw [if_neg e2, if_neg (by omega)]
        · have e : m = 16 := by omega
          rw [show ((m : Nat) : Int) = 16 by omega]
          subst e
          replace X : Arr wr g 16 (bc (fun j => xr (dg c j) (bF all (16 * k + j)))) := X.congr fun j hj => by unfold bm bc; rw [if_pos hj]
          obtain ⟨cp, w5, hcv, A5, l5, B5⟩ := conv_row wr h
          rw [HH.out] at hcv A5
          have X5 : Arr _ _ 16 _ := X.to' (n := 15) B5
          have D5 := Bel.call hB B5
          have C23 := rgtimes_any _ _ g wr.heap.size 16 cp w5 X5 A5
          have eb : be (fun j => xr (dg c j) (bF all (16 * k + j))) 16 = c ^^^ ak all k := by rw [be_xor, be_dg cl]; rfl
          rw [eb, ← bN_be, ← HF.out] at C23
          clear X A5 X5 eb hB
          go_wp2_with fail
          refine C23.mono ?_
          rintro e w6 ⟨rfl, B6, A6⟩
          have D6 := Bel.call D5 B6
          have s6 := D5.size
          clear C23 hcv B6 D5
          go_wp2_with fail
          exact ⟨⟨k + 1, w5.heap.size, by omega, by go_num, rfl, D6, s6, A6⟩, by simp [intOf]; omega⟩
    · have e : k = K := by omega
      subst e
      have cv := row_text wr g 16 _ X
      obtain ⟨T, hT⟩ : ∃ T, tN (hF (bN h) (abk all k)) = T := ⟨_, rfl⟩
      rw [hT] at cv
      have HT : Hid (tN (hF (bN h) (abk all k)) = T) := hT
      clear X hT
      go_wp2_with fail
      refine bodyPost_ret (v := .tuple #[.string T, .int .i64 0]) (by simp [results, Tryz.results69, go_sem]) rfl ⟨by rw [HT.out], hB⟩
theorem bt_out (s : ByteArray) (j : Nat) (h : s.size ≤ j) : bF s j = 0 := by
  apply Fin.ext
  simp only [bF, bt]
  rw [Array.getElem?_eq_none (show s.data.size ≤ j from h)]
  rfl
theorem bF_lo (a b : ByteArray) (j : Nat) (h : j < a.size) : bF (a ++ b) j = bF a j := by
  apply Fin.ext
  simp only [bF, bt]
  rw [ByteArray.data_append, Array.getElem?_append_left (show j < a.data.size from h)]
theorem bF_hi (a b : ByteArray) (j : Nat) : bF (a ++ b) (a.size + j) = bF b j := by
  apply Fin.ext
  simp only [bF, bt]
  rw [ByteArray.data_append, Array.getElem?_append_right (by show a.data.size ≤ a.size + j; have : a.data.size = a.size := rfl; omega)]
  rw [show a.size + j - a.data.size = j by have : a.data.size = a.size := rfl; omega]
theorem bF_zrs (k j : Nat) : bF (zrs k) j = 0 := by
  by_cases h : j < k
  · apply Fin.ext
    have := mkS_bt (List.replicate k 0) j 0 (by simp [h]) (by omega) (by omega)
    have e := bF_bt (zrs k) j
    unfold zrs at e ⊢
    show (bF (mkS (List.replicate k 0)) j).val = 0
    omega
  · exact bt_out _ _ (by rw [zrs_size]; omega)
theorem bF_fil (s : ByteArray) (j : Nat) : bF (fil s) j = bF s j := by
  unfold fil
  by_cases h : j < s.size
  · exact bF_lo _ _ j h
  · obtain ⟨d, rfl⟩ : ∃ d, j = s.size + d := ⟨j - s.size, by omega⟩
    rw [bF_hi, bF_zrs, bt_out s _ (by omega)]
theorem bF_cut (t : ByteArray) (a i : Nat) : bF (t.extract a t.size) i = bF t (a + i) := by
  by_cases h : a + i < t.size
  · exact bF_ext t a i h
  · rw [bt_out t _ (by omega), bt_out _ _ (by rw [ByteArray.size_extract]; omega)]
theorem bN_cut (t : ByteArray) (j : Nat) : bN (t.extract (16 * j) t.size) = ak t j := by
  rw [bN_be]
  exact be_congr 16 (fun i _ => bF_cut t _ i)
theorem bls_abk (t : ByteArray) : bls t = abk (fil t) ((t.size + 15) / 16) := by
  unfold bls bk16 abk
  refine List.map_congr_left fun j _ => ?_
  rw [bN_cut]
  exact be_congr 16 (fun i _ => (bF_fil t _).symm)
theorem abk_lo (a b : ByteArray) (k : Nat) (h : 16 * k ≤ a.size) : abk (a ++ b) k = abk a k := by
  unfold abk
  refine List.map_congr_left fun j hj => ?_
  have := List.mem_range.1 hj
  exact be_congr 16 (fun i hi => bF_lo a b _ (by omega))
theorem abk_app (a b : ByteArray) (k m : Nat) (h : a.size = 16 * k) : abk (a ++ b) (k + m) = abk a k ++ abk b m := by
  have e : abk (a ++ b) (k + m) = abk (a ++ b) k ++ (List.range m).map (fun j => ak (a ++ b) (k + j)) := by
    unfold abk
    rw [List.range_add, List.map_append, List.map_map]
    rfl
  have e2 : (List.range m).map (fun j => ak (a ++ b) (k + j)) = abk b m := by
    unfold abk
    refine List.map_congr_left fun j _ => ?_
    refine be_congr 16 (fun i _ => ?_)
    rw [show 16 * (k + j) + i = a.size + (16 * j + i) by omega, bF_hi]
  rw [e, abk_lo a b k (by omega), e2]
theorem btS_bF (n j : Nat) (hj : j < 8) : (bF (btS n) j).val = 8 * n / 2 ^ (56 - 8 * j) % 256 := by
  have := mkS_bt (btL n) j ((8 * n / 2 ^ (56 - 8 * j) % 256 : Nat) : Int) (by simp [btL, hj]) (by omega) (by omega)
  have e := bF_bt (btS n) j
  unfold btS at e ⊢
  omega
theorem btS_be (n : Nat) (hn : 8 * n < 2 ^ 64) : be (bF (btS n)) 8 = 8 * n := by
  have := dig_be 8 (8 * n)
  rw [show (256 : Nat) ^ 8 = 2 ^ 64 by decide, Nat.mod_eq_of_lt hn] at this
  refine (be_congr 8 (fun j hj => ?_)).trans this
  apply Fin.ext
  rw [btS_bF n j hj]
  simp only [dgm]
  rw [show (256 : Nat) = 2 ^ 8 from rfl, ← Nat.pow_mul, show 8 * (8 - 1 - j) = 56 - 8 * j by omega]
theorem ak_len (n m : Nat) (hn : n ≤ 1000000) (hm : m ≤ 1000000) : ak (btS n ++ btS m) 0 = 8 * n * 2 ^ 64 + 8 * m := by
  unfold ak
  rw [show 16 = 8 + 8 from rfl, be_add]
  have e1 : be (fun i => bF (btS n ++ btS m) ((8 + 8) * 0 + i)) 8 = be (bF (btS n)) 8 := be_congr 8 (fun i hi => by
    rw [Nat.mul_zero, Nat.zero_add, bF_lo _ _ _ (by rw [btS_size]; exact hi)])
  have e2 : be (fun j => bF (btS n ++ btS m) ((8 + 8) * 0 + (8 + j))) 8 = be (bF (btS m)) 8 := be_congr 8 (fun i hi => by
    have := bF_hi (btS n) (btS m) i
    rw [btS_size] at this
    rw [Nat.mul_zero, Nat.zero_add, this])
  rw [e1, e2, btS_be n (by omega), btS_be m (by omega), show (256 : Nat) ^ 8 = 2 ^ 64 by decide]
theorem all_abk (a s : ByteArray) (ha : a.size ≤ 1000000) (hs : s.size ≤ 1000000) :
    abk (((fil a ++ fil s) ++ btS a.size) ++ btS s.size) (((a.size + 15) / 16 + (s.size + 15) / 16) + 1) = hBl a s := by
  have e3 : abk (btS a.size ++ btS s.size) 1 = [lenB a s] := by
    have e4 : abk (btS a.size ++ btS s.size) 1 = [ak (btS a.size ++ btS s.size) 0] := by simp [abk]
    rw [e4, ak_len _ _ ha hs]
    unfold lenB
    rfl
  rw [ap_assoc (fil a ++ fil s), abk_app (fil a ++ fil s) _ _ 1 (by rw [app_size, fil_size, fil_size]; omega), abk_app _ _ _ _ (fil_size a), ← bls_abk, ← bls_abk, e3]
  unfold hBl
  rfl
set_option maxHeartbeats 1000000 in
theorem rHash_no (h a s : ByteArray) (hh : ¬ h.size = 16) (w : World) :
    Calls Tryz.prog 69 #[.string h, .string a, .string s] w fun e w' => e = .returned (.tuple #[.string ⟨#[]⟩, .int .i64 10]) ∧ Below w.heap.size w w' := by
  have i1 : ¬ (h.size : Int) = 16 := by omega
  clear hh
  go_enter Tryz.func69, Tryz.ntmps69
  go_wp2_with fail
  refine bodyPost_ret (v := .tuple #[.string ⟨#[]⟩, .int .i64 10]) (by simp [results, Tryz.results69, go_sem]) rfl ⟨rfl, Below.refl _ _⟩
theorem rHash_any (h a s : ByteArray) (ha : a.size ≤ 1000000) (hs : s.size ≤ 1000000) (w : World) :
    Calls Tryz.prog 69 #[.string h, .string a, .string s] w fun e w' => e = .returned (.tuple #[.string (hsS h a s), .int .i64 (hsE h)]) ∧ Below w.heap.size w w' := by
  unfold hsS hsE
  by_cases hh : h.size = 16
  · rw [if_pos hh, if_pos hh, ← all_abk a s ha hs]
    have f1 := fil_size a
    have f2 := fil_size s
    exact rHash_yes h a s hh (fil a) (fil s) (btS a.size) (btS s.size) _ _ rfl (by rw [app_size, app_size, app_size, btS_size, btS_size]; omega) (by omega) (by omega) (btS_size _) (btS_size _) w (fun W => filled_any a ha W) (fun W => filled_any s hs W) (fun W => bits_any _ ha W) (fun W => bits_any _ hs W)
  · rw [if_neg hh, if_neg hh]
    exact rHash_no h a s hh w
end Go.Proofs.YtjaljnfijhfkcaaGreatDoor
