/- The reference's tags; Seal and Open. -/
import Derived.Test.YtjaljnfijhfkcaaGreatDoorJ38
import Derived.Test.YtjaljnfijhfkcaaGreatDoorJ41
set_option linter.all false
set_option maxRecDepth 100000
namespace Go.Proofs.YtjaljnfijhfkcaaGreatDoor
open Go.RowKit Go.Sort Lin
theorem encS_size (key block : ByteArray) : (encS key block).size = 16 := tx_size _
theorem fil_1 : fil ⟨#[0]⟩ = tN 0 := by
  apply ba_ext
  unfold fil
  rw [ap_list, tN_tx, tx, zrs, mkS_list, mkS_list]
  decide
theorem xS_tN {a : Nat} (ha : a < 2 ^ 128) (s : ByteArray) : xS (tN a) s = tN (a ^^^ bN s) := by
  have e : xS (tN a) s = tx (fun j => xr (dg a j) (bF s j)) := by
    have e0 : xL 16 (bF (tN a)) (bF s) = (List.range 16).map fun j => ((xr (dg a j) (bF s j)).val : Int) := by
      unfold xL
      exact List.map_congr_left (fun j hj => by rw [bF_tN a j (List.mem_range.1 hj)])
    unfold xS tx
    rw [tN_size, e0]
  rw [e, tx_be, be_xor, be_dg ha, ← bN_be]
set_option maxHeartbeats 1000000 in
theorem rtag_core (key nonce ad c Z h j t T : ByteArray) (e1 e2 e3 : Int) (hn : nonce.size ≤ 1000000) (w : World)
    (C25 : ∀ W, Calls Tryz.prog 68 #[.string ⟨#[0]⟩] W fun e w' => e = .returned (.string Z) ∧ Below W.heap.size W w')
    (C44 : ∀ W, Calls Tryz.prog 67 #[.string key, .string Z] W fun e w' => e = .returned (.tuple #[.string h, .int .i64 e1]) ∧ Below W.heap.size W w')
    (C44' : ∀ W, Calls Tryz.prog 67 #[.string key, .string (nonce ++ ⟨#[0, 0, 0, 1]⟩)] W fun e w' => e = .returned (.tuple #[.string j, .int .i64 e2]) ∧ Below W.heap.size W w')
    (C13 : ∀ W, Calls Tryz.prog 69 #[.string h, .string ad, .string c] W fun e w' => e = .returned (.tuple #[.string t, .int .i64 e3]) ∧ Below W.heap.size W w')
    (C19 : ∀ W, Calls Tryz.prog 46 #[.string t, .string j] W fun e w' => e = .returned (.string T) ∧ Below W.heap.size W w') :
    Calls Tryz.prog 47 #[.string key, .string nonce, .string ad, .string c] w fun e w' => e = .returned (.string T) ∧ Below w.heap.size w w' := by
  have n1 : (nonce.size : Int) ≤ 1000000 := by omega
  go_enter Tryz.func47, Tryz.ntmps47
  go_wp2_with fail
  refine (C25 _).mono ?_
  rintro e w1 ⟨rfl, B1⟩
  go_wp2_with fail
  refine (C44 _).mono ?_
  rintro e w2 ⟨rfl, B2⟩
  replace B2 := Bel.call B1 B2
  clear B1 C25 C44
  go_wp2_with fail
  refine (C44' _).mono ?_
  rintro e w3 ⟨rfl, B3⟩
  replace B3 := Bel.call B2 B3
  clear B2 C44'
  go_wp2_with fail
  refine (C13 _).mono ?_
  rintro e w4 ⟨rfl, B4⟩
  replace B4 := Bel.call B3 B4
  clear B3 C13
  go_wp2_with fail
  refine (C19 _).mono ?_
  rintro e w5 ⟨rfl, B5⟩
  replace B5 := Bel.call B4 B5
  clear B4 C19
  go_wp2_with fail
  go_ret
  exact ⟨rfl, B5⟩
theorem rtag_any (key nonce ad c : ByteArray) (hk : Key key) (hn : nonce.size = 12) (ha : ad.size ≤ 1000000) (hc : c.size ≤ 1000000) (w : World) :
    Calls Tryz.prog 47 #[.string key, .string nonce, .string ad, .string c] w fun e w' => e = .returned (.string (tN (tgN key nonce ad c))) ∧ Below w.heap.size w w' := by
  have z0 : rfs key (tN 0) = 0 := by unfold rfs; rw [if_pos ((isK_iff key).2 hk), if_pos (tN_size 0)]
  have z1 : rfs key (nonce ++ n1) = 0 := rfs_12 hk hn rfl
  refine rtag_core key nonce ad c (tN 0) (encS key (tN 0)) (encS key (nonce ++ n1)) (tN (hF (hK key) (hBl ad c))) _ 0 0 0 (by omega) w (fun W => ?_) (fun W => ?_) (fun W => ?_) (fun W => ?_) (fun W => ?_)
  · have := filled_any ⟨#[0]⟩ (by decide) W
    rw [fil_1] at this
    exact this.mono fun e w' ⟨h1, h2⟩ => ⟨h1, by rw [h2]; exact Below.refl _ _⟩
  · have := rEncrypt_any key (tN 0) W
    rwa [z0, if_pos rfl] at this
  · have := rEncrypt_any key (nonce ++ n1) W
    rwa [z1, if_pos rfl] at this
  · have := rHash_any (encS key (tN 0)) ad c ha hc W
    unfold hsS hsE at this
    rwa [if_pos (encS_size _ _), if_pos (encS_size _ _)] at this
  · have := rXor_any (tN (hF (hK key) (hBl ad c))) (encS key (nonce ++ n1)) (by rw [tN_size, encS_size]; exact Nat.le_refl _) (by rw [tN_size]; decide) W
    rw [xS_tN (a := hF (hK key) (hBl ad c)) (hF_lt (bN_lt _) _)] at this
    exact this
set_option maxHeartbeats 1000000 in
theorem rSeal_no (key nonce ad p : ByteArray) (r : Int) (hr : ¬ r = 0) (w : World)
    (C30 : ∀ W, Calls Tryz.prog 44 #[.string key, .string nonce] W fun e w' => e = .returned (.int .i64 r) ∧ w' = W) :
    Calls Tryz.prog 24 #[.string key, .string nonce, .string ad, .string p] w fun e w' => e = .returned (.tuple #[.string ⟨#[]⟩, .int .i64 r]) ∧ Below w.heap.size w w' := by
  go_enter Tryz.func24, Tryz.ntmps24
  go_wp2_with fail
  refine (C30 _).mono ?_
  rintro e w1 ⟨rfl, hw⟩
  rw [hw]
  clear hw w1 C30
  go_wp2_with fail
  refine bodyPost_ret (v := .tuple #[.string ⟨#[]⟩, .int .i64 r]) (by simp [results, Tryz.results24, go_sem]) rfl ⟨rfl, Below.refl _ _⟩
set_option maxHeartbeats 1000000 in
theorem rSeal_yes (key nonce ad p st c g : ByteArray) (f : Int) (hp : p.size ≤ 65536) (hc : c.size ≤ 65536) (hg : g.size = 16) (hn : nonce.size ≤ 1000000) (w : World)
    (C30 : ∀ W, Calls Tryz.prog 44 #[.string key, .string nonce] W fun e w' => e = .returned (.int .i64 0) ∧ w' = W)
    (C31 : ∀ W, Calls Tryz.prog 45 #[.string key, .string (nonce ++ ⟨#[0, 0, 0, 2]⟩), .int .i64 (p.size : Int)] W fun e w' => e = .returned (.tuple #[.string st, .int .i64 f]) ∧ Below W.heap.size W w')
    (C19 : ∀ W, Calls Tryz.prog 46 #[.string p, .string st] W fun e w' => e = .returned (.string c) ∧ Below W.heap.size W w')
    (C32 : ∀ W, Calls Tryz.prog 47 #[.string key, .string nonce, .string ad, .string c] W fun e w' => e = .returned (.string g) ∧ Below W.heap.size W w') :
    Calls Tryz.prog 24 #[.string key, .string nonce, .string ad, .string p] w fun e w' => e = .returned (.tuple #[.string (c ++ g), .int .i64 0]) ∧ Below w.heap.size w w' := by
  have p1 : ¬ (65536 : Int) < (p.size : Int) := by omega
  have c1 : (c.size : Int) ≤ 65536 := by omega
  have g1 : (g.size : Int) = 16 := by omega
  have n1 : (nonce.size : Int) ≤ 1000000 := by omega
  clear hp hc hg hn
  go_enter Tryz.func24, Tryz.ntmps24
  go_wp2_with fail
  refine (C30 _).mono ?_
  rintro e w1 ⟨rfl, hw⟩
  rw [hw]
  clear hw w1 C30
  go_wp2_with fail
  refine (C31 _).mono ?_
  rintro e w2 ⟨rfl, B2⟩
  clear C31
  go_wp2_with fail
  refine (C19 _).mono ?_
  rintro e w3 ⟨rfl, B3⟩
  replace B3 := Bel.call B2 B3
  clear B2 C19
  go_wp2_with fail
  refine (C32 _).mono ?_
  rintro e w4 ⟨rfl, B4⟩
  replace B4 := Bel.call B3 B4
  clear B3 C32
  go_wp2_with fail
  refine bodyPost_ret (v := .tuple #[.string (c ++ g), .int .i64 0]) (by simp [results, Tryz.results24, go_sem]) rfl ⟨rfl, B4⟩
theorem rstr_any (key nonce t : ByteArray) (hk : Key key) (hn : nonce.size = 12) (ht : t.size ≤ 65536) (W : World) :
    Calls Tryz.prog 45 #[.string key, .string (nonce ++ n2), .int .i64 (t.size : Int)] W fun e w' => e = .returned (.tuple #[.string (smS key (bF (nonce ++ n2)) t.size), .int .i64 0]) ∧ Below W.heap.size W w' := by
  have := rstream_any key (nonce ++ n2) (t.size : Int) W
  have e : rfn key (nonce ++ n2) (t.size : Int) = 0 := by
    unfold rfn
    rw [if_neg (by omega)]
    exact rfs_12 hk hn rfl
  rwa [e, if_pos rfl, Int.toNat_natCast] at this
theorem rSeal_any (key nonce ad p : ByteArray) (hn : nonce.size ≤ 1000000) (ha : ad.size ≤ 1000000) (hp : p.size ≤ 65536) (w : World) :
    Calls Tryz.prog 24 #[.string key, .string nonce, .string ad, .string p] w fun e w' => e = .returned (.tuple #[.string (seR key nonce ad p), .int .i64 (rfg key nonce)]) ∧ Below w.heap.size w w' := by
  have C30 := fun W => rgsized_any key nonce W
  unfold seR
  by_cases h : rfg key nonce = 0
  · obtain ⟨hk, h12⟩ := rfg_0 h
    rw [if_pos h, h]
    rw [h] at C30
    have cs := crS_size key nonce p
    exact rSeal_yes key nonce ad p _ (crS key nonce p) _ 0 hp (by omega) (tN_size _) hn w C30 (fun W => rstr_any key nonce p hk h12 hp W) (fun W => rXor_any p _ (by rw [smS_size]; exact Nat.le_refl _) (by omega) W) (fun W => rtag_any key nonce ad _ hk h12 ha (by omega) W)
  · rw [if_neg h]
    exact rSeal_no key nonce ad p _ h w C30
set_option maxHeartbeats 1000000 in
theorem rOpen_no (key nonce ad s : ByteArray) (r : Int) (hr : ¬ r = 0) (w : World)
    (C30 : ∀ W, Calls Tryz.prog 44 #[.string key, .string nonce] W fun e w' => e = .returned (.int .i64 r) ∧ w' = W) :
    Calls Tryz.prog 27 #[.string key, .string nonce, .string ad, .string s] w fun e w' => e = .returned (.tuple #[.string ⟨#[]⟩, .int .i64 r]) ∧ Below w.heap.size w w' := by
  go_enter Tryz.func27, Tryz.ntmps27
  go_wp2_with fail
  refine (C30 _).mono ?_
  rintro e w1 ⟨rfl, hw⟩
  rw [hw]
  clear hw w1 C30
  go_wp2_with fail
  refine bodyPost_ret (v := .tuple #[.string ⟨#[]⟩, .int .i64 r]) (by simp [results, Tryz.results27, go_sem]) rfl ⟨rfl, Below.refl _ _⟩
set_option maxHeartbeats 1000000 in
theorem rOpen_short (key nonce ad s : ByteArray) (hs : s.size < 16) (w : World)
    (C30 : ∀ W, Calls Tryz.prog 44 #[.string key, .string nonce] W fun e w' => e = .returned (.int .i64 0) ∧ w' = W) :
    Calls Tryz.prog 27 #[.string key, .string nonce, .string ad, .string s] w fun e w' => e = .returned (.tuple #[.string ⟨#[]⟩, .int .i64 11]) ∧ Below w.heap.size w w' := by
  have s1 : (s.size : Int) < 16 := by omega
  clear hs
  go_enter Tryz.func27, Tryz.ntmps27
  go_wp2_with fail
  refine (C30 _).mono ?_
  rintro e w1 ⟨rfl, hw⟩
  rw [hw]
  clear hw w1 C30
  go_wp2_with fail
  refine bodyPost_ret (v := .tuple #[.string ⟨#[]⟩, .int .i64 11]) (by simp [results, Tryz.results27, go_sem]) rfl ⟨rfl, Below.refl _ _⟩
theorem tl_ne {a b : ByteArray} (h : ¬ a = b) : (a.toList == b.toList) = false := by
  apply beq_false_of_ne
  intro e
  rw [Go.ByteArray.toList_eq, Go.ByteArray.toList_eq] at e
  exact h (ba_ext e)
theorem tl_eq {a b : ByteArray} (h : a = b) : (a.toList == b.toList) = true := by rw [h]; exact beq_self_eq_true _
set_option maxHeartbeats 1000000 in
theorem rOpen_core (key nonce ad s g st p : ByteArray) (f : Int) (n : Nat) (hn : s.size = n + 16) (hs : n ≤ 65536) (hnn : nonce.size ≤ 1000000) (w : World)
    (C30 : ∀ W, Calls Tryz.prog 44 #[.string key, .string nonce] W fun e w' => e = .returned (.int .i64 0) ∧ w' = W)
    (C32 : ∀ W, Calls Tryz.prog 47 #[.string key, .string nonce, .string ad, .string (s.extract 0 n)] W fun e w' => e = .returned (.string g) ∧ Below W.heap.size W w')
    (C31 : ∀ W, Calls Tryz.prog 45 #[.string key, .string (nonce ++ ⟨#[0, 0, 0, 2]⟩), .int .i64 (n : Int)] W fun e w' => e = .returned (.tuple #[.string st, .int .i64 f]) ∧ Below W.heap.size W w')
    (C19 : ∀ W, Calls Tryz.prog 46 #[.string (s.extract 0 n), .string st] W fun e w' => e = .returned (.string p) ∧ Below W.heap.size W w') :
    Calls Tryz.prog 27 #[.string key, .string nonce, .string ad, .string s] w fun e w' => e = .returned (if g = s.extract n s.size then .tuple #[.string p, .int .i64 0] else .tuple #[.string ⟨#[]⟩, .int .i64 17]) ∧ Below w.heap.size w w' := by
  have s0 : (s.size : Int) - 16 = (n : Int) := by omega
  have s1 : ¬ (s.size : Int) < 16 := by omega
  have s3 : ¬ (65552 : Int) < (s.size : Int) := by omega
  have s4 : (n : Int) ≤ (s.size : Int) := by omega
  have s5 : n ≤ s.size := by omega
  have s2 : (0 : Int) ≤ (n : Int) := by omega
  have s6 : (s.extract 0 n).size = n := by rw [ByteArray.size_extract]; omega
  have s7 : ((s.extract 0 n).size : Int) = (n : Int) := by omega
  have n1 : (nonce.size : Int) ≤ 1000000 := by omega
  clear hs hn hnn s6
  obtain ⟨c, hc⟩ : ∃ c, s.extract 0 n = c := ⟨_, rfl⟩
  rw [hc] at C32 C19 s7
  go_enter Tryz.func27, Tryz.ntmps27
  go_wp2_with fail
  refine (C30 _).mono ?_
  rintro e w1 ⟨rfl, hw⟩
  rw [hw]
  clear hw w1 C30
  go_wp2_with fail
  refine wp_region_quiet_below (by kernel_rfl) (by kernel_rfl) ?_
  repeat (go_big_quiet_step (first | (go_at_call 47; exact Calls.regrown_of (C32 _))))
  refine wpQuiet_nil ?_
  intro w5 hw'
  obtain ⟨⟨dq, osq⟩, hw''⟩ := hw'
  have hb := below_of hw''
  clear hw'' C32
  by_cases hg : g = s.extract n s.size
  · have HG : Hid (g = s.extract n s.size) := hg
    have j1 := tl_eq hg
    rw [j1]
    clear hg j1
    go_wp2_with fail
    refine (C31 _).mono ?_
    rintro e w6 ⟨rfl, B6⟩
    replace B6 := Bel.call hb B6
    clear hb C31
    go_wp2_with fail
    refine (C19 _).mono ?_
    rintro e w7 ⟨rfl, B7⟩
    replace B7 := Bel.call B6 B7
    clear B6 C19
    go_wp2_with fail
    refine bodyPost_ret (v := .tuple #[.string p, .int .i64 0]) (by simp [results, Tryz.results27, go_sem]) rfl ⟨by first | rfl | rw [if_pos HG.out], B7⟩
  · have HG : Hid (¬ g = s.extract n s.size) := hg
    have j1 := tl_ne hg
    rw [j1]
    clear hg j1
    go_wp2_with fail
    refine bodyPost_ret (v := .tuple #[.string ⟨#[]⟩, .int .i64 17]) (by simp [results, Tryz.results27, go_sem]) rfl ⟨by first | rfl | rw [if_neg HG.out], hb⟩
theorem rOpen_any (key nonce ad s : ByteArray) (hn : nonce.size ≤ 1000000) (ha : ad.size ≤ 1000000) (hs : s.size ≤ 65552) (w : World) :
    Calls Tryz.prog 27 #[.string key, .string nonce, .string ad, .string s] w fun e w' => e = .returned (.tuple #[.string (opS key nonce ad s), .int .i64 (opE key nonce ad s)]) ∧ Below w.heap.size w w' := by
  have C30 := fun W => rgsized_any key nonce W
  unfold opS
  by_cases h : rfg key nonce = 0
  · obtain ⟨hk, h12⟩ := rfg_0 h
    rw [h] at C30
    by_cases h16 : s.size < 16
    · have e : opE key nonce ad s = 11 := by unfold opE; rw [if_pos h, if_pos h16]
      rw [e, if_neg (by decide)]
      exact rOpen_short key nonce ad s h16 w C30
    · have cs : (cut1 s).size = s.size - 16 := by unfold cut1; rw [ByteArray.size_extract]; omega
      have ds : (cut2 s).size = 16 := by unfold cut2; rw [ByteArray.size_extract]; omega
      have C31 := fun W => rstr_any key nonce (cut1 s) hk h12 (by omega) W
      have C19 := fun W => rXor_any (cut1 s) (smS key (bF (nonce ++ n2)) (cut1 s).size) (by rw [smS_size]; exact Nat.le_refl _) (by omega) W
      rw [cs] at C31 C19
      have := rOpen_core key nonce ad s (tN (tgN key nonce ad (cut1 s))) _ (xS (cut1 s) (smS key (bF (nonce ++ n2)) (s.size - 16))) 0 (s.size - 16) (by omega) (by omega) hn w C30 (fun W => rtag_any key nonce ad (cut1 s) hk h12 ha (by omega) W) C31 C19
      have ec : crS key nonce (cut1 s) = xS (cut1 s) (smS key (bF (nonce ++ n2)) (s.size - 16)) := by unfold crS; rw [cs]
      have iff : tN (tgN key nonce ad (cut1 s)) = s.extract (s.size - 16) s.size ↔ tgN key nonce ad (cut1 s) = bN (cut2 s) := by
        constructor
        · intro e
          have e2 : tN (tgN key nonce ad (cut1 s)) = cut2 s := e
          rw [← e2, bN_tN (tgN_lt _ _ _ _)]
        · intro e
          rw [e, tN_bN _ ds]
          rfl
      by_cases ht : tgN key nonce ad (cut1 s) = bN (cut2 s)
      · have e : opE key nonce ad s = 0 := by unfold opE; rw [if_pos h, if_neg h16, if_pos ht]
        rw [e, if_pos rfl, ec]
        rw [if_pos (iff.2 ht)] at this
        exact this
      · have e : opE key nonce ad s = 17 := by unfold opE; rw [if_pos h, if_neg h16, if_neg ht]
        rw [e, if_neg (by decide)]
        rw [if_neg (fun q => ht (iff.1 q))] at this
        exact this
  · have e : opE key nonce ad s = rfg key nonce := by unfold opE; rw [if_neg h]
    rw [e, if_neg h]
    exact rOpen_no key nonce ad s _ h w C30
end Go.Proofs.YtjaljnfijhfkcaaGreatDoor
