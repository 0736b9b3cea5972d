/- The reference's Seal and Open. -/
import Derived.Test.YtogkijjmimaccaaJ35
set_option linter.all false
set_option maxRecDepth 100000
namespace Go.Proofs.Ytogkijjmimaccaa
open Go.RowKit Go.Sort Lin
theorem tl_ne {a b : ByteArray} (h : ¬ a = b) : (a.toList == b.toList) = false := by
  apply beq_false_of_ne
  intro e
  rw [Go.ByteArray.toList_eq, Go.ByteArray.toList_eq] at e
  exact h (ba_ext e)
theorem tl_eq {a b : ByteArray} (h : a = b) : (a.toList == b.toList) = true := by rw [h]; exact beq_self_eq_true _
set_option maxHeartbeats 1000000 in
theorem rSeal_no (key s : ByteArray) (v : Value) (r : Int) (hr : ¬ r = 0) (w : World)
    (C35 : ∀ W, Calls Try.prog 35 #[.string key, v] W fun e w' => e = .returned (.int .i64 r) ∧ w' = W) :
    Calls Try.prog 17 #[.string key, v, .string s] w fun e w' => e = .returned (.tuple #[.string ⟨#[]⟩, .int .i64 r]) ∧ Below w.heap.size w w' := by
  go_enter Try.func17, Try.ntmps17
  go_wp2_with fail
  refine (C35 _).mono ?_
  rintro e w1 ⟨rfl, hw⟩
  rw [hw]
  clear hw w1 C35
  go_wp2_with fail
  exact bodyPost_ret (v := .tuple #[.string ⟨#[]⟩, .int .i64 r]) (by simp [results, Try.results17, go_sem]) rfl ⟨rfl, Below.refl _ _⟩
set_option maxHeartbeats 1000000 in
theorem rOpen_no (key s : ByteArray) (v : Value) (r : Int) (hr : ¬ r = 0) (w : World)
    (C35 : ∀ W, Calls Try.prog 35 #[.string key, v] W fun e w' => e = .returned (.int .i64 r) ∧ w' = W) :
    Calls Try.prog 19 #[.string key, v, .string s] w fun e w' => e = .returned (.tuple #[.string ⟨#[]⟩, .int .i64 r]) ∧ Below w.heap.size w w' := by
  go_enter Try.func19, Try.ntmps19
  go_wp2_with fail
  refine (C35 _).mono ?_
  rintro e w1 ⟨rfl, hw⟩
  rw [hw]
  clear hw w1 C35
  go_wp2_with fail
  exact bodyPost_ret (v := .tuple #[.string ⟨#[]⟩, .int .i64 r]) (by simp [results, Try.results19, go_sem]) rfl ⟨rfl, Below.refl _ _⟩
set_option maxHeartbeats 1000000 in
theorem rOpen_short (key s : ByteArray) (v : Value) (r : Int) (hr : r = 0) (hs : s.size < 16) (w : World)
    (C35 : ∀ W, Calls Try.prog 35 #[.string key, v] W fun e w' => e = .returned (.int .i64 r) ∧ w' = W) :
    Calls Try.prog 19 #[.string key, v, .string s] w fun e w' => e = .returned (.tuple #[.string ⟨#[]⟩, .int .i64 11]) ∧ Below w.heap.size w w' := by
  have s1 : (s.size : Int) < 16 := by omega
  subst hr
  clear hs
  go_enter Try.func19, Try.ntmps19
  go_wp2_with fail
  refine (C35 _).mono ?_
  rintro e w1 ⟨rfl, hw⟩
  rw [hw]
  clear hw w1 C35
  go_wp2_with fail
  exact bodyPost_ret (v := .tuple #[.string ⟨#[]⟩, .int .i64 11]) (by simp [results, Try.results19, go_sem]) rfl ⟨rfl, Below.refl _ _⟩
set_option maxHeartbeats 1000000 in
theorem rSeal_32 (key p H1 H2 V c : ByteArray) (v : Value) (l : List ByteArray) (h1 : key.size = 32) (e1 : key.extract 0 16 = H1) (e2 : key.extract 16 key.size = H2) (hp : p.size ≤ 65536) (hV : V.size = 16) (hc : c.size ≤ 65536) (w : World) (hv : Txs w v l)
    (C35 : ∀ W, Calls Try.prog 35 #[.string key, v] W fun e w' => e = .returned (.int .i64 0) ∧ w' = W)
    (C36 : ∀ W, Txs W v l → Calls Try.prog 36 #[.string H1, v, .string p] W fun e w' => e = .returned (.string V) ∧ Below W.heap.size W w')
    (C37 : ∀ W, Calls Try.prog 37 #[.string H2, .string V, .string p] W fun e w' => e = .returned (.string c) ∧ Below W.heap.size W w') :
    Calls Try.prog 17 #[.string key, v, .string p] w fun e w' => e = .returned (.tuple #[.string (V ++ c), .int .i64 0]) ∧ Below w.heap.size w w' := by
  have j1 : (key.size : Int) = 32 := by omega
  have p1 : ¬ (65536 : Int) < (p.size : Int) := by omega
  have v1 : (V.size : Int) = 16 := by omega
  have c1 : (c.size : Int) ≤ 65536 := by omega
  rw [h1] at e2
  clear hp hV hc
  go_enter Try.func17, Try.ntmps17
  go_wp2_with fail
  refine (C35 _).mono ?_
  rintro e w1 ⟨rfl, hw⟩
  rw [hw]
  clear hw w1 C35
  go_wp2_with fail
  refine (C36 _ hv).mono ?_
  rintro e w2 ⟨rfl, hb⟩
  clear C36
  go_wp2_with fail
  refine (C37 _).mono ?_
  rintro e w3 ⟨rfl, hb3⟩
  replace hb3 := Bel.call hb hb3
  clear hb
  clear C37
  go_wp2_with fail
  exact bodyPost_ret (v := .tuple #[.string (V ++ c), .int .i64 0]) (by simp [results, Try.results17, go_sem]) rfl ⟨rfl, hb3⟩
set_option maxHeartbeats 1000000 in
theorem rOpen_32 (key s H1 H2 p G : ByteArray) (v : Value) (l : List ByteArray) (h1 : key.size = 32) (e1 : key.extract 0 16 = H1) (e2 : key.extract 16 key.size = H2) (hs : 16 ≤ s.size) (hs2 : s.size ≤ 65552) (w : World) (hv : Txs w v l)
    (C35 : ∀ W, Calls Try.prog 35 #[.string key, v] W fun e w' => e = .returned (.int .i64 0) ∧ w' = W)
    (C37 : ∀ W, Calls Try.prog 37 #[.string H2, .string (s.extract 0 16), .string (s.extract 16 s.size)] W fun e w' => e = .returned (.string p) ∧ Below W.heap.size W w')
    (C36 : ∀ W, Txs W v l → Calls Try.prog 36 #[.string H1, v, .string p] W fun e w' => e = .returned (.string G) ∧ Below W.heap.size W w') :
    Calls Try.prog 19 #[.string key, v, .string s] w fun e w' => e = .returned (if G = s.extract 0 16 then .tuple #[.string p, .int .i64 0] else .tuple #[.string ⟨#[]⟩, .int .i64 17]) ∧ Below w.heap.size w w' := by
  have j1 : (key.size : Int) = 32 := by omega
  have s1 : ¬ (s.size : Int) < 16 := by omega
  have s2 : ¬ (65552 : Int) < (s.size : Int) := by omega
  have s3 : (16 : Int) ≤ (s.size : Int) := by omega
  rw [h1] at e2
  obtain ⟨X, hX⟩ : ∃ X, s.extract 0 16 = X := ⟨_, rfl⟩
  rw [hX] at C37
  have HX : Hid (s.extract 0 16 = X) := hX
  go_enter Try.func19, Try.ntmps19
  go_wp2_with fail
  refine (C35 _).mono ?_
  rintro e w1 ⟨rfl, hw⟩
  rw [hw]
  clear hw w1 C35
  go_upto_region 10 with (fail)
  refine wp_region_quiet_below (by kernel_rfl) (by kernel_rfl) ?_
  repeat (go_big_quiet_step ((go_at_call 37; exact Calls.regrown_of (C37 _))))
  refine wpQuiet_nil ?_
  intro w4 hw'
  obtain ⟨⟨dq, osq⟩, hw''⟩ := hw'
  have hb := below_of hw''
  clear hw'' C37
  clear hX
  go_wp2_with fail
  refine (C36 _ (hv.to hb)).mono ?_
  rintro e w5 ⟨rfl, hb5⟩
  replace hb := Bel.call hb hb5
  clear C36 hb5 hv
  by_cases hg : G = X
  · have HG : Hid (G = s.extract 0 16) := by show _ = _; rw [HX.out, hg]
    have g1 := tl_eq hg
    clear hg
    go_wp2_with fail
    exact bodyPost_ret (v := .tuple #[.string p, .int .i64 0]) (by simp [results, Try.results19, go_sem]) rfl ⟨by first | rfl | rw [if_pos HG.out], hb⟩
  · have HG : Hid (¬ G = s.extract 0 16) := by show ¬ _; rw [HX.out]; exact hg
    have g1 := tl_ne hg
    go_wp2_with fail
    exact bodyPost_ret (v := .tuple #[.string ⟨#[]⟩, .int .i64 17]) (by simp [results, Try.results19, go_sem]) rfl ⟨by first | rfl | rw [if_neg HG.out], hb⟩
set_option maxHeartbeats 1000000 in
theorem rSeal_64 (key p H1 H2 V c : ByteArray) (v : Value) (l : List ByteArray) (h1 : key.size = 64) (e1 : key.extract 0 32 = H1) (e2 : key.extract 32 key.size = H2) (hp : p.size ≤ 65536) (hV : V.size = 16) (hc : c.size ≤ 65536) (w : World) (hv : Txs w v l)
    (C35 : ∀ W, Calls Try.prog 35 #[.string key, v] W fun e w' => e = .returned (.int .i64 0) ∧ w' = W)
    (C36 : ∀ W, Txs W v l → Calls Try.prog 36 #[.string H1, v, .string p] W fun e w' => e = .returned (.string V) ∧ Below W.heap.size W w')
    (C37 : ∀ W, Calls Try.prog 37 #[.string H2, .string V, .string p] W fun e w' => e = .returned (.string c) ∧ Below W.heap.size W w') :
    Calls Try.prog 17 #[.string key, v, .string p] w fun e w' => e = .returned (.tuple #[.string (V ++ c), .int .i64 0]) ∧ Below w.heap.size w w' := by
  have j1 : (key.size : Int) = 64 := by omega
  have p1 : ¬ (65536 : Int) < (p.size : Int) := by omega
  have v1 : (V.size : Int) = 16 := by omega
  have c1 : (c.size : Int) ≤ 65536 := by omega
  rw [h1] at e2
  clear hp hV hc
  go_enter Try.func17, Try.ntmps17
  go_wp2_with fail
  refine (C35 _).mono ?_
  rintro e w1 ⟨rfl, hw⟩
  rw [hw]
  clear hw w1 C35
  go_wp2_with fail
  refine (C36 _ hv).mono ?_
  rintro e w2 ⟨rfl, hb⟩
  clear C36
  go_wp2_with fail
  refine (C37 _).mono ?_
  rintro e w3 ⟨rfl, hb3⟩
  replace hb3 := Bel.call hb hb3
  clear hb
  clear C37
  go_wp2_with fail
  exact bodyPost_ret (v := .tuple #[.string (V ++ c), .int .i64 0]) (by simp [results, Try.results17, go_sem]) rfl ⟨rfl, hb3⟩
set_option maxHeartbeats 1000000 in
theorem rOpen_64 (key s H1 H2 p G : ByteArray) (v : Value) (l : List ByteArray) (h1 : key.size = 64) (e1 : key.extract 0 32 = H1) (e2 : key.extract 32 key.size = H2) (hs : 16 ≤ s.size) (hs2 : s.size ≤ 65552) (w : World) (hv : Txs w v l)
    (C35 : ∀ W, Calls Try.prog 35 #[.string key, v] W fun e w' => e = .returned (.int .i64 0) ∧ w' = W)
    (C37 : ∀ W, Calls Try.prog 37 #[.string H2, .string (s.extract 0 16), .string (s.extract 16 s.size)] W fun e w' => e = .returned (.string p) ∧ Below W.heap.size W w')
    (C36 : ∀ W, Txs W v l → Calls Try.prog 36 #[.string H1, v, .string p] W fun e w' => e = .returned (.string G) ∧ Below W.heap.size W w') :
    Calls Try.prog 19 #[.string key, v, .string s] w fun e w' => e = .returned (if G = s.extract 0 16 then .tuple #[.string p, .int .i64 0] else .tuple #[.string ⟨#[]⟩, .int .i64 17]) ∧ Below w.heap.size w w' := by
  have j1 : (key.size : Int) = 64 := by omega
  have s1 : ¬ (s.size : Int) < 16 := by omega
  have s2 : ¬ (65552 : Int) < (s.size : Int) := by omega
  have s3 : (16 : Int) ≤ (s.size : Int) := by omega
  rw [h1] at e2
  obtain ⟨X, hX⟩ : ∃ X, s.extract 0 16 = X := ⟨_, rfl⟩
  rw [hX] at C37
  have HX : Hid (s.extract 0 16 = X) := hX
  go_enter Try.func19, Try.ntmps19
  go_wp2_with fail
  refine (C35 _).mono ?_
  rintro e w1 ⟨rfl, hw⟩
  rw [hw]
  clear hw w1 C35
  go_upto_region 10 with (fail)
  refine wp_region_quiet_below (by kernel_rfl) (by kernel_rfl) ?_
  repeat (go_big_quiet_step ((go_at_call 37; exact Calls.regrown_of (C37 _))))
  refine wpQuiet_nil ?_
  intro w4 hw'
  obtain ⟨⟨dq, osq⟩, hw''⟩ := hw'
  have hb := below_of hw''
  clear hw'' C37
  clear hX
  go_wp2_with fail
  refine (C36 _ (hv.to hb)).mono ?_
  rintro e w5 ⟨rfl, hb5⟩
  replace hb := Bel.call hb hb5
  clear C36 hb5 hv
  by_cases hg : G = X
  · have HG : Hid (G = s.extract 0 16) := by show _ = _; rw [HX.out, hg]
    have g1 := tl_eq hg
    clear hg
    go_wp2_with fail
    exact bodyPost_ret (v := .tuple #[.string p, .int .i64 0]) (by simp [results, Try.results19, go_sem]) rfl ⟨by first | rfl | rw [if_pos HG.out], hb⟩
  · have HG : Hid (¬ G = s.extract 0 16) := by show ¬ _; rw [HX.out]; exact hg
    have g1 := tl_ne hg
    go_wp2_with fail
    exact bodyPost_ret (v := .tuple #[.string ⟨#[]⟩, .int .i64 17]) (by simp [results, Try.results19, go_sem]) rfl ⟨by first | rfl | rw [if_neg HG.out], hb⟩
theorem crV_congr (h : ByteArray) {f g : Nat → By} (e : ∀ j, j < 16 → f j = g j) (t : ByteArray) : crV h f t = crV h g t := by
  unfold crV
  rw [tx_congr (h := mk f) (k := mk g) (fun j hj => by unfold mk; rw [e j hj])]
theorem rSeal_any (key : ByteArray) (v : Value) (ad : List ByteArray) (p : ByteArray) (hls : ∀ s ∈ ad, s.size ≤ 1000000) (hp : p.size ≤ 65536) (w : World) (hv : Txs w v ad) :
    Calls Try.prog 17 #[.string key, v, .string p] w fun e w' => e = .returned (.tuple #[.string (seR key ad p), .int .i64 (slE key ad.length)]) ∧ Below w.heap.size w w' := by
  obtain ⟨a0, cap, e0⟩ := txs_len hv
  have C35 := fun W => rrefused10_any key a0 ad.length cap W
  rw [← e0] at C35
  unfold seR
  by_cases h : slE key ad.length = 0
  · rw [if_pos h, h]
    rw [h] at C35
    obtain ⟨h1, h2⟩ := slE_0.1 h
    have C36 := fun W hW => rtag_any (hf1 key) p (hf1_key h1) v ad h2 hls (by omega) W hW
    have C37 := fun W => rstreamed_any (hf2 key) (hf2_key h1) (tx (vF key ad p)) p (tx_size _) hp W
    rw [crV_congr (hf2 key) (fun j hj => bF_tx (vF key ad p) j hj)] at C37
    unfold seS
    rcases h1 with h1 | h1
    · exact rSeal_32 key p (hf1 key) (hf2 key) _ _ v ad h1 (by unfold hf1; rw [h1]) (by unfold hf2; rw [h1]) hp (tx_size _) (by rw [crV_size]; exact hp) w hv C35 C36 C37
    · exact rSeal_64 key p (hf1 key) (hf2 key) _ _ v ad h1 (by unfold hf1; rw [h1]) (by unfold hf2; rw [h1]) hp (tx_size _) (by rw [crV_size]; exact hp) w hv C35 C36 C37
  · rw [if_neg h]
    exact rSeal_no key p v _ h w C35
theorem tag_iff (f : Nat → By) (s : ByteArray) (hs : 16 ≤ s.size) : tx f = s.extract 0 16 ↔ isB f (bF s) = true := by
  rw [isB_iff]
  have z : (s.extract 0 16).size = 16 := by rw [ByteArray.size_extract]; omega
  constructor
  · intro e j hj
    rw [← bF_tx f j hj, e, bF_cut s j hj hs]
  · intro e
    refine text_ext (by rw [tx_size, z]) (fun j hj => ?_)
    rw [tx_size] at hj
    rw [bF_tx f j hj, bF_cut s j hj hs, e j hj]
theorem rOpen_any (key : ByteArray) (v : Value) (ad : List ByteArray) (s : ByteArray) (hls : ∀ s ∈ ad, s.size ≤ 1000000) (hs : s.size ≤ 65552) (w : World) (hv : Txs w v ad) :
    Calls Try.prog 19 #[.string key, v, .string s] w fun e w' => e = .returned (.tuple #[.string (opS key ad s), .int .i64 (opE key ad s)]) ∧ Below w.heap.size w w' := by
  obtain ⟨a0, cap, e0⟩ := txs_len hv
  have C35 := fun W => rrefused10_any key a0 ad.length cap W
  rw [← e0] at C35
  unfold opS
  by_cases h : slE key ad.length = 0
  · rw [h] at C35
    obtain ⟨h1, h2⟩ := slE_0.1 h
    by_cases h16 : s.size < 16
    · have e : opE key ad s = 11 := by unfold opE; rw [if_pos h, if_pos h16]
      rw [e, if_neg (by decide)]
      exact rOpen_short key s v 0 rfl h16 w C35
    · have hz := opP_size key s
      have e : opE key ad s = if isB (vF key ad (opP key s)) (bF s) = true then 0 else 17 := by unfold opE; rw [if_pos h, if_neg h16]
      have C36 := fun W hW => rtag_any (hf1 key) (opP key s) (hf1_key h1) v ad h2 hls (by omega) W hW
      have C37 := fun W => rstreamed_any (hf2 key) (hf2_key h1) (s.extract 0 16) (s.extract 16 s.size) (by rw [ByteArray.size_extract]; omega) (by rw [ByteArray.size_extract]; omega) W
      rw [crV_congr (hf2 key) (fun j hj => bF_cut s j hj (by omega))] at C37
      have iff := tag_iff (vF key ad (opP key s)) s (by omega)
      have := show Calls Try.prog 19 #[.string key, v, .string s] w fun e w' => e = .returned (if tx (vF key ad (opP key s)) = s.extract 0 16 then .tuple #[.string (opP key s), .int .i64 0] else .tuple #[.string ⟨#[]⟩, .int .i64 17]) ∧ Below w.heap.size w w' from by
        rcases h1 with h1 | h1
        · exact rOpen_32 key s (hf1 key) (hf2 key) _ _ v ad h1 (by unfold hf1; rw [h1]) (by unfold hf2; rw [h1]) (by omega) hs w hv C35 C37 C36
        · exact rOpen_64 key s (hf1 key) (hf2 key) _ _ v ad h1 (by unfold hf1; rw [h1]) (by unfold hf2; rw [h1]) (by omega) hs w hv C35 C37 C36
      rw [e]
      cases hb : isB (vF key ad (opP key s)) (bF s) with
      | true => rw [if_pos (iff.2 hb)] at this; rw [if_pos rfl, if_pos rfl]; exact this
      | false => rw [if_neg (fun q => by rw [iff.1 q] at hb; cases hb)] at this; rw [if_neg (by decide), if_neg (by decide)]; exact this
  · have e : opE key ad s = slE key ad.length := by unfold opE; rw [if_neg h]
    rw [e, if_neg h]
    exact rOpen_no key s v _ h w C35
end Go.Proofs.Ytogkijjmimaccaa
