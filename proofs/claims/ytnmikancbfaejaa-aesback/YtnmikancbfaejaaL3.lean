/- There and back: AesBack. -/
import Derived.Test.YtnmikancbfaejaaD4
import Derived.Test.YtnmikancbfaejaaL1
set_option linter.all false
set_option maxRecDepth 100000
namespace Go.Proofs.Ytnmikancbfaejaa
open Go.RowKit Go.Sort
theorem utF_congr {f g : Nat → By} (e : ∀ j, j < 16 → f j = g j) (j : Nat) (hj : j < 16) : utF f j = utF g j := by unfold utF; rw [e _ (by omega)]
theorem plF_congr {f g h k : Nat → By} (e : ∀ j, j < 16 → f j = g j) (e2 : ∀ j, j < 16 → h j = k j) (j : Nat) (hj : j < 16) : plF f h j = plF g k j := by unfold plF; rw [e j hj, e2 j hj]
theorem rdD_congr (key : ByteArray) (i : Nat) {f g : Nat → By} (e : ∀ j, j < 16 → f j = g j) (j : Nat) (hj : j < 16) : rdD key i f j = rdD key i g j := by
  unfold rdD
  split
  · exact e j hj
  · split
    · exact beF_congr bk (utF_congr e) j hj
    · exact beF_congr bk (utF_congr (mxF_congr _ _ _ _ e)) j hj
theorem eS_congr (key : ByteArray) {f g : Nat → By} (e : ∀ j, j < 16 → f j = g j) (i : Nat) : ∀ j, j < 16 → eS key f i j = eS key g i j := by
  induction i with
  | zero => exact e
  | succ i ih => exact plF_congr (rdE_congr key i ih) (fun _ _ => rfl)
theorem dS_congr (key : ByteArray) {f g : Nat → By} (e : ∀ j, j < 16 → f j = g j) (i : Nat) : ∀ j, j < 16 → dS key f i j = dS key g i j := by
  induction i with
  | zero => exact e
  | succ i ih => exact rdD_congr key _ (plF_congr ih (fun _ _ => rfl))
theorem ut_tn (h : Nat → By) (j : Nat) (hj : j < 16) : utF (tnF h) j = h j := by
  show h (ti (ui j)) = h j
  rw [(ti_ui ⟨j, hj⟩).1]
theorem tn_ut (h : Nat → By) (j : Nat) (hj : j < 16) : tnF (utF h) j = h j := by
  show h (ui (ti j)) = h j
  rw [(ti_ui ⟨j, hj⟩).2.1]
theorem rdD_rdE (key : ByteArray) (i : Nat) (f : Nat → By) (j : Nat) (hj : j < 16) : rdD key i (rdE key i f) j = f j := by
  unfold rdD rdE
  split
  · rfl
  · split
    · show bk (utF (tnF (beF sb f)) j) = f j
      rw [ut_tn _ j hj]
      exact bk_sb _
    · show bk (utF (mxF 14 11 13 9 (mxF 2 3 1 1 (tnF (beF sb f)))) j) = f j
      rw [utF_congr (mx_back _) j hj, ut_tn _ j hj]
      exact bk_sb _
theorem rdE_rdD (key : ByteArray) (i : Nat) (f : Nat → By) (j : Nat) (hj : j < 16) : rdE key i (rdD key i f) j = f j := by
  unfold rdD rdE
  split
  · rfl
  · have q : ∀ h : Nat → By, beF sb (beF bk h) = h := fun h => funext fun i => sb_bk _
    split
    · rw [q, tn_ut _ j hj]
    · rw [q, mxF_congr _ _ _ _ (tn_ut _) j hj, back_mx _ j hj]
theorem pl_pl (f k : Nat → By) (j : Nat) : plF (plF f k) k j = f j := xr_back _ _
theorem dec_enc (key : ByteArray) (f : Nat → By) : ∀ j, j < 16 → decF key (encF key f) j = f j := by
  have H : ∀ i, i ≤ nkO key + 7 → ∀ j, j < 16 → dS key (encF key f) i j = eS key f (nkO key + 7 - i) j := by
    intro i
    induction i with
    | zero => intro _ j _; rfl
    | succ i ih =>
      intro hi j hj
      have h1 := ih (by omega)
      rw [show nkO key + 7 - i = (nkO key + 6 - i) + 1 by omega] at h1
      show rdD key (nkO key + 6 - i) (plF (dS key (encF key f) i) (rk key (nkO key + 6 - i))) j = _
      rw [rdD_congr key _ (plF_congr h1 (fun _ _ => rfl)) j hj]
      show rdD key (nkO key + 6 - i) (plF (plF (rdE key (nkO key + 6 - i) (eS key f (nkO key + 6 - i))) (rk key (nkO key + 6 - i))) (rk key (nkO key + 6 - i))) j = _
      rw [rdD_congr key _ (fun j _ => pl_pl _ _ j) j hj, rdD_rdE key _ _ j hj, show nkO key + 7 - (i + 1) = nkO key + 6 - i by omega]
  intro j hj
  have := H (nkO key + 7) (Nat.le_refl _) j hj
  rw [Nat.sub_self] at this
  exact this
theorem enc_dec (key : ByteArray) (f : Nat → By) : ∀ j, j < 16 → encF key (decF key f) j = f j := by
  have H : ∀ i, i ≤ nkO key + 7 → ∀ j, j < 16 → eS key (decF key f) i j = dS key f (nkO key + 7 - i) j := by
    intro i
    induction i with
    | zero => intro _ j _; rfl
    | succ i ih =>
      intro hi j hj
      have h1 := ih (by omega)
      rw [show nkO key + 7 - i = (nkO key + 6 - i) + 1 by omega] at h1
      show plF (rdE key i (eS key (decF key f) i)) (rk key i) j = _
      rw [plF_congr (rdE_congr key i h1) (fun _ _ => rfl) j hj]
      show plF (rdE key i (rdD key (nkO key + 6 - (nkO key + 6 - i)) (plF (dS key f (nkO key + 6 - i)) (rk key (nkO key + 6 - (nkO key + 6 - i)))))) (rk key i) j = _
      rw [show nkO key + 6 - (nkO key + 6 - i) = i by omega, plF_congr (rdE_rdD key i _) (fun _ _ => rfl) j hj, pl_pl, show nkO key + 7 - (i + 1) = nkO key + 6 - i by omega]
  intro j hj
  have := H (nkO key + 7) (Nat.le_refl _) j hj
  rw [Nat.sub_self] at this
  exact this
theorem encS_size (key block : ByteArray) : (encS key block).size = 16 := tx_size _
theorem decS_size (key block : ByteArray) : (decS key block).size = 16 := tx_size _
theorem decS_encS (key block : ByteArray) (hb : block.size = 16) : decS key (encS key block) = block := by
  unfold decS encS
  have e : tx (decF key (bF (tx (encF key (bF block))))) = tx (bF block) := tx_congr fun j hj => by
    unfold decF
    rw [dS_congr key (bF_tx _) _ j hj]
    exact dec_enc key _ j hj
  rw [e, tx_bF block hb]
theorem encS_decS (key block : ByteArray) (hb : block.size = 16) : encS key (decS key block) = block := by
  unfold decS encS
  have e : tx (encF key (bF (tx (decF key (bF block))))) = tx (bF block) := tx_congr fun j hj => by
    unfold encF
    rw [eS_congr key (bF_tx _) _ j hj]
    exact enc_dec key _ j hj
  rw [e, tx_bF block hb]
set_option maxHeartbeats 8000000 in
theorem back_no (key block : ByteArray) (n more : By) (r : Int) (hr : r ≠ 0) (w : World) (hs : ¬ ((key.size = 16 ∨ key.size = 32) ∧ block.size = 16))
    (C15 : ∀ W, Calls Try.prog 15 #[.string key, .string block] W fun e w' => e = .returned (.tuple #[.string ⟨#[]⟩, .int .i64 r]) ∧ Below W.heap.size W w')
    (C17 : ∀ W, Calls Try.prog 17 #[.string key, .string block] W fun e w' => e = .returned (.tuple #[.string ⟨#[]⟩, .int .i64 r]) ∧ Below W.heap.size W w') :
    Calls Try.prog 6 #[.string key, .string block, .int .u8 (n.val : Int), .int .u8 (more.val : Int)] w fun e w' => e = .returned (.bool true) ∧ Below w.heap.size w w' := by
  have C12 := fun W => awake_any W
  have r1 : (r == 0) = false := beq_false_of_ne hr
  have fin : ∀ (K : Prop), K → K := fun _ h => h
  by_cases h1 : key.size = 16
  · have i1 : (key.size : Int) = 16 := by omega
    have i3 : ¬ (block.size : Int) = 16 := by omega
    have j3 := beq_false_of_ne i3
    clear hs h1
    go_enter Try.func6, Try.ntmps6
    go_wp2_with fail
    refine (C15 _).mono ?_
    rintro e w1 ⟨rfl, B1⟩
    go_wp2_with fail
    refine (C17 _).mono ?_
    rintro e w2 ⟨rfl, B2⟩
    go_wp2_with fail
    refine (C12 _).mono ?_
    rintro e w3 ⟨rfl, B3⟩
    go_wp2_with fail
    go_ret
    exact ⟨rfl, Bel.call (Bel.call B1 B2) B3⟩
  · have i1 : ¬ (key.size : Int) = 16 := by omega
    have j1 := beq_false_of_ne i1
    by_cases h2 : key.size = 32
    · have i2 : (key.size : Int) = 32 := by omega
      have i3 : ¬ (block.size : Int) = 16 := by omega
      have j3 := beq_false_of_ne i3
      clear hs h1 h2
      go_enter Try.func6, Try.ntmps6
      go_wp2_with fail
      refine (C15 _).mono ?_
      rintro e w1 ⟨rfl, B1⟩
      go_wp2_with fail
      refine (C17 _).mono ?_
      rintro e w2 ⟨rfl, B2⟩
      go_wp2_with fail
      refine (C12 _).mono ?_
      rintro e w3 ⟨rfl, B3⟩
      go_wp2_with fail
      go_ret
      exact ⟨rfl, Bel.call (Bel.call B1 B2) B3⟩
    · have i2 : ¬ (key.size : Int) = 32 := by omega
      have j2 := beq_false_of_ne i2
      clear hs h1 h2
      go_enter Try.func6, Try.ntmps6
      go_wp2_with fail
      refine (C15 _).mono ?_
      rintro e w1 ⟨rfl, B1⟩
      go_wp2_with fail
      refine (C17 _).mono ?_
      rintro e w2 ⟨rfl, B2⟩
      go_wp2_with fail
      refine (C12 _).mono ?_
      rintro e w3 ⟨rfl, B3⟩
      go_wp2_with fail
      go_ret
      exact ⟨rfl, Bel.call (Bel.call B1 B2) B3⟩
set_option maxHeartbeats 8000000 in
theorem back_yes (key block a b s t : ByteArray) (n more : By) (m : Nat) (w : World) (hm : m = n.val + more.val) (hk : (key.size : Int) = 16 ∨ (key.size : Int) = 32) (hb : (block.size : Int) = 16)
    (C15 : ∀ W, Calls Try.prog 15 #[.string key, .string block] W fun e w' => e = .returned (.tuple #[.string a, .int .i64 0]) ∧ Below W.heap.size W w')
    (C17 : ∀ W, Calls Try.prog 17 #[.string key, .string block] W fun e w' => e = .returned (.tuple #[.string b, .int .i64 0]) ∧ Below W.heap.size W w')
    (C17a : ∀ W, Calls Try.prog 17 #[.string key, .string a] W fun e w' => e = .returned (.tuple #[.string block, .int .i64 0]) ∧ Below W.heap.size W w')
    (C15b : ∀ W, Calls Try.prog 15 #[.string key, .string b] W fun e w' => e = .returned (.tuple #[.string block, .int .i64 0]) ∧ Below W.heap.size W w')
    (C19s : ∀ W, Calls Try.prog 19 #[.string key, .string block, .int .i64 (n.val : Int)] W fun e w' => e = .returned (.tuple #[.string s, .int .i64 0]) ∧ Below W.heap.size W w')
    (C19t : ∀ W, Calls Try.prog 19 #[.string key, .string block, .int .i64 ((n.val : Int) + (more.val : Int))] W fun e w' => e = .returned (.tuple #[.string t, .int .i64 0]) ∧ Below W.heap.size W w')
    (hs : (s.size : Int) = (n.val : Int)) (ht : (t.size : Int) = (n.val : Int) + (more.val : Int)) (hst : t.extract 0 n.val = s) :
    Calls Try.prog 6 #[.string key, .string block, .int .u8 (n.val : Int), .int .u8 (more.val : Int)] w fun e w' => e = .returned (.bool true) ∧ Below w.heap.size w w' := by
  have C12 := fun W => awake_any W
  have n0 : (0 : Int) ≤ (n.val : Int) := by omega
  have n1 : (n.val : Int) < 256 := by have := n.2; omega
  have m0 : (0 : Int) ≤ (more.val : Int) := by omega
  have m1 : (more.val : Int) < 256 := by have := more.2; omega
  have hs' : s.size = n.val := by omega
  have ht' : t.size = n.val + more.val := by omega
  rcases hk with hk | hk
  all_goals
    go_enter Try.func6, Try.ntmps6
    go_wp2_with fail
    refine (C15 _).mono ?_
    rintro e w1 ⟨rfl, B1⟩
    go_wp2_with fail
    refine (C17 _).mono ?_
    rintro e w2 ⟨rfl, B2⟩
    go_wp2_with fail
    refine (C17a _).mono ?_
    rintro e w3 ⟨rfl, B3⟩
    go_wp2_with fail
    refine (C15b _).mono ?_
    rintro e w4 ⟨rfl, B4⟩
    go_wp2_with fail
    refine (C19s _).mono ?_
    rintro e w5 ⟨rfl, B5⟩
    go_wp2_with fail
    refine (C19t _).mono ?_
    rintro e w6 ⟨rfl, B6⟩
    go_wp2_with fail
    refine (C12 _).mono ?_
    rintro e w7 ⟨rfl, B7⟩
    go_wp2_with fail
    go_ret
    exact ⟨rfl, Bel.call (Bel.call (Bel.call (Bel.call (Bel.call (Bel.call B1 B2) B3) B4) B5) B6) B7⟩
theorem rfs_yes {key block : ByteArray} (hk : Key key) (hb : block.size = 16) : rfs key block = 0 := by
  unfold rfs
  rw [if_pos ((isK_iff key).2 hk), if_pos hb]
theorem back_law (key block : ByteArray) (n more : By) (w : World) :
    Calls Try.prog 6 #[.string key, .string block, .int .u8 (n.val : Int), .int .u8 (more.val : Int)] w fun e w' => e = .returned (.bool true) ∧ Below w.heap.size w w' := by
  by_cases h : rfs key block = 0
  · obtain ⟨hk, hb⟩ := rfs_0 h
    have n2 := n.2
    have m2 := more.2
    have rn : ∀ k : Nat, k ≤ 600 → rfn key block (k : Int) = 0 := fun k hk => by unfold rfn; rw [if_neg (by omega), h]
    refine back_yes key block (encS key block) (decS key block) (smS key (bF block) n.val) (smS key (bF block) (n.val + more.val)) n more (n.val + more.val) w rfl (by rcases hk with h | h <;> omega) (by omega) (fun W => ?_) (fun W => ?_) (fun W => ?_) (fun W => ?_) (fun W => ?_) (fun W => ?_) (by rw [smS_size]) (by rw [smS_size]; omega) (smS_pre key _ _ _ (by omega))
    · have := encrypt_any key block W
      rwa [if_pos h, h] at this
    · have := decrypt_any key block W
      rwa [if_pos h, h] at this
    · have := decrypt_any key (encS key block) W
      have e := rfs_yes hk (encS_size key block)
      rwa [if_pos e, e, decS_encS key block hb] at this
    · have := encrypt_any key (decS key block) W
      have e := rfs_yes hk (decS_size key block)
      rwa [if_pos e, e, encS_decS key block hb] at this
    · have := stream_any key block (n.val : Int) W
      rwa [if_pos (rn n.val (by omega)), rn n.val (by omega)] at this
    · have := stream_any key block ((n.val + more.val : Nat) : Int) W
      rw [if_pos (rn _ (by omega)), rn _ (by omega), Int.toNat_natCast] at this
      rw [show ((n.val : Int) + (more.val : Int)) = ((n.val + more.val : Nat) : Int) by omega]
      exact this
  · refine back_no key block n more (rfs key block) h w (fun hh => h (rfs_yes hh.1 hh.2)) (fun W => ?_) (fun W => ?_)
    · have := encrypt_any key block W
      rwa [if_neg h] at this
    · have := decrypt_any key block W
      rwa [if_neg h] at this
end Go.Proofs.Ytnmikancbfaejaa
