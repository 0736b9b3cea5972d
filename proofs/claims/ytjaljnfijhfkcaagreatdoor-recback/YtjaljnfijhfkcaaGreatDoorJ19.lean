/- Texts joined: R7, Q5, E6, E7, E8. -/
import Derived.Test.YtjaljnfijhfkcaaGreatDoorJ18
import Derived.Test.YtjaljnfijhfkcaaGreatDoorJ12
import Derived.Test.YtjaljnfijhfkcaaGreatDoorJ16
import Derived.Test.YtjaljnfijhfkcaaGreatDoorJ14
import Derived.Test.YtjaljnfijhfkcaaGreatDoorJ1
/- The reference: Encrypt, Stream. -/
set_option linter.all false
set_option maxRecDepth 100000
namespace Go.Proofs.YtjaljnfijhfkcaaGreatDoor
open Go.RowKit Go.Sort
def KBo (key : ByteArray) : Nat → By := kB (bF key) (nkO key)
theorem rwords_any (key : ByteArray) (hk : Key key) (w : World) : Calls Tryz.prog 65 #[.string key] w fun e w' => ∃ g cap, e = .returned (.slice (some ⟨g, 0, none⟩) (16 * (nkO key + 7)) cap) ∧ Rw w' g (16 * (nkO key + 7)) cap (KBo key) ∧ Below w.heap.size w w' ∧ w.heap.size ≤ g := by
  rcases hk with h | h
  · have := rwords_4 key h (KBo key) (fun j => by unfold KBo nkO; rw [h]) w
    rw [show nkO key = 4 by unfold nkO; rw [h]]
    exact this
  · have := rwords_8 key h (KBo key) (fun j => by unfold KBo nkO; rw [h]) w
    rw [show nkO key = 8 by unfold nkO; rw [h]]
    exact this
theorem nk_bd {key : ByteArray} (hk : Key key) : 4 ≤ nkO key ∧ nkO key ≤ 8 := by unfold nkO; rcases hk with h | h <;> omega
theorem rencrypt_any (key block : ByteArray) (hk : Key key) (hb : block.size = 16) (gw cw : Nat) (w : World) (hR : Rw w gw (16 * (nkO key + 7)) cw (KBo key)) :
    Calls Tryz.prog 66 #[.slice (some ⟨gw, 0, none⟩) (16 * (nkO key + 7)) cw, .string block] w fun e w' => e = .returned (.string (encS key block)) ∧ Below w.heap.size w w' := by
  have nb := nk_bd hk
  have hlt : gw < w.heap.size := block_lt_of_cell (hR.c 0 (by omega))
  refine rencrypt_core key block hb _ (nkO key + 7) gw cw (KBo key) (eS key (bF block)) (by omega) (by omega) rfl hR.1 (fun j hj => ?_) (fun x h1 h2 j hj => ?_) (fun x h1 j hj => ?_) w hlt (fun j hj => hR.c j hj)
  · show xr (rdE key 0 (bF block) j) (rk key 0 j) = xr (bF block j) (KBo key j)
    unfold rdE rk KBo
    rw [if_pos rfl, Nat.mul_zero, Nat.zero_add]
  · show xr (rdE key x (eS key (bF block) x) j) (rk key x j) = _
    unfold rdE
    rw [if_neg (by omega), if_neg (by omega)]
    rfl
  · show xr (rdE key x (eS key (bF block) x) j) (rk key x j) = _
    unfold rdE
    rw [if_neg (by omega), if_pos (by omega)]
    rfl
set_option maxHeartbeats 2000000 in
theorem rEncrypt_any (key block : ByteArray) (w : World) :
    Calls Tryz.prog 67 #[.string key, .string block] w fun e w' => e = .returned (.tuple #[.string (if rfs key block = 0 then encS key block else ⟨#[]⟩), .int .i64 (rfs key block)]) ∧ Below w.heap.size w w' := by
  have C31 := fun W => rrefused_any key block W
  by_cases h : rfs key block = 0
  · obtain ⟨hk, hs⟩ := rfs_0 h
    rw [h] at C31
    rw [if_pos h, h]
    have C27 := rwords_any key hk w
    have C32 := fun g c W (hR : Rw W g (16 * (nkO key + 7)) c (KBo key)) => rencrypt_any key block hk hs g c W hR
    generalize encS key block = T at *
    generalize 16 * (nkO key + 7) = M at *
    clear h hk hs
    go_enter Tryz.func67, Tryz.ntmps67
    go_wp2_with fail
    refine (C31 _).mono ?_
    rintro e w1 ⟨rfl, rfl⟩
    go_wp2_with fail
    refine C27.mono ?_
    rintro e w2 ⟨g, cap, rfl, hR, B2, _⟩
    go_wp2_with fail
    refine (C32 _ _ _ hR).mono ?_
    rintro e w3 ⟨rfl, B3⟩
    go_wp2_with fail
    refine bodyPost_ret (v := .tuple #[.string T, .int .i64 0]) (by simp [results, Tryz.results67, go_sem]) rfl ?_
    exact ⟨rfl, Bel.call B2 B3⟩
  · rw [if_neg h]
    generalize rfs key block = r at *
    go_enter Tryz.func67, Tryz.ntmps67
    go_wp2_with fail
    refine (C31 _).mono ?_
    rintro e w1 ⟨rfl, rfl⟩
    go_wp2_with fail
    refine bodyPost_ret (v := .tuple #[.string ⟨#[]⟩, .int .i64 r]) (by simp [results, Tryz.results67, go_sem]) rfl ?_
    exact ⟨rfl, Below.refl _ _⟩
set_option maxHeartbeats 2000000 in
theorem rstream_no (key first : ByteArray) (n : Int) (h : rfn key first n ≠ 0) (w : World) :
    Calls Tryz.prog 45 #[.string key, .string first, .int .i64 n] w fun e w' => e = .returned (.tuple #[.string ⟨#[]⟩, .int .i64 (rfn key first n)]) ∧ Below w.heap.size w w' := by
  have C := fun W => rrefused_any key first W
  by_cases h1 : n < 0
  · have e : rfn key first n = 13 := by unfold rfn; rw [if_pos (.inl h1)]
    rw [e]
    clear e h
    go_enter Tryz.func45, Tryz.ntmps45
    go_wp2_with fail
    refine bodyPost_ret (v := .tuple #[.string ⟨#[]⟩, .int .i64 13]) (by simp [results, Tryz.results45, go_sem]) rfl ?_
    exact ⟨rfl, Below.refl _ _⟩
  · by_cases h2 : 65536 < n
    · have e : rfn key first n = 13 := by unfold rfn; rw [if_pos (.inr h2)]
      rw [e]
      clear e h
      go_enter Tryz.func45, Tryz.ntmps45
      go_wp2_with fail
      refine bodyPost_ret (v := .tuple #[.string ⟨#[]⟩, .int .i64 13]) (by simp [results, Tryz.results45, go_sem]) rfl ?_
      exact ⟨rfl, Below.refl _ _⟩
    · have e : rfn key first n = rfs key first := by unfold rfn; rw [if_neg (by omega)]
      rw [e] at h ⊢
      clear e
      generalize rfs key first = r at *
      go_enter Tryz.func45, Tryz.ntmps45
      go_wp2_with (go_at_call 64; refine (C _).mono ?_; rintro e w1 ⟨rfl, rfl⟩)
      refine bodyPost_ret (v := .tuple #[.string ⟨#[]⟩, .int .i64 r]) (by simp [results, Tryz.results45, go_sem]) rfl ?_
      exact ⟨rfl, Below.refl _ _⟩
/-- The bytes from k on are done. -/
def dB (y x : Nat → By) (k : Nat) (j : Nat) : Value := .int .u8 ((if k ≤ j then y j else x j).val : Int)
theorem nx_hi (f : Nat → By) (p : Nat) (h : ∀ i, i < 16 → p < i → f i = 255) : nxF f p = f p + 1 := by unfold nxF; rw [if_pos h]
theorem nx_lo (f : Nat → By) (p j : Nat) (hp : p < 16) (hj : j < p) (h : f p ≠ 255) : nxF f j = f j := by unfold nxF; rw [if_neg (fun H => h (H p hp hj))]
theorem add_int (a : By) : ((a.val : Int) + 1) % 256 = (((a + 1 : By)).val : Int) := by rw [add_val]; omega
theorem add_0 (a : By) : ((a + 1 : By).val : Int) = 0 ↔ a = 255 := by
  rw [add_val]
  constructor
  · intro h; exact Fin.ext (by have := a.2; show a.val = 255; omega)
  · intro h; rw [h]; rfl
def sLen : Value → Nat
  | .string t => t.size
  | _ => 0
set_option maxHeartbeats 8000000 in
theorem rstream_core (key first : ByteArray) (n : Nat) (hn : n ≤ 65536) (f : Nat → By) (hs : first.size = 16) (T : Nat → ByteArray) (X : Nat → By → By) (M : Nat) (R : World → Nat → Nat → Prop)
    (hT0 : T 0 = ⟨#[]⟩) (hTz : ∀ k, (T k).size = 16 * k) (E : Nat → ByteArray) (hT : ∀ k, T (k + 1) = T k ++ E k) (hEz : ∀ k, (E k).size = 16) (hf : ∀ j, j < 16 → f j = bF first j)
    (hRb : ∀ W W' g c, R W g c → Below W.heap.size W W' → R W' g c) (hRg : ∀ W W' g c x, R W g c → W.grownBy W' (some x) → x ≠ g → R W' g c) (hRl : ∀ W g c, R W g c → g < W.heap.size)
    (C31 : ∀ W, Calls Tryz.prog 64 #[.string key, .string first] W fun e w' => e = .returned (.int .i64 0) ∧ w' = W)
    (C27 : ∀ W, Calls Tryz.prog 65 #[.string key] W fun e w' => ∃ g cap, e = .returned (.slice (some ⟨g, 0, none⟩) M cap) ∧ R w' g cap ∧ Below W.heap.size W w' ∧ W.heap.size ≤ g)
    (C32 : ∀ k g c W, R W g c → Calls Tryz.prog 66 #[.slice (some ⟨g, 0, none⟩) M c, .string (tx (ctF f k))] W fun e w' => e = .returned (.string (E k)) ∧ Below W.heap.size W w') (w : World) :
    Calls Tryz.prog 45 #[.string key, .string first, .int .i64 (n : Int)] w fun e w' => e = .returned (.tuple #[.string ((T ((n + 15) / 16)).extract 0 n), .int .i64 0]) ∧ Below w.heap.size w w' := by
  have n0 : (0 : Int) ≤ (n : Int) := by omega
  have n1 : (n : Int) ≤ 65536 := by omega
  go_enter Tryz.func45, Tryz.ntmps45
  go_wp2_with fail
  refine (C31 _).mono ?_
  rintro e w1 ⟨rfl, rfl⟩
  go_wp2_with fail
  refine (C27 _).mono ?_
  rintro e w2 ⟨g, cap, rfl, hR, B2, hg⟩
  obtain ⟨cap0, W0, hcv, hR0, hB0⟩ := conv_rw w2 first (by omega)
  rw [hs] at hcv hR0
  have A0 := hR0.arr
  have hR1 := hRb _ _ _ _ hR hB0
  have B0 := Bel.call B2 hB0
  have g2 := hRl _ _ _ hR
  have s2 := B2.size
  clear C31 C27 hR0 hR
  go_wp2_with fail
  clear hcv
  have A1 : Arr W0 w2.heap.size 16 (bc (ctF f 0)) := A0.congr (fun j hj => by unfold bc; rw [← hf j hj]; rfl)
  have ngb : g ≠ w2.heap.size := by omega
  clear A0 hB0 B2 g2 hf hs
  generalize w2.heap.size = ga at *
  go_loopw [11] (fun s wr => ∃ k : Nat, s = .string (T k) ∧ 16 * k < n + 16 ∧ Arr wr ga 16 (bc (ctF f k)) ∧ R wr g cap ∧ Below w1.heap.size w1 wr) (fun s _ => 65536 + 16 - sLen s)
  case atStart => exact ⟨0, by rw [hT0], by omega, A1, hR1, B0⟩
  case round =>
    clear A1 hR1 B0
    obtain ⟨k, rfl, hk, A, hR, hB⟩ := hrel
    have tz := hTz k
    by_cases hlt : 16 * k < n
    · have li : ((T k).size : Int) < (n : Int) := by omega
      have cv := conv_tx wr ga cap0 (ctF f k) A
      have c32 := C32 k g cap wr hR
      have ez := hEz k
      have HT : Hid (T (k + 1) = T k ++ E k) := hT k
      have HC : Hid (ctF f (k + 1) = nxF (ctF f k)) := rfl
      have zk : (T k).size ≤ 65536 := by omega
      obtain ⟨h, hh⟩ : ∃ h, ctF f k = h := ⟨_, rfl⟩
      rw [hh] at HC cv c32 A
      clear hh C32 hT hEz hTz hT0
      generalize tx h = th at *
      generalize T k = U at *
      generalize E k = e1 at *
      go_wp2_with fail
      refine c32.mono ?_
      rintro e w3 ⟨rfl, hb3⟩
      have A3 := A.to' hb3
      have R3 := hRb _ _ _ _ hR hb3
      have B3 := Bel.call hB hb3
      clear c32 cv hb3 A hR hB
      go_wp2_with fail
      go_loopw [12] (fun i wr => ∃ q : Nat, q ≤ 16 ∧ i = .int .i64 ((q : Int) - 1) ∧ Arr wr ga 16 (dB (nxF h) h q) ∧ R wr g cap ∧ Below w1.heap.size w1 wr ∧ (∀ m, q = m + 1 → ∀ i, i < 16 → m < i → h i = 255)) (fun i _ => (intOf i + 1).toNat)
      case atStart =>
        refine ⟨16, by omega, rfl, A3.congr (fun j hj => by unfold dB bc; rw [if_neg (by omega)]), R3, B3, fun m hm i hi hl => by omega⟩
      case round =>
        clear A3 R3 B3
        obtain ⟨q, hq, rfl, A, hR, hB, hF⟩ := hrel
        by_cases hq0 : 0 < q
        · obtain ⟨p, rfl⟩ : ∃ p, q = p + 1 := ⟨q - 1, by omega⟩
          have ep : ((p + 1 : Nat) : Int) - 1 = (p : Int) := by omega
          rw [ep]
          clear ep
          have hFp := hF p rfl
          have p4 : p < 16 := by omega
          have i0 : (0 : Int) ≤ (p : Int) := by omega
          have i4 : (p : Int) < 16 := by omega
          have cp := A.cv p p4 (.int .u8 ((h p).val : Int)) (by unfold dB; rw [if_neg (by omega)])
          have zp := A.z p p4
          have np := nx_hi h p hFp
          have ai := add_int (h p)
          rw [← np] at ai
          have hb0 : (0 : Int) ≤ ((h p).val : Int) := by omega
          have hb1 : ((h p).val : Int) < 256 := by have := (h p).2; omega
          have A2 := A.set p p4 (.int .u8 ((nxF h p).val : Int))
          have R2 := hRg _ _ _ _ ga hR (gb_set wr ga p (.int .u8 ((nxF h p).val : Int))) (Ne.symm ngb)
          have B2 : Below w1.heap.size w1 (wr.setCell ⟨ga, p, none⟩ (.int .u8 ((nxF h p).val : Int))) := Bel.st hB (by omega) _
          by_cases hz : h p = 255
          · have z0 : ((nxF h p).val : Int) = 0 := by rw [np]; exact (add_0 _).2 hz
            have HF : Hid (∀ m, p = m + 1 → ∀ i, i < 16 → m < i → h i = 255) := fun m hm i hi hl => by
              by_cases e : i = p
              · rw [e]; exact hz
              · exact hFp i hi (by omega)
            have HZ : Hid (((nxF h p).val : Int) = 0) := z0
            rw [z0] at ai A2 R2 B2
            clear hFp hF np z0 hz hRb hRg hRl
            go_wp2_with fail
            refine ⟨⟨p, by omega, by go_num, A2.congr ?_, R2, B2, HF.out⟩, by first | (simp [intOf]; done) | (simp [intOf]; omega)⟩
            intro j hj
            unfold dB
            by_cases e : j = p
            · subst e; rw [if_pos rfl, if_pos (Nat.le_refl _), HZ.out]
            · rw [if_neg e]
              by_cases e2 : p + 1 ≤ j
              · rw [if_pos e2, if_pos (by omega)]
              · rw [if_neg e2, if_neg (by omega)]
          · have z0 : ¬ ((nxF h p).val : Int) = 0 := by rw [np]; exact fun e => hz ((add_0 _).1 e)
            have AE : Arr (wr.setCell ⟨ga, p, none⟩ (.int .u8 ((nxF h p).val : Int))) ga 16 (bc (nxF h)) := A2.congr fun j hj => by
              by_cases e : j = p
              · subst e; rw [if_pos rfl]; rfl
              · rw [if_neg e]
                unfold dB bc
                by_cases e2 : p + 1 ≤ j
                · rw [if_pos e2]
                · rw [if_neg e2, nx_lo h p j p4 (by omega) hz]
            have RE := R2
            have BE := B2
            have e9 : ((nxF h p).val : Int) = ((h p).val : Int) + 1 := by
              rw [np, add_val]
              have : (h p).val ≠ 255 := fun e => hz (Fin.ext e)
              have := (h p).2
              omega
            rw [e9] at AE RE BE
            clear e9
            clear hFp hF np hz hRb hRg hRl A2 R2 B2
            go_wp2_with fail
            exact ⟨⟨k + 1, by rw [HT.out], by omega, by rw [HC.out]; exact AE, RE, BE⟩, by show _ - (U ++ e1).size < _ - U.size; rw [ByteArray.size_append]; omega⟩
        · have q0 : q = 0 := by omega
          subst q0
          have AE : Arr wr ga 16 (bc (nxF h)) := A.congr fun j _ => by unfold dB bc; rw [if_pos (Nat.zero_le _)]
          have RE := hR
          have BE := hB
          rw [show (((0 : Nat) : Int) - 1) = -1 by omega]
          clear hF hRb hRg hRl A
          go_wp2_with fail
          exact ⟨⟨k + 1, by rw [HT.out], by omega, by rw [HC.out]; exact AE, RE, BE⟩, by show _ - (U ++ e1).size < _ - U.size; rw [ByteArray.size_append]; omega⟩
    · have li : ¬ ((T k).size : Int) < (n : Int) := by omega
      have e : k = (n + 15) / 16 := by omega
      have HE : Hid ((T ((n + 15) / 16)).extract 0 n = (T k).extract 0 n) := by rw [← e]; rfl
      have ln : (n : Int) ≤ ((T k).size : Int) := by omega
      have ln' : n ≤ (T k).size := by omega
      clear hT hTz hT0 C32 hEz hRb hRg hRl e
      generalize T k = U at *
      go_wp2_with fail
      refine bodyPost_ret (v := .tuple #[.string (U.extract 0 n), .int .i64 0]) (by simp [results, Tryz.results45, go_sem]) rfl ?_
      exact ⟨by rw [HE.out], hB⟩
theorem encS_tx (key : ByteArray) (f : Nat → By) : encS key (tx f) = tx (encF key f) := by
  unfold encS
  refine tx_congr fun j hj => ?_
  unfold encF
  have e : ∀ i, ∀ j, j < 16 → eS key (bF (tx f)) i j = eS key f i j := by
    intro i
    induction i with
    | zero => exact bF_tx f
    | succ i ih =>
      intro j hj
      show xr (rdE key i (eS key (bF (tx f)) i) j) _ = xr (rdE key i (eS key f i) j) _
      rw [rdE_congr key i ih j hj]
  exact e _ j hj
theorem Rw.toB {w w' : World} {g n cap : Nat} {f : Nat → By} (hn : 0 < n) (h : Rw w g n cap f) (hb : Below w.heap.size w w') : Rw w' g n cap f := by
  obtain ⟨m, rfl⟩ : ∃ m, n = m + 1 := ⟨n - 1, by omega⟩
  exact h.to hb
theorem Rw.toG {w w' : World} {g n cap x : Nat} {f : Nat → By} (hn : 0 < n) (h : Rw w g n cap f) (hg : w.grownBy w' (some x)) (hne : g ≠ x) : Rw w' g n cap f := by
  obtain ⟨m, rfl⟩ : ∃ m, n = m + 1 := ⟨n - 1, by omega⟩
  exact h.other hg hne
theorem rstream_any (key first : ByteArray) (n : Int) (w : World) :
    Calls Tryz.prog 45 #[.string key, .string first, .int .i64 n] w fun e w' => e = .returned (.tuple #[.string (if rfn key first n = 0 then smS key (bF first) n.toNat else ⟨#[]⟩), .int .i64 (rfn key first n)]) ∧ Below w.heap.size w w' := by
  by_cases h : rfn key first n = 0
  · have hn : 0 ≤ n ∧ n ≤ 65536 := by
      unfold rfn at h
      by_cases c : n < 0 ∨ 65536 < n
      · rw [if_pos c] at h; omega
      · omega
    have h2 : rfs key first = 0 := by
      unfold rfn at h
      rw [if_neg (by omega)] at h
      exact h
    obtain ⟨hk, hs⟩ := rfs_0 h2
    have C31 := fun W => rrefused_any key first W
    rw [h2] at C31
    rw [if_pos h, h]
    obtain ⟨m, rfl⟩ := Int.eq_ofNat_of_zero_le hn.1
    have nb := nk_bd hk
    refine rstream_core key first m (by omega) (bF first) hs (stS key (bF first)) (fun _ a => a) (16 * (nkO key + 7)) (fun W g c => Rw W g (16 * (nkO key + 7)) c (KBo key)) rfl (stS_size key _) (fun k => tx (encF key (ctF (bF first) k))) (fun _ => rfl) (fun _ => tx_size _) (fun _ _ => rfl)
      (fun W W' g c hR hb => hR.toB (by omega) hb) (fun W W' g c x hR hg hne => hR.toG (by omega) hg (Ne.symm hne)) (fun W g c hR => block_lt_of_cell (hR.c 0 (by omega))) C31 (fun W => rwords_any key hk W) (fun k g c W hR => ?_) w
    have := rencrypt_any key (tx (ctF (bF first) k)) hk (tx_size _) g c W hR
    rwa [encS_tx] at this
  · rw [if_neg h]
    exact rstream_no key first n h w
end Go.Proofs.YtjaljnfijhfkcaaGreatDoor
/- The reference's tags; Seal and Open. -/
set_option linter.all false
set_option maxRecDepth 100000
namespace Go.Proofs.YtjaljnfijhfkcaaGreatDoor
open Go.RowKit Go.Sort Lin
theorem encS_size (key block : ByteArray) : (encS key block).size = 16 := tx_size _
theorem fil_1 : fil ⟨#[0]⟩ = tN 0 := by
  apply ba_ext
  unfold fil
  rw [ap_list, tN_tx, tx, zrs, mkS_list, mkS_list]
  decide
theorem xS_tN {a : Nat} (ha : a < 2 ^ 128) (s : ByteArray) : xS (tN a) s = tN (a ^^^ bN s) := by
  have e : xS (tN a) s = tx (fun j => xr (dg a j) (bF s j)) := by
    have e0 : xL 16 (bF (tN a)) (bF s) = (List.range 16).map fun j => ((xr (dg a j) (bF s j)).val : Int) := by
      unfold xL
      exact List.map_congr_left (fun j hj => by rw [bF_tN a j (List.mem_range.1 hj)])
    unfold xS tx
    rw [tN_size, e0]
  rw [e, tx_be, be_xor, be_dg ha, ← bN_be]
set_option maxHeartbeats 1000000 in
theorem rtag_core (key nonce ad c Z h j t T : ByteArray) (e1 e2 e3 : Int) (hn : nonce.size ≤ 1000000) (w : World)
    (C25 : ∀ W, Calls Tryz.prog 68 #[.string ⟨#[0]⟩] W fun e w' => e = .returned (.string Z) ∧ Below W.heap.size W w')
    (C44 : ∀ W, Calls Tryz.prog 67 #[.string key, .string Z] W fun e w' => e = .returned (.tuple #[.string h, .int .i64 e1]) ∧ Below W.heap.size W w')
    (C44' : ∀ W, Calls Tryz.prog 67 #[.string key, .string (nonce ++ ⟨#[0, 0, 0, 1]⟩)] W fun e w' => e = .returned (.tuple #[.string j, .int .i64 e2]) ∧ Below W.heap.size W w')
    (C13 : ∀ W, Calls Tryz.prog 69 #[.string h, .string ad, .string c] W fun e w' => e = .returned (.tuple #[.string t, .int .i64 e3]) ∧ Below W.heap.size W w')
    (C19 : ∀ W, Calls Tryz.prog 46 #[.string t, .string j] W fun e w' => e = .returned (.string T) ∧ Below W.heap.size W w') :
    Calls Tryz.prog 47 #[.string key, .string nonce, .string ad, .string c] w fun e w' => e = .returned (.string T) ∧ Below w.heap.size w w' := by
  have n1 : (nonce.size : Int) ≤ 1000000 := by omega
  go_enter Tryz.func47, Tryz.ntmps47
  go_wp2_with fail
  refine (C25 _).mono ?_
  rintro e w1 ⟨rfl, B1⟩
  go_wp2_with fail
  refine (C44 _).mono ?_
  rintro e w2 ⟨rfl, B2⟩
  replace B2 := Bel.call B1 B2
  clear B1 C25 C44
  go_wp2_with fail
  refine (C44' _).mono ?_
  rintro e w3 ⟨rfl, B3⟩
  replace B3 := Bel.call B2 B3
  clear B2 C44'
  go_wp2_with fail
  refine (C13 _).mono ?_
  rintro e w4 ⟨rfl, B4⟩
  replace B4 := Bel.call B3 B4
  clear B3 C13
  go_wp2_with fail
  refine (C19 _).mono ?_
  rintro e w5 ⟨rfl, B5⟩
  replace B5 := Bel.call B4 B5
  clear B4 C19
  go_wp2_with fail
  go_ret
  exact ⟨rfl, B5⟩
theorem rtag_any (key nonce ad c : ByteArray) (hk : Key key) (hn : nonce.size = 12) (ha : ad.size ≤ 1000000) (hc : c.size ≤ 1000000) (w : World) :
    Calls Tryz.prog 47 #[.string key, .string nonce, .string ad, .string c] w fun e w' => e = .returned (.string (tN (tgN key nonce ad c))) ∧ Below w.heap.size w w' := by
  have z0 : rfs key (tN 0) = 0 := by unfold rfs; rw [if_pos ((isK_iff key).2 hk), if_pos (tN_size 0)]
  have z1 : rfs key (nonce ++ n1) = 0 := rfs_12 hk hn rfl
  refine rtag_core key nonce ad c (tN 0) (encS key (tN 0)) (encS key (nonce ++ n1)) (tN (hF (hK key) (hBl ad c))) _ 0 0 0 (by omega) w (fun W => ?_) (fun W => ?_) (fun W => ?_) (fun W => ?_) (fun W => ?_)
  · have := filled_any ⟨#[0]⟩ (by decide) W
    rw [fil_1] at this
    exact this.mono fun e w' ⟨h1, h2⟩ => ⟨h1, by rw [h2]; exact Below.refl _ _⟩
  · have := rEncrypt_any key (tN 0) W
    rwa [z0, if_pos rfl] at this
  · have := rEncrypt_any key (nonce ++ n1) W
    rwa [z1, if_pos rfl] at this
  · have := rHash_any (encS key (tN 0)) ad c ha hc W
    unfold hsS hsE at this
    rwa [if_pos (encS_size _ _), if_pos (encS_size _ _)] at this
  · have := rXor_any (tN (hF (hK key) (hBl ad c))) (encS key (nonce ++ n1)) (by rw [tN_size, encS_size]; exact Nat.le_refl _) (by rw [tN_size]; decide) W
    rw [xS_tN (a := hF (hK key) (hBl ad c)) (hF_lt (bN_lt _) _)] at this
    exact this
set_option maxHeartbeats 1000000 in
theorem rSeal_no (key nonce ad p : ByteArray) (r : Int) (hr : ¬ r = 0) (w : World)
    (C30 : ∀ W, Calls Tryz.prog 44 #[.string key, .string nonce] W fun e w' => e = .returned (.int .i64 r) ∧ w' = W) :
    Calls Tryz.prog 24 #[.string key, .string nonce, .string ad, .string p] w fun e w' => e = .returned (.tuple #[.string ⟨#[]⟩, .int .i64 r]) ∧ Below w.heap.size w w' := by
  go_enter Tryz.func24, Tryz.ntmps24
  go_wp2_with fail
  refine (C30 _).mono ?_
  rintro e w1 ⟨rfl, hw⟩
  rw [hw]
  clear hw w1 C30
  go_wp2_with fail
  refine bodyPost_ret (v := .tuple #[.string ⟨#[]⟩, .int .i64 r]) (by simp [results, Tryz.results24, go_sem]) rfl ⟨rfl, Below.refl _ _⟩
set_option maxHeartbeats 1000000 in
theorem rSeal_yes (key nonce ad p st c g : ByteArray) (f : Int) (hp : p.size ≤ 65536) (hc : c.size ≤ 65536) (hg : g.size = 16) (hn : nonce.size ≤ 1000000) (w : World)
    (C30 : ∀ W, Calls Tryz.prog 44 #[.string key, .string nonce] W fun e w' => e = .returned (.int .i64 0) ∧ w' = W)
    (C31 : ∀ W, Calls Tryz.prog 45 #[.string key, .string (nonce ++ ⟨#[0, 0, 0, 2]⟩), .int .i64 (p.size : Int)] W fun e w' => e = .returned (.tuple #[.string st, .int .i64 f]) ∧ Below W.heap.size W w')
    (C19 : ∀ W, Calls Tryz.prog 46 #[.string p, .string st] W fun e w' => e = .returned (.string c) ∧ Below W.heap.size W w')
    (C32 : ∀ W, Calls Tryz.prog 47 #[.string key, .string nonce, .string ad, .string c] W fun e w' => e = .returned (.string g) ∧ Below W.heap.size W w') :
    Calls Tryz.prog 24 #[.string key, .string nonce, .string ad, .string p] w fun e w' => e = .returned (.tuple #[.string (c ++ g), .int .i64 0]) ∧ Below w.heap.size w w' := by
  have p1 : ¬ (65536 : Int) < (p.size : Int) := by omega
  have c1 : (c.size : Int) ≤ 65536 := by omega
  have g1 : (g.size : Int) = 16 := by omega
  have n1 : (nonce.size : Int) ≤ 1000000 := by omega
  clear hp hc hg hn
  go_enter Tryz.func24, Tryz.ntmps24
  go_wp2_with fail
  refine (C30 _).mono ?_
  rintro e w1 ⟨rfl, hw⟩
  rw [hw]
  clear hw w1 C30
  go_wp2_with fail
  refine (C31 _).mono ?_
  rintro e w2 ⟨rfl, B2⟩
  clear C31
  go_wp2_with fail
  refine (C19 _).mono ?_
  rintro e w3 ⟨rfl, B3⟩
  replace B3 := Bel.call B2 B3
  clear B2 C19
  go_wp2_with fail
  refine (C32 _).mono ?_
  rintro e w4 ⟨rfl, B4⟩
  replace B4 := Bel.call B3 B4
  clear B3 C32
  go_wp2_with fail
  refine bodyPost_ret (v := .tuple #[.string (c ++ g), .int .i64 0]) (by simp [results, Tryz.results24, go_sem]) rfl ⟨rfl, B4⟩
theorem rstr_any (key nonce t : ByteArray) (hk : Key key) (hn : nonce.size = 12) (ht : t.size ≤ 65536) (W : World) :
    Calls Tryz.prog 45 #[.string key, .string (nonce ++ n2), .int .i64 (t.size : Int)] W fun e w' => e = .returned (.tuple #[.string (smS key (bF (nonce ++ n2)) t.size), .int .i64 0]) ∧ Below W.heap.size W w' := by
  have := rstream_any key (nonce ++ n2) (t.size : Int) W
  have e : rfn key (nonce ++ n2) (t.size : Int) = 0 := by
    unfold rfn
    rw [if_neg (by omega)]
    exact rfs_12 hk hn rfl
  rwa [e, if_pos rfl, Int.toNat_natCast] at this
theorem rSeal_any (key nonce ad p : ByteArray) (hn : nonce.size ≤ 1000000) (ha : ad.size ≤ 1000000) (hp : p.size ≤ 65536) (w : World) :
    Calls Tryz.prog 24 #[.string key, .string nonce, .string ad, .string p] w fun e w' => e = .returned (.tuple #[.string (seR key nonce ad p), .int .i64 (rfg key nonce)]) ∧ Below w.heap.size w w' := by
  have C30 := fun W => rgsized_any key nonce W
  unfold seR
  by_cases h : rfg key nonce = 0
  · obtain ⟨hk, h12⟩ := rfg_0 h
    rw [if_pos h, h]
    rw [h] at C30
    have cs := crS_size key nonce p
    exact rSeal_yes key nonce ad p _ (crS key nonce p) _ 0 hp (by omega) (tN_size _) hn w C30 (fun W => rstr_any key nonce p hk h12 hp W) (fun W => rXor_any p _ (by rw [smS_size]; exact Nat.le_refl _) (by omega) W) (fun W => rtag_any key nonce ad _ hk h12 ha (by omega) W)
  · rw [if_neg h]
    exact rSeal_no key nonce ad p _ h w C30
set_option maxHeartbeats 1000000 in
theorem rOpen_no (key nonce ad s : ByteArray) (r : Int) (hr : ¬ r = 0) (w : World)
    (C30 : ∀ W, Calls Tryz.prog 44 #[.string key, .string nonce] W fun e w' => e = .returned (.int .i64 r) ∧ w' = W) :
    Calls Tryz.prog 27 #[.string key, .string nonce, .string ad, .string s] w fun e w' => e = .returned (.tuple #[.string ⟨#[]⟩, .int .i64 r]) ∧ Below w.heap.size w w' := by
  go_enter Tryz.func27, Tryz.ntmps27
  go_wp2_with fail
  refine (C30 _).mono ?_
  rintro e w1 ⟨rfl, hw⟩
  rw [hw]
  clear hw w1 C30
  go_wp2_with fail
  refine bodyPost_ret (v := .tuple #[.string ⟨#[]⟩, .int .i64 r]) (by simp [results, Tryz.results27, go_sem]) rfl ⟨rfl, Below.refl _ _⟩
set_option maxHeartbeats 1000000 in
theorem rOpen_short (key nonce ad s : ByteArray) (hs : s.size < 16) (w : World)
    (C30 : ∀ W, Calls Tryz.prog 44 #[.string key, .string nonce] W fun e w' => e = .returned (.int .i64 0) ∧ w' = W) :
    Calls Tryz.prog 27 #[.string key, .string nonce, .string ad, .string s] w fun e w' => e = .returned (.tuple #[.string ⟨#[]⟩, .int .i64 11]) ∧ Below w.heap.size w w' := by
  have s1 : (s.size : Int) < 16 := by omega
  clear hs
  go_enter Tryz.func27, Tryz.ntmps27
  go_wp2_with fail
  refine (C30 _).mono ?_
  rintro e w1 ⟨rfl, hw⟩
  rw [hw]
  clear hw w1 C30
  go_wp2_with fail
  refine bodyPost_ret (v := .tuple #[.string ⟨#[]⟩, .int .i64 11]) (by simp [results, Tryz.results27, go_sem]) rfl ⟨rfl, Below.refl _ _⟩
theorem tl_ne {a b : ByteArray} (h : ¬ a = b) : (a.toList == b.toList) = false := by
  apply beq_false_of_ne
  intro e
  rw [Go.ByteArray.toList_eq, Go.ByteArray.toList_eq] at e
  exact h (ba_ext e)
theorem tl_eq {a b : ByteArray} (h : a = b) : (a.toList == b.toList) = true := by rw [h]; exact beq_self_eq_true _
set_option maxHeartbeats 1000000 in
theorem rOpen_core (key nonce ad s g st p : ByteArray) (f : Int) (n : Nat) (hn : s.size = n + 16) (hs : n ≤ 65536) (hnn : nonce.size ≤ 1000000) (w : World)
    (C30 : ∀ W, Calls Tryz.prog 44 #[.string key, .string nonce] W fun e w' => e = .returned (.int .i64 0) ∧ w' = W)
    (C32 : ∀ W, Calls Tryz.prog 47 #[.string key, .string nonce, .string ad, .string (s.extract 0 n)] W fun e w' => e = .returned (.string g) ∧ Below W.heap.size W w')
    (C31 : ∀ W, Calls Tryz.prog 45 #[.string key, .string (nonce ++ ⟨#[0, 0, 0, 2]⟩), .int .i64 (n : Int)] W fun e w' => e = .returned (.tuple #[.string st, .int .i64 f]) ∧ Below W.heap.size W w')
    (C19 : ∀ W, Calls Tryz.prog 46 #[.string (s.extract 0 n), .string st] W fun e w' => e = .returned (.string p) ∧ Below W.heap.size W w') :
    Calls Tryz.prog 27 #[.string key, .string nonce, .string ad, .string s] w fun e w' => e = .returned (if g = s.extract n s.size then .tuple #[.string p, .int .i64 0] else .tuple #[.string ⟨#[]⟩, .int .i64 17]) ∧ Below w.heap.size w w' := by
  have s0 : (s.size : Int) - 16 = (n : Int) := by omega
  have s1 : ¬ (s.size : Int) < 16 := by omega
  have s3 : ¬ (65552 : Int) < (s.size : Int) := by omega
  have s4 : (n : Int) ≤ (s.size : Int) := by omega
  have s5 : n ≤ s.size := by omega
  have s2 : (0 : Int) ≤ (n : Int) := by omega
  have s6 : (s.extract 0 n).size = n := by rw [ByteArray.size_extract]; omega
  have s7 : ((s.extract 0 n).size : Int) = (n : Int) := by omega
  have n1 : (nonce.size : Int) ≤ 1000000 := by omega
  clear hs hn hnn s6
  obtain ⟨c, hc⟩ : ∃ c, s.extract 0 n = c := ⟨_, rfl⟩
  rw [hc] at C32 C19 s7
  go_enter Tryz.func27, Tryz.ntmps27
  go_wp2_with fail
  refine (C30 _).mono ?_
  rintro e w1 ⟨rfl, hw⟩
  rw [hw]
  clear hw w1 C30
  go_wp2_with fail
  refine wp_region_quiet_below (by kernel_rfl) (by kernel_rfl) ?_
  repeat (go_big_quiet_step (first | (go_at_call 47; exact Calls.regrown_of (C32 _))))
  refine wpQuiet_nil ?_
  intro w5 hw'
  obtain ⟨⟨dq, osq⟩, hw''⟩ := hw'
  have hb := below_of hw''
  clear hw'' C32
  by_cases hg : g = s.extract n s.size
  · have HG : Hid (g = s.extract n s.size) := hg
    have j1 := tl_eq hg
    rw [j1]
    clear hg j1
    go_wp2_with fail
    refine (C31 _).mono ?_
    rintro e w6 ⟨rfl, B6⟩
    replace B6 := Bel.call hb B6
    clear hb C31
    go_wp2_with fail
    refine (C19 _).mono ?_
    rintro e w7 ⟨rfl, B7⟩
    replace B7 := Bel.call B6 B7
    clear B6 C19
    go_wp2_with fail
    refine bodyPost_ret (v := .tuple #[.string p, .int .i64 0]) (by simp [results, Tryz.results27, go_sem]) rfl ⟨by first | rfl | rw [if_pos HG.out], B7⟩
  · have HG : Hid (¬ g = s.extract n s.size) := hg
    have j1 := tl_ne hg
    rw [j1]
    clear hg j1
    go_wp2_with fail
    refine bodyPost_ret (v := .tuple #[.string ⟨#[]⟩, .int .i64 17]) (by simp [results, Tryz.results27, go_sem]) rfl ⟨by first | rfl | rw [if_neg HG.out], hb⟩
theorem rOpen_any (key nonce ad s : ByteArray) (hn : nonce.size ≤ 1000000) (ha : ad.size ≤ 1000000) (hs : s.size ≤ 65552) (w : World) :
    Calls Tryz.prog 27 #[.string key, .string nonce, .string ad, .string s] w fun e w' => e = .returned (.tuple #[.string (opS key nonce ad s), .int .i64 (opE key nonce ad s)]) ∧ Below w.heap.size w w' := by
  have C30 := fun W => rgsized_any key nonce W
  unfold opS
  by_cases h : rfg key nonce = 0
  · obtain ⟨hk, h12⟩ := rfg_0 h
    rw [h] at C30
    by_cases h16 : s.size < 16
    · have e : opE key nonce ad s = 11 := by unfold opE; rw [if_pos h, if_pos h16]
      rw [e, if_neg (by decide)]
      exact rOpen_short key nonce ad s h16 w C30
    · have cs : (cut1 s).size = s.size - 16 := by unfold cut1; rw [ByteArray.size_extract]; omega
      have ds : (cut2 s).size = 16 := by unfold cut2; rw [ByteArray.size_extract]; omega
      have C31 := fun W => rstr_any key nonce (cut1 s) hk h12 (by omega) W
      have C19 := fun W => rXor_any (cut1 s) (smS key (bF (nonce ++ n2)) (cut1 s).size) (by rw [smS_size]; exact Nat.le_refl _) (by omega) W
      rw [cs] at C31 C19
      have := rOpen_core key nonce ad s (tN (tgN key nonce ad (cut1 s))) _ (xS (cut1 s) (smS key (bF (nonce ++ n2)) (s.size - 16))) 0 (s.size - 16) (by omega) (by omega) hn w C30 (fun W => rtag_any key nonce ad (cut1 s) hk h12 ha (by omega) W) C31 C19
      have ec : crS key nonce (cut1 s) = xS (cut1 s) (smS key (bF (nonce ++ n2)) (s.size - 16)) := by unfold crS; rw [cs]
      have iff : tN (tgN key nonce ad (cut1 s)) = s.extract (s.size - 16) s.size ↔ tgN key nonce ad (cut1 s) = bN (cut2 s) := by
        constructor
        · intro e
          have e2 : tN (tgN key nonce ad (cut1 s)) = cut2 s := e
          rw [← e2, bN_tN (tgN_lt _ _ _ _)]
        · intro e
          rw [e, tN_bN _ ds]
          rfl
      by_cases ht : tgN key nonce ad (cut1 s) = bN (cut2 s)
      · have e : opE key nonce ad s = 0 := by unfold opE; rw [if_pos h, if_neg h16, if_pos ht]
        rw [e, if_pos rfl, ec]
        rw [if_pos (iff.2 ht)] at this
        exact this
      · have e : opE key nonce ad s = 17 := by unfold opE; rw [if_pos h, if_neg h16, if_neg ht]
        rw [e, if_neg (by decide)]
        rw [if_neg (fun q => ht (iff.1 q))] at this
        exact this
  · have e : opE key nonce ad s = rfg key nonce := by unfold opE; rw [if_neg h]
    rw [e, if_neg h]
    exact rOpen_no key nonce ad s _ h w C30
end Go.Proofs.YtjaljnfijhfkcaaGreatDoor
/- Directions: made, gone on, their nonce; texts sealed and opened by them: of the program. -/
set_option linter.all false
set_option maxRecDepth 100000
namespace Go.Proofs.YtjaljnfijhfkcaaGreatDoor
open Go.RowKit Go.Sort Lin
set_option maxHeartbeats 1000000 in
theorem nonce_any (d : Nat) (key iv : ByteArray) (q : Int) (q0 : 0 ≤ q) (q1 : q < 18446744073709551616) (w : World) (A : Arr w d 3 (sd3 key iv q)) :
    Calls Tryz.prog 35 #[.pointer (some ⟨d, 0, none⟩)] w fun e w' => e = .returned (.string (noR key iv q)) ∧ Below w.heap.size w w' := by
  have C1 := Load_any d q w (A.c 2 (by omega))
  have C2 := side_any d key iv q q w A
  have C3 := fun W => Nonce_any key iv q q0 q1 W
  generalize noR key iv q = T at *
  generalize noE key iv = E at *
  unfold sdV at *
  clear A
  go_enter Tryz.func35, Tryz.ntmps35
  go_wp2_with (first | (go_at_call 57; refine C1.mono ?_; rintro e w1 ⟨rfl, rfl⟩) | (go_at_call 42; refine C2.mono ?_; rintro e w2 ⟨rfl, B2⟩) | (go_at_call 8; refine (C3 _).mono ?_; rintro e w3 ⟨rfl, B3⟩))
  go_ret
  exact ⟨rfl, Bel.call B2 B3⟩
set_option maxHeartbeats 1000000 in
theorem goneOn_all (d : Nat) (key iv : ByteArray) (q : Int) (q0 : 0 ≤ q) (q1 : q < 18446744073709551615) (w : World) (A : Arr w d 3 (sd3 key iv q)) :
    Calls Tryz.prog 21 #[.pointer (some ⟨d, 0, none⟩)] w fun e w' => e = .returned (sdV key iv (q + 1)) ∧ Below w.heap.size (w.setCell ⟨d, 2, none⟩ (.int .u64 (q + 1))) w' := by
  have hd : d < w.heap.size := A.lt (n := 2)
  have A0 : Arr _ d 3 _ := A.al' (n := 2) (.cells #[.string ⟨#[]⟩, .string ⟨#[]⟩, .int .u64 0] 24)
  have A1 := Arr.new w _ 24 _ rfl _ 3 (sd3_at ⟨#[]⟩ ⟨#[]⟩ 0)
  have C1 := Add_any d q q0 q1 _ (A0.c 2 (by omega)) (A0.z 2 (by omega))
  have A2 : Arr ((w.alloc (.cells #[.string ⟨#[]⟩, .string ⟨#[]⟩, .int .u64 0] 24)).setCell ⟨d, 2, none⟩ (.int .u64 (q + 1))) d 3 (sd3 key iv (q + 1)) := (A0.set 2 (by omega) _).congr (by
    intro j hj
    have : j = 0 ∨ j = 1 ∨ j = 2 := by omega
    rcases this with rfl | rfl | rfl <;> simp [sd3])
  have A3 : Arr ((w.alloc (.cells #[.string ⟨#[]⟩, .string ⟨#[]⟩, .int .u64 0] 24)).setCell ⟨d, 2, none⟩ (.int .u64 (q + 1))) w.heap.size 3 (sd3 ⟨#[]⟩ ⟨#[]⟩ 0) := A1.other (by omega) _
  have B1 : Below w.heap.size (w.setCell ⟨d, 2, none⟩ (.int .u64 (q + 1))) ((w.alloc (.cells #[.string ⟨#[]⟩, .string ⟨#[]⟩, .int .u64 0] 24)).setCell ⟨d, 2, none⟩ (.int .u64 (q + 1))) := by
    rw [World.setCell_alloc_past _ d 2 _ hd]
    exact (Below.refl _ _).alloc (by rw [size_set]; exact Nat.le_refl _) _
  have L1 : w.heap.size < ((w.alloc (.cells #[.string ⟨#[]⟩, .string ⟨#[]⟩, .int .u64 0] 24)).setCell ⟨d, 2, none⟩ (.int .u64 (q + 1))).heap.size := by rw [size_set]; exact A1.lt (n := 2)
  generalize hu : w.setCell ⟨d, 2, none⟩ (.int .u64 (q + 1)) = u at B1 ⊢
  clear A A0 A1 hu
  go_enter Tryz.func21, Tryz.ntmps21
  go_wp2_with fail
  refine C1.mono ?_
  rintro e w1 ⟨rfl, hw⟩
  rw [← hw] at A2 A3 B1 L1
  clear hw C1
  go_wp2_with fail
  refine (side_any d key iv (q + 1) (q + 1) _ A2).mono ?_
  rintro e w2 ⟨rfl, B2⟩
  have A4 := A3.below B2 L1
  have B3 := B1.trans (B2.mono (by omega))
  clear A2 A3 B1 B2
  have c := A4.c
  have z := A4.z
  obtain ⟨e0, e1, e2⟩ := (A4.ssd key iv (q + 1)).sd
  unfold ssd at e0 e1 e2
  unfold sdV
  go_wp2_with fail
  refine bodyPost_ret (v := sdV key iv (q + 1)) (by simp [sdV, results, Tryz.results21, go_sem, e0, e1, e2]) rfl ⟨rfl, Bel.ssd B3 (by omega) key iv (q + 1)⟩
theorem goneOn_any (d : Nat) (key iv : ByteArray) (q : Int) (q0 : 0 ≤ q) (q1 : q < 18446744073709551615) (w : World) (A : Arr w d 3 (sd3 key iv q)) :
    Calls Tryz.prog 21 #[.pointer (some ⟨d, 0, none⟩)] w fun e w' => e = .returned (sdV key iv (q + 1)) ∧ Below d w w' :=
  (goneOn_all d key iv q q0 q1 w A).mono fun e w' ⟨h1, h2⟩ => ⟨h1, ((Below.refl d w).setCell (p := ⟨d, 2, none⟩) (Nat.le_refl _) _).trans (h2.mono (Nat.le_of_lt (A.lt (n := 2))))⟩
/-- What is wrong with a direction that is to go on. -/
def diE (key iv : ByteArray) (q : Int) : Int := if noE key iv = 0 then (if q = 18446744073709551615 then 18 else 0) else noE key iv
set_option maxHeartbeats 1000000 in
theorem directionOf_1 (key iv T : ByteArray) (q E : Int) (hE : ¬ E = 0) (w : World)
    (C : ∀ W, Calls Tryz.prog 8 #[sdV key iv q] W fun e w' => e = .returned (.tuple #[.string T, .int .i64 E]) ∧ Below W.heap.size W w') :
    Calls Tryz.prog 18 #[sdV key iv q] w fun e w' => e = .returned (.tuple #[.pointer none, .int .i64 E]) ∧ Below w.heap.size w w' := by
  unfold sdV at *
  go_enter Tryz.func18, Tryz.ntmps18
  go_wp2_with fail
  refine (C _).mono ?_
  rintro e w1 ⟨rfl, B1⟩
  replace B1 : Below w.heap.size w w1 := Bel.call (by go_grown) B1
  go_wp2_with fail
  refine bodyPost_ret (v := .tuple #[.pointer none, .int .i64 E]) (by simp [results, Tryz.results18, go_sem]) rfl ⟨rfl, B1⟩
set_option maxHeartbeats 1000000 in
theorem directionOf_2 (key iv T : ByteArray) (q : Int) (hq : q = 18446744073709551615) (w : World)
    (C : ∀ W, Calls Tryz.prog 8 #[sdV key iv q] W fun e w' => e = .returned (.tuple #[.string T, .int .i64 0]) ∧ Below W.heap.size W w') :
    Calls Tryz.prog 18 #[sdV key iv q] w fun e w' => e = .returned (.tuple #[.pointer none, .int .i64 18]) ∧ Below w.heap.size w w' := by
  subst hq
  unfold sdV at *
  have A0 := Arr.new w _ 24 _ rfl _ 3 (sd3_at key iv 18446744073709551615)
  go_enter Tryz.func18, Tryz.ntmps18
  go_wp2_with fail
  refine (C _).mono ?_
  rintro e w1 ⟨rfl, B1⟩
  obtain ⟨e0, e1, e2⟩ := (A0.to' (n := 2) B1).sd
  replace B1 : Below w.heap.size w w1 := Bel.call (by go_grown) B1
  clear C A0
  go_wp2_with fail
  refine bodyPost_ret (v := .tuple #[.pointer none, .int .i64 18]) (by simp [results, Tryz.results18, go_sem]) rfl ⟨rfl, B1⟩
set_option maxHeartbeats 1000000 in
theorem directionOf_3 (key iv T : ByteArray) (q : Int) (hq : ¬ q = 18446744073709551615) (w : World)
    (C : ∀ W, Calls Tryz.prog 8 #[sdV key iv q] W fun e w' => e = .returned (.tuple #[.string T, .int .i64 0]) ∧ Below W.heap.size W w') :
    Calls Tryz.prog 18 #[sdV key iv q] w fun e w' => ∃ d, e = .returned (.tuple #[.pointer (some ⟨d, 0, none⟩), .int .i64 0]) ∧ w.heap.size ≤ d ∧ Arr w' d 3 (sd3 key iv q) ∧ Below w.heap.size w w' := by
  unfold sdV at *
  have A0 := Arr.new w _ 24 _ rfl _ 3 (sd3_at key iv q)
  go_enter Tryz.func18, Tryz.ntmps18
  go_wp2_with fail
  refine (C _).mono ?_
  rintro e w1 ⟨rfl, B1⟩
  have A1 : Arr _ _ 3 _ := A0.to' (n := 2) B1
  obtain ⟨e0, e1, e2⟩ := A1.sd
  replace B1 : Below w.heap.size w w1 := Bel.call (by go_grown) B1
  clear C A0
  go_wp2_with fail
  have D0 := Arr.new w1 _ 76 _ rfl _ 3 (sd3_at key iv 0)
  have A2 : Arr _ _ 3 _ := A1.al' (n := 2) (.cells #[.string key, .string iv, .int .u64 0] 76)
  have B2 := Bel.al B1 (.cells #[.string key, .string iv, .int .u64 0] 76)
  have hd := B1.size
  generalize w1.alloc (.cells #[.string key, .string iv, .int .u64 0] 76) = w2 at *
  generalize w1.heap.size = d at *
  clear A1 B1 e0 e1 e2
  have r2 := fun ds os => cell_regrown (A2.cv 2 (by omega) (.int .u64 q) rfl) ds os
  refine wp_region_below_tail 5 (by kernel_rfl) (by kernel_rfl) ?_
  simp only [List.take_succ_cons, List.take_zero, List.drop_succ_cons, List.drop_zero]
  repeat (go_big_quiet_step (fail))
  refine wpQuiet_nil ?_
  intro w3 hw'
  obtain ⟨⟨dq, osq⟩, hw''⟩ := hw'
  have hb1 := below_of hw''
  clear hw'' r2
  have D1 : Arr _ _ 3 _ := D0.to' (n := 2) hb1
  have B3 := Bel.call B2 hb1
  clear D0 A2 B2 hb1
  have C2 := Store_any d q _ w3 (D1.c 2 (by omega)) (D1.z 2 (by omega))
  have D2 : Arr (w3.setCell ⟨d, 2, none⟩ (.int .u64 q)) d 3 (sd3 key iv q) := (D1.set 2 (by omega) _).congr (by
    intro j hj
    have : j = 0 ∨ j = 1 ∨ j = 2 := by omega
    rcases this with rfl | rfl | rfl <;> simp [sd3])
  have B4 := Bel.st B3 (k := 2) hd (.int .u64 q)
  go_wp2_with (go_at_call 33; refine C2.mono ?_; rintro e w4 ⟨rfl, rfl⟩)
  refine bodyPost_ret (v := .tuple #[.pointer (some ⟨d, 0, none⟩), .int .i64 0]) (by simp [results, Tryz.results18, go_sem]) rfl ⟨d, rfl, hd, D2, B4⟩
set_option maxHeartbeats 1000000 in
theorem sealed_core (d : Nat) (key iv t N H S : ByteArray) (q r : Int) (hs : S.size ≤ 100000) (hH : H.size = 5) (ht : t.size ≤ 100000) (w : World) (A : Arr w d 3 (sd3 key iv q))
    (C1 : ∀ W, Arr W d 3 (sd3 key iv q) → Calls Tryz.prog 35 #[.pointer (some ⟨d, 0, none⟩)] W fun e w' => e = .returned (.string N) ∧ Below W.heap.size W w')
    (C2 : ∀ W, Calls Tryz.prog 30 #[.int .i64 23, .int .i64 ((t.size : Int) + 16)] W fun e w' => e = .returned (.string H) ∧ Below W.heap.size W w')
    (C3 : ∀ W, Calls Tryz.prog 34 #[.string key, .string N, .string H, .string t] W fun e w' => e = .returned (.tuple #[.string S, .int .i64 r]) ∧ Below W.heap.size W w') :
    Calls Tryz.prog 19 #[.pointer (some ⟨d, 0, none⟩), .string t] w fun e w' => e = .returned (.string (H ++ S)) ∧ Below w.heap.size w w' := by
  have t1 : (t.size : Int) ≤ 100000 := by omega
  have h5 : (H.size : Int) = 5 := by omega
  have s1 : (S.size : Int) ≤ 100000 := by omega
  go_enter Tryz.func19, Tryz.ntmps19
  go_wp2_with fail
  refine (C2 _).mono ?_
  rintro e w1 ⟨rfl, B1⟩
  have A1 : Arr _ _ 3 _ := A.to' (n := 2) B1
  clear A C2
  go_wp2_with fail
  have r0 := fun ds os => cell_regrown (A1.cv 0 (by omega) (.string key) rfl) ds os
  refine wp_region_quiet_below (by kernel_rfl) (by kernel_rfl) ?_
  repeat (go_big_quiet_step (first | (go_at_call 35; exact Calls.regrown_of (C1 _ (A1.to' (n := 2) (below_regrown _ _ _)))) | (go_at_call 34; exact Calls.regrown_of (C3 _))))
  refine wpQuiet_nil ?_
  intro w2 hw'
  obtain ⟨⟨dq, osq⟩, hw''⟩ := hw'
  have hb1 := below_of hw''
  have B2 := Bel.call B1 hb1
  clear hw'' r0 A1 B1 hb1 C1 C3
  go_wp2_with fail
  go_ret
  exact ⟨rfl, B2⟩
set_option maxHeartbeats 1000000 in
theorem opened_core (d : Nat) (key iv t N H S : ByteArray) (q r : Int) (hH : H.size = 5) (w : World) (A : Arr w d 3 (sd3 key iv q))
    (C1 : ∀ W, Arr W d 3 (sd3 key iv q) → Calls Tryz.prog 35 #[.pointer (some ⟨d, 0, none⟩)] W fun e w' => e = .returned (.string N) ∧ Below W.heap.size W w')
    (C2 : ∀ W, Calls Tryz.prog 30 #[.int .i64 23, .int .i64 (t.size : Int)] W fun e w' => e = .returned (.string H) ∧ Below W.heap.size W w')
    (C3 : ∀ W, Calls Tryz.prog 48 #[.string key, .string N, .string H, .string t] W fun e w' => e = .returned (.tuple #[.string S, .int .i64 r]) ∧ Below W.heap.size W w') :
    Calls Tryz.prog 25 #[.pointer (some ⟨d, 0, none⟩), .string t] w fun e w' => e = .returned (.tuple #[.string S, .int .i64 r]) ∧ Below w.heap.size w w' := by
  have r0 := fun ds os => cell_regrown (A.cv 0 (by omega) (.string key) rfl) ds os
  go_enter Tryz.func25, Tryz.ntmps25
  go_wp2_with fail
  refine wp_region_quiet_below (by kernel_rfl) (by kernel_rfl) ?_
  repeat (go_big_quiet_step (first | (go_at_call 35; exact Calls.regrown_of (C1 _ (A.to' (n := 2) (below_regrown _ _ _)))) | (go_at_call 48; exact Calls.regrown_of (C3 _)) | (go_at_call 30; exact Calls.regrown_of (C2 _))))
  refine wpQuiet_nil ?_
  intro w2 hw'
  obtain ⟨⟨dq, osq⟩, hw''⟩ := hw'
  have hb1 := below_of hw''
  clear hw'' r0 A C1 C2 C3
  go_wp2_with fail
  refine bodyPost_ret (v := .tuple #[.string S, .int .i64 r]) (by simp [results, Tryz.results25, go_sem]) rfl ⟨rfl, hb1⟩
end Go.Proofs.YtjaljnfijhfkcaaGreatDoor
/- Protect of the program. -/
set_option linter.all false
set_option maxRecDepth 100000
namespace Go.Proofs.YtjaljnfijhfkcaaGreatDoor
open Go.RowKit Go.Sort Lin
/-- A row of one byte that has been built. -/
def rowV (k : Int) (v : Value) (w : World) : Prop := ∃ g, v = .slice (some ⟨g, 0, none⟩) 1 1 ∧ g < w.heap.size ∧ w.cell? ⟨g, 0, none⟩ = some (.int .u8 (k % 256))
theorem rowV.st {k : Int} {v : Value} {w w' : World} (h : rowV k v w) (hb : Below w.heap.size w w') : rowV k v w' := by
  obtain ⟨g, h1, h2, h3⟩ := h
  exact ⟨g, h1, Nat.lt_of_lt_of_le h2 hb.size, (hb.cell (p := ⟨g, 0, none⟩) h2).trans h3⟩
theorem rowV.conv {k : Int} {v : Value} {w : World} (h : rowV k v w) : (convert 50 9 v).run Tryz.prog w = .ok (.string (mkS [k % 256])) w := by
  obtain ⟨g, rfl, _, h3⟩ := h
  refine convC w g 1 1 [k % 256] rfl (fun j u hu => ?_)
  cases j with
  | zero =>
    simp at hu
    subst hu
    rw [Addr.add_mid, Nat.zero_add]
    exact h3
  | succ j => simp at hu
theorem rowV.new (k : Int) (w : World) : rowV k (.slice (some ⟨w.heap.size, 0, none⟩) 1 1) (w.alloc (.cells #[.int .u8 (k % 256)] 5)) := by
  refine ⟨_, rfl, by simp, ?_⟩
  exact World.cell?_alloc_at (w := w) #[.int .u8 (k % 256)] 5 _ 0 rfl
/-- What the operations of Protect's seal give. -/
def prV (d rb : Nat) (b S1 Y Z X T : ByteArray) (k : Int) (p : Int) : Nat → Value → World → Prop
  | 0, v, _ => v = .pointer (some ⟨d, 0, none⟩)
  | 1, v, _ => v = .pointer (some ⟨rb, 1, none⟩)
  | 2, v, _ => v = .string b
  | 3, v, _ => v = .pointer (some ⟨rb, 0, none⟩)
  | 4, v, _ => v = .int .i64 k
  | 5, v, _ => v = .int .u8 (k % 256)
  | 6, v, w => rowV k v w
  | 7, v, _ => v = .string S1
  | 8, v, _ => v = .string Y
  | 9, v, _ => v = .int .i64 p
  | 10, v, _ => v = .string Z
  | 11, v, _ => v = .string X
  | _, v, _ => v = .string T
theorem prV.st (d rb : Nat) (b S1 Y Z X T : ByteArray) (k : Int) (p : Int) (i : Nat) (v : Value) (w w' : World) (h : prV d rb b S1 Y Z X T k p i v w) (hb : Below w.heap.size w w') : prV d rb b S1 Y Z X T k p i v w' := by
  match i, h with
  | 0, h | 1, h | 2, h | 3, h | 4, h | 5, h | 7, h | 8, h | 9, h | 10, h | 11, h | 12, h => exact h
  | 6, h => exact rowV.st h hb
  | n + 13, h => exact h
set_option maxHeartbeats 4000000 in
theorem Protect_3 (key iv b S1 Y Z X T : ByteArray) (k q : Int) (p : Nat) (hp : p ≤ 100000) (hb : b.size ≤ 100000) (hS1 : mkS [k % 256] = S1) (hY : b ++ S1 = Y) (hX : Y ++ Z = X) (hZ : Z.size ≤ 100000) (q0 : 0 ≤ q) (q1 : q < 18446744073709551615) (w : World)
    (C1 : ∀ W, Calls Tryz.prog 17 #[rcV k b, .int .i64 (p : Int)] W fun e w' => e = .returned (.int .i64 0) ∧ Below W.heap.size W w')
    (C2 : ∀ W, Calls Tryz.prog 18 #[sdV key iv q] W fun e w' => ∃ d, e = .returned (.tuple #[.pointer (some ⟨d, 0, none⟩), .int .i64 0]) ∧ W.heap.size ≤ d ∧ Arr w' d 3 (sd3 key iv q) ∧ Below W.heap.size W w')
    (C3 : ∀ W, Calls Tryz.prog 20 #[.string ⟨#[0]⟩, .int .i64 (p : Int)] W fun e w' => e = .returned (.string Z) ∧ Below W.heap.size W w')
    (C4 : ∀ W d, Arr W d 3 (sd3 key iv q) → Calls Tryz.prog 19 #[.pointer (some ⟨d, 0, none⟩), .string X] W fun e w' => e = .returned (.string T) ∧ Below W.heap.size W w') :
    Calls Tryz.prog 10 #[sdV key iv q, rcV k b, .int .i64 (p : Int)] w fun e w' => e = .returned (.tuple #[sdV key iv (q + 1), .string T, .int .i64 0]) ∧ Below w.heap.size w w' := by
  unfold sdV rcV at *
  have A0 : Arr (((w.alloc (.cells #[.string key, .string iv, .int .u64 q] 24)).alloc (.cells #[.int .i64 k, .string b] 26)).alloc (.cells #[.string ⟨#[]⟩, .string ⟨#[]⟩, .int .u64 0] 24)) w.heap.size 3 (sd3 key iv q) :=
    Arr.al' (n := 2) (Arr.al' (n := 2) (Arr.new w _ 24 _ rfl _ 3 (sd3_at key iv q)) _) _
  have A1 : Arr (((w.alloc (.cells #[.string key, .string iv, .int .u64 q] 24)).alloc (.cells #[.int .i64 k, .string b] 26)).alloc (.cells #[.string ⟨#[]⟩, .string ⟨#[]⟩, .int .u64 0] 24)) (w.heap.size + 1) 2 (rc2 k b) :=
    Arr.al' (n := 1) (Arr.new (w.alloc (.cells #[.string key, .string iv, .int .u64 q] 24)) _ 26 (w.heap.size + 1) (by simp) _ 2 (rc2_at k b)) _
  have A2 : Arr (((w.alloc (.cells #[.string key, .string iv, .int .u64 q] 24)).alloc (.cells #[.int .i64 k, .string b] 26)).alloc (.cells #[.string ⟨#[]⟩, .string ⟨#[]⟩, .int .u64 0] 24)) (w.heap.size + 1 + 1) 3 (sd3 ⟨#[]⟩ ⟨#[]⟩ 0) :=
    Arr.new ((w.alloc (.cells #[.string key, .string iv, .int .u64 q] 24)).alloc (.cells #[.int .i64 k, .string b] 26)) _ 24 (w.heap.size + 1 + 1) (by simp) _ 3 (sd3_at ⟨#[]⟩ ⟨#[]⟩ 0)
  have B0 : Below w.heap.size w (((w.alloc (.cells #[.string key, .string iv, .int .u64 q] 24)).alloc (.cells #[.int .i64 k, .string b] 26)).alloc (.cells #[.string ⟨#[]⟩, .string ⟨#[]⟩, .int .u64 0] 24)) := by go_grown
  go_enter Tryz.func10, Tryz.ntmps10
  go_wp2_with fail
  refine (C1 _).mono ?_
  rintro e w1 ⟨rfl, b1⟩
  replace A0 : Arr _ _ 3 _ := A0.to' (n := 2) b1
  replace A1 : Arr _ _ 2 _ := A1.to' (n := 1) b1
  replace A2 : Arr _ _ 3 _ := A2.to' (n := 2) b1
  replace B0 := Bel.call B0 b1
  clear C1 b1
  obtain ⟨e0, e1, e2⟩ := A0.sd
  have l2 : w.heap.size + 1 + 1 < w1.heap.size := A2.lt (n := 2)
  go_wp2_with fail
  refine (C2 _).mono ?_
  rintro e w2 ⟨d, rfl, hd, D, b2⟩
  replace A1 : Arr _ _ 2 _ := A1.to' (n := 1) b2
  replace A2 : Arr _ _ 3 _ := A2.to' (n := 2) b2
  replace B0 := Bel.call B0 b2
  clear C2 b2 e0 e1 e2 A0
  go_wp2_with fail
  have r1 : ∀ W, Below w2.heap.size w2 W → W.cell? ⟨w.heap.size + 1, 1, none⟩ = some (.string b) := fun W hW => (A1.to' (n := 1) hW).c 1 (by omega)
  have r0 : ∀ W, Below w2.heap.size w2 W → W.cell? ⟨w.heap.size + 1, 0, none⟩ = some (.int .i64 k) := fun W hW => (A1.to' (n := 1) hW).c 0 (by omega)
  refine wp_region_rel 13 (prV d (w.heap.size + 1) b S1 Y Z X T k p) (by kernel_rfl) (by kernel_rfl) (prV.st _ _ _ _ _ _ _ _ _ _) ?_ ?_
  · intro i o ρ W hi ho hW hP hS
    have ci : i = 0 ∨ i = 1 ∨ i = 2 ∨ i = 3 ∨ i = 4 ∨ i = 5 ∨ i = 6 ∨ i = 7 ∨ i = 8 ∨ i = 9 ∨ i = 10 ∨ i = 11 ∨ i = 12 := by omega
    have q1 := r1 W hW
    have q0 := r0 W hW
    have z1 : S1.size = 1 := by rw [← hS1, mkS_size]; rfl
    have zY : b.size + S1.size ≤ 9223372036854775807 := by omega
    have zX : Y.size + Z.size ≤ 9223372036854775807 := by rw [← hY, ByteArray.size_append]; omega
    have hc := hP.c
    have hf := hP.f
    rcases ci with rfl | rfl | rfl | rfl | rfl | rfl | rfl | rfl | rfl | rfl | rfl | rfl | rfl <;> cases ho
    · have h' : ρ (.tmp 10) = .pointer (some ⟨d, 0, none⟩) := hS 10 (by kernel_rfl)
      exact Stp.val (by simp [execOp, h', go_sem] <;> rfl) rfl
    · have h' : ρ (.tmp 4) = .pointer (some ⟨w.heap.size + 1, 0, none⟩) := hS 4 (by kernel_rfl)
      exact Stp.val (by simp [execOp, h', go_sem] <;> rfl) rfl
    · have h' : ρ (.tmp 30) = .pointer (some ⟨w.heap.size + 1, 1, none⟩) := hS 30 (by kernel_rfl)
      exact Stp.val (by simp [execOp, h', go_sem, q1] <;> rfl) rfl
    · have h' : ρ (.tmp 4) = .pointer (some ⟨w.heap.size + 1, 0, none⟩) := hS 4 (by kernel_rfl)
      exact Stp.val (by simp [execOp, h', go_sem] <;> rfl) rfl
    · have h' : ρ (.tmp 32) = .pointer (some ⟨w.heap.size + 1, 0, none⟩) := hS 32 (by kernel_rfl)
      exact Stp.val (by simp [execOp, h', go_sem, q0] <;> rfl) rfl
    · have h' : ρ (.tmp 33) = .int .i64 k := hS 33 (by kernel_rfl)
      exact Stp.val (by simp [execOp, h', go_sem] <;> rfl) rfl
    · have h' : ρ (.tmp 34) = .int .u8 (k % 256) := hS 34 (by kernel_rfl)
      exact Stp.new (w' := W.alloc (.cells #[.int .u8 (k % 256)] 5)) (by simp [execOp, h', go_sem] <;> rfl) ((Below.refl _ W).alloc (Nat.le_refl _) _) (rowV.new k W)
    · have h' : rowV k (ρ (.tmp 35)) W := hS 35 (by kernel_rfl)
      have cv := h'.conv
      rw [hS1] at cv
      exact Stp.val (by simp [execOp, Sem.run_bind, cv] <;> rfl) rfl
    · have h1 : ρ (.tmp 31) = .string b := hS 31 (by kernel_rfl)
      have h2 : ρ (.tmp 36) = .string S1 := hS 36 (by kernel_rfl)
      exact Stp.val (by simp [execOp, h1, h2, go_sem, hY, zY] <;> rfl) rfl
    · have h' : ρ (.tmp 2) = .int .i64 (p : Int) := hS 2 (by kernel_rfl)
      exact Stp.val (by simp [execOp, h', go_sem] <;> rfl) rfl
    · have h' : ρ (.tmp 38) = .int .i64 (p : Int) := hS 38 (by kernel_rfl)
      exact Stp.call (by simp [execOp, h', hc, hf, go_sem] <;> rfl) (C3 W) (fun _ => rfl)
    · have h1 : ρ (.tmp 37) = .string Y := hS 37 (by kernel_rfl)
      have h2 : ρ (.tmp 39) = .string Z := hS 39 (by kernel_rfl)
      exact Stp.val (by simp [execOp, h1, h2, go_sem, hX, zX] <;> rfl) rfl
    · have h1 : ρ (.tmp 29) = .pointer (some ⟨d, 0, none⟩) := hS 29 (by kernel_rfl)
      have h2 : ρ (.tmp 40) = .string X := hS 40 (by kernel_rfl)
      exact Stp.call (by simp [execOp, h1, h2, hf, go_sem] <;> rfl) (C4 W d (D.to' (n := 2) hW)) (fun _ => rfl)
  intro x W hW hV
  have h12 : x 12 = .string T := hV 12 (by omega)
  replace D : Arr _ _ 3 _ := D.to' (n := 2) hW
  replace A2 : Arr _ _ 3 _ := A2.to' (n := 2) hW
  replace B0 := Bel.call B0 hW
  clear hV hW r0 r1 A1 C3 C4
  simp only [puts, List.take_succ_cons, List.take_zero, List.drop_succ_cons, List.drop_zero, Act.put, List.setIfInBounds_toArray, List.set_cons_succ, List.set_cons_zero]
  go_wp2_with fail
  refine (goneOn_any d key iv q q0 q1 _ D).mono ?_
  rintro e w4 ⟨rfl, b4⟩
  have A5 := A2.below b4 (by omega)
  have B5 := B0.trans (b4.mono (by have := B0.size; omega))
  have c := A5.c
  have z := A5.z
  obtain ⟨e0, e1, e2⟩ := (A5.ssd key iv (q + 1)).sd
  unfold ssd at e0 e1 e2
  unfold sdV
  clear D A2 B0 b4
  go_wp2_with fail
  refine bodyPost_ret (v := .tuple #[sdV key iv (q + 1), .string T, .int .i64 0]) (by simp [sdV, results, Tryz.results10, go_sem, e0, e1, e2]) rfl ⟨rfl, Bel.ssd B5 (by omega) key iv (q + 1)⟩
end Go.Proofs.YtjaljnfijhfkcaaGreatDoor
/- Protect of the program, for any arguments; gcm's Open of a text that is too long. -/
set_option linter.all false
set_option maxRecDepth 100000
namespace Go.Proofs.YtjaljnfijhfkcaaGreatDoor
open Go.RowKit Go.Sort Lin
/-- Bytes 0. -/
def zS (p : Nat) : ByteArray := mkS (List.replicate p 0)
theorem zS_size (p : Nat) : (zS p).size = p := by unfold zS; rw [mkS_size, List.length_replicate]
theorem zS_list (p : Nat) : (zS p).data.toList = List.replicate p 0 := by unfold zS; rw [mkS_list]; simp
theorem rep_zS (p : Nat) : (⟨(Lib.repeatL [(0 : UInt8)] p).toArray⟩ : ByteArray) = zS p := by
  apply ba_ext
  rw [zS_list]
  show (Lib.repeatL [(0 : UInt8)] p).toArray.toList = _
  rw [List.toList_toArray]
  induction p with
  | zero => rfl
  | succ p ih => rw [Lib.repeatL, ih, List.replicate_succ]; rfl
/-- What is within a sealed record; what it is sealed to. -/
def wiS (k : Int) (b : ByteArray) (p : Nat) : ByteArray := b ++ mkS [k % 256] ++ zS p
theorem wiS_size (k : Int) (b : ByteArray) (p : Nat) : (wiS k b p).size = b.size + 1 + p := by unfold wiS; rw [ByteArray.size_append, ByteArray.size_append, mkS_size, zS_size]; rfl
def ptS (key iv : ByteArray) (q : Int) (t : ByteArray) : ByteArray := hdS 23 ((t.size : Int) + 16) ++ seS key (noS iv q) (hdS 23 ((t.size : Int) + 16)) t
def prE (key iv : ByteArray) (q k : Int) (b : ByteArray) (p : Int) : Int := if usE k b p = 0 then diE key iv q else usE k b p
def prT (key iv : ByteArray) (q k : Int) (b : ByteArray) (p : Int) : ByteArray := if prE key iv q k b p = 0 then ptS key iv q (wiS k b p.toNat) else ⟨#[]⟩
def prQ (key iv : ByteArray) (q k : Int) (b : ByteArray) (p : Int) : Int := if prE key iv q k b p = 0 then q + 1 else q
set_option maxHeartbeats 1000000 in
theorem Protect_1 (key iv b : ByteArray) (k q r p : Int) (hr : ¬ r = 0) (w : World)
    (C1 : ∀ W, Calls Tryz.prog 17 #[rcV k b, .int .i64 p] W fun e w' => e = .returned (.int .i64 r) ∧ Below W.heap.size W w') :
    Calls Tryz.prog 10 #[sdV key iv q, rcV k b, .int .i64 p] w fun e w' => e = .returned (.tuple #[sdV key iv q, .string ⟨#[]⟩, .int .i64 r]) ∧ Below w.heap.size w w' := by
  unfold sdV rcV at *
  have A0 : Arr (((w.alloc (.cells #[.string key, .string iv, .int .u64 q] 24)).alloc (.cells #[.int .i64 k, .string b] 26)).alloc (.cells #[.string ⟨#[]⟩, .string ⟨#[]⟩, .int .u64 0] 24)) w.heap.size 3 (sd3 key iv q) :=
    Arr.al' (n := 2) (Arr.al' (n := 2) (Arr.new w _ 24 _ rfl _ 3 (sd3_at key iv q)) _) _
  have A2 : Arr (((w.alloc (.cells #[.string key, .string iv, .int .u64 q] 24)).alloc (.cells #[.int .i64 k, .string b] 26)).alloc (.cells #[.string ⟨#[]⟩, .string ⟨#[]⟩, .int .u64 0] 24)) (w.heap.size + 1 + 1) 3 (sd3 ⟨#[]⟩ ⟨#[]⟩ 0) :=
    Arr.new ((w.alloc (.cells #[.string key, .string iv, .int .u64 q] 24)).alloc (.cells #[.int .i64 k, .string b] 26)) _ 24 (w.heap.size + 1 + 1) (by simp) _ 3 (sd3_at ⟨#[]⟩ ⟨#[]⟩ 0)
  have B0 : Below w.heap.size w (((w.alloc (.cells #[.string key, .string iv, .int .u64 q] 24)).alloc (.cells #[.int .i64 k, .string b] 26)).alloc (.cells #[.string ⟨#[]⟩, .string ⟨#[]⟩, .int .u64 0] 24)) := by go_grown
  go_enter Tryz.func10, Tryz.ntmps10
  go_wp2_with fail
  refine (C1 _).mono ?_
  rintro e w1 ⟨rfl, b1⟩
  replace A0 : Arr _ _ 3 _ := A0.to' (n := 2) b1
  replace A2 : Arr _ _ 3 _ := A2.to' (n := 2) b1
  replace B0 := Bel.call B0 b1
  clear C1 b1
  obtain ⟨e0, e1, e2⟩ := A0.sd
  have c := A2.c
  have z := A2.z
  obtain ⟨f0, f1, f2⟩ := (A2.ssd key iv q).sd
  unfold ssd at f0 f1 f2
  go_wp2_with fail
  refine bodyPost_ret (v := .tuple #[sdV key iv q, .string ⟨#[]⟩, .int .i64 r]) (by simp [sdV, results, Tryz.results10, go_sem, f0, f1, f2]) rfl ⟨rfl, Bel.ssd B0 (by omega) key iv q⟩
set_option maxHeartbeats 1000000 in
theorem Protect_2 (key iv b : ByteArray) (k q r p : Int) (hr : ¬ r = 0) (w : World)
    (C1 : ∀ W, Calls Tryz.prog 17 #[rcV k b, .int .i64 p] W fun e w' => e = .returned (.int .i64 0) ∧ Below W.heap.size W w')
    (C2 : ∀ W, Calls Tryz.prog 18 #[sdV key iv q] W fun e w' => e = .returned (.tuple #[.pointer none, .int .i64 r]) ∧ Below W.heap.size W w') :
    Calls Tryz.prog 10 #[sdV key iv q, rcV k b, .int .i64 p] w fun e w' => e = .returned (.tuple #[sdV key iv q, .string ⟨#[]⟩, .int .i64 r]) ∧ Below w.heap.size w w' := by
  unfold sdV rcV at *
  have A0 : Arr (((w.alloc (.cells #[.string key, .string iv, .int .u64 q] 24)).alloc (.cells #[.int .i64 k, .string b] 26)).alloc (.cells #[.string ⟨#[]⟩, .string ⟨#[]⟩, .int .u64 0] 24)) w.heap.size 3 (sd3 key iv q) :=
    Arr.al' (n := 2) (Arr.al' (n := 2) (Arr.new w _ 24 _ rfl _ 3 (sd3_at key iv q)) _) _
  have A2 : Arr (((w.alloc (.cells #[.string key, .string iv, .int .u64 q] 24)).alloc (.cells #[.int .i64 k, .string b] 26)).alloc (.cells #[.string ⟨#[]⟩, .string ⟨#[]⟩, .int .u64 0] 24)) (w.heap.size + 1 + 1) 3 (sd3 ⟨#[]⟩ ⟨#[]⟩ 0) :=
    Arr.new ((w.alloc (.cells #[.string key, .string iv, .int .u64 q] 24)).alloc (.cells #[.int .i64 k, .string b] 26)) _ 24 (w.heap.size + 1 + 1) (by simp) _ 3 (sd3_at ⟨#[]⟩ ⟨#[]⟩ 0)
  have B0 : Below w.heap.size w (((w.alloc (.cells #[.string key, .string iv, .int .u64 q] 24)).alloc (.cells #[.int .i64 k, .string b] 26)).alloc (.cells #[.string ⟨#[]⟩, .string ⟨#[]⟩, .int .u64 0] 24)) := by go_grown
  go_enter Tryz.func10, Tryz.ntmps10
  go_wp2_with fail
  refine (C1 _).mono ?_
  rintro e w1 ⟨rfl, b1⟩
  replace A0 : Arr _ _ 3 _ := A0.to' (n := 2) b1
  replace A2 : Arr _ _ 3 _ := A2.to' (n := 2) b1
  replace B0 := Bel.call B0 b1
  clear C1 b1
  obtain ⟨e0, e1, e2⟩ := A0.sd
  go_wp2_with fail
  refine (C2 _).mono ?_
  rintro e w2 ⟨rfl, b2⟩
  replace A0 : Arr _ _ 3 _ := A0.to' (n := 2) b2
  replace A2 : Arr _ _ 3 _ := A2.to' (n := 2) b2
  replace B0 := Bel.call B0 b2
  clear C2 b2 e0 e1 e2
  obtain ⟨e0, e1, e2⟩ := A0.sd
  have c := A2.c
  have z := A2.z
  obtain ⟨f0, f1, f2⟩ := (A2.ssd key iv q).sd
  unfold ssd at f0 f1 f2
  go_wp2_with fail
  refine bodyPost_ret (v := .tuple #[sdV key iv q, .string ⟨#[]⟩, .int .i64 r]) (by simp [sdV, results, Tryz.results10, go_sem, f0, f1, f2]) rfl ⟨rfl, Bel.ssd B0 (by omega) key iv q⟩
theorem rfg_ok {key n : ByteArray} (hk : key.size = 16) (hn : n.size = 12) : rfg key n = 0 := by
  unfold rfg
  rw [if_pos ((isK_iff key).2 (Or.inl hk)), if_pos hn]
theorem noE_0 {key iv : ByteArray} (h : noE key iv = 0) : key.size = 16 ∧ iv.size = 12 := by
  unfold noE at h
  split at h
  · assumption
  · omega
theorem seS_size' (k n a p : ByteArray) : (seS k n a p).size = p.size + 16 := by
  unfold seS
  rw [ByteArray.size_append, crS_size, tN_size]
theorem Protect_any (key iv b : ByteArray) (k q p : Int) (q0 : 0 ≤ q) (q1 : q < 18446744073709551616) (w : World) :
    Calls Tryz.prog 10 #[sdV key iv q, rcV k b, .int .i64 p] w fun e w' => e = .returned (.tuple #[sdV key iv (prQ key iv q k b p), .string (prT key iv q k b p), .int .i64 (prE key iv q k b p)]) ∧ Below w.heap.size w w' := by
  have C1 := fun W => unsealable_any k b p W
  by_cases h1 : usE k b p = 0
  · rw [h1] at C1
    have CN := fun W => Nonce_any key iv q q0 q1 W
    have hE : prE key iv q k b p = diE key iv q := by unfold prE; rw [if_pos h1]
    have hp : (0 ≤ p ∧ (b.size : Int) + p ≤ 16384) := by
      unfold usE at h1
      split at h1
      · split at h1
        · omega
        · split at h1 <;> omega
      · omega
    by_cases h2 : noE key iv = 0
    · obtain ⟨hk, hi⟩ := noE_0 h2
      have eN : noR key iv q = noS iv q := by unfold noR; rw [if_pos h2]
      rw [h2, eN] at CN
      by_cases h3 : q = 18446744073709551615
      · have e : prE key iv q k b p = 18 := by rw [hE]; unfold diE; rw [if_pos h2, if_pos h3]
        unfold prQ prT
        rw [e, if_neg (by decide), if_neg (by decide)]
        exact Protect_2 key iv b k q 18 p (by decide) w C1 (fun W => directionOf_2 key iv _ q h3 W CN)
      · have e : prE key iv q k b p = 0 := by rw [hE]; unfold diE; rw [if_pos h2, if_neg h3]
        unfold prQ prT
        rw [e, if_pos rfl, if_pos rfl]
        obtain ⟨n, rfl⟩ : ∃ n : Nat, p = (n : Int) := ⟨p.toNat, by omega⟩
        rw [Int.toNat_natCast]
        have zX := wiS_size k b n
        refine Protect_3 key iv b _ _ (zS n) (wiS k b n) (ptS key iv q (wiS k b n)) k q n (by omega) (by omega) rfl rfl rfl (by rw [zS_size]; omega) q0 (by omega) w C1 (fun W => directionOf_3 key iv _ q h3 W CN) (fun W => ?_) (fun W d D => ?_)
        · have := sh_strings_Repeat ⟨#[0]⟩ n W (by omega) (by show 1 * n ≤ _; omega)
          rw [show (Lib.repeatL (⟨#[0]⟩ : ByteArray).data.toList n) = Lib.repeatL [(0 : UInt8)] n from rfl, rep_zS] at this
          exact this
        · have zS' := seS_size' key (noS iv q) (hdS 23 (((wiS k b n).size : Int) + 16)) (wiS k b n)
          refine sealed_core d key iv (wiS k b n) (noS iv q) _ _ q 0 (by omega) (hdS_size _ _) (by omega) W D (fun W D => ?_) (fun W => head_any _ _ W) (fun W => ?_)
          · have := nonce_any d key iv q q0 q1 W D
            rwa [eN] at this
          · have := gSeal_any key (noS iv q) (hdS 23 (((wiS k b n).size : Int) + 16)) (wiS k b n) (by rw [noS_size]; omega) (by rw [hdS_size]; omega) (by omega) W
            have r := rfg_ok hk (noS_size iv q)
            unfold seR at this
            rwa [r, if_pos rfl] at this
    · have e : prE key iv q k b p = noE key iv := by rw [hE]; unfold diE; rw [if_neg h2]
      unfold prQ prT
      rw [e, if_neg h2, if_neg h2]
      exact Protect_2 key iv b k q _ p h2 w C1 (fun W => directionOf_1 key iv _ q _ h2 W CN)
  · have e : prE key iv q k b p = usE k b p := by unfold prE; rw [if_neg h1]
    unfold prQ prT
    rw [e, if_neg h1, if_neg h1]
    exact Protect_1 key iv b k q _ p h1 w C1
end Go.Proofs.YtjaljnfijhfkcaaGreatDoor
