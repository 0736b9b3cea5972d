/- The reference: Encrypt, Stream. -/
import Derived.Test.YtjaljnfijhfkcaaGreatDoorJ40
import Derived.Test.YtjaljnfijhfkcaaGreatDoorJ28
import Derived.Test.YtjaljnfijhfkcaaGreatDoorJ29
import Derived.Test.YtjaljnfijhfkcaaGreatDoorJ24
set_option linter.all false
set_option maxRecDepth 100000
namespace Go.Proofs.YtjaljnfijhfkcaaGreatDoor
open Go.RowKit Go.Sort
def KBo (key : ByteArray) : Nat → By := kB (bF key) (nkO key)
theorem rwords_any (key : ByteArray) (hk : Key key) (w : World) : Calls Tryz.prog 65 #[.string key] w fun e w' => ∃ g cap, e = .returned (.slice (some ⟨g, 0, none⟩) (16 * (nkO key + 7)) cap) ∧ Rw w' g (16 * (nkO key + 7)) cap (KBo key) ∧ Below w.heap.size w w' ∧ w.heap.size ≤ g := by
  rcases hk with h | h
  · have := rwords_4 key h (KBo key) (fun j => by unfold KBo nkO; rw [h]) w
    rw [show nkO key = 4 by unfold nkO; rw [h]]
    exact this
  · have := rwords_8 key h (KBo key) (fun j => by unfold KBo nkO; rw [h]) w
    rw [show nkO key = 8 by unfold nkO; rw [h]]
    exact this
theorem nk_bd {key : ByteArray} (hk : Key key) : 4 ≤ nkO key ∧ nkO key ≤ 8 := by unfold nkO; rcases hk with h | h <;> omega
theorem rencrypt_any (key block : ByteArray) (hk : Key key) (hb : block.size = 16) (gw cw : Nat) (w : World) (hR : Rw w gw (16 * (nkO key + 7)) cw (KBo key)) :
    Calls Tryz.prog 66 #[.slice (some ⟨gw, 0, none⟩) (16 * (nkO key + 7)) cw, .string block] w fun e w' => e = .returned (.string (encS key block)) ∧ Below w.heap.size w w' := by
  have nb := nk_bd hk
  have hlt : gw < w.heap.size := block_lt_of_cell (hR.c 0 (by omega))
  refine rencrypt_core key block hb _ (nkO key + 7) gw cw (KBo key) (eS key (bF block)) (by omega) (by omega) rfl hR.1 (fun j hj => ?_) (fun x h1 h2 j hj => ?_) (fun x h1 j hj => ?_) w hlt (fun j hj => hR.c j hj)
  · show xr (rdE key 0 (bF block) j) (rk key 0 j) = xr (bF block j) (KBo key j)
    unfold rdE rk KBo
    rw [if_pos rfl, Nat.mul_zero, Nat.zero_add]
  · show xr (rdE key x (eS key (bF block) x) j) (rk key x j) = _
    unfold rdE
    rw [if_neg (by omega), if_neg (by omega)]
    rfl
  · show xr (rdE key x (eS key (bF block) x) j) (rk key x j) = _
    unfold rdE
    rw [if_neg (by omega), if_pos (by omega)]
    rfl
set_option maxHeartbeats 2000000 in
theorem rEncrypt_any (key block : ByteArray) (w : World) :
    Calls Tryz.prog 67 #[.string key, .string block] w fun e w' => e = .returned (.tuple #[.string (if rfs key block = 0 then encS key block else ⟨#[]⟩), .int .i64 (rfs key block)]) ∧ Below w.heap.size w w' := by
  have C31 := fun W => rrefused_any key block W
  by_cases h : rfs key block = 0
  · obtain ⟨hk, hs⟩ := rfs_0 h
    rw [h] at C31
    rw [if_pos h, h]
    have C27 := rwords_any key hk w
    have C32 := fun g c W (hR : Rw W g (16 * (nkO key + 7)) c (KBo key)) => rencrypt_any key block hk hs g c W hR
    generalize encS key block = T at *
    generalize 16 * (nkO key + 7) = M at *
    clear h hk hs
    go_enter Tryz.func67, Tryz.ntmps67
    go_wp2_with fail
    refine (C31 _).mono ?_
    rintro e w1 ⟨rfl, rfl⟩
    go_wp2_with fail
    refine C27.mono ?_
    rintro e w2 ⟨g, cap, rfl, hR, B2, _⟩
    go_wp2_with fail
    refine (C32 _ _ _ hR).mono ?_
    rintro e w3 ⟨rfl, B3⟩
    go_wp2_with fail
    refine bodyPost_ret (v := .tuple #[.string T, .int .i64 0]) (by simp [results, Tryz.results67, go_sem]) rfl ?_
    exact ⟨rfl, Bel.call B2 B3⟩
  · rw [if_neg h]
    generalize rfs key block = r at *
    go_enter Tryz.func67, Tryz.ntmps67
    go_wp2_with fail
    refine (C31 _).mono ?_
    rintro e w1 ⟨rfl, rfl⟩
    go_wp2_with fail
    refine bodyPost_ret (v := .tuple #[.string ⟨#[]⟩, .int .i64 r]) (by simp [results, Tryz.results67, go_sem]) rfl ?_
    exact ⟨rfl, Below.refl _ _⟩
set_option maxHeartbeats 2000000 in
theorem rstream_no (key first : ByteArray) (n : Int) (h : rfn key first n ≠ 0) (w : World) :
    Calls Tryz.prog 45 #[.string key, .string first, .int .i64 n] w fun e w' => e = .returned (.tuple #[.string ⟨#[]⟩, .int .i64 (rfn key first n)]) ∧ Below w.heap.size w w' := by
  have C := fun W => rrefused_any key first W
  by_cases h1 : n < 0
  · have e : rfn key first n = 13 := by unfold rfn; rw [if_pos (.inl h1)]
    rw [e]
    clear e h
    go_enter Tryz.func45, Tryz.ntmps45
    go_wp2_with fail
    refine bodyPost_ret (v := .tuple #[.string ⟨#[]⟩, .int .i64 13]) (by simp [results, Tryz.results45, go_sem]) rfl ?_
    exact ⟨rfl, Below.refl _ _⟩
  · by_cases h2 : 65536 < n
    · have e : rfn key first n = 13 := by unfold rfn; rw [if_pos (.inr h2)]
      rw [e]
      clear e h
      go_enter Tryz.func45, Tryz.ntmps45
      go_wp2_with fail
      refine bodyPost_ret (v := .tuple #[.string ⟨#[]⟩, .int .i64 13]) (by simp [results, Tryz.results45, go_sem]) rfl ?_
      exact ⟨rfl, Below.refl _ _⟩
    · have e : rfn key first n = rfs key first := by unfold rfn; rw [if_neg (by omega)]
      rw [e] at h ⊢
      clear e
      generalize rfs key first = r at *
      go_enter Tryz.func45, Tryz.ntmps45
      go_wp2_with (go_at_call 64; refine (C _).mono ?_; rintro e w1 ⟨rfl, rfl⟩)
      refine bodyPost_ret (v := .tuple #[.string ⟨#[]⟩, .int .i64 r]) (by simp [results, Tryz.results45, go_sem]) rfl ?_
      exact ⟨rfl, Below.refl _ _⟩
/-- The bytes from k on are done. -/
def dB (y x : Nat → By) (k : Nat) (j : Nat) : Value := .int .u8 ((if k ≤ j then y j else x j).val : Int)
theorem nx_hi (f : Nat → By) (p : Nat) (h : ∀ i, i < 16 → p < i → f i = 255) : nxF f p = f p + 1 := by unfold nxF; rw [if_pos h]
theorem nx_lo (f : Nat → By) (p j : Nat) (hp : p < 16) (hj : j < p) (h : f p ≠ 255) : nxF f j = f j := by unfold nxF; rw [if_neg (fun H => h (H p hp hj))]
theorem add_int (a : By) : ((a.val : Int) + 1) % 256 = (((a + 1 : By)).val : Int) := by rw [add_val]; omega
theorem add_0 (a : By) : ((a + 1 : By).val : Int) = 0 ↔ a = 255 := by
  rw [add_val]
  constructor
  · intro h; exact Fin.ext (by have := a.2; show a.val = 255; omega)
  · intro h; rw [h]; rfl
def sLen : Value → Nat
  | .string t => t.size
  | _ => 0
set_option maxHeartbeats 8000000 in
theorem rstream_core (key first : ByteArray) (n : Nat) (hn : n ≤ 65536) (f : Nat → By) (hs : first.size = 16) (T : Nat → ByteArray) (X : Nat → By → By) (M : Nat) (R : World → Nat → Nat → Prop)
    (hT0 : T 0 = ⟨#[]⟩) (hTz : ∀ k, (T k).size = 16 * k) (E : Nat → ByteArray) (hT : ∀ k, T (k + 1) = T k ++ E k) (hEz : ∀ k, (E k).size = 16) (hf : ∀ j, j < 16 → f j = bF first j)
    (hRb : ∀ W W' g c, R W g c → Below W.heap.size W W' → R W' g c) (hRg : ∀ W W' g c x, R W g c → W.grownBy W' (some x) → x ≠ g → R W' g c) (hRl : ∀ W g c, R W g c → g < W.heap.size)
    (C31 : ∀ W, Calls Tryz.prog 64 #[.string key, .string first] W fun e w' => e = .returned (.int .i64 0) ∧ w' = W)
    (C27 : ∀ W, Calls Tryz.prog 65 #[.string key] W fun e w' => ∃ g cap, e = .returned (.slice (some ⟨g, 0, none⟩) M cap) ∧ R w' g cap ∧ Below W.heap.size W w' ∧ W.heap.size ≤ g)
    (C32 : ∀ k g c W, R W g c → Calls Tryz.prog 66 #[.slice (some ⟨g, 0, none⟩) M c, .string (tx (ctF f k))] W fun e w' => e = .returned (.string (E k)) ∧ Below W.heap.size W w') (w : World) :
    Calls Tryz.prog 45 #[.string key, .string first, .int .i64 (n : Int)] w fun e w' => e = .returned (.tuple #[.string ((T ((n + 15) / 16)).extract 0 n), .int .i64 0]) ∧ Below w.heap.size w w' := by
  have n0 : (0 : Int) ≤ (n : Int) := by omega
  have n1 : (n : Int) ≤ 65536 := by omega
  go_enter Tryz.func45, Tryz.ntmps45
  go_wp2_with fail
  refine (C31 _).mono ?_
  rintro e w1 ⟨rfl, rfl⟩
  go_wp2_with fail
  refine (C27 _).mono ?_
  rintro e w2 ⟨g, cap, rfl, hR, B2, hg⟩
  obtain ⟨cap0, W0, hcv, hR0, hB0⟩ := conv_rw w2 first (by omega)
  rw [hs] at hcv hR0
  have A0 := hR0.arr
  have hR1 := hRb _ _ _ _ hR hB0
  have B0 := Bel.call B2 hB0
  have g2 := hRl _ _ _ hR
  have s2 := B2.size
  clear C31 C27 hR0 hR
  go_wp2_with fail
  clear hcv
  have A1 : Arr W0 w2.heap.size 16 (bc (ctF f 0)) := A0.congr (fun j hj => by unfold bc; rw [← hf j hj]; rfl)
  have ngb : g ≠ w2.heap.size := by omega
  clear A0 hB0 B2 g2 hf hs
  generalize w2.heap.size = ga at *
  go_loopw [11] (fun s wr => ∃ k : Nat, s = .string (T k) ∧ 16 * k < n + 16 ∧ Arr wr ga 16 (bc (ctF f k)) ∧ R wr g cap ∧ Below w1.heap.size w1 wr) (fun s _ => 65536 + 16 - sLen s)
  case atStart => exact ⟨0, by rw [hT0], by omega, A1, hR1, B0⟩
  case round =>
    clear A1 hR1 B0
    obtain ⟨k, rfl, hk, A, hR, hB⟩ := hrel
    have tz := hTz k
    by_cases hlt : 16 * k < n
    · have li : ((T k).size : Int) < (n : Int) := by omega
      have cv := conv_tx wr ga cap0 (ctF f k) A
      have c32 := C32 k g cap wr hR
      have ez := hEz k
      have HT : Hid (T (k + 1) = T k ++ E k) := hT k
      have HC : Hid (ctF f (k + 1) = nxF (ctF f k)) := rfl
      have zk : (T k).size ≤ 65536 := by omega
      obtain ⟨h, hh⟩ : ∃ h, ctF f k = h := ⟨_, rfl⟩
      rw [hh] at HC cv c32 A
      clear hh C32 hT hEz hTz hT0
      generalize tx h = th at *
      generalize T k = U at *
      generalize E k = e1 at *
      go_wp2_with fail
      refine c32.mono ?_
      rintro e w3 ⟨rfl, hb3⟩
      have A3 := A.to' hb3
      have R3 := hRb _ _ _ _ hR hb3
      have B3 := Bel.call hB hb3
      clear c32 cv hb3 A hR hB
      go_wp2_with fail
      go_loopw [12] (fun i wr => ∃ q : Nat, q ≤ 16 ∧ i = .int .i64 ((q : Int) - 1) ∧ Arr wr ga 16 (dB (nxF h) h q) ∧ R wr g cap ∧ Below w1.heap.size w1 wr ∧ (∀ m, q = m + 1 → ∀ i, i < 16 → m < i → h i = 255)) (fun i _ => (intOf i + 1).toNat)
      case atStart =>
        refine ⟨16, by omega, rfl, A3.congr (fun j hj => by unfold dB bc; rw [if_neg (by omega)]), R3, B3, fun m hm i hi hl => by omega⟩
      case round =>
        clear A3 R3 B3
        obtain ⟨q, hq, rfl, A, hR, hB, hF⟩ := hrel
        by_cases hq0 : 0 < q
        · obtain ⟨p, rfl⟩ : ∃ p, q = p + 1 := ⟨q - 1, by omega⟩
          have ep : ((p + 1 : Nat) : Int) - 1 = (p : Int) := by omega
          rw [ep]
          clear ep
          have hFp := hF p rfl
          have p4 : p < 16 := by omega
          have i0 : (0 : Int) ≤ (p : Int) := by omega
          have i4 : (p : Int) < 16 := by omega
          have cp := A.cv p p4 (.int .u8 ((h p).val : Int)) (by unfold dB; rw [if_neg (by omega)])
          have zp := A.z p p4
          have np := nx_hi h p hFp
          have ai := add_int (h p)
          rw [← np] at ai
          have hb0 : (0 : Int) ≤ ((h p).val : Int) := by omega
          have hb1 : ((h p).val : Int) < 256 := by have := (h p).2; omega
          have A2 := A.set p p4 (.int .u8 ((nxF h p).val : Int))
          have R2 := hRg _ _ _ _ ga hR (gb_set wr ga p (.int .u8 ((nxF h p).val : Int))) (Ne.symm ngb)
          have B2 : Below w1.heap.size w1 (wr.setCell ⟨ga, p, none⟩ (.int .u8 ((nxF h p).val : Int))) := Bel.st hB (by omega) _
          by_cases hz : h p = 255
          · have z0 : ((nxF h p).val : Int) = 0 := by rw [np]; exact (add_0 _).2 hz
            have HF : Hid (∀ m, p = m + 1 → ∀ i, i < 16 → m < i → h i = 255) := fun m hm i hi hl => by
              by_cases e : i = p
              · rw [e]; exact hz
              · exact hFp i hi (by omega)
            have HZ : Hid (((nxF h p).val : Int) = 0) := z0
            rw [z0] at ai A2 R2 B2
            clear hFp hF np z0 hz hRb hRg hRl
            go_wp2_with fail
            refine ⟨⟨p, by omega, by go_num, A2.congr ?_, R2, B2, HF.out⟩, by first | (simp [intOf]; done) | (simp [intOf]; omega)⟩
            intro j hj
            unfold dB
            by_cases e : j = p
            · subst e; rw [if_pos rfl, if_pos (Nat.le_refl _), HZ.out]
            · rw [if_neg e]
              by_cases e2 : p + 1 ≤ j
              · rw [if_pos e2, if_pos (by omega)]
              · rw [if_neg e2, if_neg (by omega)]
          · have z0 : ¬ ((nxF h p).val : Int) = 0 := by rw [np]; exact fun e => hz ((add_0 _).1 e)
            have AE : Arr (wr.setCell ⟨ga, p, none⟩ (.int .u8 ((nxF h p).val : Int))) ga 16 (bc (nxF h)) := A2.congr fun j hj => by
              by_cases e : j = p
              · subst e; rw [if_pos rfl]; rfl
              · rw [if_neg e]
                unfold dB bc
                by_cases e2 : p + 1 ≤ j
                · rw [if_pos e2]
                · rw [if_neg e2, nx_lo h p j p4 (by omega) hz]
            have RE := R2
            have BE := B2
            have e9 : ((nxF h p).val : Int) = ((h p).val : Int) + 1 := by
              rw [np, add_val]
              have : (h p).val ≠ 255 := fun e => hz (Fin.ext e)
              have := (h p).2
              omega
            rw [e9] at AE RE BE
            clear e9
            clear hFp hF np hz hRb hRg hRl A2 R2 B2
            go_wp2_with fail
            exact ⟨⟨k + 1, by rw [HT.out], by omega, by rw [HC.out]; exact AE, RE, BE⟩, by show _ - (U ++ e1).size < _ - U.size; rw [ByteArray.size_append]; omega⟩
        · have q0 : q = 0 := by omega
          subst q0
          have AE : Arr wr ga 16 (bc (nxF h)) := A.congr fun j _ => by unfold dB bc; rw [if_pos (Nat.zero_le _)]
          have RE := hR
          have BE := hB
          rw [show (((0 : Nat) : Int) - 1) = -1 by omega]
          clear hF hRb hRg hRl A
          go_wp2_with fail
          exact ⟨⟨k + 1, by rw [HT.out], by omega, by rw [HC.out]; exact AE, RE, BE⟩, by show _ - (U ++ e1).size < _ - U.size; rw [ByteArray.size_append]; omega⟩
    · have li : ¬ ((T k).size : Int) < (n : Int) := by omega
      have e : k = (n + 15) / 16 := by omega
      have HE : Hid ((T ((n + 15) / 16)).extract 0 n = (T k).extract 0 n) := by rw [← e]; rfl
      have ln : (n : Int) ≤ ((T k).size : Int) := by omega
      have ln' : n ≤ (T k).size := by omega
      clear hT hTz hT0 C32 hEz hRb hRg hRl e
      generalize T k = U at *
      go_wp2_with fail
      refine bodyPost_ret (v := .tuple #[.string (U.extract 0 n), .int .i64 0]) (by simp [results, Tryz.results45, go_sem]) rfl ?_
      exact ⟨by rw [HE.out], hB⟩
theorem encS_tx (key : ByteArray) (f : Nat → By) : encS key (tx f) = tx (encF key f) := by
  unfold encS
  refine tx_congr fun j hj => ?_
  unfold encF
  have e : ∀ i, ∀ j, j < 16 → eS key (bF (tx f)) i j = eS key f i j := by
    intro i
    induction i with
    | zero => exact bF_tx f
    | succ i ih =>
      intro j hj
      show xr (rdE key i (eS key (bF (tx f)) i) j) _ = xr (rdE key i (eS key f i) j) _
      rw [rdE_congr key i ih j hj]
  exact e _ j hj
theorem Rw.toB {w w' : World} {g n cap : Nat} {f : Nat → By} (hn : 0 < n) (h : Rw w g n cap f) (hb : Below w.heap.size w w') : Rw w' g n cap f := by
  obtain ⟨m, rfl⟩ : ∃ m, n = m + 1 := ⟨n - 1, by omega⟩
  exact h.to hb
theorem Rw.toG {w w' : World} {g n cap x : Nat} {f : Nat → By} (hn : 0 < n) (h : Rw w g n cap f) (hg : w.grownBy w' (some x)) (hne : g ≠ x) : Rw w' g n cap f := by
  obtain ⟨m, rfl⟩ : ∃ m, n = m + 1 := ⟨n - 1, by omega⟩
  exact h.other hg hne
theorem rstream_any (key first : ByteArray) (n : Int) (w : World) :
    Calls Tryz.prog 45 #[.string key, .string first, .int .i64 n] w fun e w' => e = .returned (.tuple #[.string (if rfn key first n = 0 then smS key (bF first) n.toNat else ⟨#[]⟩), .int .i64 (rfn key first n)]) ∧ Below w.heap.size w w' := by
  by_cases h : rfn key first n = 0
  · have hn : 0 ≤ n ∧ n ≤ 65536 := by
      unfold rfn at h
      by_cases c : n < 0 ∨ 65536 < n
      · rw [if_pos c] at h; omega
      · omega
    have h2 : rfs key first = 0 := by
      unfold rfn at h
      rw [if_neg (by omega)] at h
      exact h
    obtain ⟨hk, hs⟩ := rfs_0 h2
    have C31 := fun W => rrefused_any key first W
    rw [h2] at C31
    rw [if_pos h, h]
    obtain ⟨m, rfl⟩ := Int.eq_ofNat_of_zero_le hn.1
    have nb := nk_bd hk
    refine rstream_core key first m (by omega) (bF first) hs (stS key (bF first)) (fun _ a => a) (16 * (nkO key + 7)) (fun W g c => Rw W g (16 * (nkO key + 7)) c (KBo key)) rfl (stS_size key _) (fun k => tx (encF key (ctF (bF first) k))) (fun _ => rfl) (fun _ => tx_size _) (fun _ _ => rfl)
      (fun W W' g c hR hb => hR.toB (by omega) hb) (fun W W' g c x hR hg hne => hR.toG (by omega) hg (Ne.symm hne)) (fun W g c hR => block_lt_of_cell (hR.c 0 (by omega))) C31 (fun W => rwords_any key hk W) (fun k g c W hR => ?_) w
    have := rencrypt_any key (tx (ctF (bF first) k)) hk (tx_size _) g c W hR
    rwa [encS_tx] at this
  · rw [if_neg h]
    exact rstream_no key first n h w
end Go.Proofs.YtjaljnfijhfkcaaGreatDoor
