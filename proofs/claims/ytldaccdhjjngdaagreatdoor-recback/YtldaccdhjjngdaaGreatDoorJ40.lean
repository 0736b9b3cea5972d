/- Heads, read; Unframe of the program. -/
import Derived.Laws.BitsLemmas
import Derived.Laws.Bits64
import Derived.Test.YtldaccdhjjngdaaGreatDoorJ39
set_option linter.all false
set_option maxRecDepth 100000
namespace Go.Proofs.YtldaccdhjjngdaaGreatDoor
open Go.RowKit Go.Sort
/-- What is wrong with a head. -/
def rhE (s : ByteArray) : Int := if s.size = 0 then 11 else if knB (bt s 0) = true then (if s.size ≤ 1 then 11 else if bt s 1 = 3 then (if s.size ≤ 2 then 11 else if bt s 2 = 3 then (if s.size < 5 then 11 else if (mst (bt s 0) : Int) < bt s 3 * 256 + bt s 4 then 12 else 0) else 10) else 10) else 23
def rhK (s : ByteArray) : Int := if rhE s = 0 then bt s 0 else 0
def rhN (s : ByteArray) : Int := if rhE s = 0 then bt s 3 * 256 + bt s 4 else 0
theorem or_low8 (x d : Int) (x0 : 0 ≤ x) (x1 : x < 256) (hd : 0 ≤ d ∧ d < 256) : bits .or .i64 (x * 256) d = x * 256 + d := by
  obtain ⟨a, rfl⟩ := Int.eq_ofNat_of_zero_le x0
  obtain ⟨b, rfl⟩ := Int.eq_ofNat_of_zero_le hd.1
  have ha : a < 256 := by omega
  have hb : b < 256 := by omega
  have h1 : (BitVec.ofInt 64 ((a * 256 : Nat) : Int)).toNat = a * 256 := by rw [BitVec.ofInt_natCast, BitVec.toNat_ofNat]; exact Nat.mod_eq_of_lt (by omega)
  have h2 : (BitVec.ofInt 64 (b : Int)).toNat = b := by rw [BitVec.ofInt_natCast, BitVec.toNat_ofNat]; exact Nat.mod_eq_of_lt (by omega)
  have e : a * 256 ||| b = a * 256 + b := by
    have := Nat.shiftLeft_add_eq_or_of_lt (i := 8) (b := b) (by omega) a
    rw [Nat.shiftLeft_eq] at this
    exact this.symm
  show IntKind.i64.wrap ((BitVec.ofInt 64 ((a : Int) * 256) ||| BitVec.ofInt 64 (b : Int)).toNat : Int) = _
  rw [show (a : Int) * 256 = ((a * 256 : Nat) : Int) by omega, BitVec.toNat_or, h1, h2, e, IntKind.wrap_i64]
  omega
/-- The number of k bytes behind the first. -/
theorem readHead_0 (s : ByteArray) (h : s.size = 0) (w : World) : Calls Tryz.prog 31 #[.string s] w fun e w' => e = .returned (.tuple #[.int .i64 0, .int .i64 0, .int .i64 11]) ∧ Below w.heap.size w w' := by
  have e : s = ⟨#[]⟩ := ba_ext (by have := List.eq_nil_of_length_eq_zero (l := s.data.toList) (by rw [len_list]; exact h); rw [this])
  subst e
  go_enter Tryz.func31, Tryz.ntmps31
  go_wp2
  refine bodyPost_ret (v := .tuple #[.int .i64 0, .int .i64 0, .int .i64 11]) (by simp [results, Tryz.results31, go_sem]) rfl ⟨rfl, Below.refl _ _⟩
theorem readHead_1 (s : ByteArray) (c : Int) (h : s.size ≠ 0) (hc : bt s 0 = c) (w : World)
    (C : ∀ W, Calls Tryz.prog 28 #[.int .i64 c] W fun e w' => e = .returned (.bool false) ∧ w' = W) :
    Calls Tryz.prog 31 #[.string s] w fun e w' => e = .returned (.tuple #[.int .i64 0, .int .i64 0, .int .i64 23]) ∧ Below w.heap.size w w' := by
  have te := ne_nil_of h
  have I0 := fun W => idxS s 0 (by omega) W
  have b0 := bt_bd s 0
  rw [hc] at I0 b0
  obtain ⟨c0, c1⟩ := b0
  have s0 : (0 : Int) < (s.size : Int) := by omega
  rw [show ((0 : Nat) : Int) = 0 from rfl] at I0
  clear hc
  go_enter Tryz.func31, Tryz.ntmps31
  go_wp2_with (go_at_call 28; refine (C _).mono ?_; rintro e w1 ⟨rfl, rfl⟩)
  refine bodyPost_ret (v := .tuple #[.int .i64 0, .int .i64 0, .int .i64 23]) (by simp [results, Tryz.results31, go_sem]) rfl ⟨rfl, Below.refl _ _⟩
set_option maxHeartbeats 2000000 in
theorem readHead_2 (s : ByteArray) (c m r k n : Int) (h : s.size ≠ 0) (hc : bt s 0 = c) (hm0 : 0 ≤ m) (w : World)
    (h1 : ∀ i : Nat, i < 2 → (∀ j, j < i → bt s (1 + j) = 3) → s.size ≤ 1 + i → r = 11 ∧ k = 0 ∧ n = 0)
    (h2 : ∀ i : Nat, i < 2 → (∀ j, j < i → bt s (1 + j) = 3) → 1 + i < s.size → bt s (1 + i) ≠ 3 → r = 10 ∧ k = 0 ∧ n = 0)
    (h5 : 2 < s.size → bt s 1 = 3 → bt s 2 = 3 → s.size < 5 → r = 11 ∧ k = 0 ∧ n = 0)
    (h6 : 5 ≤ s.size → bt s 1 = 3 → bt s 2 = 3 → m < bt s 3 * 256 + bt s 4 → r = 12 ∧ k = 0 ∧ n = 0)
    (h7 : 5 ≤ s.size → bt s 1 = 3 → bt s 2 = 3 → ¬ m < bt s 3 * 256 + bt s 4 → r = 0 ∧ k = c ∧ n = bt s 3 * 256 + bt s 4)
    (C : ∀ W, Calls Tryz.prog 28 #[.int .i64 c] W fun e w' => e = .returned (.bool true) ∧ w' = W)
    (C2 : ∀ W, Calls Tryz.prog 29 #[.int .i64 c] W fun e w' => e = .returned (.int .i64 m) ∧ w' = W) :
    Calls Tryz.prog 31 #[.string s] w fun e w' => e = .returned (.tuple #[.int .i64 k, .int .i64 n, .int .i64 r]) ∧ Below w.heap.size w w' := by
  have te := ne_nil_of h
  have I0 := fun W => idxS s 0 (by omega) W
  have b0 := bt_bd s 0
  rw [hc] at I0 b0
  obtain ⟨c0, c1⟩ := b0
  have s0 : (0 : Int) < (s.size : Int) := by omega
  rw [show ((0 : Nat) : Int) = 0 from rfl] at I0
  have V : ∀ (j : Nat) W, j < 2 → (Instr.index 9 (.string (⟨#[3, 3]⟩ : ByteArray)) (.int .i64 (j : Int))).run Tryz.prog W = .ok (.int .u8 3) W := fun j W hj => by
    have := idxS ⟨#[3, 3]⟩ j hj W
    rw [this]
    have : j = 0 ∨ j = 1 := by omega
    rcases this with rfl | rfl <;> rfl
  clear hc
  have H1 : Hid _ := h1
  have H2 : Hid _ := h2
  have H5 : Hid _ := h5
  have H6 : Hid _ := h6
  have H7 : Hid _ := h7
  clear h1 h2 h5 h6 h7
  go_enter Tryz.func31, Tryz.ntmps31
  go_wp2_with (go_at_call 28; refine (C _).mono ?_; rintro e w1 ⟨rfl, rfl⟩)
  go_loopw [16] (fun i wr => ∃ x : Nat, x ≤ 2 ∧ i = .int .i64 x ∧ Hid ((∀ j, j < x → bt s (1 + j) = 3) ∧ (x = 0 ∨ x < s.size)) ∧ Below w1.heap.size w1 wr) (fun i _ => 2 - (intOf i).toNat)
  case atStart => exact ⟨0, by omega, rfl, ⟨fun j hj => absurd hj (Nat.not_lt_zero _), .inl rfl⟩, Below.refl _ _⟩
  case round =>
    obtain ⟨x, hx, rfl, hj, hB⟩ := hrel
    have x0 : (0 : Int) ≤ (x : Int) := by omega
    by_cases hlt : x < 2
    · have x1 : (x : Int) < 2 := by omega
      by_cases hs : s.size ≤ 1 + x
      · have i1 : (s.size : Int) ≤ 1 + (x : Int) := by omega
        obtain ⟨rfl, rfl, rfl⟩ := H1.out x hlt hj.out.1 hs
        go_wp2
        refine bodyPost_ret (v := .tuple #[.int .i64 0, .int .i64 0, .int .i64 11]) (by simp [results, Tryz.results31, go_sem]) rfl ⟨rfl, hB⟩
      · have i1 : ¬ (s.size : Int) ≤ 1 + (x : Int) := by omega
        have i2 : (1 : Int) + (x : Int) < (s.size : Int) := by omega
        have I1 := fun W => idxS s (1 + x) (by omega) W
        rw [show ((1 + x : Nat) : Int) = 1 + (x : Int) by omega] at I1
        have V1 := fun W => V x W hlt
        have r1 := hj.out.1
        have HJ : Hid (∀ j, j < x → bt s (1 + j) = 3) := hj.out.1
        have HS : Hid (1 + x < s.size) := by show _ < _; omega
        by_cases h3 : bt s (1 + x) = 3
        · have H3 : Hid (bt s (1 + x) = 3) := h3
          rw [h3] at I1
          clear h3 r1 hj hs V
          go_wp2_with fail
          refine wp_region_quiet_below (by kernel_rfl) (by kernel_rfl) ?_
          repeat (go_big_quiet_step (fail))
          refine wpQuiet_nil ?_
          intro w3 hw'
          obtain ⟨⟨dq, osq⟩, hw''⟩ := hw'
          have hb := below_of hw''
          clear hw''
          go_wp2_with fail
          refine ⟨⟨x + 1, by omega, by go_num, ⟨fun j hj => ?_, .inr (by have := HS.out; omega)⟩, Bel.call hB hb⟩, by simp [intOf]; omega⟩
          by_cases e : j = x
          · rw [e]; exact H3.out
          · exact HJ.out j (by omega)
        · obtain ⟨rfl, rfl, rfl⟩ := H2.out x hlt hj.out.1 (by omega) h3
          have nb : (bt s (1 + x) == 3) = false := by simpa using h3
          have nb2 : ¬ bt s (1 + x) = 3 := h3
          clear r1 hj hs V
          generalize bt s (1 + x) = y at *
          go_wp2_with fail
          refine wp_region_quiet_below (by kernel_rfl) (by kernel_rfl) ?_
          repeat (go_big_quiet_step (fail))
          refine wpQuiet_nil ?_
          intro w3 hw'
          obtain ⟨⟨dq, osq⟩, hw''⟩ := hw'
          have hb := below_of hw''
          clear hw''
          go_wp2_with fail
          refine bodyPost_ret (v := .tuple #[.int .i64 0, .int .i64 0, .int .i64 10]) (by simp [results, Tryz.results31, go_sem]) rfl ⟨rfl, Bel.call hB hb⟩
    · have ex : x = 2 := by omega
      rw [show ((x : Nat) : Int) = 2 by omega]
      have g1 := hj.out.1 0 (by omega)
      have g2 := hj.out.1 1 (by omega)
      have g3 : 2 < s.size := by have := hj.out.2; omega
      have G1 : Hid (bt s 1 = 3) := g1
      have G2 : Hid (bt s 2 = 3) := g2
      clear hj g1 g2 V hx hlt x0
      subst ex
      by_cases hs5 : s.size < 5
      · have i5 : (s.size : Int) < 5 := by omega
        obtain ⟨rfl, rfl, rfl⟩ := H5.out g3 G1.out G2.out hs5
        go_wp2
        refine bodyPost_ret (v := .tuple #[.int .i64 0, .int .i64 0, .int .i64 11]) (by simp [results, Tryz.results31, go_sem]) rfl ⟨rfl, hB⟩
      · have i5 : ¬ (s.size : Int) < 5 := by omega
        have i3 : (3 : Int) < (s.size : Int) := by omega
        have i4 : (4 : Int) < (s.size : Int) := by omega
        have I3 := fun W => idxS s 3 (by omega) W
        have I4 := fun W => idxS s 4 (by omega) W
        rw [show ((3 : Nat) : Int) = 3 from rfl] at I3
        rw [show ((4 : Nat) : Int) = 4 from rfl] at I4
        have b3 := bt_bd s 3
        have b4 := bt_bd s 4
        have O := or_low8 (bt s 3) (bt s 4) b3.1 b3.2 b4
        have H6' := H6.out (by omega) G1.out G2.out
        have H7' := H7.out (by omega) G1.out G2.out
        generalize bt s 3 = y3 at *
        generalize bt s 4 = y4 at *
        obtain ⟨y30, y31⟩ := b3
        obtain ⟨y40, y41⟩ := b4
        have HH6 : Hid _ := H6'
        have HH7 : Hid _ := H7'
        clear H6' H7' H6 H7 H5 H1 H2
        obtain ⟨z, hz⟩ : ∃ z, y3 * 256 + y4 = z := ⟨_, rfl⟩
        rw [hz] at O HH6 HH7
        have z0 : 0 ≤ z := by omega
        have z1 : z < 65536 := by omega
        clear hz
        go_wp2_with fail
        refine wp_region_quiet_below (by kernel_rfl) (by kernel_rfl) ?_
        repeat (go_big_quiet_step (fail))
        refine wpQuiet_nil ?_
        intro w3 hw'
        obtain ⟨⟨dq, osq⟩, hw''⟩ := hw'
        have hb := below_of hw''
        clear hw''
        by_cases hm : m < z
        · obtain ⟨rfl, rfl, rfl⟩ := HH6.out hm
          go_wp2_with (go_at_call 29; refine (C2 _).mono ?_; rintro e w5 ⟨rfl, rfl⟩)
          refine bodyPost_ret (v := .tuple #[.int .i64 0, .int .i64 0, .int .i64 12]) (by simp [results, Tryz.results31, go_sem]) rfl ⟨rfl, Bel.call hB hb⟩
        · obtain ⟨rfl, rfl, rfl⟩ := HH7.out (by omega)
          go_wp2_with (go_at_call 29; refine (C2 _).mono ?_; rintro e w5 ⟨rfl, rfl⟩)
          refine bodyPost_ret (v := .tuple #[.int .i64 k, .int .i64 n, .int .i64 0]) (by simp [results, Tryz.results31, go_sem]) rfl ⟨rfl, Bel.call hB hb⟩
theorem readHead_any (s : ByteArray) (w : World) : Calls Tryz.prog 31 #[.string s] w fun e w' => e = .returned (.tuple #[.int .i64 (rhK s), .int .i64 (rhN s), .int .i64 (rhE s)]) ∧ Below w.heap.size w w' := by
  have bad : ∀ r, ¬ r = 0 → rhE s = r → rhK s = 0 ∧ rhN s = 0 := fun r hr e => by
    unfold rhK rhN
    rw [e, if_neg hr, if_neg hr]
    exact ⟨rfl, rfl⟩
  by_cases h : s.size = 0
  · have e : rhE s = 11 := by unfold rhE; rw [if_pos h]
    obtain ⟨x, y⟩ := bad 11 (by decide) e
    rw [e, x, y]
    exact readHead_0 s h w
  have C := fun W => isKind_any (bt s 0) W
  cases hk : knB (bt s 0) with
  | false =>
    have e : rhE s = 23 := by unfold rhE; rw [if_neg h, if_neg (by rw [hk]; decide)]
    obtain ⟨x, y⟩ := bad 23 (by decide) e
    rw [e, x, y]
    rw [hk] at C
    exact readHead_1 s _ h rfl w C
  | true =>
    rw [hk] at C
    have E : rhE s = if s.size ≤ 1 then 11 else if bt s 1 = 3 then (if s.size ≤ 2 then 11 else if bt s 2 = 3 then (if s.size < 5 then 11 else if (mst (bt s 0) : Int) < bt s 3 * 256 + bt s 4 then 12 else 0) else 10) else 10 := by unfold rhE; rw [if_neg h, if_pos hk]
    have fin : ∀ r, ¬ r = 0 → rhE s = r → rhE s = r ∧ rhK s = 0 ∧ rhN s = 0 := fun r hr e => ⟨e, bad r hr e⟩
    refine readHead_2 s _ (mst (bt s 0) : Int) _ _ _ h rfl (by omega) w (fun i hi hj hs => fin 11 (by decide) ?_) (fun i hi hj hs h3 => fin 10 (by decide) ?_) (fun h2 g1 g2 h5 => fin 11 (by decide) ?_) (fun h5 g1 g2 hm => fin 12 (by decide) ?_) (fun h5 g1 g2 hm => ?_) C (fun W => mostBytes_any _ W)
    · rw [E]
      have : i = 0 ∨ i = 1 := by omega
      rcases this with rfl | rfl
      · rw [if_pos (by omega)]
      · have := hj 0 (by omega)
        by_cases c : s.size ≤ 1
        · rw [if_pos c]
        · rw [if_neg c, if_pos this, if_pos (by omega)]
    · rw [E]
      have : i = 0 ∨ i = 1 := by omega
      rcases this with rfl | rfl
      · rw [if_neg (by omega), if_neg h3]
      · have := hj 0 (by omega)
        rw [if_neg (by omega), if_pos this, if_neg (by omega), if_neg h3]
    · rw [E, if_neg (by omega), if_pos g1, if_neg (by omega), if_pos g2, if_pos h5]
    · rw [E, if_neg (by omega), if_pos g1, if_neg (by omega), if_pos g2, if_neg (by omega), if_pos hm]
    · have e : rhE s = 0 := by rw [E, if_neg (by omega), if_pos g1, if_neg (by omega), if_pos g2, if_neg (by omega), if_neg hm]
      unfold rhK rhN
      rw [e, if_pos rfl, if_pos rfl]
      exact ⟨rfl, rfl, rfl⟩
/-- What Unframe tells. -/
def ufE (s : ByteArray) : Int := if rhE s = 0 then (if (s.size : Int) < 5 + rhN s then 11 else 0) else rhE s
def ufK (s : ByteArray) : Int := if ufE s = 0 then bt s 0 else 0
def ufB (s : ByteArray) : ByteArray := if ufE s = 0 then s.extract 5 (5 + (rhN s).toNat) else ⟨#[]⟩
def ufR (s : ByteArray) : ByteArray := if ufE s = 0 then s.extract (5 + (rhN s).toNat) s.size else ⟨#[]⟩
theorem rhE_0 {s : ByteArray} (h : rhE s = 0) : 5 ≤ s.size ∧ rhK s = bt s 0 ∧ rhN s = bt s 3 * 256 + bt s 4 := by
  refine ⟨?_, by unfold rhK; rw [if_pos h], by unfold rhN; rw [if_pos h]⟩
  unfold rhE at h
  split at h
  · omega
  · split at h
    · split at h
      · omega
      · split at h
        · split at h
          · omega
          · split at h
            · split at h
              · first | omega | (split at h <;> omega)
              · omega
            · omega
        · omega
    · omega
theorem Unframe_any (s : ByteArray) (w : World) : Calls Tryz.prog 15 #[.string s] w fun e w' => e = .returned (.tuple #[rcV (ufK s) (ufB s), .string (ufR s), .int .i64 (ufE s)]) ∧ Below w.heap.size w w' := by
  have C := fun W => readHead_any s W
  by_cases h : rhE s = 0
  · obtain ⟨h5, hK, hN⟩ := rhE_0 h
    rw [h, hK] at C
    have b3 := bt_bd s 3
    have b4 := bt_bd s 4
    obtain ⟨n, hn⟩ : ∃ n : Nat, rhN s = (n : Int) := ⟨(rhN s).toNat, by omega⟩
    rw [hn] at C
    by_cases h2 : s.size < 5 + n
    · have e : ufE s = 11 := by unfold ufE; rw [if_pos h, if_pos (by omega)]
      unfold ufK ufB ufR
      rw [e, if_neg (by decide), if_neg (by decide), if_neg (by decide)]
      exact Unframe_2 s _ n h5 h2 w C
    · have e : ufE s = 0 := by unfold ufE; rw [if_pos h, if_neg (by omega)]
      unfold ufK ufB ufR
      rw [e, if_pos rfl, if_pos rfl, if_pos rfl, hn, Int.toNat_natCast]
      exact Unframe_3 s _ n h5 (by omega) w C
  · have e : ufE s = rhE s := by unfold ufE; rw [if_neg h]
    unfold ufK ufB ufR
    rw [e, if_neg h, if_neg h, if_neg h]
    exact Unframe_1 s _ _ _ h w C
/-- A record's bytes, with anything behind. -/
theorem uf_frame (k : Int) (b more : ByteArray) (hk : knB k = true) (hb : b.size ≤ mst k) : ufE (hdS k (b.size : Int) ++ b ++ more) = 0 ∧ ufK (hdS k (b.size : Int) ++ b ++ more) = k ∧ ufB (hdS k (b.size : Int) ++ b ++ more) = b ∧ ufR (hdS k (b.size : Int) ++ b ++ more) = more := by
  obtain ⟨k0, k1⟩ := (knB_iff k).1 hk
  have hm := mst_cases k
  have z5 := hdS_size k (b.size : Int)
  have ls : (hdS k (b.size : Int)).data.toList = [UInt8.ofNat (k % 256).toNat, 3, 3, UInt8.ofNat ((b.size : Int) / 256 % 256).toNat, UInt8.ofNat ((b.size : Int) % 256).toNat] := by unfold hdS; rw [mkS_list]; rfl
  have at_ : ∀ j, j < 5 → bt (hdS k (b.size : Int) ++ b ++ more) j = bt (hdS k (b.size : Int)) j := fun j hj => by
    unfold bt
    congr 2
    rw [← Array.getElem?_toList, ← Array.getElem?_toList, ap_list, ap_list, List.append_assoc, List.getElem?_append_left (by rw [len_list, z5]; exact hj)]
  have hd := fun j n (h : [k % 256, 3, 3, (b.size : Int) / 256 % 256, (b.size : Int) % 256][j]? = some n) (h0 : 0 ≤ n) (h1 : n < 256) => mkS_bt _ j n h h0 h1
  have e0 : bt (hdS k (b.size : Int) ++ b ++ more) 0 = k := by rw [at_ 0 (by omega)]; have := hd 0 (k % 256) rfl (by omega) (by omega); unfold hdS; omega
  have e1 : bt (hdS k (b.size : Int) ++ b ++ more) 1 = 3 := by rw [at_ 1 (by omega)]; exact hd 1 3 rfl (by omega) (by omega)
  have e2 : bt (hdS k (b.size : Int) ++ b ++ more) 2 = 3 := by rw [at_ 2 (by omega)]; exact hd 2 3 rfl (by omega) (by omega)
  have e3 : bt (hdS k (b.size : Int) ++ b ++ more) 3 = (b.size : Int) / 256 := by rw [at_ 3 (by omega)]; have := hd 3 ((b.size : Int) / 256 % 256) rfl (by omega) (by omega); unfold hdS; rw [this]; omega
  have e4 : bt (hdS k (b.size : Int) ++ b ++ more) 4 = (b.size : Int) % 256 := by rw [at_ 4 (by omega)]; exact hd 4 _ rfl (by omega) (by omega)
  have zz : (hdS k (b.size : Int) ++ b ++ more).size = 5 + b.size + more.size := by rw [ByteArray.size_append, ByteArray.size_append, z5]
  have lx : (hdS k (b.size : Int) ++ b ++ more).data.toList = (hdS k (b.size : Int)).data.toList ++ (b.data.toList ++ more.data.toList) := by rw [ap_list, ap_list, List.append_assoc]
  have l5 : (hdS k (b.size : Int)).data.toList.length = 5 := by rw [len_list, z5]
  generalize hdS k (b.size : Int) ++ b ++ more = S at *
  have eE : rhE S = 0 := by
    unfold rhE
    rw [if_neg (by omega), e0, if_pos hk, if_neg (by omega), if_pos e1, if_neg (by omega), if_pos e2, if_neg (by omega), e3, e4, if_neg (by omega)]
  obtain ⟨_, _, eN⟩ := rhE_0 eE
  have eN' : rhN S = (b.size : Int) := by rw [eN, e3, e4]; omega
  have uE : ufE S = 0 := by unfold ufE; rw [if_pos eE, eN', if_neg (by omega)]
  refine ⟨uE, by unfold ufK; rw [if_pos uE, e0], ?_, ?_⟩
  · unfold ufB
    rw [if_pos uE, eN', Int.toNat_natCast]
    apply ba_ext
    rw [ext_list, lx, show 5 + b.size - 5 = b.size by omega, List.drop_left' l5, List.take_left' (by rw [len_list])]
  · unfold ufR
    rw [if_pos uE, eN', Int.toNat_natCast]
    apply ba_ext
    rw [ext_list, lx, ← List.drop_drop, List.drop_left' l5, List.drop_left' (by rw [len_list]), zz, List.take_of_length_le (by rw [len_list]; omega)]
end Go.Proofs.YtldaccdhjjngdaaGreatDoor
