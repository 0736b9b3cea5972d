/- Heads, read; Unframe of the program. -/
import Derived.Laws.BitsLemmas
import Derived.Laws.Bits64
import Derived.Test.YtjaljnfijhfkcaaGreatDoorJ24
set_option linter.all false
set_option maxRecDepth 100000
namespace Go.Proofs.YtjaljnfijhfkcaaGreatDoor
open Go.RowKit Go.Sort
/-- What is wrong with a length, told byte by byte. -/
def rlE (s : ByteArray) (m : Int) : Int := if s.size = 0 then 11 else if m < bt s 0 * 256 then 12 else if s.size = 1 then 11 else if m < bt s 0 * 256 + bt s 1 then 12 else 0
def rlN (s : ByteArray) (m : Int) : Int := if rlE s m = 0 then bt s 0 * 256 + bt s 1 else 0
/-- What is wrong with a head. -/
def rhE (s : ByteArray) : Int := if s.size = 0 then 11 else if knB (bt s 0) = true then (if s.size ≤ 1 then 11 else if bt s 1 = 3 then (if s.size ≤ 2 then 11 else if bt s 2 = 3 then (if s.size < 5 then (if s.size = 4 ∧ (mst (bt s 0) : Int) < bt s 3 * 256 then 12 else 11) else if (mst (bt s 0) : Int) < bt s 3 * 256 + bt s 4 then 12 else 0) else 10) else 10) else 23
def rhK (s : ByteArray) : Int := if rhE s = 0 then bt s 0 else 0
def rhN (s : ByteArray) : Int := if rhE s = 0 then bt s 3 * 256 + bt s 4 else 0
set_option maxHeartbeats 1000000 in
theorem readLength_2 (s : ByteArray) (m r n : Int) (w : World)
    (h0 : s.size = 0 → r = 11 ∧ n = 0)
    (h1 : 0 < s.size → m < bt s 0 * 256 → r = 12 ∧ n = 0)
    (h2 : s.size = 1 → ¬ m < bt s 0 * 256 → r = 11 ∧ n = 0)
    (h3 : 1 < s.size → ¬ m < bt s 0 * 256 → m < bt s 0 * 256 + bt s 1 → r = 12 ∧ n = 0)
    (h4 : 1 < s.size → ¬ m < bt s 0 * 256 → ¬ m < bt s 0 * 256 + bt s 1 → r = 0 ∧ n = bt s 0 * 256 + bt s 1) :
    Calls Tryz.prog 50 #[.string s, .int .i64 m] w fun e w' => e = .returned (.tuple #[.int .i64 n, .int .i64 r]) ∧ w' = w := by
  have b0 := bt_bd s 0
  have b1 := bt_bd s 1
  have I0 : ∀ W, 0 < s.size → _ := fun W h => idxS s 0 h W
  have I1 : ∀ W, 1 < s.size → _ := fun W h => idxS s 1 h W
  have H0 : Hid _ := h0
  have H1 : Hid _ := h1
  have H2 : Hid _ := h2
  have H3 : Hid _ := h3
  have H4 : Hid _ := h4
  clear h0 h1 h2 h3 h4
  generalize bt s 0 = y at *
  generalize bt s 1 = z at *
  obtain ⟨y0, y1⟩ := b0
  obtain ⟨z0, z1⟩ := b1
  have HI0 : Hid _ := I0
  have HI1 : Hid _ := I1
  clear I0 I1
  go_enter Tryz.func50, Tryz.ntmps50
  go_wp2
  go_loopw [9, 6, 7] (fun i a p wr => wr = w ∧ ((i = .int .i64 0 ∧ a = .int .i64 0 ∧ p = .int .i64 256) ∨ (i = .int .i64 1 ∧ a = .int .i64 (256 * y) ∧ p = .int .i64 1 ∧ Hid (0 < s.size ∧ ¬ m < y * 256)) ∨ (i = .int .i64 2 ∧ a = .int .i64 (256 * y + z) ∧ p = .int .i64 0 ∧ Hid (1 < s.size ∧ ¬ m < y * 256 ∧ ¬ m < y * 256 + z)))) (fun i _ _ _ => 2 - (intOf i).toNat)
  case atStart => exact ⟨rfl, .inl ⟨rfl, rfl, rfl⟩⟩
  case round =>
    obtain ⟨rfl, hh⟩ := hrel
    rcases hh with ⟨rfl, rfl, rfl⟩ | ⟨rfl, rfl, rfl, hA⟩ | ⟨rfl, rfl, rfl, hA⟩
    · by_cases hs : s.size = 0
      · obtain ⟨rfl, rfl⟩ := H0.out hs
        have q0 : (s.size : Int) = 0 := by omega
        go_wp2
        refine bodyPost_ret (v := .tuple #[.int .i64 0, .int .i64 11]) (by simp [results, Tryz.results50, go_sem]) rfl ⟨rfl, rfl⟩
      · have q0 : ¬ (s.size : Int) ≤ 0 := by omega
        have I0 := fun W => HI0.out W (by omega)
        rw [show ((0 : Nat) : Int) = 0 from rfl] at I0
        by_cases hm : m < y * 256
        · obtain ⟨rfl, rfl⟩ := H1.out (by omega) hm
          have m1 : m < 256 * y := by omega
          clear hm
          go_wp2
          refine bodyPost_ret (v := .tuple #[.int .i64 0, .int .i64 12]) (by simp [results, Tryz.results50, go_sem]) rfl ⟨rfl, rfl⟩
        · have m1 : ¬ m < 256 * y := by omega
          have K : Hid (0 < s.size ∧ ¬ m < y * 256) := ⟨by omega, hm⟩
          clear hm
          go_wp2
          refine ⟨⟨by trivial, .inr (.inl ⟨rfl, by go_num, rfl, K⟩)⟩, by simp [intOf]⟩
    · obtain ⟨k1, k2⟩ := hA.out
      by_cases hs : s.size = 1
      · obtain ⟨rfl, rfl⟩ := H2.out hs (by omega)
        have q0 : (s.size : Int) ≤ 1 := by omega
        clear k2 hA
        go_wp2
        refine bodyPost_ret (v := .tuple #[.int .i64 0, .int .i64 11]) (by simp [results, Tryz.results50, go_sem]) rfl ⟨rfl, rfl⟩
      · have q0 : ¬ (s.size : Int) ≤ 1 := by omega
        have I1 := fun W => HI1.out W (by omega)
        rw [show ((1 : Nat) : Int) = 1 from rfl] at I1
        by_cases hm : m < y * 256 + z
        · obtain ⟨rfl, rfl⟩ := H3.out (by omega) (by omega) hm
          have m1 : m < 256 * y + z := by omega
          clear hm k2 hA
          go_wp2
          refine bodyPost_ret (v := .tuple #[.int .i64 0, .int .i64 12]) (by simp [results, Tryz.results50, go_sem]) rfl ⟨rfl, rfl⟩
        · have m1 : ¬ m < 256 * y + z := by omega
          have K : Hid (1 < s.size ∧ ¬ m < y * 256 ∧ ¬ m < y * 256 + z) := ⟨by omega, k2, hm⟩
          clear hm k2 hA
          go_wp2
          refine ⟨⟨by trivial, .inr (.inr ⟨rfl, by go_num, rfl, K⟩)⟩, by simp [intOf]⟩
    · obtain ⟨rfl, rfl⟩ := H4.out hA.out.1 (by have := hA.out.2.1; omega) (by have := hA.out.2.2; omega)
      clear hA
      go_wp2
      refine bodyPost_ret (v := .tuple #[.int .i64 (y * 256 + z), .int .i64 0]) (by simp [results, Tryz.results50, go_sem]; omega) rfl ⟨rfl, rfl⟩
theorem readLength_any (s : ByteArray) (m : Int) (w : World) : Calls Tryz.prog 50 #[.string s, .int .i64 m] w fun e w' => e = .returned (.tuple #[.int .i64 (rlN s m), .int .i64 (rlE s m)]) ∧ w' = w := by
  have fin : ∀ r, ¬ r = 0 → rlE s m = r → rlE s m = r ∧ rlN s m = 0 := fun r hr e => ⟨e, by unfold rlN; rw [e, if_neg hr]⟩
  refine readLength_2 s m _ _ w (fun h => fin 11 (by decide) ?_) (fun h a => fin 12 (by decide) ?_) (fun h a => fin 11 (by decide) ?_) (fun h a b => fin 12 (by decide) ?_) (fun h a b => ?_)
  · unfold rlE; rw [if_pos h]
  · unfold rlE; rw [if_neg (by omega), if_pos a]
  · unfold rlE; rw [if_neg (by omega), if_neg a, if_pos h]
  · unfold rlE; rw [if_neg (by omega), if_neg a, if_neg (by omega), if_pos b]
  · have e : rlE s m = 0 := by unfold rlE; rw [if_neg (by omega), if_neg a, if_neg (by omega), if_neg b]
    unfold rlN
    rw [if_pos e]
    exact ⟨e, rfl⟩
theorem readHead_0 (s : ByteArray) (h : s.size = 0) (w : World) : Calls Tryz.prog 31 #[.string s] w fun e w' => e = .returned (.tuple #[.int .i64 0, .int .i64 0, .int .i64 11]) ∧ Below w.heap.size w w' := by
  have e : s = ⟨#[]⟩ := ba_ext (by have := List.eq_nil_of_length_eq_zero (l := s.data.toList) (by rw [len_list]; exact h); rw [this])
  subst e
  go_enter Tryz.func31, Tryz.ntmps31
  go_wp2
  refine bodyPost_ret (v := .tuple #[.int .i64 0, .int .i64 0, .int .i64 11]) (by simp [results, Tryz.results31, go_sem]) rfl ⟨rfl, Below.refl _ _⟩
theorem readHead_1 (s : ByteArray) (c : Int) (h : s.size ≠ 0) (hc : bt s 0 = c) (w : World)
    (C : ∀ W, Calls Tryz.prog 28 #[.int .i64 c] W fun e w' => e = .returned (.bool false) ∧ w' = W) :
    Calls Tryz.prog 31 #[.string s] w fun e w' => e = .returned (.tuple #[.int .i64 0, .int .i64 0, .int .i64 23]) ∧ Below w.heap.size w w' := by
  have te := ne_nil_of h
  have I0 := fun W => idxS s 0 (by omega) W
  have b0 := bt_bd s 0
  rw [hc] at I0 b0
  obtain ⟨c0, c1⟩ := b0
  have s0 : (0 : Int) < (s.size : Int) := by omega
  rw [show ((0 : Nat) : Int) = 0 from rfl] at I0
  clear hc
  go_enter Tryz.func31, Tryz.ntmps31
  go_wp2_with (go_at_call 28; refine (C _).mono ?_; rintro e w1 ⟨rfl, rfl⟩)
  refine bodyPost_ret (v := .tuple #[.int .i64 0, .int .i64 0, .int .i64 23]) (by simp [results, Tryz.results31, go_sem]) rfl ⟨rfl, Below.refl _ _⟩
set_option maxHeartbeats 2000000 in
theorem readHead_2 (s E : ByteArray) (c m r k n q u : Int) (h : s.size ≠ 0) (hc : bt s 0 = c) (w : World)
    (h1 : ∀ i : Nat, i < 2 → (∀ j, j < i → bt s (1 + j) = 3) → s.size ≤ 1 + i → r = 11 ∧ k = 0 ∧ n = 0)
    (h2 : ∀ i : Nat, i < 2 → (∀ j, j < i → bt s (1 + j) = 3) → 1 + i < s.size → bt s (1 + i) ≠ 3 → r = 10 ∧ k = 0 ∧ n = 0)
    (h5 : 2 < s.size → bt s 1 = 3 → bt s 2 = 3 → ¬ u = 0 → r = u ∧ k = 0 ∧ n = 0)
    (h6 : 2 < s.size → bt s 1 = 3 → bt s 2 = 3 → u = 0 → r = 0 ∧ k = c ∧ n = q)
    (C : ∀ W, Calls Tryz.prog 28 #[.int .i64 c] W fun e w' => e = .returned (.bool true) ∧ w' = W)
    (S0 : 2 < s.size → ∀ W, (Instr.slice 9 (.string s) (some (.int .i64 3)) none none).run Tryz.prog W = .ok (.string E) W)
    (C2 : ∀ W, Calls Tryz.prog 29 #[.int .i64 c] W fun e w' => e = .returned (.int .i64 m) ∧ Below W.heap.size W w')
    (C3 : ∀ W, Calls Tryz.prog 50 #[.string E, .int .i64 m] W fun e w' => e = .returned (.tuple #[.int .i64 q, .int .i64 u]) ∧ Below W.heap.size W w') :
    Calls Tryz.prog 31 #[.string s] w fun e w' => e = .returned (.tuple #[.int .i64 k, .int .i64 n, .int .i64 r]) ∧ Below w.heap.size w w' := by
  have te := ne_nil_of h
  have I0 := fun W => idxS s 0 (by omega) W
  have b0 := bt_bd s 0
  rw [hc] at I0 b0
  obtain ⟨c0, c1⟩ := b0
  have s0 : (0 : Int) < (s.size : Int) := by omega
  rw [show ((0 : Nat) : Int) = 0 from rfl] at I0
  have V : ∀ (j : Nat) W, j < 2 → (Instr.index 9 (.string (⟨#[3, 3]⟩ : ByteArray)) (.int .i64 (j : Int))).run Tryz.prog W = .ok (.int .u8 3) W := fun j W hj => by
    have := idxS ⟨#[3, 3]⟩ j hj W
    rw [this]
    have : j = 0 ∨ j = 1 := by omega
    rcases this with rfl | rfl <;> rfl
  clear hc
  have H1 : Hid _ := h1
  have H2 : Hid _ := h2
  have H5 : Hid _ := h5
  have H6 : Hid _ := h6
  have HS0 : Hid _ := S0
  clear h1 h2 h5 h6 S0
  go_enter Tryz.func31, Tryz.ntmps31
  go_wp2_with (go_at_call 28; refine (C _).mono ?_; rintro e w1 ⟨rfl, rfl⟩)
  go_loopw [17] (fun i wr => ∃ x : Nat, x ≤ 2 ∧ i = .int .i64 x ∧ Hid ((∀ j, j < x → bt s (1 + j) = 3) ∧ (x = 0 ∨ x < s.size)) ∧ Below w1.heap.size w1 wr) (fun i _ => 2 - (intOf i).toNat)
  case atStart => exact ⟨0, by omega, rfl, ⟨fun j hj => absurd hj (Nat.not_lt_zero _), .inl rfl⟩, Below.refl _ _⟩
  case round =>
    obtain ⟨x, hx, rfl, hj, hB⟩ := hrel
    have x0 : (0 : Int) ≤ (x : Int) := by omega
    by_cases hlt : x < 2
    · have x1 : (x : Int) < 2 := by omega
      by_cases hs : s.size ≤ 1 + x
      · have i1 : (s.size : Int) ≤ 1 + (x : Int) := by omega
        obtain ⟨rfl, rfl, rfl⟩ := H1.out x hlt hj.out.1 hs
        go_wp2
        refine bodyPost_ret (v := .tuple #[.int .i64 0, .int .i64 0, .int .i64 11]) (by simp [results, Tryz.results31, go_sem]) rfl ⟨rfl, hB⟩
      · have i1 : ¬ (s.size : Int) ≤ 1 + (x : Int) := by omega
        have i2 : (1 : Int) + (x : Int) < (s.size : Int) := by omega
        have I1 := fun W => idxS s (1 + x) (by omega) W
        rw [show ((1 + x : Nat) : Int) = 1 + (x : Int) by omega] at I1
        have V1 := fun W => V x W hlt
        have r1 := hj.out.1
        have HJ : Hid (∀ j, j < x → bt s (1 + j) = 3) := hj.out.1
        have HS : Hid (1 + x < s.size) := by show _ < _; omega
        by_cases h3 : bt s (1 + x) = 3
        · have H3 : Hid (bt s (1 + x) = 3) := h3
          rw [h3] at I1
          clear h3 r1 hj hs V
          go_wp2_with fail
          refine wp_region_quiet_below (by kernel_rfl) (by kernel_rfl) ?_
          repeat (go_big_quiet_step (fail))
          refine wpQuiet_nil ?_
          intro w3 hw'
          obtain ⟨⟨dq, osq⟩, hw''⟩ := hw'
          have hb := below_of hw''
          clear hw''
          go_wp2_with fail
          refine ⟨⟨x + 1, by omega, by go_num, ⟨fun j hj => ?_, .inr (by have := HS.out; omega)⟩, Bel.call hB hb⟩, by simp [intOf]; omega⟩
          by_cases e : j = x
          · rw [e]; exact H3.out
          · exact HJ.out j (by omega)
        · obtain ⟨rfl, rfl, rfl⟩ := H2.out x hlt hj.out.1 (by omega) h3
          have nb : (bt s (1 + x) == 3) = false := by simpa using h3
          have nb2 : ¬ bt s (1 + x) = 3 := h3
          clear r1 hj hs V
          generalize bt s (1 + x) = y at *
          go_wp2_with fail
          refine wp_region_quiet_below (by kernel_rfl) (by kernel_rfl) ?_
          repeat (go_big_quiet_step (fail))
          refine wpQuiet_nil ?_
          intro w3 hw'
          obtain ⟨⟨dq, osq⟩, hw''⟩ := hw'
          have hb := below_of hw''
          clear hw''
          go_wp2_with fail
          refine bodyPost_ret (v := .tuple #[.int .i64 0, .int .i64 0, .int .i64 10]) (by simp [results, Tryz.results31, go_sem]) rfl ⟨rfl, Bel.call hB hb⟩
    · have ex : x = 2 := by omega
      rw [show ((x : Nat) : Int) = 2 by omega]
      have g1 := hj.out.1 0 (by omega)
      have g2 := hj.out.1 1 (by omega)
      have g3 : 2 < s.size := by have := hj.out.2; omega
      have G1 : Hid (bt s 1 = 3) := g1
      have G2 : Hid (bt s 2 = 3) := g2
      clear hj g1 g2 V hx hlt x0
      subst ex
      have H5' := H5.out g3 G1.out G2.out
      have H6' := H6.out g3 G1.out G2.out
      have S0 := HS0.out g3
      have HH5 : Hid _ := H5'
      have HH6 : Hid _ := H6'
      clear H5' H6' H5 H6 H1 H2 HS0
      go_wp2_with fail
      refine wp_region_quiet_below (by kernel_rfl) (by kernel_rfl) ?_
      repeat (go_big_quiet_step (first | (go_at_call 29; exact Calls.regrown_of (C2 _)) | (go_at_call 50; exact Calls.regrown_of (C3 _))))
      refine wpQuiet_nil ?_
      intro w3 hw'
      obtain ⟨⟨dq, osq⟩, hw''⟩ := hw'
      have hb := below_of hw''
      clear hw''
      by_cases hu : u = 0
      · obtain ⟨rfl, rfl, rfl⟩ := HH6.out hu
        subst hu
        go_wp2_with fail
        refine bodyPost_ret (v := .tuple #[.int .i64 k, .int .i64 n, .int .i64 0]) (by simp [results, Tryz.results31, go_sem]) rfl ⟨rfl, Bel.call hB hb⟩
      · obtain ⟨rfl, rfl, rfl⟩ := HH5.out hu
        have nb : (r == 0) = false := by simpa using hu
        go_wp2_with fail
        refine bodyPost_ret (v := .tuple #[.int .i64 0, .int .i64 0, .int .i64 r]) (by simp [results, Tryz.results31, go_sem]) rfl ⟨rfl, Bel.call hB hb⟩
/-- A text behind its first bytes. -/
theorem bt_ext3 (s : ByteArray) (j : Nat) (h : 3 + j < s.size) : bt (s.extract 3 s.size) j = bt s (3 + j) := by
  unfold bt
  congr 2
  rw [← Array.getElem?_toList, ← Array.getElem?_toList, ext_list, List.getElem?_take_of_lt (by omega), List.getElem?_drop]
theorem readHead_any (s : ByteArray) (w : World) : Calls Tryz.prog 31 #[.string s] w fun e w' => e = .returned (.tuple #[.int .i64 (rhK s), .int .i64 (rhN s), .int .i64 (rhE s)]) ∧ Below w.heap.size w w' := by
  have bad : ∀ r, ¬ r = 0 → rhE s = r → rhK s = 0 ∧ rhN s = 0 := fun r hr e => by
    unfold rhK rhN
    rw [e, if_neg hr, if_neg hr]
    exact ⟨rfl, rfl⟩
  by_cases h : s.size = 0
  · have e : rhE s = 11 := by unfold rhE; rw [if_pos h]
    obtain ⟨x, y⟩ := bad 11 (by decide) e
    rw [e, x, y]
    exact readHead_0 s h w
  have C := fun W => isKind_any (bt s 0) W
  cases hk : knB (bt s 0) with
  | false =>
    have e : rhE s = 23 := by unfold rhE; rw [if_neg h, if_neg (by rw [hk]; decide)]
    obtain ⟨x, y⟩ := bad 23 (by decide) e
    rw [e, x, y]
    rw [hk] at C
    exact readHead_1 s _ h rfl w C
  | true =>
    rw [hk] at C
    have E : rhE s = if s.size ≤ 1 then 11 else if bt s 1 = 3 then (if s.size ≤ 2 then 11 else if bt s 2 = 3 then (if s.size < 5 then (if s.size = 4 ∧ (mst (bt s 0) : Int) < bt s 3 * 256 then 12 else 11) else if (mst (bt s 0) : Int) < bt s 3 * 256 + bt s 4 then 12 else 0) else 10) else 10 := by unfold rhE; rw [if_neg h, if_pos hk]
    have fin : ∀ r, ¬ r = 0 → rhE s = r → rhE s = r ∧ rhK s = 0 ∧ rhN s = 0 := fun r hr e => ⟨e, bad r hr e⟩
    have ze : (s.extract 3 s.size).size = s.size - 3 := by rw [ByteArray.size_extract]; omega
    have b3 := bt_bd s 3
    have b4 := bt_bd s 4
    have key : 2 < s.size → bt s 1 = 3 → bt s 2 = 3 → rhE s = rlE (s.extract 3 s.size) (mst (bt s 0) : Int) ∧ (rhE s = 0 → rlN (s.extract 3 s.size) (mst (bt s 0) : Int) = rhN s) := fun h2 g1 g2 => by
      have e : rhE s = rlE (s.extract 3 s.size) (mst (bt s 0) : Int) := by
        rw [E, if_neg (by omega), if_pos g1, if_neg (by omega), if_pos g2]
        unfold rlE
        rw [ze]
        by_cases c3 : s.size = 3
        · rw [if_pos (by omega), if_neg (by omega), if_pos (by omega)]
        · rw [bt_ext3 s 0 (by omega), show 3 + 0 = 3 from rfl]
          by_cases c4 : s.size = 4
          · rw [if_pos (show s.size < 5 by omega), if_neg (show ¬ s.size - 3 = 0 by omega), if_pos (show s.size - 3 = 1 by omega)]
            by_cases cm : (mst (bt s 0) : Int) < bt s 3 * 256
            · rw [if_pos ⟨c4, cm⟩, if_pos cm]
            · rw [if_neg (fun x => cm x.2), if_neg cm]
          · rw [bt_ext3 s 1 (by omega), show 3 + 1 = 4 from rfl, if_neg (show ¬ s.size < 5 by omega), if_neg (show ¬ s.size - 3 = 0 by omega), if_neg (show ¬ s.size - 3 = 1 by omega)]
            by_cases cm : (mst (bt s 0) : Int) < bt s 3 * 256
            · rw [if_pos cm, if_pos (by omega)]
            · rw [if_neg cm]
      refine ⟨e, fun e0 => ?_⟩
      have s5 : 5 ≤ s.size := by
        rw [E, if_neg (by omega), if_pos g1, if_neg (by omega), if_pos g2] at e0
        by_cases c : s.size < 5
        · rw [if_pos c] at e0
          split at e0 <;> omega
        · omega
      unfold rlN rhN
      rw [← e, if_pos e0, if_pos e0, bt_ext3 s 0 (by omega), bt_ext3 s 1 (by omega)]
    refine readHead_2 s (s.extract 3 s.size) _ (mst (bt s 0) : Int) _ _ _ (rlN (s.extract 3 s.size) (mst (bt s 0) : Int)) (rlE (s.extract 3 s.size) (mst (bt s 0) : Int)) h rfl w (fun i hi hj hs => fin 11 (by decide) ?_) (fun i hi hj hs h3 => fin 10 (by decide) ?_) (fun h2 g1 g2 hu => ?_) (fun h2 g1 g2 hu => ?_) C (fun h2 W => ?_) (cB (fun W => mostBytes_any _ W)) (cB (fun W => readLength_any _ _ W))
    · rw [E]
      have : i = 0 ∨ i = 1 := by omega
      rcases this with rfl | rfl
      · rw [if_pos (by omega)]
      · have := hj 0 (by omega)
        by_cases c : s.size ≤ 1
        · rw [if_pos c]
        · rw [if_neg c, if_pos this, if_pos (by omega)]
    · rw [E]
      have : i = 0 ∨ i = 1 := by omega
      rcases this with rfl | rfl
      · rw [if_neg (by omega), if_neg h3]
      · have := hj 0 (by omega)
        rw [if_neg (by omega), if_pos this, if_neg (by omega), if_neg h3]
    · exact fin _ hu (key h2 g1 g2).1
    · obtain ⟨e, en⟩ := key h2 g1 g2
      have e0 : rhE s = 0 := by rw [e]; exact hu
      refine ⟨e0, by unfold rhK; rw [if_pos e0], (en e0).symm⟩
    · rw [run_slice_string_l W 9 s Tryz.underlying9 .i64 3 (by omega) (by omega)]
      rfl
/-- What Unframe tells. -/
def ufE (s : ByteArray) : Int := if rhE s = 0 then (if (s.size : Int) < 5 + rhN s then 11 else 0) else rhE s
def ufK (s : ByteArray) : Int := if ufE s = 0 then bt s 0 else 0
def ufB (s : ByteArray) : ByteArray := if ufE s = 0 then s.extract 5 (5 + (rhN s).toNat) else ⟨#[]⟩
def ufR (s : ByteArray) : ByteArray := if ufE s = 0 then s.extract (5 + (rhN s).toNat) s.size else ⟨#[]⟩
theorem rhE_0 {s : ByteArray} (h : rhE s = 0) : 5 ≤ s.size ∧ rhK s = bt s 0 ∧ rhN s = bt s 3 * 256 + bt s 4 := by
  refine ⟨?_, by unfold rhK; rw [if_pos h], by unfold rhN; rw [if_pos h]⟩
  unfold rhE at h
  split at h
  · omega
  · split at h
    · split at h
      · omega
      · split at h
        · split at h
          · omega
          · split at h
            · split at h
              · split at h <;> omega
              · omega
            · omega
        · omega
    · omega
theorem Unframe_any (s : ByteArray) (w : World) : Calls Tryz.prog 15 #[.string s] w fun e w' => e = .returned (.tuple #[rcV (ufK s) (ufB s), .string (ufR s), .int .i64 (ufE s)]) ∧ Below w.heap.size w w' := by
  have C := fun W => readHead_any s W
  by_cases h : rhE s = 0
  · obtain ⟨h5, hK, hN⟩ := rhE_0 h
    rw [h, hK] at C
    have b3 := bt_bd s 3
    have b4 := bt_bd s 4
    obtain ⟨n, hn⟩ : ∃ n : Nat, rhN s = (n : Int) := ⟨(rhN s).toNat, by omega⟩
    rw [hn] at C
    by_cases h2 : s.size < 5 + n
    · have e : ufE s = 11 := by unfold ufE; rw [if_pos h, if_pos (by omega)]
      unfold ufK ufB ufR
      rw [e, if_neg (by decide), if_neg (by decide), if_neg (by decide)]
      exact Unframe_2 s _ n h5 h2 w C
    · have e : ufE s = 0 := by unfold ufE; rw [if_pos h, if_neg (by omega)]
      unfold ufK ufB ufR
      rw [e, if_pos rfl, if_pos rfl, if_pos rfl, hn, Int.toNat_natCast]
      exact Unframe_3 s _ n h5 (by omega) w C
  · have e : ufE s = rhE s := by unfold ufE; rw [if_neg h]
    unfold ufK ufB ufR
    rw [e, if_neg h, if_neg h, if_neg h]
    exact Unframe_1 s _ _ _ h w C
/-- A record's bytes, with anything behind. -/
theorem uf_frame (k : Int) (b more : ByteArray) (hk : knB k = true) (hb : b.size ≤ mst k) : ufE (hdS k (b.size : Int) ++ b ++ more) = 0 ∧ ufK (hdS k (b.size : Int) ++ b ++ more) = k ∧ ufB (hdS k (b.size : Int) ++ b ++ more) = b ∧ ufR (hdS k (b.size : Int) ++ b ++ more) = more := by
  obtain ⟨k0, k1⟩ := (knB_iff k).1 hk
  have hm := mst_cases k
  have z5 := hdS_size k (b.size : Int)
  have ls : (hdS k (b.size : Int)).data.toList = [UInt8.ofNat (k % 256).toNat, 3, 3, UInt8.ofNat ((b.size : Int) / 256 % 256).toNat, UInt8.ofNat ((b.size : Int) % 256).toNat] := by unfold hdS; rw [mkS_list]; rfl
  have at_ : ∀ j, j < 5 → bt (hdS k (b.size : Int) ++ b ++ more) j = bt (hdS k (b.size : Int)) j := fun j hj => by
    unfold bt
    congr 2
    rw [← Array.getElem?_toList, ← Array.getElem?_toList, ap_list, ap_list, List.append_assoc, List.getElem?_append_left (by rw [len_list, z5]; exact hj)]
  have hd := fun j n (h : [k % 256, 3, 3, (b.size : Int) / 256 % 256, (b.size : Int) % 256][j]? = some n) (h0 : 0 ≤ n) (h1 : n < 256) => mkS_bt _ j n h h0 h1
  have e0 : bt (hdS k (b.size : Int) ++ b ++ more) 0 = k := by rw [at_ 0 (by omega)]; have := hd 0 (k % 256) rfl (by omega) (by omega); unfold hdS; omega
  have e1 : bt (hdS k (b.size : Int) ++ b ++ more) 1 = 3 := by rw [at_ 1 (by omega)]; exact hd 1 3 rfl (by omega) (by omega)
  have e2 : bt (hdS k (b.size : Int) ++ b ++ more) 2 = 3 := by rw [at_ 2 (by omega)]; exact hd 2 3 rfl (by omega) (by omega)
  have e3 : bt (hdS k (b.size : Int) ++ b ++ more) 3 = (b.size : Int) / 256 := by rw [at_ 3 (by omega)]; have := hd 3 ((b.size : Int) / 256 % 256) rfl (by omega) (by omega); unfold hdS; rw [this]; omega
  have e4 : bt (hdS k (b.size : Int) ++ b ++ more) 4 = (b.size : Int) % 256 := by rw [at_ 4 (by omega)]; exact hd 4 _ rfl (by omega) (by omega)
  have zz : (hdS k (b.size : Int) ++ b ++ more).size = 5 + b.size + more.size := by rw [ByteArray.size_append, ByteArray.size_append, z5]
  have lx : (hdS k (b.size : Int) ++ b ++ more).data.toList = (hdS k (b.size : Int)).data.toList ++ (b.data.toList ++ more.data.toList) := by rw [ap_list, ap_list, List.append_assoc]
  have l5 : (hdS k (b.size : Int)).data.toList.length = 5 := by rw [len_list, z5]
  generalize hdS k (b.size : Int) ++ b ++ more = S at *
  have eE : rhE S = 0 := by
    unfold rhE
    rw [if_neg (by omega), e0, if_pos hk, if_neg (by omega), if_pos e1, if_neg (by omega), if_pos e2, if_neg (by omega), e3, e4, if_neg (by omega)]
  obtain ⟨_, _, eN⟩ := rhE_0 eE
  have eN' : rhN S = (b.size : Int) := by rw [eN, e3, e4]; omega
  have uE : ufE S = 0 := by unfold ufE; rw [if_pos eE, eN', if_neg (by omega)]
  refine ⟨uE, by unfold ufK; rw [if_pos uE, e0], ?_, ?_⟩
  · unfold ufB
    rw [if_pos uE, eN', Int.toNat_natCast]
    apply ba_ext
    rw [ext_list, lx, show 5 + b.size - 5 = b.size by omega, List.drop_left' l5, List.take_left' (by rw [len_list])]
  · unfold ufR
    rw [if_pos uE, eN', Int.toNat_natCast]
    apply ba_ext
    rw [ext_list, lx, ← List.drop_drop, List.drop_left' l5, List.drop_left' (by rw [len_list]), zz, List.take_of_length_le (by rw [len_list]; omega)]
end Go.Proofs.YtjaljnfijhfkcaaGreatDoor
