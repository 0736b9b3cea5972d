/- The reference: Unframe, by letters (small seat). -/
import Derived.Test.YtjaljnfijhfkcaaR1
set_option linter.all false
set_option maxRecDepth 100000
namespace Go.Proofs.Ytjaljnfijhfkcaa
open Go.RowKit Go.Sort
theorem rUnf_0 (s : ByteArray) (h : s.size = 0) (w : World) : Calls Try.prog 9 #[.string s] w fun e w' => e = .returned (.tuple #[rcV 0 ⟨#[]⟩, .string ⟨#[]⟩, .int .i64 11]) ∧ Below w.heap.size w w' := by
  have e : s = ⟨#[]⟩ := ba_ext (by have := List.eq_nil_of_length_eq_zero (l := s.data.toList) (by rw [len_list]; exact h); rw [this])
  subst e
  go_enter Try.func9, Try.ntmps9
  have A0 := Arr.new w _ 23 _ rfl _ 2 (rc2_at 0 ⟨#[]⟩)
  have B0 : Below w.heap.size w (w.alloc (.cells #[.int .i64 0, .string ⟨#[]⟩] 23)) := by go_grown
  have A2 := A0.srec 0 ⟨#[]⟩
  have e0 := A2.cv 0 (by omega) (.int .i64 0) rfl
  have e1 := A2.cv 1 (by omega) (.string ⟨#[]⟩) rfl
  unfold srec at e0 e1
  go_wp2
  refine bodyPost_ret (v := .tuple #[rcV 0 ⟨#[]⟩, .string ⟨#[]⟩, .int .i64 11]) (by simp [rcV, results, Try.results9, go_sem, e0, e1]) rfl ⟨rfl, B0⟩
theorem rUnf_1 (s : ByteArray) (c : Int) (h : s.size ≠ 0) (hc : bt s 0 = c) (w : World)
    (C : ∀ W, Calls Try.prog 16 #[.int .i64 c] W fun e w' => e = .returned (.bool false) ∧ w' = W) :
    Calls Try.prog 9 #[.string s] w fun e w' => e = .returned (.tuple #[rcV 0 ⟨#[]⟩, .string ⟨#[]⟩, .int .i64 23]) ∧ Below w.heap.size w w' := by
  have te := ne_nil_of h
  have I0 := fun W => idxS s 0 (by omega) W
  have b0 := bt_bd s 0
  rw [hc] at I0 b0
  obtain ⟨c0, c1⟩ := b0
  have s0 : (0 : Int) < (s.size : Int) := by omega
  rw [show ((0 : Nat) : Int) = 0 from rfl] at I0
  clear hc
  go_enter Try.func9, Try.ntmps9
  have A0 := Arr.new w _ 23 _ rfl _ 2 (rc2_at 0 ⟨#[]⟩)
  have B0 : Below w.heap.size w (w.alloc (.cells #[.int .i64 0, .string ⟨#[]⟩] 23)) := by go_grown
  have A2 := A0.srec 0 ⟨#[]⟩
  have e0 := A2.cv 0 (by omega) (.int .i64 0) rfl
  have e1 := A2.cv 1 (by omega) (.string ⟨#[]⟩) rfl
  unfold srec at e0 e1
  go_wp2_with (go_at_call 16; refine (C _).mono ?_; rintro e w1 ⟨rfl, rfl⟩)
  refine bodyPost_ret (v := .tuple #[rcV 0 ⟨#[]⟩, .string ⟨#[]⟩, .int .i64 23]) (by simp [rcV, results, Try.results9, go_sem, e0, e1]) rfl ⟨rfl, B0⟩
set_option maxHeartbeats 4000000 in
theorem rUnf_2 (s : ByteArray) (c m : Int) (Q : Int → Int → ByteArray → ByteArray → Prop) (h : s.size ≠ 0) (hs : s.size ≤ 1000000) (hc : bt s 0 = c) (hm0 : 0 ≤ m) (hm1 : m ≤ 100000) (w : World)
    (h1 : ∀ i : Nat, i < 2 → (∀ j, j < i → bt s (1 + j) = 3) → s.size ≤ 1 + i → Q 11 0 ⟨#[]⟩ ⟨#[]⟩)
    (h2 : ∀ i : Nat, i < 2 → (∀ j, j < i → bt s (1 + j) = 3) → 1 + i < s.size → bt s (1 + i) ≠ 3 → Q 10 0 ⟨#[]⟩ ⟨#[]⟩)
    (h3 : s.size = 3 → bt s 1 = 3 → bt s 2 = 3 → Q 11 0 ⟨#[]⟩ ⟨#[]⟩)
    (h4 : s.size = 4 → bt s 1 = 3 → bt s 2 = 3 → m < bt s 3 * 256 → Q 12 0 ⟨#[]⟩ ⟨#[]⟩)
    (h5 : s.size = 4 → bt s 1 = 3 → bt s 2 = 3 → ¬ m < bt s 3 * 256 → Q 11 0 ⟨#[]⟩ ⟨#[]⟩)
    (h6 : 5 ≤ s.size → bt s 1 = 3 → bt s 2 = 3 → m < bt s 3 * 256 + bt s 4 → Q 12 0 ⟨#[]⟩ ⟨#[]⟩)
    (h7 : 5 ≤ s.size → bt s 1 = 3 → bt s 2 = 3 → ¬ m < bt s 3 * 256 + bt s 4 → (s.size : Int) < 5 + (bt s 3 * 256 + bt s 4) → Q 11 0 ⟨#[]⟩ ⟨#[]⟩)
    (h8 : ∀ n : Nat, 5 ≤ s.size → bt s 1 = 3 → bt s 2 = 3 → bt s 3 * 256 + bt s 4 = (n : Int) → ¬ m < (n : Int) → 5 + n ≤ s.size → Q 0 c (s.extract 5 (5 + n)) (s.extract (5 + n) s.size))
    (C : ∀ W, Calls Try.prog 16 #[.int .i64 c] W fun e w' => e = .returned (.bool true) ∧ w' = W)
    (C2 : ∀ W, Calls Try.prog 17 #[.int .i64 c] W fun e w' => e = .returned (.int .i64 m) ∧ Below W.heap.size W w') :
    Calls Try.prog 9 #[.string s] w fun e w' => ∃ r K B R, e = .returned (.tuple #[rcV K B, .string R, .int .i64 r]) ∧ Q r K B R ∧ Below w.heap.size w w' := by
  have te := ne_nil_of h
  have I0 := fun W => idxS s 0 (by omega) W
  have b0 := bt_bd s 0
  rw [hc] at I0 b0
  obtain ⟨c0, c1⟩ := b0
  have s0 : (0 : Int) < (s.size : Int) := by omega
  have s1 : (s.size : Int) ≤ 1000000 := by omega
  rw [show ((0 : Nat) : Int) = 0 from rfl] at I0
  clear hc
  have H1 : Hid _ := h1
  have H2 : Hid _ := h2
  have H3 : Hid _ := h3
  have H4 : Hid _ := h4
  have H5 : Hid _ := h5
  have H6 : Hid _ := h6
  have H7 : Hid _ := h7
  have H8 : Hid _ := h8
  clear h1 h2 h3 h4 h5 h6 h7 h8
  go_enter Try.func9, Try.ntmps9
  have A0 := Arr.new w _ 23 _ rfl _ 2 (rc2_at 0 ⟨#[]⟩)
  have B0 : Below w.heap.size w (w.alloc (.cells #[.int .i64 0, .string ⟨#[]⟩] 23)) := by go_grown
  go_wp2_with (go_at_call 16; refine (C _).mono ?_; rintro e w1 ⟨rfl, rfl⟩)
  generalize w.alloc (.cells #[.int .i64 0, .string ⟨#[]⟩] 23) = W at *
  clear C I0
  go_loopw [6] (fun i wr => ∃ x : Nat, x ≤ 2 ∧ i = .int .i64 (1 + (x : Int)) ∧ Hid ((∀ j, j < x → bt s (1 + j) = 3) ∧ (x = 0 ∨ x < s.size)) ∧ wr = W) (fun i _ => 3 - (intOf i).toNat)
  case atStart => exact ⟨0, by omega, rfl, ⟨fun j hj => absurd hj (Nat.not_lt_zero _), .inl rfl⟩, rfl⟩
  case round =>
    obtain ⟨x, hx, rfl, hj, rfl⟩ := hrel
    have k0 := A0.c 0 (by omega)
    have k1 := A0.c 1 (by omega)
    have z0 := A0.z 0 (by omega)
    have z1 := A0.z 1 (by omega)
    have A2 := A0.srec 0 ⟨#[]⟩
    have e0 := A2.cv 0 (by omega) (.int .i64 0) rfl
    have e1 := A2.cv 1 (by omega) (.string ⟨#[]⟩) rfl
    unfold srec at e0 e1
    have x0 : (0 : Int) ≤ (x : Int) := by omega
    by_cases hlt : x < 2
    · have x1 : (1 : Int) + (x : Int) < 3 := by omega
      by_cases hs : s.size ≤ 1 + x
      · have i1 : (s.size : Int) ≤ 1 + (x : Int) := by omega
        have q := H1.out x hlt hj.out.1 hs
        go_wp2
        refine bodyPost_ret (v := .tuple #[rcV 0 ⟨#[]⟩, .string ⟨#[]⟩, .int .i64 11]) (by simp [rcV, results, Try.results9, go_sem, e0, e1]) rfl ⟨_, _, _, _, rfl, q, Bel.srec B0 (Nat.le_refl _) 0 ⟨#[]⟩⟩
      · have i1 : ¬ (s.size : Int) ≤ 1 + (x : Int) := by omega
        have i2 : (1 : Int) + (x : Int) < (s.size : Int) := by omega
        have I1 := fun W => idxS s (1 + x) (by omega) W
        rw [show ((1 + x : Nat) : Int) = 1 + (x : Int) by omega] at I1
        by_cases h3 : bt s (1 + x) = 3
        · have HG : Hid ((∀ j, j < x + 1 → bt s (1 + j) = 3) ∧ (x + 1 = 0 ∨ x + 1 < s.size)) := by
            refine ⟨fun j hj' => ?_, .inr (by omega)⟩
            by_cases c : j < x
            · exact hj.out.1 j c
            · rw [show j = x by omega]; exact h3
          rw [h3] at I1
          clear h3 hj
          go_wp2
          refine ⟨⟨x + 1, by omega, ?_, HG, by first | exact trivial | rfl⟩, ?_⟩
          · first | (congr 1; omega) | (simp; omega)
          · simp [intOf]; omega
        · have q := H2.out x hlt hj.out.1 (by omega) h3
          go_wp2
          refine bodyPost_ret (v := .tuple #[rcV 0 ⟨#[]⟩, .string ⟨#[]⟩, .int .i64 10]) (by simp [rcV, results, Try.results9, go_sem, e0, e1]) rfl ⟨_, _, _, _, rfl, q, Bel.srec B0 (Nat.le_refl _) 0 ⟨#[]⟩⟩
    · have ex : x = 2 := by omega
      rw [show (1 : Int) + ((x : Nat) : Int) = 3 by omega]
      have G1 : Hid (bt s 1 = 3) := hj.out.1 0 (by omega)
      have G2 : Hid (bt s 2 = 3) := hj.out.1 1 (by omega)
      have g3 : 2 < s.size := by have := hj.out.2; omega
      clear hj hx hlt x0 H1 H2
      subst ex
      have ret : ∀ (W' : World) (r : Int), Arr W' w.heap.size 2 (rc2 0 ⟨#[]⟩) → Q r 0 ⟨#[]⟩ ⟨#[]⟩ → True := fun _ _ _ _ => trivial
      clear ret
      by_cases h5 : s.size < 5
      · have i5 : (s.size : Int) < 5 := by omega
        by_cases h4 : s.size = 4
        · have i4 : (s.size : Int) = 4 := by omega
          have I3 := fun W => idxS s 3 (by omega) W
          rw [show ((3 : Nat) : Int) = 3 from rfl] at I3
          have b3 := bt_bd s 3
          have q4 := H4.out h4 G1.out G2.out
          have q5 := H5.out h4 G1.out G2.out
          generalize bt s 3 = y3 at *
          obtain ⟨y30, y31⟩ := b3
          clear H3 H4 H5 H6 H7 H8 G1 G2 k0 k1 z0 z1 A2 e0 e1
          have HQ4 : Hid _ := q4
          have HQ5 : Hid _ := q5
          clear q4 q5
          go_wp2_with fail
          refine wp_region_quiet_below (by kernel_rfl) (by kernel_rfl) ?_
          repeat (go_big_quiet_step (first | (go_at_call 17; exact Calls.regrown_of (C2 _))))
          refine wpQuiet_nil ?_
          intro w3 hw'
          obtain ⟨⟨dq, osq⟩, hw''⟩ := hw'
          have hb := below_of hw''
          clear hw''
          have A1 := A0.to' hb
          have B1 := Bel.call B0 hb
          have k0 := A1.c 0 (by omega)
          have k1 := A1.c 1 (by omega)
          have z0 := A1.z 0 (by omega)
          have z1 := A1.z 1 (by omega)
          have A2 := A1.srec 0 ⟨#[]⟩
          have e0 := A2.cv 0 (by omega) (.int .i64 0) rfl
          have e1 := A2.cv 1 (by omega) (.string ⟨#[]⟩) rfl
          unfold srec at e0 e1
          by_cases hm : m < y3 * 256
          · have q := HQ4.out hm
            go_wp2_with fail
            refine bodyPost_ret (v := .tuple #[rcV 0 ⟨#[]⟩, .string ⟨#[]⟩, .int .i64 12]) (by simp [rcV, results, Try.results9, go_sem, e0, e1]) rfl ⟨_, _, _, _, rfl, q, Bel.srec B1 (Nat.le_refl _) 0 ⟨#[]⟩⟩
          · have q := HQ5.out (by omega)
            go_wp2_with fail
            refine bodyPost_ret (v := .tuple #[rcV 0 ⟨#[]⟩, .string ⟨#[]⟩, .int .i64 11]) (by simp [rcV, results, Try.results9, go_sem, e0, e1]) rfl ⟨_, _, _, _, rfl, q, Bel.srec B1 (Nat.le_refl _) 0 ⟨#[]⟩⟩
        · have i4 : (s.size : Int) = 3 := by omega
          have q := H3.out (by omega) G1.out G2.out
          clear H3 H4 H5 H6 H7 H8 G1 G2 k0 k1 z0 z1 A2 e0 e1
          go_wp2_with fail
          refine wp_region_quiet_below (by kernel_rfl) (by kernel_rfl) ?_
          repeat (go_big_quiet_step (fail))
          refine wpQuiet_nil ?_
          intro w3 hw'
          obtain ⟨⟨dq, osq⟩, hw''⟩ := hw'
          have hb := below_of hw''
          clear hw''
          have A1 := A0.to' hb
          have B1 := Bel.call B0 hb
          have k0 := A1.c 0 (by omega)
          have k1 := A1.c 1 (by omega)
          have z0 := A1.z 0 (by omega)
          have z1 := A1.z 1 (by omega)
          have A2 := A1.srec 0 ⟨#[]⟩
          have e0 := A2.cv 0 (by omega) (.int .i64 0) rfl
          have e1 := A2.cv 1 (by omega) (.string ⟨#[]⟩) rfl
          unfold srec at e0 e1
          go_wp2_with fail
          refine bodyPost_ret (v := .tuple #[rcV 0 ⟨#[]⟩, .string ⟨#[]⟩, .int .i64 11]) (by simp [rcV, results, Try.results9, go_sem, e0, e1]) rfl ⟨_, _, _, _, rfl, q, Bel.srec B1 (Nat.le_refl _) 0 ⟨#[]⟩⟩
      · have i5 : ¬ (s.size : Int) < 5 := by omega
        have i3 : (3 : Int) < (s.size : Int) := by omega
        have i4 : (4 : Int) < (s.size : Int) := by omega
        have I3 := fun W => idxS s 3 (by omega) W
        have I4 := fun W => idxS s 4 (by omega) W
        rw [show ((3 : Nat) : Int) = 3 from rfl] at I3
        rw [show ((4 : Nat) : Int) = 4 from rfl] at I4
        have b3 := bt_bd s 3
        have b4 := bt_bd s 4
        have q6 := H6.out (by omega) G1.out G2.out
        have q7 := H7.out (by omega) G1.out G2.out
        have q8 := fun n => H8.out n (by omega) G1.out G2.out
        generalize bt s 3 = y3 at *
        generalize bt s 4 = y4 at *
        obtain ⟨y30, y31⟩ := b3
        obtain ⟨y40, y41⟩ := b4
        obtain ⟨n, hn⟩ : ∃ n : Nat, y3 * 256 + y4 = (n : Int) := ⟨(y3 * 256 + y4).toNat, by omega⟩
        have n1 : (n : Int) < 65536 := by omega
        have HQ6 : Hid _ := q6
        have HQ7 : Hid _ := q7
        have HQ8 : Hid _ := q8
        have S2 : 5 + n ≤ s.size → ∀ W, (Instr.slice 9 (.string s) (some (.int .i64 (5 + (n : Int)))) none none).run Try.prog W = .ok (.string (s.extract (5 + n) s.size)) W := fun h W => by
          rw [run_slice_string_l W 9 s Try.underlying9 .i64 (5 + (n : Int)) (by omega) (by omega), show (5 + (n : Int)).toNat = 5 + n by omega]
        have S1 : 5 + n ≤ s.size → ∀ W, (Instr.slice 9 (.string s) (some (.int .i64 5)) (some (.int .i64 (5 + (n : Int)))) none).run Try.prog W = .ok (.string (s.extract 5 (5 + n))) W := fun h W => by
          rw [run_slice_string_if (h := Try.underlying9), if_pos ⟨by omega, by omega⟩, if_pos ⟨by omega, by omega⟩, show (5 + (n : Int)).toNat = 5 + n by omega]
          rfl
        clear q6 q7 q8 H3 H4 H5 H6 H7 H8 G1 G2 k0 k1 z0 z1 A2 e0 e1
        go_wp2_with fail
        refine wp_region_quiet_below (by kernel_rfl) (by kernel_rfl) ?_
        repeat (go_big_quiet_step (fail))
        refine wpQuiet_nil ?_
        intro w3 hw'
        obtain ⟨⟨dq, osq⟩, hw''⟩ := hw'
        have hb := below_of hw''
        clear hw''
        have A1 := A0.to' hb
        have B1 := Bel.call B0 hb
        clear A0 B0 hb I3 I4
        rw [hn] at HQ6 HQ7
        have HN : Hid (y3 * 256 + y4 = (n : Int)) := hn
        try simp only [hn]
        clear hn y30 y31 y40 y41
        by_cases hm : m < (n : Int)
        · have q := HQ6.out hm
          clear HQ6 HQ7 HQ8 S1 S2
          go_wp2_with fail
          refine (C2 _).mono ?_
          rintro e w4 ⟨rfl, hb⟩
          replace A1 := A1.to' hb
          replace B1 := Bel.call B1 hb
          have k0 := A1.c 0 (by omega)
          have k1 := A1.c 1 (by omega)
          have z0 := A1.z 0 (by omega)
          have z1 := A1.z 1 (by omega)
          have A2 := A1.srec 0 ⟨#[]⟩
          have e0 := A2.cv 0 (by omega) (.int .i64 0) rfl
          have e1 := A2.cv 1 (by omega) (.string ⟨#[]⟩) rfl
          unfold srec at e0 e1
          go_wp2_with fail
          refine bodyPost_ret (v := .tuple #[rcV 0 ⟨#[]⟩, .string ⟨#[]⟩, .int .i64 12]) (by simp [rcV, results, Try.results9, go_sem, e0, e1]) rfl ⟨_, _, _, _, rfl, q, Bel.srec B1 (Nat.le_refl _) 0 ⟨#[]⟩⟩
        · by_cases hl : s.size < 5 + n
          · have q := HQ7.out (by omega) (by omega)
            have j1 : (s.size : Int) < 5 + (n : Int) := by omega
            have m1 : ¬ m < (n : Int) := hm
            have z_0 : (0 : Int) ≤ (n : Int) := by omega
            clear HQ6 HQ7 HQ8 S1 S2 hl hm HN
            generalize (n : Int) = z at *
            go_wp2_with fail
            refine (C2 _).mono ?_
            rintro e w4 ⟨rfl, hb⟩
            replace A1 := A1.to' hb
            replace B1 := Bel.call B1 hb
            have k0 := A1.c 0 (by omega)
            have k1 := A1.c 1 (by omega)
            have z0 := A1.z 0 (by omega)
            have z1 := A1.z 1 (by omega)
            have A2 := A1.srec 0 ⟨#[]⟩
            have e0 := A2.cv 0 (by omega) (.int .i64 0) rfl
            have e1 := A2.cv 1 (by omega) (.string ⟨#[]⟩) rfl
            unfold srec at e0 e1
            go_wp2_with fail
            refine bodyPost_ret (v := .tuple #[rcV 0 ⟨#[]⟩, .string ⟨#[]⟩, .int .i64 11]) (by simp [rcV, results, Try.results9, go_sem, e0, e1]) rfl ⟨_, _, _, _, rfl, q, Bel.srec B1 (Nat.le_refl _) 0 ⟨#[]⟩⟩
          · have q := HQ8.out n HN.out (by omega) (by omega)
            have j1 : ¬ (s.size : Int) < 5 + (n : Int) := by omega
            have hn' : Hid (5 + n ≤ s.size) := by show _ ≤ _; omega
            replace S1 := S1 hn'.out
            replace S2 := S2 hn'.out
            have m1 : ¬ m < (n : Int) := hm
            clear HQ6 HQ7 HQ8 HN hl hm
            generalize s.extract 5 (5 + n) = X1 at *
            generalize s.extract (5 + n) s.size = X2 at *
            have z_0 : (0 : Int) ≤ (n : Int) := by omega
            clear hn'
            generalize (n : Int) = z at *
            go_wp2_with fail
            refine (C2 _).mono ?_
            rintro e w4 ⟨rfl, hb⟩
            replace A1 := A1.to' hb
            replace B1 := Bel.call B1 hb
            clear hb
            go_wp2_with fail
            refine wp_region_float_tail 6 4 #[true, true, true, true, true, true, true, true, true, true, false, false, false] #[false, false, false, false, false, false, true, true, true, true, false, false, false] (by kernel_rfl) (by intro c d v a w h; cases d <;> exact h) (by kernel_rfl) _ ⟨.string s, Or.inl ⟨rfl, fun _ => rfl⟩, ⟨.int .i64 z, Or.inl ⟨rfl, fun _ => rfl⟩, ⟨.int .i64 (5 + z), Or.inl ⟨rfl, fun W => ?_⟩, ⟨.string X2, Or.inl ⟨rfl, fun W => ?_⟩, rfl⟩⟩⟩⟩ ?_
            · have wz : IntKind.i64.wrap (5 + z) = 5 + z := by rw [IntKind.wrap_i64]; omega
              simp [execOp, Act.eval, Act.put, go_sem, wz]
            · simp [execOp, Act.eval, Act.put, go_sem, S2]
            simp only [List.take_succ_cons, List.take_zero, List.drop_succ_cons, List.drop_zero, Act.put, List.setIfInBounds_toArray, List.set_cons_succ, List.set_cons_zero]
            repeat (go_big_quiet_step (fail))
            refine wpQuiet_nil ?_
            intro w5 hw'
            obtain ⟨⟨dq, osq⟩, hw''⟩ := hw'
            have hb := below_of hw''
            clear hw''
            replace A1 := A1.to' hb
            replace B1 := Bel.call B1 hb
            have cc := A1.c
            have zz := A1.z
            have A2 := A1.srec c X1
            have e0 := A2.cv 0 (by omega) (.int .i64 c) rfl
            have e1 := A2.cv 1 (by omega) (.string X1) rfl
            unfold srec at e0 e1
            go_wp2_with fail
            refine bodyPost_ret (v := .tuple #[rcV c X1, .string X2, .int .i64 0]) (by simp [rcV, results, Try.results9, go_sem, e0, e1]) rfl ⟨_, _, _, _, rfl, q, Bel.srec B1 (Nat.le_refl _) c X1⟩
end Go.Proofs.Ytjaljnfijhfkcaa
