/- SivDoubles: doubling is linear. -/
import Derived.Test.YtogkijjmimaccaaJ27
import Derived.Test.YtogkijjmimaccaaJ33
set_option linter.all false
set_option maxRecDepth 100000
namespace Go.Proofs.Ytogkijjmimaccaa
open Go.RowKit Go.Sort Lin
theorem ev_bit : ∀ (a : By) (b : Bool), (a.val * 2 % 256) ^^^ (if b then 1 else 0) = a.val * 2 % 256 + (if b then 1 else 0) := by decide +kernel
theorem hb_of (c : By) : c.val / 128 = if decide (128 ≤ c.val) = true then 1 else 0 := by
  have := c.2
  by_cases q : 128 ≤ c.val
  · rw [decide_eq_true q, if_pos rfl]; omega
  · rw [decide_eq_false q, if_neg (by decide)]; omega
theorem sh_parts (a c : By) : sh a c = xr (sh a 0) (sh 0 c) := by
  apply Fin.ext
  show a.val * 2 % 256 + c.val / 128 = (a.val * 2 % 256 + 0 / 128) ^^^ (0 * 2 % 256 + c.val / 128)
  rw [Nat.zero_div, Nat.add_zero, Nat.zero_mul, Nat.zero_mod, Nat.zero_add, hb_of c]
  exact (ev_bit a (decide (128 ≤ c.val))).symm
theorem xor_div2 (a b k : Nat) : (a ^^^ b) / 2 ^ k = a / 2 ^ k ^^^ b / 2 ^ k := by
  rw [← Nat.shiftRight_eq_div_pow, ← Nat.shiftRight_eq_div_pow, ← Nat.shiftRight_eq_div_pow, Nat.shiftRight_xor_distrib]
theorem sh_a (a b : By) : sh (xr a b) 0 = xr (sh a 0) (sh b 0) := by
  apply Fin.ext
  show (a.val ^^^ b.val) * 2 % 256 + 0 / 128 = (a.val * 2 % 256 + 0 / 128) ^^^ (b.val * 2 % 256 + 0 / 128)
  rw [Nat.zero_div, Nat.add_zero, Nat.add_zero, Nat.add_zero]
  have e : ∀ x : Nat, x * 2 = x <<< 1 := fun x => by rw [Nat.shiftLeft_eq]
  rw [e, e, e, Nat.shiftLeft_xor_distrib]
  exact Nat.xor_mod_two_pow (n := 8)
theorem sh_c (a b : By) : sh 0 (xr a b) = xr (sh 0 a) (sh 0 b) := by
  apply Fin.ext
  show 0 * 2 % 256 + (a.val ^^^ b.val) / 128 = (0 * 2 % 256 + a.val / 128) ^^^ (0 * 2 % 256 + b.val / 128)
  rw [Nat.zero_mul, Nat.zero_mod, Nat.zero_add, Nat.zero_add, Nat.zero_add]
  exact xor_div2 _ _ 7
theorem rs_sh : ∀ a : By, rs a = if (sh 0 a) = 1 then 135 else 0 := by decide +kernel
theorem sh_01 (a : By) : sh 0 a = 0 ∨ sh 0 a = 1 := by
  have := a.2
  by_cases q : 128 ≤ a.val
  · right; apply Fin.ext; show 0 * 2 % 256 + a.val / 128 = 1; omega
  · left; apply Fin.ext; show 0 * 2 % 256 + a.val / 128 = 0; omega
theorem rs_x (a b : By) : rs (xr a b) = xr (rs a) (rs b) := by
  rw [rs_sh, rs_sh a, rs_sh b, sh_c]
  rcases sh_01 a with h | h <;> rcases sh_01 b with h' | h' <;> rw [h, h'] <;> decide
theorem xr_swap (a b c d : By) : xr (xr a b) (xr c d) = xr (xr a c) (xr b d) := by
  rw [xr_assoc, xr_assoc, ← xr_assoc b, xr_comm b c, xr_assoc]
theorem sh_x (a b c d : By) : sh (xr a b) (xr c d) = xr (sh a c) (sh b d) := by
  rw [sh_parts (xr a b), sh_parts a c, sh_parts b d, sh_a, sh_c, xr_swap]
theorem tw_pl (f g : Nat → By) (j : Nat) : tw (pl f g) j = pl (tw f) (tw g) j := by
  unfold pl tw
  by_cases e : j = 15
  · have h0 : sh (xr (f 15) (g 15)) 0 = xr (sh (f 15) 0) (sh (g 15) 0) := sh_a _ _
    rw [if_pos e, if_pos e, if_pos e, h0, rs_x, xr_swap]
  · rw [if_neg e, if_neg e, if_neg e, sh_x]
set_option maxHeartbeats 1000000 in
theorem dbl_nn (a b X Y : ByteArray) (e f : Int) (ha : ¬ a.size = 16) (he : e = 10) (hb : ¬ b.size = 16) (hf : f = 10) (w : World)
    (C14 : ∀ W, Calls Try.prog 14 #[.string a] W fun q w' => q = .returned (.tuple #[.string X, .int .i64 e]) ∧ Below W.heap.size W w')
    (C14' : ∀ W, Calls Try.prog 14 #[.string b] W fun q w' => q = .returned (.tuple #[.string Y, .int .i64 f]) ∧ Below W.heap.size W w')
    (C9 : ∀ W, Calls Try.prog 9 #[] W fun e w' => e = .returned (.bool true) ∧ Below W.heap.size W w') :
    Calls Try.prog 7 #[.string a, .string b] w fun e w' => e = .returned (.bool true) ∧ Below w.heap.size w w' := by
  have a1 : (((a.size : Int)) == 16) = false := by simp; omega
  have a2 : ¬ (a.size : Int) = 16 := by omega
  have b1 : (((b.size : Int)) == 16) = false := by simp; omega
  have b2 : ¬ (b.size : Int) = 16 := by omega
  subst he
  subst hf
  go_enter Try.func7, Try.ntmps7
  go_wp2_with fail
  refine (C14 _).mono ?_
  rintro q w1 ⟨rfl, hb1⟩
  go_wp2_with fail
  refine (C14' _).mono ?_
  rintro q w2 ⟨rfl, hb2⟩
  replace hb2 := Bel.call hb1 hb2
  clear hb1 C14 C14'
  go_wp2_with fail
  refine (C9 _).mono ?_
  rintro q w3 ⟨rfl, hb3⟩
  replace hb3 := Bel.call hb2 hb3
  go_wp2_with fail
  go_ret
  exact ⟨rfl, hb3⟩
set_option maxHeartbeats 1000000 in
theorem dbl_ny (a b X Y : ByteArray) (e f : Int) (ha : ¬ a.size = 16) (he : e = 10) (hb : b.size = 16) (hf : f = 0) (w : World)
    (C14 : ∀ W, Calls Try.prog 14 #[.string a] W fun q w' => q = .returned (.tuple #[.string X, .int .i64 e]) ∧ Below W.heap.size W w')
    (C14' : ∀ W, Calls Try.prog 14 #[.string b] W fun q w' => q = .returned (.tuple #[.string Y, .int .i64 f]) ∧ Below W.heap.size W w')
    (C9 : ∀ W, Calls Try.prog 9 #[] W fun e w' => e = .returned (.bool true) ∧ Below W.heap.size W w') :
    Calls Try.prog 7 #[.string a, .string b] w fun e w' => e = .returned (.bool true) ∧ Below w.heap.size w w' := by
  have a1 : (((a.size : Int)) == 16) = false := by simp; omega
  have a2 : ¬ (a.size : Int) = 16 := by omega
  have b1 : (b.size : Int) = 16 := by omega
  subst he
  subst hf
  go_enter Try.func7, Try.ntmps7
  go_wp2_with fail
  refine (C14 _).mono ?_
  rintro q w1 ⟨rfl, hb1⟩
  go_wp2_with fail
  refine (C14' _).mono ?_
  rintro q w2 ⟨rfl, hb2⟩
  replace hb2 := Bel.call hb1 hb2
  clear hb1 C14 C14'
  go_wp2_with fail
  refine (C9 _).mono ?_
  rintro q w3 ⟨rfl, hb3⟩
  replace hb3 := Bel.call hb2 hb3
  go_wp2_with fail
  go_ret
  exact ⟨rfl, hb3⟩
set_option maxHeartbeats 1000000 in
theorem dbl_yn (a b X Y : ByteArray) (e f : Int) (ha : a.size = 16) (he : e = 0) (hb : ¬ b.size = 16) (hf : f = 10) (w : World)
    (C14 : ∀ W, Calls Try.prog 14 #[.string a] W fun q w' => q = .returned (.tuple #[.string X, .int .i64 e]) ∧ Below W.heap.size W w')
    (C14' : ∀ W, Calls Try.prog 14 #[.string b] W fun q w' => q = .returned (.tuple #[.string Y, .int .i64 f]) ∧ Below W.heap.size W w')
    (C9 : ∀ W, Calls Try.prog 9 #[] W fun e w' => e = .returned (.bool true) ∧ Below W.heap.size W w') :
    Calls Try.prog 7 #[.string a, .string b] w fun e w' => e = .returned (.bool true) ∧ Below w.heap.size w w' := by
  have a1 : (a.size : Int) = 16 := by omega
  have b1 : (((b.size : Int)) == 16) = false := by simp; omega
  have b2 : ¬ (b.size : Int) = 16 := by omega
  subst he
  subst hf
  go_enter Try.func7, Try.ntmps7
  go_wp2_with fail
  refine (C14 _).mono ?_
  rintro q w1 ⟨rfl, hb1⟩
  go_wp2_with fail
  refine (C14' _).mono ?_
  rintro q w2 ⟨rfl, hb2⟩
  replace hb2 := Bel.call hb1 hb2
  clear hb1 C14 C14'
  go_wp2_with fail
  refine (C9 _).mono ?_
  rintro q w3 ⟨rfl, hb3⟩
  replace hb3 := Bel.call hb2 hb3
  go_wp2_with fail
  go_ret
  exact ⟨rfl, hb3⟩
set_option maxHeartbeats 2000000 in
theorem dbl_yy (a b X Y P Z : ByteArray) (ha : a.size = 16) (hb : b.size = 16) (hX : X.size = 16) (hY : Y.size = 16) (hP : tx (pl (bF a) (bF b)) = P) (hZ : tx (pl (bF X) (bF Y)) = Z) (w : World)
    (C14 : ∀ W, Calls Try.prog 14 #[.string a] W fun q w' => q = .returned (.tuple #[.string X, .int .i64 0]) ∧ Below W.heap.size W w')
    (C14' : ∀ W, Calls Try.prog 14 #[.string b] W fun q w' => q = .returned (.tuple #[.string Y, .int .i64 0]) ∧ Below W.heap.size W w')
    (C14p : ∀ W, Calls Try.prog 14 #[.string P] W fun q w' => q = .returned (.tuple #[.string Z, .int .i64 0]) ∧ Below W.heap.size W w')
    (C9 : ∀ W, Calls Try.prog 9 #[] W fun e w' => e = .returned (.bool true) ∧ Below W.heap.size W w') :
    Calls Try.prog 7 #[.string a, .string b] w fun e w' => e = .returned (.bool true) ∧ Below w.heap.size w w' := by
  have a1 : (a.size : Int) = 16 := by omega
  have b1 : (b.size : Int) = 16 := by omega
  have y1 : (Y.size : Int) = 16 := by omega
  go_enter Try.func7, Try.ntmps7
  go_wp2_with fail
  refine (C14 _).mono ?_
  rintro q w1 ⟨rfl, hb1⟩
  go_wp2_with fail
  refine (C14' _).mono ?_
  rintro q w2 ⟨rfl, hb2⟩
  replace hb2 := Bel.call hb1 hb2
  clear hb1 C14 C14'
  obtain ⟨cap1, w3, hcv1, A1, hg1, B1⟩ := conv_row w2 a
  obtain ⟨cap2, w4, hcv2, A2, hg2, B2⟩ := conv_row w3 X
  rw [ha] at hcv1 A1
  rw [hX] at hcv2 A2
  replace A1 : Arr _ _ 16 _ := A1.to' (n := 15) B2
  have hs2 := hb2.size
  replace hb2 := Bel.call (Bel.call hb2 B1) B2
  have hgg : w.heap.size ≤ w3.heap.size := Nat.le_trans hs2 (Nat.le_of_lt hg1)
  clear B1 B2 ha hX
  go_wp2_with fail
  clear hcv1 hcv2
  have np : w2.heap.size ≠ w3.heap.size := by omega
  generalize w2.heap.size = g1 at *
  generalize w3.heap.size = g2 at *
  go_loopw [59] (fun i wr => ∃ k : Nat, k ≤ 16 ∧ i = .int .i64 k ∧ Below w.heap.size w wr ∧ Arr wr g1 16 (vc (crF (bF a) (bF b) k)) ∧ Arr wr g2 16 (vc (crF (bF X) (bF Y) k))) (fun i _ => 16 - (intOf i).toNat)
  case atStart => exact ⟨0, by omega, rfl, hb2, A1.congr fun j _ => vc_congr (by unfold crF; rw [if_neg (by omega)]), A2.congr fun j _ => vc_congr (by unfold crF; rw [if_neg (by omega)])⟩
  case round =>
    clear A1 A2 hb2
    obtain ⟨k, hk, rfl, hB, A1, A2⟩ := hrel
    by_cases hlt : k < 16
    · have k0 : (0 : Int) ≤ (k : Int) := by omega
      have k1 : (k : Int) < 16 := by omega
      have I1 := fun W => idxS b k (by omega) W
      have I2 := fun W => idxS Y k (by omega) W
      rw [bF_bt] at I1 I2
      have X1 := xr8 (bF a k) (bF b k)
      have X2 := xr8 (bF X k) (bF Y k)
      have r1 := fun ds os => cell_regrown (A1.cv k hlt (.int .u8 ((bF a k).val : Int)) (by unfold vc crF; rw [if_neg (by omega)])) ds os
      have HS1 : Hid (∀ j, j < 16 → (if j = k then Value.int .u8 ((xr (bF a k) (bF b k)).val : Int) else vc (crF (bF a) (bF b) k) j) = vc (crF (bF a) (bF b) (k + 1)) j) := crF_set _ _ k 16
      have HS2 : Hid (∀ j, j < 16 → (if j = k then Value.int .u8 ((xr (bF X k) (bF Y k)).val : Int) else vc (crF (bF X) (bF Y) k) j) = vc (crF (bF X) (bF Y) (k + 1)) j) := crF_set _ _ k 16
      generalize xr (bF a k) (bF b k) = c1 at *
      generalize xr (bF X k) (bF Y k) = c2 at *
      go_upto_region 13 with (fail)
      refine wp_region_below_tail 9 (by kernel_rfl) (by kernel_rfl) ?_
      simp only [List.take_succ_cons, List.take_zero, List.drop_succ_cons, List.drop_zero]
      repeat (go_big_quiet_step (fail))
      refine wpQuiet_nil ?_
      intro w5 hw'
      obtain ⟨⟨dq, osq⟩, hw''⟩ := hw'
      have hb := below_of hw''
      clear hw'' r1 I1 X1
      replace hB := Bel.call hB hb
      replace A1 : Arr _ _ 16 _ := A1.to' (n := 15) hb
      replace A2 : Arr _ _ 16 _ := A2.to' (n := 15) hb
      clear hb
      have c0 := A1.c k hlt
      have z0 := A1.z k hlt
      go_upto_region 14 with (fail)
      replace A1 := (A1.set k hlt (.int .u8 (c1.val : Int))).congr HS1.out
      replace A2 := A2.other (b' := g1) (k := k) (by omega) (.int .u8 (c1.val : Int))
      replace hB := Bel.st hB (b := g1) (k := k) (by omega) (.int .u8 (c1.val : Int))
      clear c0 z0
      generalize w5.setCell ⟨g1, k, none⟩ (.int .u8 (c1.val : Int)) = w6 at *
      have r1 := fun ds os => cell_regrown (A2.cv k hlt (.int .u8 ((bF X k).val : Int)) (by unfold vc crF; rw [if_neg (by omega)])) ds os
      refine wp_region_below_tail 9 (by kernel_rfl) (by kernel_rfl) ?_
      simp only [List.take_succ_cons, List.take_zero, List.drop_succ_cons, List.drop_zero]
      repeat (go_big_quiet_step (fail))
      refine wpQuiet_nil ?_
      intro w7 hw'
      obtain ⟨⟨dq, osq⟩, hw''⟩ := hw'
      have hb := below_of hw''
      clear hw'' r1 I2 X2
      replace hB := Bel.call hB hb
      replace A1 : Arr _ _ 16 _ := A1.to' (n := 15) hb
      replace A2 : Arr _ _ 16 _ := A2.to' (n := 15) hb
      clear hb
      have c0 := A2.c k hlt
      have z0 := A2.z k hlt
      go_wp2_with fail
      exact ⟨⟨k + 1, by omega, by go_num, Bel.st hB (by omega) _, A1.other (by omega) _, (A2.set k hlt _).congr HS2.out⟩, by simp [intOf]; omega⟩
    · have e : k = 16 := by omega
      rw [show ((k : Nat) : Int) = 16 by omega]
      subst e
      have k1 : ¬ (16 : Int) < 16 := by omega
      replace A1 := A1.congr fun j hj => vc_congr (g := pl (bF a) (bF b)) (by unfold crF pl; rw [if_pos hj])
      replace A2 := A2.congr fun j hj => vc_congr (g := pl (bF X) (bF Y)) (by unfold crF pl; rw [if_pos hj])
      have cv1 := conv_vtx wr g1 cap1 _ A1
      rw [hP] at cv1
      clear A1 hP
      go_wp2_with fail
      refine (C14p _).mono ?_
      rintro q w8 ⟨rfl, hb8⟩
      replace A2 : Arr _ _ 16 _ := A2.to' (n := 15) hb8
      replace hb8 := Bel.call hB hb8
      have cv2 := conv_vtx w8 g2 cap2 _ A2
      rw [hZ] at cv2
      clear A2 hZ hB cv1 C14p
      go_wp2_with fail
      refine (C9 _).mono ?_
      rintro q w9 ⟨rfl, hb9⟩
      replace hb9 := Bel.call hb8 hb9
      go_wp2_with fail
      go_ret
      exact ⟨rfl, hb9⟩
theorem doubles_law (a b : ByteArray) (w : World) :
    Calls Try.prog 7 #[.string a, .string b] w fun e w' => e = .returned (.bool true) ∧ Below w.heap.size w w' := by
  have C14 := fun W => sTwice_any a W
  have C14' := fun W => sTwice_any b W
  by_cases ha : a.size = 16
  · have ea : twE a = 0 := by unfold twE; rw [if_pos ha]
    have sa : twS a = tx (tw (bF a)) := by unfold twS; rw [if_pos ha]
    by_cases hb : b.size = 16
    · have eb : twE b = 0 := by unfold twE; rw [if_pos hb]
      have sb' : twS b = tx (tw (bF b)) := by unfold twS; rw [if_pos hb]
      rw [ea, sa] at C14
      rw [eb, sb'] at C14'
      have eP : twE (tx (pl (bF a) (bF b))) = 0 := by unfold twE; rw [if_pos (tx_size _)]
      have C := fun W => sTwice_any (tx (pl (bF a) (bF b))) W
      have sP : twS (tx (pl (bF a) (bF b))) = tx (pl (bF (tx (tw (bF a)))) (bF (tx (tw (bF b))))) := by
        unfold twS
        rw [if_pos (tx_size _)]
        refine tx_congr fun j hj => ?_
        rw [tw_congr (fun i hi => bF_tx _ i hi) j hj, tw_pl]
        exact pl_congr (fun i hi => (bF_tx _ i hi).symm) (fun i hi => (bF_tx _ i hi).symm) j hj
      rw [eP, sP] at C
      exact dbl_yy a b _ _ _ _ ha hb (tx_size _) (tx_size _) rfl rfl w C14 C14' C (fun W => awake_any W)
    · exact dbl_yn a b _ _ _ _ ha ea hb (by unfold twE; rw [if_neg hb]) w C14 C14' (fun W => awake_any W)
  · have ea : twE a = 10 := by unfold twE; rw [if_neg ha]
    by_cases hb : b.size = 16
    · exact dbl_ny a b _ _ _ _ ha ea hb (by unfold twE; rw [if_pos hb]) w C14 C14' (fun W => awake_any W)
    · exact dbl_nn a b _ _ _ _ ha ea hb (by unfold twE; rw [if_neg hb]) w C14 C14' (fun W => awake_any W)
end Go.Proofs.Ytogkijjmimaccaa
