/- Texts joined: U1, U2. -/
import Derived.Test.YtogkijjmimaccaaJ24
import Derived.Test.YtogkijjmimaccaaJ32
import Derived.Test.YtogkijjmimaccaaJ25
/- The reference: bytes 0, blocks doubled, texts filled up, texts xor each other. -/
set_option linter.all false
set_option maxRecDepth 100000
namespace Go.Proofs.Ytogkijjmimaccaa
open Go.RowKit Go.Sort Lin
set_option maxHeartbeats 1000000 in
theorem rXor_any (a b : ByteArray) (hab : a.size ≤ b.size) (ha : a.size ≤ 1000000) (w : World) :
    Calls Try.prog 28 #[.string a, .string b] w fun e w' => e = .returned (.string (xS a b)) ∧ Below w.heap.size w w' := by
  obtain ⟨i0, hi, hi0, hi1, hi2⟩ := info_parts Try.info5
  have mk := run_make (P := Try.prog) w 38 5 i0 (.int .u8 0) Try.underlying38 hi hi0 .i64 .i64 a.size a.size (by omega) (by omega) (by rw [hi2]; omega) (by omega)
  rw [hi1] at mk
  have A0 : Arr (w.alloc (.cells (madeCells #[.int .u8 0] a.size) 5)) w.heap.size a.size (bm (plF (bF a) (bF b)) (fun _ => 0) 0) := Arr.new _ _ 5 _ rfl _ _ (fun j hj => by unfold bm; rw [if_neg (by omega)]; exact made_at _ j hj)
  have B0 : Below w.heap.size w (w.alloc (.cells (madeCells #[.int .u8 0] a.size) 5)) := Bel.al (Below.refl _ w) _
  have l0 : w.heap.size < (w.alloc (.cells (madeCells #[.int .u8 0] a.size) 5)).heap.size := by simp
  have a1 : (a.size : Int) ≤ 1000000 := by omega
  go_enter Try.func28, Try.ntmps28
  go_wp2_with fail
  clear mk hi hi0 hi1 hi2
  go_loopw [6] (fun z wr => ∃ k : Nat, k ≤ a.size ∧ z = .int .i64 k ∧ Below w.heap.size w wr ∧ w.heap.size < wr.heap.size ∧ Arr wr w.heap.size a.size (bm (plF (bF a) (bF b)) (fun _ => 0) k)) (fun z _ => a.size - (intOf z).toNat)
  case atStart => exact ⟨0, by omega, rfl, B0, l0, A0⟩
  case round =>
    clear A0 B0 l0
    obtain ⟨k, hk, rfl, hB, hl, A⟩ := hrel
    by_cases hlt : k < a.size
    · have k0 : (0 : Int) ≤ (k : Int) := by omega
      have k1 : (k : Int) < (a.size : Int) := by omega
      have I1 := fun W => idxS a k hlt W
      have I2 := fun W => idxS b k (by omega) W
      rw [bF_bt] at I1 I2
      have X := xr8 (bF a k) (bF b k)
      have HX : Hid (xr (bF a k) (bF b k) = plF (bF a) (bF b) k) := rfl
      generalize xr (bF a k) (bF b k) = c at *
      go_wp2_with fail
      refine wp_region_below_tail 10 (by kernel_rfl) (by kernel_rfl) ?_
      simp only [List.take_succ_cons, List.take_zero, List.drop_succ_cons, List.drop_zero]
      repeat (go_big_quiet_step (fail))
      refine wpQuiet_nil ?_
      intro w3 hw'
      obtain ⟨⟨dq, osq⟩, hw''⟩ := hw'
      have hb := below_of hw''
      clear hw'' I1 I2 X
      have A3 := A.below hb hl
      have hB3 := Bel.call hB hb
      have hl3 : w.heap.size < w3.heap.size := Nat.lt_of_lt_of_le hl hb.size
      clear A hB hb
      have c0 := A3.c k hlt
      have z0 := A3.z k hlt
      go_wp2_with fail
      refine ⟨⟨k + 1, by omega, by go_num, Bel.st hB3 (by omega) _, by rw [size_set]; exact hl3, (A3.set k hlt _).congr fun j hj => ?_⟩, by simp [intOf]; omega⟩
      unfold bm
      by_cases e : j = k
      · subst e; rw [if_pos rfl, if_pos (by omega), HX.out]
      · rw [if_neg e]
        by_cases e2 : j < k
        · rw [if_pos e2, if_pos (by omega)]
        · rw [if_neg e2, if_neg (by omega)]
    · have e : k = a.size := by omega
      have cv := convC wr w.heap.size a.size a.size (xL a.size (bF a) (bF b)) (by simp [xL]) (by
        intro j q hq
        rw [Addr.add_mid, Nat.zero_add]
        have hj : j < a.size := by have := (List.getElem?_eq_some_iff.1 hq).1; simpa [xL] using this
        rw [A.c j hj, ← hq]
        unfold bm
        rw [if_pos (by omega)]
        simp [xL, hj, plF])
      have k1 : ¬ (k : Int) < (a.size : Int) := by omega
      rw [show mkS (xL a.size (bF a) (bF b)) = xS a b from rfl] at cv
      obtain ⟨T, hT⟩ : ∃ T, xS a b = T := ⟨_, rfl⟩
      rw [hT] at cv
      have HT : Hid (xS a b = T) := hT
      clear A hT
      go_wp2_with fail
      go_ret
      exact ⟨by rw [HT.out]; rfl, hB⟩
theorem xS_bF (a b : ByteArray) (j : Nat) (hj : j < a.size) : bF (xS a b) j = xr (bF a j) (bF b j) := by
  apply Fin.ext
  have := mkS_bt (xL a.size (bF a) (bF b)) j ((xr (bF a j) (bF b j)).val : Int) (by simp [xL, hj]) (by omega) (by have := (xr (bF a j) (bF b j)).2; omega)
  have e := bF_bt (xS a b) j
  unfold xS at e ⊢
  omega
theorem text_ext {a b : ByteArray} (hs : a.size = b.size) (h : ∀ j, j < a.size → bF a j = bF b j) : a = b := by
  apply ba_ext
  apply List.ext_getElem?
  intro j
  by_cases hj : j < a.size
  · have e := h j hj
    have h1 : j < a.data.size := hj
    have h2 : j < b.data.size := by show j < b.size; omega
    rw [Array.getElem?_toList, Array.getElem?_toList, Array.getElem?_eq_getElem h1, Array.getElem?_eq_getElem h2]
    have v := congrArg Fin.val e
    simp only [bF, bt, Array.getElem?_eq_getElem h1, Array.getElem?_eq_getElem h2, Option.getD_some, Int.toNat_natCast] at v
    exact congrArg some (UInt8.toNat_inj.1 v)
  · rw [List.getElem?_eq_none (by rw [len_list]; omega), List.getElem?_eq_none (by rw [len_list]; omega)]
/-- k bytes 0. -/
def zrs (k : Nat) : ByteArray := mkS (List.replicate k 0)
theorem zrs_size (k : Nat) : (zrs k).size = k := by unfold zrs; rw [mkS_size]; simp
theorem zS_zrs : zS = zrs 16 := by
  apply ba_ext
  unfold zS tx zrs
  rw [mkS_list, mkS_list]
  rfl
theorem oS_zrs : zrs 15 ++ ⟨#[1]⟩ = oS := by
  apply ba_ext
  unfold oS tx zrs
  rw [ap_list, mkS_list, mkS_list]
  decide
set_option maxHeartbeats 1000000 in
theorem rzeros_any (k : Nat) (hk : k ≤ 1000) (w : World) : Calls Try.prog 27 #[.int .i64 (k : Int)] w fun e w' => e = .returned (.string (zrs k)) ∧ Below w.heap.size w w' := by
  obtain ⟨i0, hi, hi0, hi1, hi2⟩ := info_parts Try.info5
  have mk := run_make (P := Try.prog) w 38 5 i0 (.int .u8 0) Try.underlying38 hi hi0 .i64 .i64 k k (by omega) (by omega) (by rw [hi2]; omega) (by omega)
  rw [hi1] at mk
  have k0 : (0 : Int) ≤ (k : Int) := by omega
  have k1 : (k : Int) ≤ 1000 := by omega
  have B0 : Below w.heap.size w (w.alloc (.cells (madeCells #[.int .u8 0] k) 5)) := Bel.al (Below.refl _ w) _
  have cv := convC (w.alloc (.cells (madeCells #[.int .u8 0] k) 5)) w.heap.size k k (List.replicate k 0) (by simp) (by
    intro j q hq
    rw [Addr.add_mid, Nat.zero_add]
    have hj : j < k := by have := (List.getElem?_eq_some_iff.1 hq).1; simpa using this
    rw [World.cell?_alloc_at (w := w) _ 5 _ j rfl, made_at k j hj, ← hq]
    simp [hj])
  rw [show mkS (List.replicate k 0) = zrs k from rfl] at cv
  generalize zrs k = T at *
  go_enter Try.func27, Try.ntmps27
  go_wp2_with fail
  go_ret
  exact ⟨rfl, B0⟩
/-- Doubled, but for what is taken modulo. -/
def th (f : Nat → By) (j : Nat) : By := if j = 15 then sh (f 15) 0 else sh (f j) (f (j + 1))
theorem th_hi (f : Nat → By) (h : 128 ≤ (f 0).val) : ∀ j, j < 16 → (if j = 15 then Value.int .u8 ((xr (th f 15) 135).val : Int) else vc (th f) j) = vc (tw f) j := fun j hj => by
  unfold vc tw
  by_cases e : j = 15
  · rw [if_pos e, if_pos e]; unfold th rs; rw [if_pos rfl, if_pos h]
  · rw [if_neg e, if_neg e]; unfold th; rw [if_neg e]
theorem th_lo (f : Nat → By) (h : ¬ 128 ≤ (f 0).val) (j : Nat) : th f j = tw f j := by
  unfold th tw rs
  by_cases e : j = 15
  · rw [if_pos e, if_pos e, if_neg h, xr_zero]
  · rw [if_neg e, if_neg e]
set_option maxHeartbeats 2000000 in
theorem rtwice_core (s : ByteArray) (hs : s.size = 16) (f : Nat → By) (hf : ∀ j, bt s j = ((f j).val : Int)) (T : ByteArray) (hT : tx (tw f) = T) (w : World) :
    Calls Try.prog 29 #[.string s] w fun e w' => e = .returned (.string T) ∧ Below w.heap.size w w' := by
  obtain ⟨i0, hi, hi0, hi1, hi2⟩ := info_parts Try.info5
  have mk := run_make (P := Try.prog) w 38 5 i0 (.int .u8 0) Try.underlying38 hi hi0 .i64 .i64 16 16 (by omega) (by omega) (by rw [hi2]; omega) (by omega)
  rw [hi1] at mk
  have A0 : Arr (w.alloc (.cells (madeCells #[.int .u8 0] 16) 5)) w.heap.size 16 (vc (md (th f) (fun _ => 0) 0)) := Arr.new _ _ 5 _ rfl _ _ (fun j hj => by unfold vc; rw [md_0]; exact made_at _ j hj)
  have B0 : Below w.heap.size w (w.alloc (.cells (madeCells #[.int .u8 0] 16) 5)) := Bel.al (Below.refl _ w) _
  have s1 : (s.size : Int) = 16 := by omega
  go_enter Try.func29, Try.ntmps29
  go_wp2_with fail
  clear mk hi hi0 hi1 hi2
  go_loopw [4] (fun z wr => ∃ k : Nat, k ≤ 16 ∧ z = .int .i64 k ∧ Below w.heap.size w wr ∧ Arr wr w.heap.size 16 (vc (md (th f) (fun _ => 0) k))) (fun z _ => 16 - (intOf z).toNat)
  case atStart => exact ⟨0, by omega, rfl, B0, A0⟩
  case round =>
    clear A0 B0
    obtain ⟨k, hk, rfl, hB, A⟩ := hrel
    by_cases hlt : k < 16
    · have k0 : (0 : Int) ≤ (k : Int) := by omega
      have k1 : (k : Int) < 16 := by omega
      have I1 := fun W => idxS s k (by omega) W
      rw [hf] at I1
      have b1 := (f k).2
      have hs0 := sh_0 (f k)
      have c0 := A.c k hlt
      have z0 := A.z k hlt
      have HM : Hid (∀ v : By, v = th f k → ∀ j, j < 16 → (if j = k then Value.int .u8 (v.val : Int) else vc (md (th f) (fun _ => 0) k) j) = vc (md (th f) (fun _ => 0) (k + 1)) j) := fun v hv => by rw [hv]; exact md_set (th f) (fun _ => 0) k 16
      by_cases h15 : k < 15
      · have k2 : (k : Int) < 15 := by omega
        have e1 : ((k + 1 : Nat) : Int) = (k : Int) + 1 := by omega
        have I2 := fun W => idxS s (k + 1) (by omega) W
        rw [hf, e1] at I2
        have b2 := (f (k + 1)).2
        have O := sh_or (f k) (f (k + 1))
        have HT : Hid (sh (f k) (f (k + 1)) = th f k) := by show _ = _; unfold th; rw [if_neg (by omega)]
        go_upto_region 7 with (fail)
        replace hB := Bel.st hB (b := w.heap.size) (k := k) (by omega) (.int .u8 (((f k).val : Int) * 2 % 256))
        have A2 := A.set k hlt (.int .u8 (((f k).val : Int) * 2 % 256))
        clear c0 z0 A
        generalize wr.setCell ⟨w.heap.size, k, none⟩ (.int .u8 (((f k).val : Int) * 2 % 256)) = W2 at *
        have r0 := fun ds os => cell_regrown (A2.cv k hlt (.int .u8 ((sh (f k) 0).val : Int)) (by rw [if_pos rfl, hs0])) ds os
        clear hs0
        generalize sh (f k) (f (k + 1)) = c at *
        generalize sh (f k) 0 = c' at *
        refine wp_region_below_tail 13 (by kernel_rfl) (by kernel_rfl) ?_
        simp only [List.take_succ_cons, List.take_zero, List.drop_succ_cons, List.drop_zero]
        repeat (go_big_quiet_step (fail))
        refine wpQuiet_nil ?_
        intro w3 hw'
        obtain ⟨⟨dq, osq⟩, hw''⟩ := hw'
        have hb := below_of hw''
        clear hw'' I1 I2 O r0
        have A3 : Arr _ _ 16 _ := A2.to' (n := 15) hb
        replace hB := Bel.call hB hb
        clear A2 hb
        have c0 := A3.c k hlt
        have z0 := A3.z k hlt
        rw [if_pos rfl] at c0
        go_wp2_with fail
        refine ⟨⟨k + 1, by omega, by go_num, Bel.st hB (by omega) _, (A3.set k hlt (.int .u8 (c.val : Int))).congr fun j hj => ?_⟩, by simp [intOf]; omega⟩
        rw [← HM.out c HT.out j hj]
        by_cases e : j = k
        · rw [if_pos e, if_pos e]
        · rw [if_neg e, if_neg e, if_neg e]
      · have k2 : ¬ (k : Int) < 15 := by omega
        have HT : Hid (sh (f k) 0 = th f k) := by show _ = _; unfold th; rw [if_pos (by omega), show k = 15 by omega]
        clear h15
        go_wp2_with fail
        refine ⟨⟨k + 1, by omega, by go_num, Bel.st hB (by omega) _, ?_⟩, by simp [intOf]; omega⟩
        rw [← hs0]
        exact (A.set k hlt _).congr (HM.out _ HT.out)
    · have e : k = 16 := by omega
      rw [show ((k : Nat) : Int) = 16 by omega]
      subst e
      replace A := A.congr fun j hj => vc_congr (md_all (th f) (fun _ => 0) j hj)
      have I0 := fun W => idxS s 0 (by omega) W
      rw [hf, show ((0 : Nat) : Int) = 0 from rfl] at I0
      have b0 := (f 0).2
      by_cases h : 128 ≤ (f 0).val
      · have q1 : (128 : Int) ≤ ((f 0).val : Int) := by omega
        have c0 := A.cv 15 (by omega) (.int .u8 ((th f 15).val : Int)) rfl
        have z0 := A.z 15 (by omega)
        have X := xr8 (th f 15) 135
        rw [show (((135 : By).val : Nat) : Int) = 135 from rfl] at X
        have A2 := (A.set 15 (by omega) (.int .u8 ((xr (th f 15) 135).val : Int))).congr (th_hi f h)
        have cv := conv_vtx _ _ 16 (tw f) A2
        rw [hT] at cv
        generalize xr (th f 15) 135 = c at *
        clear A A2 h hT
        go_wp2_with fail
        go_ret
        exact ⟨rfl, Bel.st hB (by omega) _⟩
      · have q1 : ¬ (128 : Int) ≤ ((f 0).val : Int) := by omega
        have A2 := A.congr fun j _ => vc_congr (th_lo f h j)
        have cv := conv_vtx _ _ 16 (tw f) A2
        rw [hT] at cv
        clear A A2 h hT
        go_wp2_with fail
        go_ret
        exact ⟨rfl, hB⟩
theorem rtwice_any (s : ByteArray) (hs : s.size = 16) (w : World) : Calls Try.prog 29 #[.string s] w fun e w' => e = .returned (.string (tx (tw (bF s)))) ∧ Below w.heap.size w w' :=
  rtwice_core s hs (bF s) (fun j => bF_bt s j) _ rfl w
theorem tw_congr {f g : Nat → By} (h : ∀ j, j < 16 → f j = g j) (j : Nat) (hj : j < 16) : tw f j = tw g j := by
  unfold tw
  by_cases e : j = 15
  · rw [if_pos e, if_pos e, h 15 (by omega), h 0 (by omega)]
  · rw [if_neg e, if_neg e, h j hj, h (j + 1) (by omega)]
theorem pl_congr {f g f' g' : Nat → By} (h : ∀ j, j < 16 → f j = g j) (h' : ∀ j, j < 16 → f' j = g' j) (j : Nat) (hj : j < 16) : pl f f' j = pl g g' j := by unfold pl; rw [h j hj, h' j hj]
/-- Doubled, of a block's text. -/
theorem rtwice_tx (f : Nat → By) (w : World) : Calls Try.prog 29 #[.string (tx f)] w fun e w' => e = .returned (.string (tx (tw f))) ∧ Below w.heap.size w w' := by
  have := rtwice_any (tx f) (tx_size f) w
  rwa [tx_congr (tw_congr (fun j hj => bF_tx f j hj))] at this
set_option maxHeartbeats 1000000 in
theorem rTwice_yes (s : ByteArray) (hs : s.size = 16) (T : ByteArray) (w : World)
    (C29 : ∀ W, Calls Try.prog 29 #[.string s] W fun e w' => e = .returned (.string T) ∧ Below W.heap.size W w') :
    Calls Try.prog 15 #[.string s] w fun e w' => e = .returned (.tuple #[.string T, .int .i64 0]) ∧ Below w.heap.size w w' := by
  have s1 : (s.size : Int) = 16 := by omega
  go_enter Try.func15, Try.ntmps15
  go_wp2_with fail
  refine (C29 _).mono ?_
  rintro e w1 ⟨rfl, hb⟩
  go_wp2_with fail
  exact bodyPost_ret (v := .tuple #[.string T, .int .i64 0]) (by simp [results, Try.results15, go_sem]) rfl ⟨rfl, hb⟩
set_option maxHeartbeats 1000000 in
theorem rTwice_no (s : ByteArray) (hs : ¬ s.size = 16) (w : World) :
    Calls Try.prog 15 #[.string s] w fun e w' => e = .returned (.tuple #[.string ⟨#[]⟩, .int .i64 10]) ∧ Below w.heap.size w w' := by
  have s1 : ¬ (s.size : Int) = 16 := by omega
  clear hs
  go_enter Try.func15, Try.ntmps15
  go_wp2_with fail
  exact bodyPost_ret (v := .tuple #[.string ⟨#[]⟩, .int .i64 10]) (by simp [results, Try.results15, go_sem]) rfl ⟨rfl, Below.refl _ _⟩
theorem rTwice_any (s : ByteArray) (w : World) : Calls Try.prog 15 #[.string s] w fun e w' => e = .returned (.tuple #[.string (twS s), .int .i64 (twE s)]) ∧ Below w.heap.size w w' := by
  unfold twS twE
  by_cases h : s.size = 16
  · rw [if_pos h, if_pos h]
    exact rTwice_yes s h _ w (fun W => rtwice_any s h W)
  · rw [if_neg h, if_neg h]
    exact rTwice_no s h w
end Go.Proofs.Ytogkijjmimaccaa
/- The reference's tags of texts. -/
set_option linter.all false
set_option maxRecDepth 100000
namespace Go.Proofs.Ytogkijjmimaccaa
open Go.RowKit Go.Sort Lin
theorem bF_lo (a b : ByteArray) (j : Nat) (h : j < a.size) : bF (a ++ b) j = bF a j := by
  apply Fin.ext
  simp only [bF, bt]
  have e : (a ++ b).data[j]? = a.data[j]? := by
    rw [ByteArray.data_append, Array.getElem?_append_left (show j < a.data.size from h)]
  rw [e]
theorem bF_hi (a b : ByteArray) (j : Nat) (h : a.size ≤ j) : bF (a ++ b) j = bF b (j - a.size) := by
  apply Fin.ext
  simp only [bF, bt]
  have e : (a ++ b).data[j]? = b.data[j - a.size]? := by
    rw [ByteArray.data_append, Array.getElem?_append_right (show a.data.size ≤ j from h)]
    rfl
  rw [e]
theorem bF_cut (s : ByteArray) (j : Nat) (h : j < 16) (hs : 16 ≤ s.size) : bF (s.extract 0 16) j = bF s j := by
  apply Fin.ext
  simp only [bF]
  rw [bt_ext s 0 16 j (by omega) hs, Nat.zero_add]
theorem bF_none (s : ByteArray) (j : Nat) (h : s.size ≤ j) : bF s j = 0 := by
  apply Fin.ext
  simp only [bF, bt]
  rw [Array.getElem?_eq_none (show s.data.size ≤ j from h)]
  rfl
theorem bF_zrs (k j : Nat) : bF (zrs k) j = 0 := by
  by_cases h : j < k
  · apply Fin.ext
    have := mkS_bt (List.replicate k 0) j 0 (by simp [h]) (by omega) (by omega)
    simp only [bF]
    unfold zrs
    rw [this]
    rfl
  · exact bF_none _ _ (by rw [zrs_size]; omega)
theorem whole_is (s : ByteArray) (hs : s.size < 16) : ((s ++ ⟨#[128]⟩) ++ zrs 16).extract 0 16 = tx (flF s) := by
  have z1 : (s ++ ⟨#[128]⟩).size = s.size + 1 := by rw [app_size]; rfl
  have z2 : ((s ++ ⟨#[128]⟩) ++ zrs 16).size = s.size + 17 := by rw [app_size, z1, zrs_size]
  have z3 : (((s ++ ⟨#[128]⟩) ++ zrs 16).extract 0 16).size = 16 := by rw [ByteArray.size_extract]; omega
  refine text_ext (by rw [z3, tx_size]) (fun j hj => ?_)
  rw [z3] at hj
  rw [bF_cut _ j hj (by omega), bF_tx _ j hj]
  unfold flF
  by_cases e : j = s.size
  · rw [if_pos e, bF_lo _ _ j (by omega), bF_hi _ _ j (by omega), e, Nat.sub_self]
    rfl
  · rw [if_neg e]
    by_cases h : j < s.size
    · rw [bF_lo _ _ j (by omega), bF_lo _ _ j h]
    · rw [bF_hi _ _ j (by omega), bF_zrs, bF_none s j (by omega)]
set_option maxHeartbeats 1000000 in
theorem rwhole_core (s Z T : ByteArray) (hs : s.size < 16) (hZ : Z.size = 16) (hT : ((s ++ ⟨#[128]⟩) ++ Z).extract 0 16 = T) (w : World)
    (C27 : ∀ W, Calls Try.prog 27 #[.int .i64 16] W fun e w' => e = .returned (.string Z) ∧ Below W.heap.size W w') :
    Calls Try.prog 30 #[.string s] w fun e w' => e = .returned (.string T) ∧ Below w.heap.size w w' := by
  have s1 : (s.size : Int) < 16 := by omega
  have z1 : (Z.size : Int) = 16 := by omega
  have z2 : ((s ++ ⟨#[128]⟩ : ByteArray).size : Int) = (s.size : Int) + 1 := by rw [app_size]; rfl
  have z3 : (16 : Int) ≤ (((s ++ ⟨#[128]⟩) ++ Z : ByteArray).size : Int) := by rw [app_size]; omega
  have HT : Hid (((s ++ ⟨#[128]⟩) ++ Z).extract 0 16 = T) := hT
  clear hT
  go_enter Try.func30, Try.ntmps30
  go_wp2_with fail
  refine (C27 _).mono ?_
  rintro e w1 ⟨rfl, hb⟩
  go_wp2_with fail
  go_ret
  exact ⟨by rw [← HT.out]; rfl, hb⟩
theorem rwhole_any (s : ByteArray) (hs : s.size < 16) (w : World) : Calls Try.prog 30 #[.string s] w fun e w' => e = .returned (.string (tx (flF s))) ∧ Below w.heap.size w w' :=
  rwhole_core s (zrs 16) _ hs (zrs_size 16) (whole_is s hs) w (fun W => rzeros_any 16 (by omega) W)
theorem xS_tx (f : Nat → By) (t : ByteArray) : xS (tx f) t = tx (pl f (bF t)) := by
  have e0 : xL 16 (bF (tx f)) (bF t) = (List.range 16).map fun j => ((pl f (bF t) j).val : Int) := by
    unfold xL
    exact List.map_congr_left (fun j hj => by rw [bF_tx f j (List.mem_range.1 hj)]; rfl)
  have e1 : tx (pl f (bF t)) = mkS ((List.range 16).map fun j => ((pl f (bF t) j).val : Int)) := rfl
  unfold xS
  rw [tx_size, e0, e1]
theorem rXor_tx (f : Nat → By) (t : ByteArray) (ht : 16 ≤ t.size) (w : World) : Calls Try.prog 28 #[.string (tx f), .string t] w fun e w' => e = .returned (.string (tx (pl f (bF t)))) ∧ Below w.heap.size w w' := by
  have := rXor_any (tx f) t (by rw [tx_size]; exact ht) (by rw [tx_size]; decide) w
  rwa [xS_tx] at this
theorem encS_size (key block : ByteArray) : (encS key block).size = 16 := tx_size _
theorem tx_en (key : ByteArray) (f : Nat → By) : tx (en key f) = encS key (tx f) := tx_bF _ (encS_size _ _)
theorem rEncrypt_tx (key : ByteArray) (hk : Key key) (f : Nat → By) (w : World) : Calls Try.prog 43 #[.string key, .string (tx f)] w fun e w' => e = .returned (.tuple #[.string (tx (en key f)), .int .i64 0]) ∧ Below w.heap.size w w' := by
  have := rEncrypt_any key (tx f) w
  rwa [rfs_16 key (tx f) (tx_size f), kE_0.2 hk, if_pos rfl, ← tx_en] at this
set_option maxHeartbeats 2000000 in
theorem rcmac_core (key s : ByteArray) (hs : s.size ≤ 1000000) (w : World)
    (C27 : ∀ W, Calls Try.prog 27 #[.int .i64 16] W fun e w' => e = .returned (.string (tx (fun _ => 0))) ∧ Below W.heap.size W w')
    (C43 : ∀ f W, Calls Try.prog 43 #[.string key, .string (tx f)] W fun e w' => e = .returned (.tuple #[.string (tx (en key f)), .int .i64 0]) ∧ Below W.heap.size W w')
    (C29 : ∀ f W, Calls Try.prog 29 #[.string (tx f)] W fun e w' => e = .returned (.string (tx (tw f))) ∧ Below W.heap.size W w')
    (C28 : ∀ f (t : ByteArray), 16 ≤ t.size → ∀ W, Calls Try.prog 28 #[.string (tx f), .string t] W fun e w' => e = .returned (.string (tx (pl f (bF t)))) ∧ Below W.heap.size W w')
    (C30 : ∀ t : ByteArray, t.size < 16 → ∀ W, Calls Try.prog 30 #[.string t] W fun e w' => e = .returned (.string (tx (flF t))) ∧ Below W.heap.size W w') :
    Calls Try.prog 24 #[.string key, .string s] w fun e w' => e = .returned (.string (tx (cm key s))) ∧ Below w.heap.size w w' := by
  have K1 : Hid (k1 key = tw (en key (fun _ => 0))) := rfl
  have D43 := fun W => C43 (fun _ => 0) W
  have D29 := fun W => C29 (en key (fun _ => 0)) W
  rw [← K1.out] at D29
  have T0 : Hid (tx (fun _ => 0) = tx (tgF key (bkF s 0))) := rfl
  generalize tx (en key (fun _ => 0)) = E0 at D43 D29
  obtain ⟨K, hK⟩ : ∃ K, tx (k1 key) = K := ⟨_, rfl⟩
  rw [hK] at D29
  have HK : Hid (tx (k1 key) = K) := hK
  clear hK
  go_enter Try.func24, Try.ntmps24
  go_wp2_with fail
  refine (C27 _).mono ?_
  rintro e w1 ⟨rfl, hb1⟩
  go_wp2_with fail
  refine (D43 _).mono ?_
  rintro e w2 ⟨rfl, hb2⟩
  replace hb2 := Bel.call hb1 hb2
  clear hb1
  clear D43
  go_wp2_with fail
  refine (D29 _).mono ?_
  rintro e w3 ⟨rfl, hb3⟩
  replace hb3 := Bel.call hb2 hb3
  clear hb2
  clear D29
  go_wp2_with fail
  refine (C27 _).mono ?_
  rintro e w4 ⟨rfl, hb⟩
  replace hb := Bel.call hb3 hb
  clear hb3
  rw [T0.out]
  clear C27 T0
  go_wp2_with fail
  go_loopw [1, 8] (fun z x wr => ∃ k : Nat, k ≤ nB s ∧ z = .string (s.extract (16 * k) s.size) ∧ x = .string (tx (tgF key (bkF s k))) ∧ Below w.heap.size w wr) (fun z _ _ => szS z)
  case atStart => exact ⟨0, by omega, by rw [Nat.mul_zero, ext_all], rfl, hb⟩
  case round =>
    clear hb
    obtain ⟨k, hk, rfl, rfl, hB⟩ := hrel
    have hz : (s.extract (16 * k) s.size).size = s.size - 16 * k := by rw [ByteArray.size_extract]; omega
    have HZ : Hid ((s.extract (16 * k) s.size).extract 16 (s.extract (16 * k) s.size).size = s.extract (16 * (k + 1)) s.size) := by
      show _ = _
      rw [ext_ext]
      rfl
    have HB : Hid (tgF key (bkF s (k + 1)) = en key (pl (tgF key (bkF s k)) (bF (s.extract (16 * k) s.size)))) := by
      show _ = _
      rw [bkF_succ, tgF_app]
    by_cases hlk : k < nB s
    · have r1 : (16 : Int) < ((s.extract (16 * k) s.size).size : Int) := by unfold nB at hlk; omega
      have r2 : ((s.extract (16 * k) s.size).size : Int) ≤ 1000000 := by omega
      have r3 : 16 ≤ (s.extract (16 * k) s.size).size := by omega
      have HS : Hid (szS (.string ((s.extract (16 * k) s.size).extract 16 (s.extract (16 * k) s.size).size)) < szS (.string (s.extract (16 * k) s.size))) := by
        show ((s.extract (16 * k) s.size).extract 16 (s.extract (16 * k) s.size).size).size < (s.extract (16 * k) s.size).size
        rw [ByteArray.size_extract]
        omega
      clear hz
      generalize s.extract (16 * k) s.size = r at *
      generalize tgF key (bkF s k) = c at *
      have D28 := C28 c (r.extract 0 16) (by rw [ByteArray.size_extract]; omega)
      have e28 : tx (pl c (bF (r.extract 0 16))) = tx (pl c (bF r)) := tx_congr (pl_congr (fun _ _ => rfl) (fun j hj => bF_cut r j hj r3))
      rw [e28] at D28
      have D43 := fun W => C43 (pl c (bF r)) W
      rw [← HB.out] at D43
      clear e28 C28 C43 C29 C30
      generalize tx (pl c (bF r)) = X at *
      go_wp2_with fail
      refine (D28 _).mono ?_
      rintro e w5 ⟨rfl, hb5⟩
      replace hb5 := Bel.call hB hb5
      clear hB
      go_wp2_with fail
      refine (D43 _).mono ?_
      rintro e w6 ⟨rfl, hb6⟩
      replace hb6 := Bel.call hb5 hb6
      clear hb5
      clear D28 D43
      go_wp2_with fail
      exact ⟨⟨k + 1, by omega, by rw [HZ.out], rfl, hb6⟩, HS.out⟩
    · have hk2 : k = nB s := by omega
      have r1 : ¬ (16 : Int) < ((s.extract (16 * k) s.size).size : Int) := by unfold nB at hk2; omega
      have r4 : (s.extract (16 * k) s.size).size ≤ 16 := by unfold nB at hk2; omega
      have HE : Hid (cm key s = en key (pl (tgF key (bkF s k)) (lsF key (s.extract (16 * k) s.size)))) := by
        show _ = _
        unfold cm BL
        rw [tgF_app, hk2]
      clear hz HZ HB hk2 hk hlk
      generalize s.extract (16 * k) s.size = r at *
      generalize tgF key (bkF s k) = c at *
      by_cases h16 : r.size < 16
      · have r5 : (r.size : Int) < 16 := by omega
        have D30 := C30 r h16
        have D29 := fun W => C29 (k1 key) W
        rw [HK.out] at D29
        have D28 := C28 c (tx (flF r)) (by rw [tx_size]; exact Nat.le_refl _)
        have D28' := C28 (pl c (bF (tx (flF r)))) (tx (tw (k1 key))) (by rw [tx_size]; exact Nat.le_refl _)
        have D43 := fun W => C43 (pl (pl c (bF (tx (flF r)))) (bF (tx (tw (k1 key))))) W
        have HF : Hid (tx (en key (pl (pl c (bF (tx (flF r)))) (bF (tx (tw (k1 key)))))) = tx (cm key s)) := by
          show _ = _
          rw [HE.out, tx_en, tx_en]
          refine congrArg (encS key) (tx_congr fun j hj => ?_)
          unfold lsF
          rw [if_neg (by omega)]
          unfold pl
          rw [bF_tx _ j hj, bF_tx _ j hj, xr_assoc]
          rfl
        rw [HF.out] at D43
        clear h16 C28 C43 C29 C30 HE HF
        generalize tx (pl (pl c (bF (tx (flF r)))) (bF (tx (tw (k1 key))))) = X2 at *
        generalize tx (pl c (bF (tx (flF r)))) = X1 at *
        generalize tx (tw (k1 key)) = K2 at *
        generalize tx (flF r) = R1 at *
        obtain ⟨T, hT⟩ : ∃ T, tx (cm key s) = T := ⟨_, rfl⟩
        rw [hT] at D43
        have HT : Hid (tx (cm key s) = T) := hT
        clear hT
        go_wp2_with fail
        refine (D30 _).mono ?_
        rintro e w5 ⟨rfl, hb5⟩
        replace hb5 := Bel.call hB hb5
        clear hB
        go_wp2_with fail
        refine (D29 _).mono ?_
        rintro e w6 ⟨rfl, hb6⟩
        replace hb6 := Bel.call hb5 hb6
        clear hb5
        go_wp2_with fail
        refine (D28 _).mono ?_
        rintro e w7 ⟨rfl, hb7⟩
        replace hb7 := Bel.call hb6 hb7
        clear hb6
        go_wp2_with fail
        refine (D28' _).mono ?_
        rintro e w8 ⟨rfl, hb8⟩
        replace hb8 := Bel.call hb7 hb8
        clear hb7
        go_wp2_with fail
        refine (D43 _).mono ?_
        rintro e w9 ⟨rfl, hb9⟩
        replace hb9 := Bel.call hb8 hb9
        clear hb8
        clear D28 D28' D29 D30 D43
        go_wp2_with fail
        go_ret
        exact ⟨by rw [HT.out]; rfl, hb9⟩
      · have r5 : ¬ (r.size : Int) < 16 := by omega
        have D28 := C28 c r (by omega)
        have D28' := C28 (pl c (bF r)) (tx (k1 key)) (by rw [tx_size]; exact Nat.le_refl _)
        have D43 := fun W => C43 (pl (pl c (bF r)) (bF (tx (k1 key)))) W
        have HF : Hid (tx (en key (pl (pl c (bF r)) (bF (tx (k1 key))))) = tx (cm key s)) := by
          show _ = _
          rw [HE.out, tx_en, tx_en]
          refine congrArg (encS key) (tx_congr fun j hj => ?_)
          unfold lsF
          rw [if_pos (by omega)]
          unfold pl
          rw [bF_tx _ j hj, xr_assoc]
        rw [HF.out] at D43
        rw [HK.out] at D28' D43
        clear h16 C28 C43 C29 C30 HE HF
        generalize tx (pl (pl c (bF r)) (bF K)) = X2 at *
        generalize tx (pl c (bF r)) = X1 at *
        obtain ⟨T, hT⟩ : ∃ T, tx (cm key s) = T := ⟨_, rfl⟩
        rw [hT] at D43
        have HT : Hid (tx (cm key s) = T) := hT
        clear hT
        go_wp2_with fail
        refine (D28 _).mono ?_
        rintro e w7 ⟨rfl, hb7⟩
        replace hb7 := Bel.call hB hb7
        clear hB
        go_wp2_with fail
        refine (D28' _).mono ?_
        rintro e w8 ⟨rfl, hb8⟩
        replace hb8 := Bel.call hb7 hb8
        clear hb7
        go_wp2_with fail
        refine (D43 _).mono ?_
        rintro e w9 ⟨rfl, hb9⟩
        replace hb9 := Bel.call hb8 hb9
        clear hb8
        clear D28 D28' D43
        go_wp2_with fail
        go_ret
        exact ⟨by rw [HT.out]; rfl, hb9⟩
theorem rcmac_any (key s : ByteArray) (hk : Key key) (hs : s.size ≤ 1000000) (w : World) : Calls Try.prog 24 #[.string key, .string s] w fun e w' => e = .returned (.string (tx (cm key s))) ∧ Below w.heap.size w w' := by
  have C27 : ∀ W, Calls Try.prog 27 #[.int .i64 16] W fun e w' => e = .returned (.string (tx (fun _ => 0))) ∧ Below W.heap.size W w' := fun W => by
    have := rzeros_any 16 (by omega) W
    rw [← zS_zrs] at this
    exact this
  exact rcmac_core key s hs w C27 (fun f W => rEncrypt_tx key hk f W) (fun f W => rtwice_tx f W) (fun f t ht W => rXor_tx f t ht W) (fun t ht W => rwhole_any t ht W)
end Go.Proofs.Ytogkijjmimaccaa
