/- Seal and Open. -/
import Derived.Test.YtogkijjmimaccaaJ24
set_option linter.all false
set_option maxRecDepth 100000
namespace Go.Proofs.Ytogkijjmimaccaa
open Go.RowKit Go.Sort Lin
set_option maxHeartbeats 1000000 in
theorem sSeal_no (key k h : ByteArray) (v : Value) (s : ByteArray) (SL : List Value) (f g : Nat → By) (hS : Slr SL k f g h) (r : Int) (hr : ¬ r = 0) (w : World)
    (C33 : ∀ W, Calls Try.prog 33 #[.string key, v] W fun e w' => e = .returned (.tuple #[.agg SL.toArray, .int .i64 r]) ∧ Below W.heap.size W w') :
    Calls Try.prog 16 #[.string key, v, .string s] w fun e w' => e = .returned (.tuple #[.string ⟨#[]⟩, .int .i64 r]) ∧ Below w.heap.size w w' := by
  go_enter Try.func16, Try.ntmps16
  go_upto_region 1 with (fail)
  refine wp_region_list ?_
  refine wpList_plain (by rfl) fun K1 hK1 => ?_
  have H1 : Hid _ := hK1
  clear hK1
  go_wp2_with fail
  refine H1.out _ _ ?_
  clear H1
  refine wpList_plain (by rfl) fun K1 hK1 => ?_
  have H1 : Hid _ := hK1
  clear hK1
  go_wp2_with fail
  refine H1.out _ _ ?_
  clear H1
  refine wpList_plain (by rfl) fun K1 hK1 => ?_
  have H1 : Hid _ := hK1
  clear hK1
  go_wp2_with fail
  refine (C33 _).mono ?_
  rintro e w1 ⟨rfl, hb⟩
  refine H1.out _ _ ?_
  clear H1
  refine wpList_plain (by rfl) fun K1 hK1 => ?_
  have H1 : Hid _ := hK1
  clear hK1
  go_wp2_with fail
  refine H1.out _ _ ?_
  clear H1
  refine wpList_plain (by rfl) fun K1 hK1 => ?_
  have H1 : Hid _ := hK1
  clear hK1
  go_wp2_with fail
  refine H1.out _ _ ?_
  clear H1
  refine wpList_plain (by rfl) fun K1 hK1 => ?_
  have H1 : Hid _ := hK1
  clear hK1
  go_wp2_with fail
  refine H1.out _ _ ?_
  clear H1
  refine wpList_plain (by rfl) fun K1 hK1 => ?_
  have H1 : Hid _ := hK1
  clear hK1
  go_wp2_with fail
  refine H1.out _ _ ?_
  clear H1
  have A8 := new34 w1 _ rfl
  refine hS.wst t57 A8 (by rfl) (.tmp 8) (.tmp 15) (by rfl) (by rfl) (by rfl) ?_
  replace hb := below_setCells (Bel.al hb (.cells z34 57)) (b := w1.heap.size) (hb.size) SL 0
  replace A8 := hS.set A8
  generalize (w1.alloc (.cells z34 57)).setCells w1.heap.size 0 SL = W2 at *
  generalize w1.heap.size = b at *
  clear C33
  clear A8
  go_wp2_with fail
  exact bodyPost_ret (v := .tuple #[.string ⟨#[]⟩, .int .i64 r]) (by simp [results, Try.results16, go_sem]) rfl ⟨rfl, hb⟩
set_option maxHeartbeats 1000000 in
theorem sOpen_no (key k h : ByteArray) (v : Value) (s : ByteArray) (SL : List Value) (f g : Nat → By) (hS : Slr SL k f g h) (r : Int) (hr : ¬ r = 0) (w : World)
    (C33 : ∀ W, Calls Try.prog 33 #[.string key, v] W fun e w' => e = .returned (.tuple #[.agg SL.toArray, .int .i64 r]) ∧ Below W.heap.size W w') :
    Calls Try.prog 18 #[.string key, v, .string s] w fun e w' => e = .returned (.tuple #[.string ⟨#[]⟩, .int .i64 r]) ∧ Below w.heap.size w w' := by
  go_enter Try.func18, Try.ntmps18
  go_upto_region 1 with (fail)
  refine wp_region_list ?_
  refine wpList_plain (by rfl) fun K1 hK1 => ?_
  have H1 : Hid _ := hK1
  clear hK1
  go_wp2_with fail
  refine H1.out _ _ ?_
  clear H1
  refine wpList_plain (by rfl) fun K1 hK1 => ?_
  have H1 : Hid _ := hK1
  clear hK1
  go_wp2_with fail
  refine H1.out _ _ ?_
  clear H1
  refine wpList_plain (by rfl) fun K1 hK1 => ?_
  have H1 : Hid _ := hK1
  clear hK1
  go_wp2_with fail
  refine (C33 _).mono ?_
  rintro e w1 ⟨rfl, hb⟩
  refine H1.out _ _ ?_
  clear H1
  refine wpList_plain (by rfl) fun K1 hK1 => ?_
  have H1 : Hid _ := hK1
  clear hK1
  go_wp2_with fail
  refine H1.out _ _ ?_
  clear H1
  refine wpList_plain (by rfl) fun K1 hK1 => ?_
  have H1 : Hid _ := hK1
  clear hK1
  go_wp2_with fail
  refine H1.out _ _ ?_
  clear H1
  refine wpList_plain (by rfl) fun K1 hK1 => ?_
  have H1 : Hid _ := hK1
  clear hK1
  go_wp2_with fail
  refine H1.out _ _ ?_
  clear H1
  refine wpList_plain (by rfl) fun K1 hK1 => ?_
  have H1 : Hid _ := hK1
  clear hK1
  go_wp2_with fail
  refine H1.out _ _ ?_
  clear H1
  have A8 := new34 w1 _ rfl
  refine hS.wst t57 A8 (by rfl) (.tmp 8) (.tmp 16) (by rfl) (by rfl) (by rfl) ?_
  replace hb := below_setCells (Bel.al hb (.cells z34 57)) (b := w1.heap.size) (hb.size) SL 0
  replace A8 := hS.set A8
  generalize (w1.alloc (.cells z34 57)).setCells w1.heap.size 0 SL = W2 at *
  generalize w1.heap.size = b at *
  clear C33
  clear A8
  go_wp2_with fail
  exact bodyPost_ret (v := .tuple #[.string ⟨#[]⟩, .int .i64 r]) (by simp [results, Try.results18, go_sem]) rfl ⟨rfl, hb⟩
set_option maxHeartbeats 1000000 in
theorem sOpen_short (key k h : ByteArray) (v : Value) (s : ByteArray) (SL : List Value) (f g : Nat → By) (hS : Slr SL k f g h) (r : Int) (hr : r = 0) (hs : s.size < 16) (w : World)
    (C33 : ∀ W, Calls Try.prog 33 #[.string key, v] W fun e w' => e = .returned (.tuple #[.agg SL.toArray, .int .i64 r]) ∧ Below W.heap.size W w') :
    Calls Try.prog 18 #[.string key, v, .string s] w fun e w' => e = .returned (.tuple #[.string ⟨#[]⟩, .int .i64 11]) ∧ Below w.heap.size w w' := by
  have s1 : (s.size : Int) < 16 := by omega
  subst hr
  clear hs
  go_enter Try.func18, Try.ntmps18
  go_upto_region 1 with (fail)
  refine wp_region_list ?_
  refine wpList_plain (by rfl) fun K1 hK1 => ?_
  have H1 : Hid _ := hK1
  clear hK1
  go_wp2_with fail
  refine H1.out _ _ ?_
  clear H1
  refine wpList_plain (by rfl) fun K1 hK1 => ?_
  have H1 : Hid _ := hK1
  clear hK1
  go_wp2_with fail
  refine H1.out _ _ ?_
  clear H1
  refine wpList_plain (by rfl) fun K1 hK1 => ?_
  have H1 : Hid _ := hK1
  clear hK1
  go_wp2_with fail
  refine (C33 _).mono ?_
  rintro e w1 ⟨rfl, hb⟩
  refine H1.out _ _ ?_
  clear H1
  refine wpList_plain (by rfl) fun K1 hK1 => ?_
  have H1 : Hid _ := hK1
  clear hK1
  go_wp2_with fail
  refine H1.out _ _ ?_
  clear H1
  refine wpList_plain (by rfl) fun K1 hK1 => ?_
  have H1 : Hid _ := hK1
  clear hK1
  go_wp2_with fail
  refine H1.out _ _ ?_
  clear H1
  refine wpList_plain (by rfl) fun K1 hK1 => ?_
  have H1 : Hid _ := hK1
  clear hK1
  go_wp2_with fail
  refine H1.out _ _ ?_
  clear H1
  refine wpList_plain (by rfl) fun K1 hK1 => ?_
  have H1 : Hid _ := hK1
  clear hK1
  go_wp2_with fail
  refine H1.out _ _ ?_
  clear H1
  have A8 := new34 w1 _ rfl
  refine hS.wst t57 A8 (by rfl) (.tmp 8) (.tmp 16) (by rfl) (by rfl) (by rfl) ?_
  replace hb := below_setCells (Bel.al hb (.cells z34 57)) (b := w1.heap.size) (hb.size) SL 0
  replace A8 := hS.set A8
  generalize (w1.alloc (.cells z34 57)).setCells w1.heap.size 0 SL = W2 at *
  generalize w1.heap.size = b at *
  clear C33
  clear A8
  go_wp2_with fail
  exact bodyPost_ret (v := .tuple #[.string ⟨#[]⟩, .int .i64 11]) (by simp [results, Try.results18, go_sem]) rfl ⟨rfl, hb⟩
set_option maxHeartbeats 1000000 in
theorem sSeal_yes (key k h : ByteArray) (v : Value) (s : ByteArray) (SL : List Value) (f g : Nat → By) (hS : Slr SL k f g h) (TL K : List Value) (hT : Tgr TL k f g) (l : List ByteArray) (d : Nat → By) (hK : Blk K d) (T c : ByteArray) (hs : s.size ≤ 65536) (ht : T.size = 16) (hc : c.size ≤ 65536) (w : World) (hv : Txs w v l)
    (C33 : ∀ W, Calls Try.prog 33 #[.string key, v] W fun e w' => e = .returned (.tuple #[.agg SL.toArray, .int .i64 0]) ∧ Below W.heap.size W w')
    (C26 : ∀ W, Txs W v l → Calls Try.prog 26 #[.agg TL.toArray, .string s, v] W fun e w' => e = .returned (.agg K.toArray) ∧ Below W.heap.size W w')
    (C22 : ∀ W, Calls Try.prog 22 #[.agg K.toArray] W fun e w' => e = .returned (.string T) ∧ Below W.heap.size W w')
    (C34 : ∀ W, Calls Try.prog 34 #[.agg SL.toArray, .agg K.toArray, .string s] W fun e w' => e = .returned (.string c) ∧ Below W.heap.size W w') :
    Calls Try.prog 16 #[.string key, v, .string s] w fun e w' => e = .returned (.tuple #[.string (T ++ c), .int .i64 0]) ∧ Below w.heap.size w w' := by
  have s1 : ¬ (65536 : Int) < (s.size : Int) := by omega
  have t1 : (T.size : Int) = 16 := by omega
  have c1 : (c.size : Int) ≤ 65536 := by omega
  go_enter Try.func16, Try.ntmps16
  go_upto_region 1 with (fail)
  refine wp_region_list ?_
  refine wpList_plain (by rfl) fun K1 hK1 => ?_
  have H1 : Hid _ := hK1
  clear hK1
  go_wp2_with fail
  refine H1.out _ _ ?_
  clear H1
  refine wpList_plain (by rfl) fun K1 hK1 => ?_
  have H1 : Hid _ := hK1
  clear hK1
  go_wp2_with fail
  refine H1.out _ _ ?_
  clear H1
  refine wpList_plain (by rfl) fun K1 hK1 => ?_
  have H1 : Hid _ := hK1
  clear hK1
  go_wp2_with fail
  refine (C33 _).mono ?_
  rintro e w1 ⟨rfl, hb⟩
  refine H1.out _ _ ?_
  clear H1
  refine wpList_plain (by rfl) fun K1 hK1 => ?_
  have H1 : Hid _ := hK1
  clear hK1
  go_wp2_with fail
  refine H1.out _ _ ?_
  clear H1
  refine wpList_plain (by rfl) fun K1 hK1 => ?_
  have H1 : Hid _ := hK1
  clear hK1
  go_wp2_with fail
  refine H1.out _ _ ?_
  clear H1
  refine wpList_plain (by rfl) fun K1 hK1 => ?_
  have H1 : Hid _ := hK1
  clear hK1
  go_wp2_with fail
  refine H1.out _ _ ?_
  clear H1
  refine wpList_plain (by rfl) fun K1 hK1 => ?_
  have H1 : Hid _ := hK1
  clear hK1
  go_wp2_with fail
  refine H1.out _ _ ?_
  clear H1
  have A8 := new34 w1 _ rfl
  refine hS.wst t57 A8 (by rfl) (.tmp 8) (.tmp 15) (by rfl) (by rfl) (by rfl) ?_
  replace hb := below_setCells (Bel.al hb (.cells z34 57)) (b := w1.heap.size) (hb.size) SL 0
  replace A8 := hS.set A8
  generalize (w1.alloc (.cells z34 57)).setCells w1.heap.size 0 SL = W2 at *
  generalize w1.heap.size = b at *
  clear C33
  have hX := hv.to hb
  clear hv hs ht hc
  go_upto_region 6 with (fail)
  refine wp_region_list ?_
  refine wpList_plain (by rfl) fun K1 hK1 => ?_
  have H1 : Hid _ := hK1
  clear hK1
  go_wp2_with fail
  refine H1.out _ _ ?_
  clear H1
  refine hT.wld t45 A8 0 (by omega) (slC_t _ _ _ _) (by rfl) (.tmp 25) (by rfl) (by rfl) ?_
  refine wpList_plain (by rfl) fun K1 hK1 => ?_
  have H1 : Hid _ := hK1
  clear hK1
  go_wp2_with fail
  refine H1.out _ _ ?_
  clear H1
  refine wpList_plain (by rfl) fun K1 hK1 => ?_
  have H1 : Hid _ := hK1
  clear hK1
  go_wp2_with fail
  refine H1.out _ _ ?_
  clear H1
  refine wpList_plain (by rfl) fun K1 hK1 => ?_
  have H1 : Hid _ := hK1
  clear hK1
  go_wp2_with fail
  refine (C26 _ hX).mono ?_
  rintro e w3 ⟨rfl, hb3⟩
  refine H1.out _ _ ?_
  clear H1
  have hb4 := Bel.call hb hb3
  replace A8 : Arr _ _ 34 _ := A8.to' (n := 33) hb3
  have z8 := Arr.lt (n := 33) A8
  clear hb hb3 C26 hX
  refine wpList_plain (by rfl) fun K1 hK1 => ?_
  have H1 : Hid _ := hK1
  clear hK1
  go_wp2_with fail
  refine H1.out _ _ ?_
  clear H1
  have A10 := new0 w3 _ rfl
  refine hK.wst t43 A10 (by rfl) (.tmp 10) (.tmp 29) (by rfl) (by rfl) (by rfl) ?_
  refine wpList_nil ?_
  replace A10 := hK.set A10
  replace A8 : Arr _ _ 34 _ := (A8.al' (n := 33) (.cells z16c 43)).setso (b' := w3.heap.size) (by omega) K 0
  replace hb4 := below_setCells (Bel.al hb4 (.cells z16c 43)) (b := w3.heap.size) (hb4.size) K 0
  generalize (w3.alloc (.cells z16c 43)).setCells w3.heap.size 0 K = W4 at *
  generalize w3.heap.size = p at *
  go_upto_region 7 with (fail)
  refine wp_region_quiet_below (by kernel_rfl) (by kernel_rfl) ?_
  simp only [Act.put, List.setIfInBounds_toArray, List.set_cons_succ, List.set_cons_zero]
  refine hK.qld (N := 15) t43 A10 0 (by omega) (fun j _ => by rw [Nat.zero_add]) (fun W hW => cw_bel hW) (by rfl) (.tmp 10) (by rfl) (by rfl) ?_
  simp only [Act.put, List.setIfInBounds_toArray, List.set_cons_succ, List.set_cons_zero]
  go_big_quiet_step ((go_at_call 22; exact Calls.regrown_of (C22 _)))
  refine hS.qld (N := 33) t57 A8 0 (by omega) (fun j _ => by rw [Nat.zero_add]) (fun W hW => cw_bel hW) (by rfl) (.tmp 8) (by rfl) (by rfl) ?_
  simp only [Act.put, List.setIfInBounds_toArray, List.set_cons_succ, List.set_cons_zero]
  refine hK.qld (N := 15) t43 A10 0 (by omega) (fun j _ => by rw [Nat.zero_add]) (fun W hW => cw_bel hW) (by rfl) (.tmp 10) (by rfl) (by rfl) ?_
  simp only [Act.put, List.setIfInBounds_toArray, List.set_cons_succ, List.set_cons_zero]
  go_big_quiet_step (fail)
  go_big_quiet_step ((go_at_call 34; exact Calls.regrown_of (C34 _)))
  go_big_quiet_step (fail)
  go_big_quiet_step (fail)
  go_big_quiet_step (fail)
  refine wpQuiet_nil ?_
  intro w5 hw'
  obtain ⟨⟨dq, osq⟩, hw''⟩ := hw'
  have hb := below_of hw''
  clear hw'' C22 C34
  replace hb := Bel.call hb4 hb
  clear A8 A10 hb4
  go_wp2_with fail
  exact bodyPost_ret (v := .tuple #[.string (T ++ c), .int .i64 0]) (by simp [results, Try.results16, go_sem]) rfl ⟨rfl, hb⟩
set_option maxHeartbeats 1000000 in
theorem sOpen_core (key k h : ByteArray) (v : Value) (s : ByteArray) (SL : List Value) (f g : Nat → By) (hS : Slr SL k f g h) (TL K M : List Value) (hT : Tgr TL k f g) (l : List ByteArray) (d m : Nat → By) (hK : Blk K d) (hM : Blk M m) (p : ByteArray) (is : Bool) (hs : 16 ≤ s.size) (hs2 : s.size ≤ 65552) (w : World) (hv : Txs w v l)
    (C33 : ∀ W, Calls Try.prog 33 #[.string key, v] W fun e w' => e = .returned (.tuple #[.agg SL.toArray, .int .i64 0]) ∧ Below W.heap.size W w')
    (C31 : ∀ W, Calls Try.prog 31 #[.string s] W fun e w' => e = .returned (.agg M.toArray) ∧ Below W.heap.size W w')
    (C34 : ∀ W, Calls Try.prog 34 #[.agg SL.toArray, .agg M.toArray, .string (s.extract 16 s.size)] W fun e w' => e = .returned (.string p) ∧ Below W.heap.size W w')
    (C26 : ∀ W, Txs W v l → Calls Try.prog 26 #[.agg TL.toArray, .string p, v] W fun e w' => e = .returned (.agg K.toArray) ∧ Below W.heap.size W w')
    (C38 : ∀ W, Calls Try.prog 38 #[.agg K.toArray, .agg M.toArray] W fun e w' => e = .returned (.bool is) ∧ Below W.heap.size W w') :
    Calls Try.prog 18 #[.string key, v, .string s] w fun e w' => e = .returned (if is = true then .tuple #[.string p, .int .i64 0] else .tuple #[.string ⟨#[]⟩, .int .i64 17]) ∧ Below w.heap.size w w' := by
  have s1 : ¬ (s.size : Int) < 16 := by omega
  have s2 : ¬ (65552 : Int) < (s.size : Int) := by omega
  have s3 : (16 : Int) ≤ (s.size : Int) := by omega
  have hnot : ∀ (x : Bool) (w : World), (Op.unary .not (.bool x)).run Try.prog w = .ok (.bool (!x)) w := fun _ _ => rfl
  go_enter Try.func18, Try.ntmps18
  go_upto_region 1 with (fail)
  refine wp_region_list ?_
  refine wpList_plain (by rfl) fun K1 hK1 => ?_
  have H1 : Hid _ := hK1
  clear hK1
  go_wp2_with fail
  refine H1.out _ _ ?_
  clear H1
  refine wpList_plain (by rfl) fun K1 hK1 => ?_
  have H1 : Hid _ := hK1
  clear hK1
  go_wp2_with fail
  refine H1.out _ _ ?_
  clear H1
  refine wpList_plain (by rfl) fun K1 hK1 => ?_
  have H1 : Hid _ := hK1
  clear hK1
  go_wp2_with fail
  refine (C33 _).mono ?_
  rintro e w1 ⟨rfl, hb⟩
  refine H1.out _ _ ?_
  clear H1
  refine wpList_plain (by rfl) fun K1 hK1 => ?_
  have H1 : Hid _ := hK1
  clear hK1
  go_wp2_with fail
  refine H1.out _ _ ?_
  clear H1
  refine wpList_plain (by rfl) fun K1 hK1 => ?_
  have H1 : Hid _ := hK1
  clear hK1
  go_wp2_with fail
  refine H1.out _ _ ?_
  clear H1
  refine wpList_plain (by rfl) fun K1 hK1 => ?_
  have H1 : Hid _ := hK1
  clear hK1
  go_wp2_with fail
  refine H1.out _ _ ?_
  clear H1
  refine wpList_plain (by rfl) fun K1 hK1 => ?_
  have H1 : Hid _ := hK1
  clear hK1
  go_wp2_with fail
  refine H1.out _ _ ?_
  clear H1
  have A8 := new34 w1 _ rfl
  refine hS.wst t57 A8 (by rfl) (.tmp 8) (.tmp 16) (by rfl) (by rfl) (by rfl) ?_
  replace hb := below_setCells (Bel.al hb (.cells z34 57)) (b := w1.heap.size) (hb.size) SL 0
  replace A8 := hS.set A8
  generalize (w1.alloc (.cells z34 57)).setCells w1.heap.size 0 SL = W2 at *
  generalize w1.heap.size = b at *
  clear C33
  have hX := hv.to hb
  clear hv
  go_upto_region 8 with (fail)
  refine wp_region_list ?_
  refine wpList_plain (by rfl) fun K1 hK1 => ?_
  have H1 : Hid _ := hK1
  clear hK1
  go_wp2_with fail
  refine H1.out _ _ ?_
  clear H1
  refine wpList_plain (by rfl) fun K1 hK1 => ?_
  have H1 : Hid _ := hK1
  clear hK1
  go_wp2_with fail
  refine (C31 _).mono ?_
  rintro e w3 ⟨rfl, hb3⟩
  refine H1.out _ _ ?_
  clear H1
  have hb4 := Bel.call hb hb3
  replace A8 : Arr _ _ 34 _ := A8.to' (n := 33) hb3
  have z8 := Arr.lt (n := 33) A8
  replace hX := hX.to hb3
  clear hb hb3 C31
  refine wpList_plain (by rfl) fun K1 hK1 => ?_
  have H1 : Hid _ := hK1
  clear hK1
  go_wp2_with fail
  refine H1.out _ _ ?_
  clear H1
  have A10 := new0 w3 _ rfl
  refine hM.wst t43 A10 (by rfl) (.tmp 10) (.tmp 31) (by rfl) (by rfl) (by rfl) ?_
  refine wpList_nil ?_
  replace A10 := hM.set A10
  replace A8 : Arr _ _ 34 _ := (A8.al' (n := 33) (.cells z16c 43)).setso (b' := w3.heap.size) (by omega) M 0
  have hbn : Below w3.heap.size w3 ((w3.alloc (.cells z16c 43)).setCells w3.heap.size 0 M) := below_setCells (Bel.al (Below.refl _ _) (.cells z16c 43)) (Nat.le_refl _) M 0
  replace hX := hX.to hbn
  replace hb4 := Bel.call hb4 hbn
  clear hbn
  generalize (w3.alloc (.cells z16c 43)).setCells w3.heap.size 0 M = W4 at *
  generalize w3.heap.size = q at *
  go_upto_region 9 with (fail)
  refine wp_region_quiet_below (by kernel_rfl) (by kernel_rfl) ?_
  simp only [Act.put, List.setIfInBounds_toArray, List.set_cons_succ, List.set_cons_zero]
  refine hS.qld (N := 33) t57 A8 0 (by omega) (fun j _ => by rw [Nat.zero_add]) (fun W hW => cw_bel hW) (by rfl) (.tmp 8) (by rfl) (by rfl) ?_
  simp only [Act.put, List.setIfInBounds_toArray, List.set_cons_succ, List.set_cons_zero]
  refine hM.qld (N := 15) t43 A10 0 (by omega) (fun j _ => by rw [Nat.zero_add]) (fun W hW => cw_bel hW) (by rfl) (.tmp 10) (by rfl) (by rfl) ?_
  simp only [Act.put, List.setIfInBounds_toArray, List.set_cons_succ, List.set_cons_zero]
  go_big_quiet_step (fail)
  go_big_quiet_step (fail)
  go_big_quiet_step ((go_at_call 34; exact Calls.regrown_of (C34 _)))
  go_big_quiet_step (fail)
  refine wpQuiet_nil ?_
  intro w5 hw'
  obtain ⟨⟨dq, osq⟩, hw''⟩ := hw'
  have hb := below_of hw''
  clear hw'' C34
  replace hb4 := Bel.call hb4 hb
  replace A8 : Arr _ _ 34 _ := A8.to' (n := 33) hb
  replace A10 : Arr _ _ 16 _ := A10.to' (n := 15) hb
  replace hX := hX.to hb
  clear hb
  go_upto_region 10 with (fail)
  refine wp_region_quiet_below (by kernel_rfl) (by kernel_rfl) ?_
  go_big_quiet_step (fail)
  refine hT.qld (N := 33) t45 A8 0 (by omega) (slC_t _ _ _ _) (fun W hW => cw_bel hW) (by rfl) (.tmp 37) (by rfl) (by rfl) ?_
  simp only [Act.put, List.setIfInBounds_toArray, List.set_cons_succ, List.set_cons_zero]
  go_big_quiet_step (fail)
  go_big_quiet_step (fail)
  go_big_quiet_step ((go_at_call 26; exact Calls.regrown_of (C26 _ (hX.to (below_regrown _ _ _)))))
  refine hM.qld (N := 15) t43 A10 0 (by omega) (fun j _ => by rw [Nat.zero_add]) (fun W hW => cw_bel hW) (by rfl) (.tmp 10) (by rfl) (by rfl) ?_
  simp only [Act.put, List.setIfInBounds_toArray, List.set_cons_succ, List.set_cons_zero]
  go_big_quiet_step ((go_at_call 38; exact Calls.regrown_of (C38 _)))
  go_big_quiet_step (fail)
  refine wpQuiet_nil ?_
  intro w6 hw'
  obtain ⟨⟨dq, osq⟩, hw''⟩ := hw'
  have hb := below_of hw''
  clear hw'' C26 C38
  replace hb := Bel.call hb4 hb
  clear A8 A10 hb4 hX
  cases is with
  | true =>
    go_wp2_with fail
    exact bodyPost_ret (v := .tuple #[.string p, .int .i64 0]) (by simp [results, Try.results18, go_sem]) rfl ⟨rfl, hb⟩
  | false =>
    go_wp2_with fail
    exact bodyPost_ret (v := .tuple #[.string ⟨#[]⟩, .int .i64 17]) (by simp [results, Try.results18, go_sem]) rfl ⟨rfl, hb⟩
/-- What Seal makes. -/
def vF (key : ByteArray) (ad : List ByteArray) (p : ByteArray) : Nat → By := rowF (hf1 key) ad p
def seS (key : ByteArray) (ad : List ByteArray) (p : ByteArray) : ByteArray := tx (vF key ad p) ++ crV (hf2 key) (vF key ad p) p
def seR (key : ByteArray) (ad : List ByteArray) (p : ByteArray) : ByteArray := if slE key ad.length = 0 then seS key ad p else ⟨#[]⟩
theorem seS_size (key : ByteArray) (ad : List ByteArray) (p : ByteArray) : (seS key ad p).size = p.size + 16 := by unfold seS; rw [app_size, tx_size, crV_size]; omega
theorem sSeal_any (key : ByteArray) (v : Value) (ad : List ByteArray) (p : ByteArray) (hl : ad.length ≤ 1000) (hls : ∀ s ∈ ad, s.size ≤ 1000000) (hp : p.size ≤ 65536) (w : World) (hv : Txs w v ad) :
    Calls Try.prog 16 #[.string key, v, .string p] w fun e w' => e = .returned (.tuple #[.string (seR key ad p), .int .i64 (slE key ad.length)]) ∧ Below w.heap.size w w' := by
  obtain ⟨a0, cap, e0⟩ := txs_len hv
  have C33 := fun W => ssealerOf_any key a0 ad.length cap W
  rw [← e0] at C33
  unfold slV at C33
  unfold seR
  by_cases h : slE key ad.length = 0
  · rw [if_pos h, h]
    rw [if_pos h, h] at C33
    obtain ⟨h1, h2⟩ := slE_0.1 h
    refine sSeal_yes key (hf1 key) (hf2 key) v p _ _ _ (slr _ _ _ _) _ _ (tgr _ _ _) ad (vF key ad p) (blk _) (tx (vF key ad p)) (crV (hf2 key) (vF key ad p) p) hp (tx_size _) (by rw [crV_size]; exact hp) w hv C33 (fun W hW => ?_) (fun W => stext_any _ W) (fun W => scrossed_any _ _ _ _ _ (hf2_key h1) p hp W)
    exact srow_any (hf1 key) p (hf1_key h1) ad v hl hls (by omega) W hW
  · rw [if_neg h]
    rw [if_neg h] at C33
    exact sSeal_no key _ _ v p _ _ _ (slr _ _ _ _) _ h w C33
/-- What Open tells. -/
def opP (key s : ByteArray) : ByteArray := crV (hf2 key) (bF s) (s.extract 16 s.size)
def opE (key : ByteArray) (ad : List ByteArray) (s : ByteArray) : Int := if slE key ad.length = 0 then (if s.size < 16 then 11 else if isB (vF key ad (opP key s)) (bF s) = true then 0 else 17) else slE key ad.length
def opS (key : ByteArray) (ad : List ByteArray) (s : ByteArray) : ByteArray := if opE key ad s = 0 then opP key s else ⟨#[]⟩
theorem opP_size (key s : ByteArray) : (opP key s).size = s.size - 16 := by unfold opP; rw [crV_size, ByteArray.size_extract]; omega
theorem sOpen_any (key : ByteArray) (v : Value) (ad : List ByteArray) (s : ByteArray) (hl : ad.length ≤ 1000) (hls : ∀ s ∈ ad, s.size ≤ 1000000) (hs : s.size ≤ 65552) (w : World) (hv : Txs w v ad) :
    Calls Try.prog 18 #[.string key, v, .string s] w fun e w' => e = .returned (.tuple #[.string (opS key ad s), .int .i64 (opE key ad s)]) ∧ Below w.heap.size w w' := by
  obtain ⟨a0, cap, e0⟩ := txs_len hv
  have C33 := fun W => ssealerOf_any key a0 ad.length cap W
  rw [← e0] at C33
  unfold slV at C33
  unfold opS
  by_cases h : slE key ad.length = 0
  · rw [if_pos h, h] at C33
    obtain ⟨h1, h2⟩ := slE_0.1 h
    by_cases h16 : s.size < 16
    · have e : opE key ad s = 11 := by unfold opE; rw [if_pos h, if_pos h16]
      rw [e, if_neg (by decide)]
      exact sOpen_short key _ _ v s _ _ _ (slr _ _ _ _) 0 rfl h16 w C33
    · have hz := opP_size key s
      have e : opE key ad s = if isB (vF key ad (opP key s)) (bF s) = true then 0 else 17 := by unfold opE; rw [if_pos h, if_neg h16]
      have := sOpen_core key (hf1 key) (hf2 key) v s _ _ _ (slr _ _ _ _) _ _ _ (tgr _ _ _) ad (vF key ad (opP key s)) (bF s) (blk _) (blk _) (opP key s) (isB (vF key ad (opP key s)) (bF s)) (by omega) hs w hv C33 (fun W => sblockOf_any s W) (fun W => scrossed_any _ _ _ _ _ (hf2_key h1) _ (by rw [ByteArray.size_extract]; omega) W) (fun W hW => srow_any (hf1 key) (opP key s) (hf1_key h1) ad v hl hls (by omega) W hW) (fun W => sis_any _ _ W)
      rw [e]
      cases hb : isB (vF key ad (opP key s)) (bF s) with
      | true => rw [hb, if_pos rfl] at this; rw [if_pos rfl, if_pos rfl]; exact this
      | false => rw [hb, if_neg (by decide)] at this; rw [if_neg (by decide), if_neg (by decide)]; exact this
  · have e : opE key ad s = slE key ad.length := by unfold opE; rw [if_neg h]
    rw [e, if_neg h]
    rw [if_neg h] at C33
    exact sOpen_no key _ _ v s _ _ _ (slr _ _ _ _) _ h w C33
end Go.Proofs.Ytogkijjmimaccaa
