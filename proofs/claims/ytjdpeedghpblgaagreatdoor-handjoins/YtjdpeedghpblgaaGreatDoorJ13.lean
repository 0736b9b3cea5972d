/- Texts joined: T8, T9, T10, T11. -/
import Derived.Test.YtjdpeedghpblgaaGreatDoorJ7
import Derived.Test.YtjdpeedghpblgaaGreatDoorJ12
import Derived.Test.YtjdpeedghpblgaaGreatDoorJ11
import Derived.Test.YtjdpeedghpblgaaGreatDoorJ1
/- The reference's der.Write of short texts, tag, Signature. -/
set_option linter.all false
set_option maxRecDepth 100000
namespace Go.Proofs.YtjdpeedghpblgaaGreatDoor
open Go.RowKit Go.Sort Go.Lib
theorem wrS_short (t : Int) (b : ByteArray) (h : b.size < 128) : wrS t b = mkS [t, (b.size : Int)] ++ b := by
  unfold wrS lenL
  rw [if_pos (by omega)]
set_option maxHeartbeats 1000000 in
theorem rdWrite_short (t : Int) (b : ByteArray) (t0 : 0 ≤ t) (t1 : t < 256) (n : Int) (hn : (b.size : Int) = n) (n0 : 0 ≤ n) (n1 : n < 128) (w : World) :
    Calls Tryz.prog 111 #[.agg #[.int .i64 t, .string b]] w fun e w' => e = .returned (.tuple #[.string (wrS t b), .int .i64 0]) ∧ Below w.heap.size w w' := by
  obtain ⟨i0, hi, hz0, hz1, hz2⟩ := info_parts Tryz.info5
  have hw := wrS_short t b (by omega)
  rw [hn] at hw
  have HW : Hid (wrS t b = mkS [t, n] ++ b) := hw
  clear hw
  have e1 : t % 256 = t := by omega
  have e2 : n % 256 = n := by omega
  have kb : 1 + 1 ≤ maxLen := by unfold maxLen; omega
  have own0 : ∀ (W : World), w.heap.size ≤ W.heap.size → (W.alloc (.cells #[.int .u8 t] 5)).ownsRow w.heap.size 5 1 (.slice (some ⟨W.heap.size, 0, none⟩) 1 1) 1 ([t].map (Value.int .u8)) := fun W hW =>
    ⟨rfl, .inr ⟨W.heap.size, 1, #[.int .u8 t], rfl, hW, Array.getElem?_push_size, by omega, by unfold maxLen; omega, rfl, rfl⟩⟩
  go_enter Tryz.func111, Tryz.ntmps111
  go_wp2_with (at_builtin; refine stopAt ?_)
  unfold Stop
  have O1 := own0 (w.alloc (.cells #[.int .i64 t, .string b] 99)) (by simp)
  have B1 : Below w.heap.size w ((w.alloc (.cells #[.int .i64 t, .string b] 99)).alloc (.cells #[.int .u8 t] 5)) := by go_grown
  have L1 : ((w.alloc (.cells #[.int .i64 t, .string b] 99)).alloc (.cells #[.int .u8 t] 5)).cell? ⟨w.heap.size, 1, none⟩ = some (.string b) := by simp [go_sem]
  simp only [World.size_alloc] at O1
  have hsz : ((w.alloc (.cells #[.int .i64 t, .string b] 99)).alloc (.cells #[.int .u8 t] 5)).heap.size = w.heap.size + 1 + 1 := by simp
  generalize (w.alloc (.cells #[.int .i64 t, .string b] 99)).alloc (.cells #[.int .u8 t] 5) = W1 at *
  have hs := B1.size
  refine wpList_append_own _ rfl _ _ 61 rfl w.heap.size 5 i0 (.int .u8 0) 1 1 Tryz.underlying61 hi hz0 hz1 hz2 rfl (by decide) _ _ _ rfl (World.ownsRow.alloc O1 _) ⟨_, 0, none⟩ 1 1 [.int .u8 n] rfl rfl (by rw [← hsz]; exact news_new _ _ _) (fun u hu => by simp at hu; subst hu; rfl) kb (by omega) (by simp; omega) ?_
  intro v' w3 hown' hgrow3 hnil3
  have b3 : Below w.heap.size w w3 := (B1.alloc B1.size _).grown hgrow3 (by go_size) (fun q hq => (O1.lt q hq).1)
  have L3 : w3.cell? ⟨w.heap.size, 1, none⟩ = some (.string b) := hgrow3.cell ((Below.refl _ W1).alloc (Nat.le_refl _) _ |>.cell (block_lt_of_cell L1) |>.trans L1) (by show some w.heap.size ≠ some (w.heap.size + 1); intro h; injection h; omega)
  obtain ⟨g, c, hv⟩ := own_some hown' (by omega)
  subst hv
  have cv := convC w3 g 2 c [t, n] rfl (fun j u hj => World.ownsRow.cells hown' rfl j u hj)
  clear hnil3 hgrow3 hown' O1 own0
  have AD := fun W => add_s (mkS [t, n]) b (by rw [mkS_size]; simp; omega) W
  generalize mkS [t, n] = S at *
  go_wp2_with fail
  refine bodyPost_ret (v := .tuple #[.string (wrS t b), .int .i64 0]) (by rw [HW.out]; simp [results, Tryz.results111, go_sem]) rfl ⟨rfl, b3⟩
theorem rtag_short (t : Int) (b : ByteArray) (t0 : 0 ≤ t) (t1 : t < 256) (n1 : b.size < 128) (w : World) :
    Calls Tryz.prog 89 #[.int .i64 t, .string b] w fun e w' => e = .returned (.string (wrS t b)) ∧ Below w.heap.size w w' := by
  have C := fun W => rdWrite_short t b t0 t1 b.size rfl (by omega) (by omega) W
  generalize wrS t b = S at *
  go_enter Tryz.func89, Tryz.ntmps89
  go_wp2_with (go_at_call 111; refine (C _).mono ?_; rintro e w1 ⟨rfl, hb⟩)
  go_ret
  exact ⟨rfl, hb⟩
theorem inL_len (N : Int) : (inL N).length ≤ 33 := by
  have := dz_len N
  unfold inL iL
  split
  · rw [List.length_cons]; omega
  · omega
theorem wrS_size (t : Int) (b : ByteArray) (h : b.size < 128) : (wrS t b).size = b.size + 2 := by
  rw [wrS_short t b h, ap_size, mkS_size]
  simp
  omega
/-- A signature as it stands. -/
def sgS (x y : Int) : ByteArray := wrS 48 (wrS 2 (mkS (inL x)) ++ wrS 2 (mkS (inL y)))
theorem sgS_size (x y : Int) : (sgS x y).size ≤ 72 := by
  have a := inL_len x
  have b := inL_len y
  unfold sgS
  have e1 := wrS_size 2 (mkS (inL x)) (by rw [mkS_size]; omega)
  have e2 := wrS_size 2 (mkS (inL y)) (by rw [mkS_size]; omega)
  rw [mkS_size] at e1 e2
  rw [wrS_size _ _ (by rw [ap_size]; omega), ap_size]
  omega
set_option maxHeartbeats 1000000 in
theorem rsig_core (a0 a1 a2 a3 b0 b1 b2 b3 : Int) (S1 S2 S3 S4 S5 : ByteArray) (z : S2.size + S4.size ≤ 1000) (w : World)
    (C1 : ∀ W, Calls Tryz.prog 90 #[.agg #[.int .u64 a0, .int .u64 a1, .int .u64 a2, .int .u64 a3]] W fun e w' => e = .returned (.string S1) ∧ Below W.heap.size W w')
    (C2 : ∀ W, Calls Tryz.prog 89 #[.int .i64 2, .string S1] W fun e w' => e = .returned (.string S2) ∧ Below W.heap.size W w')
    (C3 : ∀ W, Calls Tryz.prog 90 #[.agg #[.int .u64 b0, .int .u64 b1, .int .u64 b2, .int .u64 b3]] W fun e w' => e = .returned (.string S3) ∧ Below W.heap.size W w')
    (C4 : ∀ W, Calls Tryz.prog 89 #[.int .i64 2, .string S3] W fun e w' => e = .returned (.string S4) ∧ Below W.heap.size W w')
    (C5 : ∀ W, Calls Tryz.prog 89 #[.int .i64 48, .string (S2 ++ S4)] W fun e w' => e = .returned (.string S5) ∧ Below W.heap.size W w') :
    Calls Tryz.prog 53 #[.agg #[.int .u64 a0, .int .u64 a1, .int .u64 a2, .int .u64 a3, .int .u64 b0, .int .u64 b1, .int .u64 b2, .int .u64 b3]] w fun e w' => e = .returned (.string S5) ∧ Below w.heap.size w w' := by
  have AD := fun W => add_s S2 S4 (by omega) W
  generalize S2 ++ S4 = X at *
  go_enter Tryz.func53, Tryz.ntmps53
  go_upto_region 1 with (fail)
  have B : Below w.heap.size w (w.alloc (.cells #[.int .u64 a0, .int .u64 a1, .int .u64 a2, .int .u64 a3, .int .u64 b0, .int .u64 b1, .int .u64 b2, .int .u64 b3] 27)) := by go_grown
  have l0 : (w.alloc (.cells #[.int .u64 a0, .int .u64 a1, .int .u64 a2, .int .u64 a3, .int .u64 b0, .int .u64 b1, .int .u64 b2, .int .u64 b3] 27)).cell? ⟨w.heap.size, 0, none⟩ = some (.int .u64 a0) := by simp [go_sem]
  have l1 : (w.alloc (.cells #[.int .u64 a0, .int .u64 a1, .int .u64 a2, .int .u64 a3, .int .u64 b0, .int .u64 b1, .int .u64 b2, .int .u64 b3] 27)).cell? ⟨w.heap.size, 1, none⟩ = some (.int .u64 a1) := by simp [go_sem]
  have l2 : (w.alloc (.cells #[.int .u64 a0, .int .u64 a1, .int .u64 a2, .int .u64 a3, .int .u64 b0, .int .u64 b1, .int .u64 b2, .int .u64 b3] 27)).cell? ⟨w.heap.size, 2, none⟩ = some (.int .u64 a2) := by simp [go_sem]
  have l3 : (w.alloc (.cells #[.int .u64 a0, .int .u64 a1, .int .u64 a2, .int .u64 a3, .int .u64 b0, .int .u64 b1, .int .u64 b2, .int .u64 b3] 27)).cell? ⟨w.heap.size, 3, none⟩ = some (.int .u64 a3) := by simp [go_sem]
  have l4 : (w.alloc (.cells #[.int .u64 a0, .int .u64 a1, .int .u64 a2, .int .u64 a3, .int .u64 b0, .int .u64 b1, .int .u64 b2, .int .u64 b3] 27)).cell? ⟨w.heap.size, 4, none⟩ = some (.int .u64 b0) := by simp [go_sem]
  have l5 : (w.alloc (.cells #[.int .u64 a0, .int .u64 a1, .int .u64 a2, .int .u64 a3, .int .u64 b0, .int .u64 b1, .int .u64 b2, .int .u64 b3] 27)).cell? ⟨w.heap.size, 5, none⟩ = some (.int .u64 b1) := by simp [go_sem]
  have l6 : (w.alloc (.cells #[.int .u64 a0, .int .u64 a1, .int .u64 a2, .int .u64 a3, .int .u64 b0, .int .u64 b1, .int .u64 b2, .int .u64 b3] 27)).cell? ⟨w.heap.size, 6, none⟩ = some (.int .u64 b2) := by simp [go_sem]
  have l7 : (w.alloc (.cells #[.int .u64 a0, .int .u64 a1, .int .u64 a2, .int .u64 a3, .int .u64 b0, .int .u64 b1, .int .u64 b2, .int .u64 b3] 27)).cell? ⟨w.heap.size, 7, none⟩ = some (.int .u64 b3) := by simp [go_sem]
  generalize w.alloc (.cells #[.int .u64 a0, .int .u64 a1, .int .u64 a2, .int .u64 a3, .int .u64 b0, .int .u64 b1, .int .u64 b2, .int .u64 b3] 27) = W at *
  have r0 := fun ds os => cell_regrown l0 ds os
  have r1 := fun ds os => cell_regrown l1 ds os
  have r2 := fun ds os => cell_regrown l2 ds os
  have r3 := fun ds os => cell_regrown l3 ds os
  have r4 := fun ds os => cell_regrown l4 ds os
  have r5 := fun ds os => cell_regrown l5 ds os
  have r6 := fun ds os => cell_regrown l6 ds os
  have r7 := fun ds os => cell_regrown l7 ds os
  refine wp_region_quiet_below (by kernel_rfl) (by kernel_rfl) ?_
  go_big_quiet_step (fail)
  go_big_quiet_step (fail)
  go_big_quiet_step ((go_at_call 90; exact Calls.regrown_of (C1 _)))
  go_big_quiet_step ((go_at_call 89; exact Calls.regrown_of (C2 _)))
  go_big_quiet_step (fail)
  go_big_quiet_step (fail)
  go_big_quiet_step ((go_at_call 90; exact Calls.regrown_of (C3 _)))
  go_big_quiet_step ((go_at_call 89; exact Calls.regrown_of (C4 _)))
  go_big_quiet_step (fail)
  go_big_quiet_step ((go_at_call 89; exact Calls.regrown_of (C5 _)))
  go_big_quiet_step (fail)
  refine wpQuiet_nil ?_
  intro W1 hw'
  obtain ⟨⟨dq, osq⟩, hw''⟩ := hw'
  have hb := below_of hw''
  clear hw'' C1 C2 C3 C4 C5
  go_wp2_with fail
  go_ret
  exact ⟨rfl, Bel.call B hb⟩
theorem rsig_any (x y : Int) (w : World) : Calls Tryz.prog 53 #[.agg #[.int .u64 (lim x 0), .int .u64 (lim x 1), .int .u64 (lim x 2), .int .u64 (lim x 3), .int .u64 (lim y 0), .int .u64 (lim y 1), .int .u64 (lim y 2), .int .u64 (lim y 3)]] w fun e w' => e = .returned (.string (sgS x y)) ∧ Below w.heap.size w w' := by
  have a := inL_len x
  have b := inL_len y
  have e1 := wrS_size 2 (mkS (inL x)) (by rw [mkS_size]; omega)
  have e2 := wrS_size 2 (mkS (inL y)) (by rw [mkS_size]; omega)
  rw [mkS_size] at e1 e2
  exact rsig_core _ _ _ _ _ _ _ _ (mkS (inL x)) (wrS 2 (mkS (inL x))) (mkS (inL y)) (wrS 2 (mkS (inL y))) (sgS x y) (by omega) w
    (fun W => rInt_any x W) (fun W => rtag_short 2 _ (by decide) (by decide) (by rw [mkS_size]; omega) W)
    (fun W => rInt_any y W) (fun W => rtag_short 2 _ (by decide) (by decide) (by rw [mkS_size]; omega) W)
    (fun W => rtag_short 48 _ (by decide) (by decide) (by rw [ap_size]; omega) W)
end Go.Proofs.YtjdpeedghpblgaaGreatDoor
/- The reference's bodies. -/
set_option linter.all false
set_option maxRecDepth 100000
namespace Go.Proofs.YtjdpeedghpblgaaGreatDoor
open Go.RowKit Go.Sort Go.Lib
set_option maxHeartbeats 2000000 in
theorem rbody_1 (m : Mg) (hk : m.k = 1) (a0 : Option Addr) (n c : Nat) (V1 V2 V3 V4 V5 U1 U2 U3 U4 U5 U6 U7 U8 U9 U10 Y : ByteArray) (w : World)
    (C1 : ∀ W, Calls Tryz.prog 24 #[.int .i64 2, .string m.nm] W fun e w' => e = .returned (.string V1) ∧ Below W.heap.size W w')
    (D1 : ∀ W, (Op.stringOp .add ⟨#[0]⟩ V1).run Tryz.prog W = .ok (.string U1) W)
    (C2 : ∀ W, Calls Tryz.prog 24 #[.int .i64 2, .string U1] W fun e w' => e = .returned (.string V2) ∧ Below W.heap.size W w')
    (C3 : ∀ W, Calls Tryz.prog 24 #[.int .i64 2, .string V2] W fun e w' => e = .returned (.string V3) ∧ Below W.heap.size W w')
    (D2 : ∀ W, (Op.stringOp .add ⟨#[0, 0]⟩ V3).run Tryz.prog W = .ok (.string U2) W)
    (D3 : ∀ W, (Op.stringOp .add U2 ⟨#[0, 10, 0, 4, 0, 2, 0, 29, 0, 13, 0, 4, 0, 2, 4, 3]⟩).run Tryz.prog W = .ok (.string U3) W)
    (C4 : ∀ W, Calls Tryz.prog 52 #[.string m.al] W fun e w' => e = .returned (.string Y) ∧ Below W.heap.size W w')
    (D4 : ∀ W, (Op.stringOp .add U3 Y).run Tryz.prog W = .ok (.string U4) W)
    (D5 : ∀ W, (Op.stringOp .add U4 ⟨#[0, 43, 0, 3, 2, 3, 4, 0, 51, 0, 38, 0, 36, 0, 29, 0, 32]⟩).run Tryz.prog W = .ok (.string U5) W)
    (D6 : ∀ W, (Op.stringOp .add U5 m.sh).run Tryz.prog W = .ok (.string U6) W)
    (D7 : ∀ W, (Op.stringOp .add ⟨#[3, 3]⟩ m.rn).run Tryz.prog W = .ok (.string U7) W)
    (C5 : ∀ W, Calls Tryz.prog 24 #[.int .i64 1, .string m.ss] W fun e w' => e = .returned (.string V4) ∧ Below W.heap.size W w')
    (D8 : ∀ W, (Op.stringOp .add U7 V4).run Tryz.prog W = .ok (.string U8) W)
    (D9 : ∀ W, (Op.stringOp .add U8 ⟨#[0, 2, 19, 1, 1, 0]⟩).run Tryz.prog W = .ok (.string U9) W)
    (C6 : ∀ W, Calls Tryz.prog 24 #[.int .i64 2, .string U6] W fun e w' => e = .returned (.string V5) ∧ Below W.heap.size W w')
    (D10 : ∀ W, (Op.stringOp .add U9 V5).run Tryz.prog W = .ok (.string U10) W) :
    Calls Tryz.prog 25 #[m.v (.slice a0 n c)] w fun e w' => e = .returned (.string U10) ∧ Below w.heap.size w w' := by
  have hL := m.cells (.slice a0 n c) rfl
  rw [m.v_l] at *
  have F0 : m.c (.slice a0 n c) 0 = .int .i64 1 := by show Value.int .i64 m.k = _; rw [hk]
  generalize m.l (.slice a0 n c) = L at *
  go_enter Tryz.func25, Tryz.ntmps25
  go_upto_region 1 with (fail)
  have A1 : Arr _ _ 16 _ := hL.new w 29 _ rfl
  have hB : Below w.heap.size w (w.alloc (.cells L.toArray 29)) := by go_grown
  generalize w.alloc (.cells L.toArray 29) = W at *
  have l0 := A1.cv 0 (by omega) (.int .i64 1) F0
  have l4 := A1.cv 4 (by omega) (.string m.nm) rfl
  go_wp2_with fail
  refine (C1 _).mono ?_
  rintro e w1 ⟨rfl, hb⟩
  replace A1 : Arr _ _ 16 _ := A1.to' (n := 15) hb
  replace hB := Bel.call hB hb
  clear hb
  go_wp2_with fail
  refine (C2 _).mono ?_
  rintro e w2 ⟨rfl, hb⟩
  replace A1 : Arr _ _ 16 _ := A1.to' (n := 15) hb
  replace hB := Bel.call hB hb
  clear hb
  go_wp2_with fail
  refine (C3 _).mono ?_
  rintro e w3 ⟨rfl, hb⟩
  replace A1 : Arr _ _ 16 _ := A1.to' (n := 15) hb
  replace hB := Bel.call hB hb
  clear hb
  go_upto_region 4 with (fail)
  clear l0 l4
  have l3 := A1.cv 3 (by omega) (.string m.sh) rfl
  have l5 := A1.cv 5 (by omega) (.string m.al) rfl
  have r3 := fun ds os => cell_regrown l3 ds os
  have r5 := fun ds os => cell_regrown l5 ds os
  refine wp_region_quiet_below (by kernel_rfl) (by kernel_rfl) ?_
  go_big_quiet_step (fail)
  go_big_quiet_step (fail)
  go_big_quiet_step (fail)
  go_big_quiet_step ((go_at_call 52; exact Calls.regrown_of (C4 _)))
  go_big_quiet_step (fail)
  go_big_quiet_step (fail)
  go_big_quiet_step (fail)
  go_big_quiet_step (fail)
  go_big_quiet_step (fail)
  go_big_quiet_step (fail)
  refine wpQuiet_nil ?_
  intro w4 hw'
  obtain ⟨⟨dq, osq⟩, hw''⟩ := hw'
  have hb := below_of hw''
  clear hw'' r3 r5 l3 l5
  replace A1 : Arr _ _ 16 _ := A1.to' (n := 15) hb
  replace hB := Bel.call hB hb
  clear hb
  go_upto_region 5 with (fail)
  have l1 := A1.cv 1 (by omega) (.string m.rn) rfl
  have l2 := A1.cv 2 (by omega) (.string m.ss) rfl
  have r1 := fun ds os => cell_regrown l1 ds os
  have r2 := fun ds os => cell_regrown l2 ds os
  refine wp_region_quiet_below (by kernel_rfl) (by kernel_rfl) ?_
  go_big_quiet_step (fail)
  go_big_quiet_step (fail)
  go_big_quiet_step (fail)
  go_big_quiet_step (fail)
  go_big_quiet_step (fail)
  go_big_quiet_step ((go_at_call 24; exact Calls.regrown_of (C5 _)))
  go_big_quiet_step (fail)
  go_big_quiet_step (fail)
  go_big_quiet_step (fail)
  go_big_quiet_step ((go_at_call 24; exact Calls.regrown_of (C6 _)))
  go_big_quiet_step (fail)
  go_big_quiet_step (fail)
  refine wpQuiet_nil ?_
  intro w5 hw'
  obtain ⟨⟨dq, osq⟩, hw''⟩ := hw'
  have hb := below_of hw''
  clear hw'' r1 r2 l1 l2
  replace hB := Bel.call hB hb
  go_wp2_with fail
  go_ret
  exact ⟨rfl, hB⟩
set_option maxHeartbeats 2000000 in
theorem rbody_2 (m : Mg) (hk : m.k = 2) (a0 : Option Addr) (n c : Nat) (V1 V2 U1 U2 U3 U4 U5 : ByteArray) (w : World)
    (D1 : ∀ W, (Op.stringOp .add ⟨#[0, 43, 0, 2, 3, 4, 0, 51, 0, 36, 0, 29, 0, 32]⟩ m.sh).run Tryz.prog W = .ok (.string U1) W)
    (D2 : ∀ W, (Op.stringOp .add ⟨#[3, 3]⟩ m.rn).run Tryz.prog W = .ok (.string U2) W)
    (C1 : ∀ W, Calls Tryz.prog 24 #[.int .i64 1, .string m.ss] W fun e w' => e = .returned (.string V1) ∧ Below W.heap.size W w')
    (D3 : ∀ W, (Op.stringOp .add U2 V1).run Tryz.prog W = .ok (.string U3) W)
    (D4 : ∀ W, (Op.stringOp .add U3 ⟨#[19, 1, 0]⟩).run Tryz.prog W = .ok (.string U4) W)
    (C2 : ∀ W, Calls Tryz.prog 24 #[.int .i64 2, .string U1] W fun e w' => e = .returned (.string V2) ∧ Below W.heap.size W w')
    (D5 : ∀ W, (Op.stringOp .add U4 V2).run Tryz.prog W = .ok (.string U5) W) :
    Calls Tryz.prog 25 #[m.v (.slice a0 n c)] w fun e w' => e = .returned (.string U5) ∧ Below w.heap.size w w' := by
  have hL := m.cells (.slice a0 n c) rfl
  rw [m.v_l] at *
  have F0 : m.c (.slice a0 n c) 0 = .int .i64 2 := by show Value.int .i64 m.k = _; rw [hk]
  generalize m.l (.slice a0 n c) = L at *
  go_enter Tryz.func25, Tryz.ntmps25
  go_upto_region 1 with (fail)
  have A1 : Arr _ _ 16 _ := hL.new w 29 _ rfl
  have hB : Below w.heap.size w (w.alloc (.cells L.toArray 29)) := by go_grown
  generalize w.alloc (.cells L.toArray 29) = W at *
  have l0 := A1.cv 0 (by omega) (.int .i64 2) F0
  have l3 := A1.cv 3 (by omega) (.string m.sh) rfl
  go_upto_region 8 with (fail)
  clear l0 l3
  have l1 := A1.cv 1 (by omega) (.string m.rn) rfl
  have l2 := A1.cv 2 (by omega) (.string m.ss) rfl
  have r1 := fun ds os => cell_regrown l1 ds os
  have r2 := fun ds os => cell_regrown l2 ds os
  refine wp_region_quiet_below (by kernel_rfl) (by kernel_rfl) ?_
  go_big_quiet_step (fail)
  go_big_quiet_step (fail)
  go_big_quiet_step (fail)
  go_big_quiet_step (fail)
  go_big_quiet_step (fail)
  go_big_quiet_step ((go_at_call 24; exact Calls.regrown_of (C1 _)))
  go_big_quiet_step (fail)
  go_big_quiet_step (fail)
  go_big_quiet_step (fail)
  go_big_quiet_step ((go_at_call 24; exact Calls.regrown_of (C2 _)))
  go_big_quiet_step (fail)
  go_big_quiet_step (fail)
  refine wpQuiet_nil ?_
  intro w5 hw'
  obtain ⟨⟨dq, osq⟩, hw''⟩ := hw'
  have hb := below_of hw''
  clear hw'' r1 r2 l1 l2
  replace hB := Bel.call hB hb
  go_wp2_with fail
  go_ret
  exact ⟨rfl, hB⟩
set_option maxHeartbeats 2000000 in
theorem rbody_8 (m : Mg) (hk : m.k = 8) (a0 : Option Addr) (n c : Nat) (Y V : ByteArray) (w : World)
    (C1 : ∀ W, Calls Tryz.prog 52 #[.string m.al] W fun e w' => e = .returned (.string Y) ∧ Below W.heap.size W w')
    (C2 : ∀ W, Calls Tryz.prog 24 #[.int .i64 2, .string Y] W fun e w' => e = .returned (.string V) ∧ Below W.heap.size W w') :
    Calls Tryz.prog 25 #[m.v (.slice a0 n c)] w fun e w' => e = .returned (.string V) ∧ Below w.heap.size w w' := by
  have hL := m.cells (.slice a0 n c) rfl
  rw [m.v_l] at *
  have F0 : m.c (.slice a0 n c) 0 = .int .i64 8 := by show Value.int .i64 m.k = _; rw [hk]
  generalize m.l (.slice a0 n c) = L at *
  go_enter Tryz.func25, Tryz.ntmps25
  go_upto_region 1 with (fail)
  have A1 : Arr _ _ 16 _ := hL.new w 29 _ rfl
  have hB : Below w.heap.size w (w.alloc (.cells L.toArray 29)) := by go_grown
  generalize w.alloc (.cells L.toArray 29) = W at *
  have l0 := A1.cv 0 (by omega) (.int .i64 8) F0
  have l5 := A1.cv 5 (by omega) (.string m.al) rfl
  go_wp2_with fail
  refine (C1 _).mono ?_
  rintro e w1 ⟨rfl, hb⟩
  replace A1 : Arr _ _ 16 _ := A1.to' (n := 15) hb
  replace hB := Bel.call hB hb
  clear hb
  go_wp2_with fail
  refine (C2 _).mono ?_
  rintro e w2 ⟨rfl, hb⟩
  replace A1 : Arr _ _ 16 _ := A1.to' (n := 15) hb
  replace hB := Bel.call hB hb
  clear hb
  go_wp2_with fail
  go_ret
  exact ⟨rfl, hB⟩
set_option maxHeartbeats 2000000 in
theorem rbody_15 (m : Mg) (hk : m.k = 15) (a0 : Option Addr) (n c : Nat) (Y V U : ByteArray) (w : World)
    (C1 : ∀ W, Calls Tryz.prog 53 #[.agg #[.int .u64 (lim m.x 0), .int .u64 (lim m.x 1), .int .u64 (lim m.x 2), .int .u64 (lim m.x 3), .int .u64 (lim m.y 0), .int .u64 (lim m.y 1), .int .u64 (lim m.y 2), .int .u64 (lim m.y 3)]] W fun e w' => e = .returned (.string Y) ∧ Below W.heap.size W w')
    (C2 : ∀ W, Calls Tryz.prog 24 #[.int .i64 2, .string Y] W fun e w' => e = .returned (.string V) ∧ Below W.heap.size W w')
    (D1 : ∀ W, (Op.stringOp .add ⟨#[4, 3]⟩ V).run Tryz.prog W = .ok (.string U) W) :
    Calls Tryz.prog 25 #[m.v (.slice a0 n c)] w fun e w' => e = .returned (.string U) ∧ Below w.heap.size w w' := by
  have hL := m.cells (.slice a0 n c) rfl
  rw [m.v_l] at *
  have F0 : m.c (.slice a0 n c) 0 = .int .i64 15 := by show Value.int .i64 m.k = _; rw [hk]
  generalize m.l (.slice a0 n c) = L at *
  go_enter Tryz.func25, Tryz.ntmps25
  go_upto_region 1 with (fail)
  have A1 : Arr _ _ 16 _ := hL.new w 29 _ rfl
  have hB : Below w.heap.size w (w.alloc (.cells L.toArray 29)) := by go_grown
  generalize w.alloc (.cells L.toArray 29) = W at *
  have l0 := A1.cv 0 (by omega) (.int .i64 15) F0
  have l7 := A1.cv 7 (by omega) (.int .u64 (lim m.x 0)) rfl
  have l8 := A1.cv 8 (by omega) (.int .u64 (lim m.x 1)) rfl
  have l9 := A1.cv 9 (by omega) (.int .u64 (lim m.x 2)) rfl
  have l10 := A1.cv 10 (by omega) (.int .u64 (lim m.x 3)) rfl
  have l11 := A1.cv 11 (by omega) (.int .u64 (lim m.y 0)) rfl
  have l12 := A1.cv 12 (by omega) (.int .u64 (lim m.y 1)) rfl
  have l13 := A1.cv 13 (by omega) (.int .u64 (lim m.y 2)) rfl
  have l14 := A1.cv 14 (by omega) (.int .u64 (lim m.y 3)) rfl
  go_wp2_with fail
  refine (C1 _).mono ?_
  rintro e w1 ⟨rfl, hb⟩
  replace A1 : Arr _ _ 16 _ := A1.to' (n := 15) hb
  replace hB := Bel.call hB hb
  clear hb
  go_wp2_with fail
  refine (C2 _).mono ?_
  rintro e w2 ⟨rfl, hb⟩
  replace A1 : Arr _ _ 16 _ := A1.to' (n := 15) hb
  replace hB := Bel.call hB hb
  clear hb
  go_wp2_with fail
  go_ret
  exact ⟨rfl, hB⟩
set_option maxHeartbeats 2000000 in
theorem rbody_20 (m : Mg) (hk : m.k = 20) (a0 : Option Addr) (n c : Nat) (Y : ByteArray) (w : World)
    (hY : m.mc = Y) :
    Calls Tryz.prog 25 #[m.v (.slice a0 n c)] w fun e w' => e = .returned (.string Y) ∧ Below w.heap.size w w' := by
  have hL := m.cells (.slice a0 n c) rfl
  rw [m.v_l] at *
  have F0 : m.c (.slice a0 n c) 0 = .int .i64 20 := by show Value.int .i64 m.k = _; rw [hk]
  generalize m.l (.slice a0 n c) = L at *
  go_enter Tryz.func25, Tryz.ntmps25
  go_upto_region 1 with (fail)
  have A1 : Arr _ _ 16 _ := hL.new w 29 _ rfl
  have hB : Below w.heap.size w (w.alloc (.cells L.toArray 29)) := by go_grown
  generalize w.alloc (.cells L.toArray 29) = W at *
  have l0 := A1.cv 0 (by omega) (.int .i64 20) F0
  have l15 := A1.cv 15 (by omega) (.string m.mc) rfl
  subst hY
  go_wp2_with fail
  go_ret
  exact ⟨rfl, hB⟩
theorem cfT_size (l : List ByteArray) (h : ∀ c ∈ l, c.size ≤ 2048) (hl : l.length ≤ 4) : (cfT l).size ≤ 8212 := by
  rw [cfT_is]
  have := (cfS_size l h).1
  omega
set_option maxHeartbeats 2000000 in
theorem rbody_11 (m : Mg) (hk : m.k = 11) (a0 : Option Addr) (n c : Nat) (w : World)
    (hn : m.cs.length = n) (n4 : n ≤ 4) (hz : ∀ t ∈ m.cs, t.size ≤ 2048) (hC : ∀ (i : Nat) (s : ByteArray), m.cs[i]? = some s → ∃ b, a0 = some b ∧ (b.add i).block < w.heap.size ∧ w.cell? (b.add i) = some (.string s)) :
    Calls Tryz.prog 25 #[m.v (.slice a0 n c)] w fun e w' => e = .returned (.string (ctS m.cs)) ∧ Below w.heap.size w w' := by
  have hL := m.cells (.slice a0 n c) rfl
  rw [m.v_l] at *
  have F0 : m.c (.slice a0 n c) 0 = .int .i64 11 := by show Value.int .i64 m.k = _; rw [hk]
  generalize m.l (.slice a0 n c) = L at *
  go_enter Tryz.func25, Tryz.ntmps25
  go_upto_region 1 with (fail)
  have A1 : Arr _ _ 16 _ := hL.new w 29 _ rfl
  have hB : Below w.heap.size w (w.alloc (.cells L.toArray 29)) := by go_grown
  generalize w.alloc (.cells L.toArray 29) = W at *
  have l0 := A1.cv 0 (by omega) (.int .i64 11) F0
  have l6 := A1.cv 6 (by omega) (.slice a0 n c) rfl
  have HN : Hid (m.cs.length = n) := hn
  have HC : Hid (∀ (i : Nat) (s : ByteArray), m.cs[i]? = some s → ∃ b, a0 = some b ∧ W.cell? (b.add i) = some (.string s)) := fun i s hi => by
    obtain ⟨b, e, lt, cc⟩ := hC i s hi
    exact ⟨b, e, (hB.cell lt).trans cc⟩
  clear hC hn
  go_wp2_with fail
  go_loopw [5, 6] (fun x i wr => ∃ j : Nat, j ≤ n ∧ i = .int .i64 (j : Int) ∧ x = .string (cfT (m.cs.take j)) ∧ Below W.heap.size W wr) (fun _ i _ => n - (Go.RowKit.intOf i).toNat)
  case atStart => exact ⟨0, by omega, rfl, by rw [List.take_zero]; rfl, Below.refl _ _⟩
  case round =>
    obtain ⟨j, hj, rfl, rfl, hb⟩ := hrel
    have j0 : (0 : Int) ≤ (j : Int) := by omega
    have f6 := (hb.cell (block_lt_of_cell l6)).trans l6
    by_cases hlt : j < n
    · have j1 : (j : Int) < (n : Int) := by omega
      obtain ⟨t, hs⟩ : ∃ t, m.cs[j]? = some t := ⟨_, List.getElem?_eq_getElem (by rw [HN.out]; exact hlt)⟩
      obtain ⟨b, hb', g1⟩ := HC.out j t hs
      subst hb'
      replace g1 := (hb.cell (block_lt_of_cell g1)).trans g1
      have ht := hz t (List.mem_of_getElem? hs)
      have C3 := fun W => rvector_any 3 t (by omega) (by omega) W
      rw [show ((3 : Nat) : Int) = 3 from rfl] at C3
      have zv := vec_size 3 t
      have zc := cfT_size (m.cs.take j) (fun c hc => hz c (List.mem_of_mem_take hc)) (by have := List.length_take_le j m.cs; omega)
      have HT : Hid (cfT (m.cs.take (j + 1)) = (cfT (m.cs.take j) ++ vec 3 t) ++ ⟨#[0, 0]⟩) := by
        show _ = _
        rw [List.take_add_one, hs]
        unfold cfT
        rw [Option.toList_some, List.foldl_append]
        rfl
      have D1 := fun W => add_s (cfT (m.cs.take j)) (vec 3 t) (by omega) W
      have D2 := fun W => add_s (cfT (m.cs.take j) ++ vec 3 t) ⟨#[0, 0]⟩ (by rw [ap_size]; have : (⟨#[0, 0]⟩ : ByteArray).size = 2 := rfl; omega) W
      clear zv zc ht hs
      generalize (cfT (m.cs.take j) ++ vec 3 t) ++ ⟨#[0, 0]⟩ = U2 at *
      generalize cfT (m.cs.take j) ++ vec 3 t = U1 at *
      generalize cfT (m.cs.take j) = U0 at *
      generalize vec 3 t = V at *
      go_wp2_with fail
      refine (C3 _).mono ?_
      rintro e w2 ⟨rfl, hb2⟩
      go_wp2_with fail
      exact ⟨⟨j + 1, by omega, by go_num, by rw [HT.out], Bel.call hb hb2⟩, by simp [Go.RowKit.intOf]; omega⟩
    · have j1 : ¬ (j : Int) < (n : Int) := by omega
      have e : m.cs.take j = m.cs := List.take_of_length_le (by rw [HN.out]; omega)
      rw [e]
      have zc := cfT_size m.cs hz (by rw [HN.out]; exact n4)
      have C3 := fun W => rvector_any 3 (cfT m.cs) (by omega) (by omega) W
      rw [show ((3 : Nat) : Int) = 3 from rfl] at C3
      have zv := vec_size 3 (cfT m.cs)
      have D1 := fun W => add_s ⟨#[0]⟩ (vec 3 (cfT m.cs)) (by have : (⟨#[0]⟩ : ByteArray).size = 1 := rfl; omega) W
      have HE : Hid (ctS m.cs = ⟨#[0]⟩ ++ vec 3 (cfT m.cs)) := by show _ = _; unfold ctS; rw [cfT_is]
      clear e zc zv
      generalize (⟨#[0]⟩ ++ vec 3 (cfT m.cs) : ByteArray) = U2 at *
      generalize vec 3 (cfT m.cs) = V at *
      generalize cfT m.cs = U0 at *
      go_wp2_with fail
      refine (C3 _).mono ?_
      rintro e w2 ⟨rfl, hb2⟩
      go_wp2_with fail
      go_ret
      exact ⟨by rw [HE.out]; rfl, Bel.call (Bel.call hB hb) hb2⟩
end Go.Proofs.YtjdpeedghpblgaaGreatDoor
/- The reference's Write. -/
set_option linter.all false
set_option maxRecDepth 100000
namespace Go.Proofs.YtjdpeedghpblgaaGreatDoor
open Go.RowKit Go.Sort Go.Lib
/-- A message's body. -/
def bdy (m : Mg) : ByteArray :=
  if m.k = 1 then clS m.rn m.ss m.nm m.al m.sh else if m.k = 2 then svS m.rn m.ss m.sh else if m.k = 8 then exS m.al else if m.k = 11 then ctS m.cs else if m.k = 15 then vfS (sgS m.x m.y) else m.mc
theorem ft_kd {m : Mg} (h : ftB m = true) : kdB m.k = true := by unfold ftB at h; simp only [Bool.and_eq_true] at h; exact h.1.1
theorem ft_on {m : Mg} (h : ftB m = true) : m = onM m := by unfold ftB at h; simp only [Bool.and_eq_true] at h; exact (smB_iff _ _).1 h.1.2
theorem ft_kn {m : Mg} (h : ftB m = true) : knB m = true := by unfold ftB at h; simp only [Bool.and_eq_true] at h; exact h.2
theorem ft_1 {m : Mg} (h : ftB m = true) (hk : m.k = 1) : m.rn.size = 32 ∧ m.sh.size = 32 ∧ m.ss.size ≤ 32 ∧ hoB m.nm = true ∧ m.al.size ≠ 0 ∧ m.al.size ≤ 32 := by
  have := ft_kn h; unfold knB at this; rw [hk] at this; exact of_decide_eq_true this
theorem ft_2 {m : Mg} (h : ftB m = true) (hk : m.k = 2) : m.rn.size = 32 ∧ m.sh.size = 32 ∧ m.ss.size ≤ 32 := by
  have := ft_kn h; unfold knB at this; rw [hk] at this; exact of_decide_eq_true this
theorem ft_8 {m : Mg} (h : ftB m = true) (hk : m.k = 8) : m.al.size ≠ 0 ∧ m.al.size ≤ 32 := by
  have := ft_kn h; unfold knB at this; rw [hk] at this; exact of_decide_eq_true this
theorem ft_11 {m : Mg} (h : ftB m = true) (hk : m.k = 11) : m.cs.length ≠ 0 ∧ m.cs.length ≤ 4 ∧ ∀ c ∈ m.cs, c.size ≠ 0 ∧ c.size ≤ 2048 := by
  have := ft_kn h; unfold knB at this; rw [hk] at this; exact of_decide_eq_true this
theorem ft_20 {m : Mg} (h : ftB m = true) (hk : m.k = 20) : m.mc.size = 32 := by
  have := ft_kn h; unfold knB at this; rw [hk] at this; exact of_decide_eq_true this
theorem ho_size {s : ByteArray} (h : hoB s = true) : s.size ≠ 0 ∧ s.size ≤ 64 := by unfold hoB at h; have := of_decide_eq_true h; exact ⟨this.1, this.2.1⟩
theorem rvec_i (k : Nat) (K : Int) (hK : (k : Int) = K) (s : ByteArray) (hk : k ≤ 3) (hn : (s.size : Int) ≤ 281474976710656) (w : World) :
    Calls Tryz.prog 24 #[.int .i64 K, .string s] w fun e w' => e = .returned (.string (vec k s)) ∧ Below w.heap.size w w' := by rw [← hK]; exact rvector_any k s hk hn w
theorem clX_left (nm al sh : ByteArray) : (((((⟨#[0, 0]⟩ ++ vec 2 (vec 2 (⟨#[0]⟩ ++ vec 2 nm))) ++ ⟨#[0, 10, 0, 4, 0, 2, 0, 29, 0, 13, 0, 4, 0, 2, 4, 3]⟩) ++ alS al) ++ ⟨#[0, 43, 0, 3, 2, 3, 4, 0, 51, 0, 38, 0, 36, 0, 29, 0, 32]⟩) ++ sh : ByteArray) = clX nm al sh := by
  unfold clX
  simp only [ap_assoc]
theorem clS_left (rn ss nm al sh : ByteArray) : ((((⟨#[3, 3]⟩ ++ rn) ++ vec 1 ss) ++ ⟨#[0, 2, 19, 1, 1, 0]⟩) ++ vec 2 (clX nm al sh) : ByteArray) = clS rn ss nm al sh := by
  unfold clS
  simp only [ap_assoc]
theorem svS_left (rn ss sh : ByteArray) : ((((⟨#[3, 3]⟩ ++ rn) ++ vec 1 ss) ++ ⟨#[19, 1, 0]⟩) ++ vec 2 (⟨#[0, 43, 0, 2, 3, 4, 0, 51, 0, 36, 0, 29, 0, 32]⟩ ++ sh) : ByteArray) = svS rn ss sh := by
  unfold svS
  simp only [ap_assoc]
set_option maxHeartbeats 1000000 in
theorem rbody_1a (m : Mg) (hk : m.k = 1) (a0 : Option Addr) (n c : Nat) (z1 : m.rn.size = 32) (z2 : m.sh.size = 32) (z3 : m.ss.size ≤ 32) (z7 : m.nm.size ≤ 64) (z6 : m.al.size ≤ 32) (w : World) :
    Calls Tryz.prog 25 #[m.v (.slice a0 n c)] w fun e w' => e = .returned (.string (clS m.rn m.ss m.nm m.al m.sh)) ∧ Below w.heap.size w w' := by
  rw [← clS_left, ← clX_left]
  obtain ⟨V1, eV1⟩ : ∃ V, V = vec 2 m.nm := ⟨_, rfl⟩
  have C1 := fun W => rvec_i 2 2 rfl m.nm (by omega) (by omega) W
  rw [← eV1] at C1
  have zV1 : V1.size = 2 + m.nm.size := by rw [eV1, vec_size]
  obtain ⟨U1, eU1⟩ : ∃ V, V = (⟨#[0]⟩ : ByteArray) ++ V1 := ⟨_, rfl⟩
  have yU1a : (⟨#[0]⟩ : ByteArray).size = 1 := rfl
  have D1 := fun W => add_s (⟨#[0]⟩ : ByteArray) V1 (by omega) W
  rw [← eU1] at D1
  have zU1 : U1.size = 1 + V1.size := by rw [eU1, ap_size]; rfl
  obtain ⟨V2, eV2⟩ : ∃ V, V = vec 2 U1 := ⟨_, rfl⟩
  have C2 := fun W => rvec_i 2 2 rfl U1 (by omega) (by omega) W
  rw [← eV2] at C2
  have zV2 : V2.size = 2 + U1.size := by rw [eV2, vec_size]
  obtain ⟨V3, eV3⟩ : ∃ V, V = vec 2 V2 := ⟨_, rfl⟩
  have C3 := fun W => rvec_i 2 2 rfl V2 (by omega) (by omega) W
  rw [← eV3] at C3
  have zV3 : V3.size = 2 + V2.size := by rw [eV3, vec_size]
  obtain ⟨U2, eU2⟩ : ∃ V, V = (⟨#[0, 0]⟩ : ByteArray) ++ V3 := ⟨_, rfl⟩
  have yU2a : (⟨#[0, 0]⟩ : ByteArray).size = 2 := rfl
  have D2 := fun W => add_s (⟨#[0, 0]⟩ : ByteArray) V3 (by omega) W
  rw [← eU2] at D2
  have zU2 : U2.size = 2 + V3.size := by rw [eU2, ap_size]; rfl
  obtain ⟨U3, eU3⟩ : ∃ V, V = U2 ++ (⟨#[0, 10, 0, 4, 0, 2, 0, 29, 0, 13, 0, 4, 0, 2, 4, 3]⟩ : ByteArray) := ⟨_, rfl⟩
  have yU3b : (⟨#[0, 10, 0, 4, 0, 2, 0, 29, 0, 13, 0, 4, 0, 2, 4, 3]⟩ : ByteArray).size = 16 := rfl
  have D3 := fun W => add_s U2 (⟨#[0, 10, 0, 4, 0, 2, 0, 29, 0, 13, 0, 4, 0, 2, 4, 3]⟩ : ByteArray) (by omega) W
  rw [← eU3] at D3
  have zU3 : U3.size = U2.size + 16 := by rw [eU3, ap_size]; rfl
  obtain ⟨Y, eY⟩ : ∃ V, V = alS m.al := ⟨_, rfl⟩
  have C4 := fun W => ralpn_any m.al (by omega) W
  rw [← eY] at C4
  have zY : Y.size = 7 + m.al.size := by rw [eY, al_size]
  obtain ⟨U4, eU4⟩ : ∃ V, V = U3 ++ Y := ⟨_, rfl⟩
  have D4 := fun W => add_s U3 Y (by omega) W
  rw [← eU4] at D4
  have zU4 : U4.size = U3.size + Y.size := by rw [eU4, ap_size]
  obtain ⟨U5, eU5⟩ : ∃ V, V = U4 ++ (⟨#[0, 43, 0, 3, 2, 3, 4, 0, 51, 0, 38, 0, 36, 0, 29, 0, 32]⟩ : ByteArray) := ⟨_, rfl⟩
  have yU5b : (⟨#[0, 43, 0, 3, 2, 3, 4, 0, 51, 0, 38, 0, 36, 0, 29, 0, 32]⟩ : ByteArray).size = 17 := rfl
  have D5 := fun W => add_s U4 (⟨#[0, 43, 0, 3, 2, 3, 4, 0, 51, 0, 38, 0, 36, 0, 29, 0, 32]⟩ : ByteArray) (by omega) W
  rw [← eU5] at D5
  have zU5 : U5.size = U4.size + 17 := by rw [eU5, ap_size]; rfl
  obtain ⟨U6, eU6⟩ : ∃ V, V = U5 ++ m.sh := ⟨_, rfl⟩
  have D6 := fun W => add_s U5 m.sh (by omega) W
  rw [← eU6] at D6
  have zU6 : U6.size = U5.size + m.sh.size := by rw [eU6, ap_size]
  obtain ⟨U7, eU7⟩ : ∃ V, V = (⟨#[3, 3]⟩ : ByteArray) ++ m.rn := ⟨_, rfl⟩
  have yU7a : (⟨#[3, 3]⟩ : ByteArray).size = 2 := rfl
  have D7 := fun W => add_s (⟨#[3, 3]⟩ : ByteArray) m.rn (by omega) W
  rw [← eU7] at D7
  have zU7 : U7.size = 2 + m.rn.size := by rw [eU7, ap_size]; rfl
  obtain ⟨V4, eV4⟩ : ∃ V, V = vec 1 m.ss := ⟨_, rfl⟩
  have C5 := fun W => rvec_i 1 1 rfl m.ss (by omega) (by omega) W
  rw [← eV4] at C5
  have zV4 : V4.size = 1 + m.ss.size := by rw [eV4, vec_size]
  obtain ⟨U8, eU8⟩ : ∃ V, V = U7 ++ V4 := ⟨_, rfl⟩
  have D8 := fun W => add_s U7 V4 (by omega) W
  rw [← eU8] at D8
  have zU8 : U8.size = U7.size + V4.size := by rw [eU8, ap_size]
  obtain ⟨U9, eU9⟩ : ∃ V, V = U8 ++ (⟨#[0, 2, 19, 1, 1, 0]⟩ : ByteArray) := ⟨_, rfl⟩
  have yU9b : (⟨#[0, 2, 19, 1, 1, 0]⟩ : ByteArray).size = 6 := rfl
  have D9 := fun W => add_s U8 (⟨#[0, 2, 19, 1, 1, 0]⟩ : ByteArray) (by omega) W
  rw [← eU9] at D9
  have zU9 : U9.size = U8.size + 6 := by rw [eU9, ap_size]; rfl
  obtain ⟨V5, eV5⟩ : ∃ V, V = vec 2 U6 := ⟨_, rfl⟩
  have C6 := fun W => rvec_i 2 2 rfl U6 (by omega) (by omega) W
  rw [← eV5] at C6
  have zV5 : V5.size = 2 + U6.size := by rw [eV5, vec_size]
  obtain ⟨U10, eU10⟩ : ∃ V, V = U9 ++ V5 := ⟨_, rfl⟩
  have D10 := fun W => add_s U9 V5 (by omega) W
  rw [← eU10] at D10
  have zU10 : U10.size = U9.size + V5.size := by rw [eU10, ap_size]
  have R := rbody_1 m hk a0 n c V1 V2 V3 V4 V5 U1 U2 U3 U4 U5 U6 U7 U8 U9 U10 Y w C1 D1 C2 C3 D2 D3 C4 D4 D5 D6 D7 C5 D8 D9 C6 D10
  rw [eU10, eV5, eU9, eU8, eV4, eU7, eU6, eU5, eU4, eY, eU3, eU2, eV3, eV2, eU1, eV1] at R
  exact R
set_option maxHeartbeats 1000000 in
theorem rbody_2a (m : Mg) (hk : m.k = 2) (a0 : Option Addr) (n c : Nat) (z1 : m.rn.size = 32) (z2 : m.sh.size = 32) (z3 : m.ss.size ≤ 32) (w : World) :
    Calls Tryz.prog 25 #[m.v (.slice a0 n c)] w fun e w' => e = .returned (.string (svS m.rn m.ss m.sh)) ∧ Below w.heap.size w w' := by
  rw [← svS_left]
  obtain ⟨U1, eU1⟩ : ∃ V, V = (⟨#[0, 43, 0, 2, 3, 4, 0, 51, 0, 36, 0, 29, 0, 32]⟩ : ByteArray) ++ m.sh := ⟨_, rfl⟩
  have yU1a : (⟨#[0, 43, 0, 2, 3, 4, 0, 51, 0, 36, 0, 29, 0, 32]⟩ : ByteArray).size = 14 := rfl
  have D1 := fun W => add_s (⟨#[0, 43, 0, 2, 3, 4, 0, 51, 0, 36, 0, 29, 0, 32]⟩ : ByteArray) m.sh (by omega) W
  rw [← eU1] at D1
  have zU1 : U1.size = 14 + m.sh.size := by rw [eU1, ap_size]; rfl
  obtain ⟨U2, eU2⟩ : ∃ V, V = (⟨#[3, 3]⟩ : ByteArray) ++ m.rn := ⟨_, rfl⟩
  have yU2a : (⟨#[3, 3]⟩ : ByteArray).size = 2 := rfl
  have D2 := fun W => add_s (⟨#[3, 3]⟩ : ByteArray) m.rn (by omega) W
  rw [← eU2] at D2
  have zU2 : U2.size = 2 + m.rn.size := by rw [eU2, ap_size]; rfl
  obtain ⟨V1, eV1⟩ : ∃ V, V = vec 1 m.ss := ⟨_, rfl⟩
  have C1 := fun W => rvec_i 1 1 rfl m.ss (by omega) (by omega) W
  rw [← eV1] at C1
  have zV1 : V1.size = 1 + m.ss.size := by rw [eV1, vec_size]
  obtain ⟨U3, eU3⟩ : ∃ V, V = U2 ++ V1 := ⟨_, rfl⟩
  have D3 := fun W => add_s U2 V1 (by omega) W
  rw [← eU3] at D3
  have zU3 : U3.size = U2.size + V1.size := by rw [eU3, ap_size]
  obtain ⟨U4, eU4⟩ : ∃ V, V = U3 ++ (⟨#[19, 1, 0]⟩ : ByteArray) := ⟨_, rfl⟩
  have yU4b : (⟨#[19, 1, 0]⟩ : ByteArray).size = 3 := rfl
  have D4 := fun W => add_s U3 (⟨#[19, 1, 0]⟩ : ByteArray) (by omega) W
  rw [← eU4] at D4
  have zU4 : U4.size = U3.size + 3 := by rw [eU4, ap_size]; rfl
  obtain ⟨V2, eV2⟩ : ∃ V, V = vec 2 U1 := ⟨_, rfl⟩
  have C2 := fun W => rvec_i 2 2 rfl U1 (by omega) (by omega) W
  rw [← eV2] at C2
  have zV2 : V2.size = 2 + U1.size := by rw [eV2, vec_size]
  obtain ⟨U5, eU5⟩ : ∃ V, V = U4 ++ V2 := ⟨_, rfl⟩
  have D5 := fun W => add_s U4 V2 (by omega) W
  rw [← eU5] at D5
  have zU5 : U5.size = U4.size + V2.size := by rw [eU5, ap_size]
  have R := rbody_2 m hk a0 n c V1 V2 U1 U2 U3 U4 U5 w D1 D2 C1 D3 D4 C2 D5
  rw [eU5, eV2, eU4, eU3, eV1, eU2, eU1] at R
  exact R
theorem rbody_any (m : Mg) (h : ftB m = true) (u : Value) (w : World) (hu : Txs w u m.cs) :
    Calls Tryz.prog 25 #[m.v u] w fun e w' => e = .returned (.string (bdy m)) ∧ Below w.heap.size w w' := by
  obtain ⟨a0, c, e, f1⟩ := hu.form
  subst e
  have s1 : (⟨#[0]⟩ : ByteArray).size = 1 := rfl
  have s2 : (⟨#[0, 0]⟩ : ByteArray).size = 2 := rfl
  have s3 : (⟨#[3, 3]⟩ : ByteArray).size = 2 := rfl
  have s4 : (⟨#[0, 10, 0, 4, 0, 2, 0, 29, 0, 13, 0, 4, 0, 2, 4, 3]⟩ : ByteArray).size = 16 := rfl
  have s5 : (⟨#[0, 43, 0, 3, 2, 3, 4, 0, 51, 0, 38, 0, 36, 0, 29, 0, 32]⟩ : ByteArray).size = 17 := rfl
  have s6 : (⟨#[0, 2, 19, 1, 1, 0]⟩ : ByteArray).size = 6 := rfl
  have s7 : (⟨#[0, 43, 0, 2, 3, 4, 0, 51, 0, 36, 0, 29, 0, 32]⟩ : ByteArray).size = 14 := rfl
  have s8 : (⟨#[19, 1, 0]⟩ : ByteArray).size = 3 := rfl
  have s9 : (⟨#[4, 3]⟩ : ByteArray).size = 2 := rfl
  unfold bdy
  rcases kd_cases (ft_kd h) with hk | hk | hk | hk | hk | hk
  · obtain ⟨z1, z2, z3, z4, z5, z6⟩ := ft_1 h hk
    have z7 := (ho_size z4).2
    rw [if_pos hk]
    exact rbody_1a m hk a0 _ c z1 z2 z3 z7 z6 w
  · obtain ⟨z1, z2, z3⟩ := ft_2 h hk
    rw [if_neg (by omega), if_pos hk]
    exact rbody_2a m hk a0 _ c z1 z2 z3 w
  · obtain ⟨z1, z2⟩ := ft_8 h hk
    have az := al_size m.al
    rw [if_neg (by omega), if_neg (by omega), if_pos hk]
    exact rbody_8 m hk a0 _ c (alS m.al) _ w (fun W => ralpn_any m.al (by omega) W) (fun W => rvec_i 2 2 rfl _ (by omega) (by omega) W)
  · obtain ⟨z1, z2, z3⟩ := ft_11 h hk
    rw [if_neg (by omega), if_neg (by omega), if_neg (by omega), if_pos hk]
    exact rbody_11 m hk a0 _ c w rfl z2 (fun t ht => (z3 t ht).2) f1
  · rw [if_neg (by omega), if_neg (by omega), if_neg (by omega), if_neg (by omega), if_pos hk]
    have zs := sgS_size m.x m.y
    unfold vfS
    refine rbody_15 m hk a0 _ c (sgS m.x m.y) (vec 2 (sgS m.x m.y)) _ w (fun W => rsig_any m.x m.y W) (fun W => rvec_i 2 2 rfl _ (by omega) (by omega) W) (fun W => add_s _ _ ?_ W)
    simp only [vec_size, s9]; omega
  · rw [if_neg (by omega), if_neg (by omega), if_neg (by omega), if_neg (by omega), if_neg (by omega)]
    exact rbody_20 m hk a0 _ c m.mc w rfl
end Go.Proofs.YtjdpeedghpblgaaGreatDoor
/- The reference's Write. -/
set_option linter.all false
set_option maxRecDepth 100000
namespace Go.Proofs.YtjdpeedghpblgaaGreatDoor
open Go.RowKit Go.Sort Go.Lib
/-- A row of one byte that has been built. -/
def rowV (k : Int) (v : Value) (w : World) : Prop := ∃ g, v = .slice (some ⟨g, 0, none⟩) 1 1 ∧ g < w.heap.size ∧ w.cell? ⟨g, 0, none⟩ = some (.int .u8 (k % 256))
theorem rowV.st {k : Int} {v : Value} {w w' : World} (h : rowV k v w) (hb : Below w.heap.size w w') : rowV k v w' := by
  obtain ⟨g, h1, h2, h3⟩ := h
  exact ⟨g, h1, Nat.lt_of_lt_of_le h2 hb.size, (hb.cell (p := ⟨g, 0, none⟩) h2).trans h3⟩
theorem rowV.conv {k : Int} {v : Value} {w : World} (h : rowV k v w) : (convert 61 9 v).run Tryz.prog w = .ok (.string (mkS [k % 256])) w := by
  obtain ⟨g, rfl, _, h3⟩ := h
  refine convC w g 1 1 [k % 256] rfl (fun j u hu => ?_)
  cases j with
  | zero =>
    simp at hu
    subst hu
    rw [Addr.add_mid, Nat.zero_add]
    exact h3
  | succ j => simp at hu
theorem rowV.new (k : Int) (w : World) : rowV k (.slice (some ⟨w.heap.size, 0, none⟩) 1 1) (w.alloc (.cells #[.int .u8 (k % 256)] 5)) := by
  refine ⟨_, rfl, by simp, ?_⟩
  exact World.cell?_alloc_at (w := w) #[.int .u8 (k % 256)] 5 _ 0 rfl
/-- A message as bytes. -/
def wrM (m : Mg) : ByteArray := mkS [m.k] ++ vec 3 (bdy m)
def wmR (m : Mg) : Value := if ftB m = true then .tuple #[.string (wrM m), .int .i64 0] else .tuple #[.string nS, .int .i64 10]
/-- What the operations of Write give. -/
def wmV (rb : Nat) (S1 Y Z X : ByteArray) (L : List Value) (k : Int) : Nat → Value → World → Prop
  | 0, v, _ => v = .pointer (some ⟨rb, 0, none⟩)
  | 1, v, _ => v = .int .i64 k
  | 2, v, _ => v = .int .u8 (k % 256)
  | 3, v, w => rowV k v w
  | 4, v, _ => v = .string S1
  | 5, v, _ => v = .agg L.toArray
  | 6, v, _ => v = .string Y
  | 7, v, _ => v = .string Z
  | _, v, _ => v = .string X
theorem wmV.st (rb : Nat) (S1 Y Z X : ByteArray) (L : List Value) (k : Int) (i : Nat) (v : Value) (w w' : World) (h : wmV rb S1 Y Z X L k i v w) (hb : Below w.heap.size w w') : wmV rb S1 Y Z X L k i v w' := by
  match i, h with
  | 0, h | 1, h | 2, h | 4, h | 5, h | 6, h | 7, h => exact h
  | 3, h => exact rowV.st h hb
  | n + 8, h => exact h
set_option maxHeartbeats 1000000 in
theorem rWrite_no (m : Mg) (a0 : Option Addr) (n c : Nat) (w : World)
    (C1 : ∀ W, Below w.heap.size w W → Calls Tryz.prog 13 #[m.v (.slice a0 n c)] W fun e w' => e = .returned (.bool false) ∧ Below W.heap.size W w') :
    Calls Tryz.prog 9 #[m.v (.slice a0 n c)] w fun e w' => e = .returned (.tuple #[.string nS, .int .i64 10]) ∧ Below w.heap.size w w' := by
  have hL := m.cells (.slice a0 n c) rfl
  rw [m.v_l] at *
  generalize m.l (.slice a0 n c) = L at *
  go_enter Tryz.func9, Tryz.ntmps9
  go_upto_region 1 with (fail)
  have A1 : Arr _ _ 16 _ := hL.new w 29 _ rfl
  have hB : Below w.heap.size w (w.alloc (.cells L.toArray 29)) := by go_grown
  generalize w.alloc (.cells L.toArray 29) = W at *
  refine wp_region_list ?_
  refine hL.wld tM A1 0 (by omega) (fun j _ => by rw [Nat.zero_add]) (by rfl) (.tmp 1) (by rfl) (by rfl) ?_
  simp only [Act.put, List.setIfInBounds_toArray, List.set_cons_succ, List.set_cons_zero]
  go_wp2_with fail
  refine (C1 _ hB).mono ?_
  rintro e w1 ⟨rfl, hb⟩
  go_wp2_with fail
  exact bodyPost_ret (v := .tuple #[.string nS, .int .i64 10]) (by simp [results, Tryz.results9, go_sem]) rfl ⟨rfl, Bel.call hB hb⟩
set_option maxHeartbeats 1000000 in
theorem rWrite_yes (m : Mg) (k : Int) (hk : m.k = k) (a0 : Option Addr) (n c : Nat) (S1 Y Z X : ByteArray) (hS1 : mkS [k % 256] = S1) (z : S1.size + Z.size ≤ 1000000) (hX : S1 ++ Z = X) (w : World)
    (C1 : ∀ W, Below w.heap.size w W → Calls Tryz.prog 13 #[m.v (.slice a0 n c)] W fun e w' => e = .returned (.bool true) ∧ Below W.heap.size W w')
    (C2 : ∀ W, Below w.heap.size w W → Calls Tryz.prog 25 #[m.v (.slice a0 n c)] W fun e w' => e = .returned (.string Y) ∧ Below W.heap.size W w')
    (C3 : ∀ W, Calls Tryz.prog 24 #[.int .i64 3, .string Y] W fun e w' => e = .returned (.string Z) ∧ Below W.heap.size W w') :
    Calls Tryz.prog 9 #[m.v (.slice a0 n c)] w fun e w' => e = .returned (.tuple #[.string X, .int .i64 0]) ∧ Below w.heap.size w w' := by
  have hL := m.cells (.slice a0 n c) rfl
  rw [m.v_l] at *
  have F0 : m.c (.slice a0 n c) 0 = .int .i64 k := by show Value.int .i64 m.k = _; rw [hk]
  have AD := fun W => add_s S1 Z (by omega) W
  rw [hX] at AD
  generalize m.l (.slice a0 n c) = L at *
  go_enter Tryz.func9, Tryz.ntmps9
  go_upto_region 1 with (fail)
  have A1 : Arr _ _ 16 _ := hL.new w 29 _ rfl
  have hB : Below w.heap.size w (w.alloc (.cells L.toArray 29)) := by go_grown
  generalize w.alloc (.cells L.toArray 29) = W at *
  refine wp_region_list ?_
  refine hL.wld tM A1 0 (by omega) (fun j _ => by rw [Nat.zero_add]) (by rfl) (.tmp 1) (by rfl) (by rfl) ?_
  simp only [Act.put, List.setIfInBounds_toArray, List.set_cons_succ, List.set_cons_zero]
  go_wp2_with fail
  refine (C1 _ hB).mono ?_
  rintro e w1 ⟨rfl, hb⟩
  replace A1 : Arr _ _ 16 _ := A1.to' (n := 15) hb
  replace hB := Bel.call hB hb
  clear hb
  go_wp2_with fail
  refine wp_region_rel 9 (wmV w.heap.size S1 Y Z X L k) (by kernel_rfl) (by kernel_rfl) (wmV.st _ _ _ _ _ _ _) ?_ ?_
  · intro i o ρ W hi ho hW hP hS
    have ci : i = 0 ∨ i = 1 ∨ i = 2 ∨ i = 3 ∨ i = 4 ∨ i = 5 ∨ i = 6 ∨ i = 7 ∨ i = 8 := by omega
    have AW : Arr _ _ 16 _ := A1.to' (n := 15) hW
    have q0 := AW.cv 0 (by omega) (.int .i64 k) F0
    have hc := hP.c
    have hf := hP.f
    rcases ci with rfl | rfl | rfl | rfl | rfl | rfl | rfl | rfl | rfl <;> cases ho
    · have h' : ρ (.tmp 1) = .pointer (some ⟨w.heap.size, 0, none⟩) := hS 1 (by kernel_rfl)
      exact Stp.val (by simp [execOp, h', go_sem] <;> rfl) rfl
    · have h' : ρ (.tmp 7) = .pointer (some ⟨w.heap.size, 0, none⟩) := hS 7 (by kernel_rfl)
      exact Stp.val (by simp [execOp, h', go_sem, q0] <;> rfl) rfl
    · have h' : ρ (.tmp 8) = .int .i64 k := hS 8 (by kernel_rfl)
      exact Stp.val (by simp [execOp, h', go_sem] <;> rfl) rfl
    · have h' : ρ (.tmp 9) = .int .u8 (k % 256) := hS 9 (by kernel_rfl)
      exact Stp.new (w' := W.alloc (.cells #[.int .u8 (k % 256)] 5)) (by simp [execOp, h', go_sem] <;> rfl) ((Below.refl _ W).alloc (Nat.le_refl _) _) (rowV.new k W)
    · have h' : rowV k (ρ (.tmp 10)) W := hS 10 (by kernel_rfl)
      have cv := h'.conv
      rw [hS1] at cv
      exact Stp.val (by simp [execOp, Sem.run_bind, cv] <;> rfl) rfl
    · have h' : ρ (.tmp 1) = .pointer (some ⟨w.heap.size, 0, none⟩) := hS 1 (by kernel_rfl)
      exact Stp.val (by simp only [execOp, h', Instr.loadAt, Instr.sureAddr, Sem.run_bind, Sem.run_pure, Result.andThen_ok, hL.ld tM AW 0 (by omega) (fun j _ => by rw [Nat.zero_add])] <;> rfl) rfl
    · have h' : ρ (.tmp 12) = .agg L.toArray := hS 12 (by kernel_rfl)
      exact Stp.call (by simp [execOp, h', hf, go_sem] <;> rfl) (C2 W (Bel.call hB hW)) (fun _ => rfl)
    · have h' : ρ (.tmp 13) = .string Y := hS 13 (by kernel_rfl)
      exact Stp.call (by simp [execOp, h', hc, hf, go_sem] <;> rfl) (C3 W) (fun _ => rfl)
    · have h1 : ρ (.tmp 11) = .string S1 := hS 11 (by kernel_rfl)
      have h2 : ρ (.tmp 14) = .string Z := hS 14 (by kernel_rfl)
      exact Stp.val (by simp [execOp, h1, h2, go_sem, AD] <;> rfl) rfl
  intro x W hW hV
  have h8 : x 8 = .string X := hV 8 (by omega)
  replace hB := Bel.call hB hW
  clear hV hW A1 C1 C2 C3
  simp only [puts, List.take_succ_cons, List.take_zero, List.drop_succ_cons, List.drop_zero, Act.put, List.setIfInBounds_toArray, List.set_cons_succ, List.set_cons_zero]
  go_wp2_with fail
  exact bodyPost_ret (v := .tuple #[.string X, .int .i64 0]) (by simp [results, Tryz.results9, go_sem, h8]) rfl ⟨rfl, hB⟩
theorem bdy_size {m : Mg} (h : ftB m = true) : (bdy m).size ≤ 8300 := by
  have s3 : (⟨#[3, 3]⟩ : ByteArray).size = 2 := rfl
  have s6 : (⟨#[0, 2, 19, 1, 1, 0]⟩ : ByteArray).size = 6 := rfl
  have s7 : (⟨#[0, 43, 0, 2, 3, 4, 0, 51, 0, 36, 0, 29, 0, 32]⟩ : ByteArray).size = 14 := rfl
  have s8 : (⟨#[19, 1, 0]⟩ : ByteArray).size = 3 := rfl
  have s9 : (⟨#[4, 3]⟩ : ByteArray).size = 2 := rfl
  have s1 : (⟨#[0]⟩ : ByteArray).size = 1 := rfl
  unfold bdy
  rcases kd_cases (ft_kd h) with hk | hk | hk | hk | hk | hk
  · obtain ⟨z1, z2, z3, z4, z5, z6⟩ := ft_1 h hk
    have z7 := (ho_size z4).2
    rw [if_pos hk]
    have := clX_size m.nm m.al m.sh
    unfold clS
    simp only [ap_size, vec_size, s3, s6]
    omega
  · obtain ⟨z1, z2, z3⟩ := ft_2 h hk
    rw [if_neg (by omega), if_pos hk]
    unfold svS
    simp only [ap_size, vec_size, s3, s7, s8]
    omega
  · obtain ⟨z1, z2⟩ := ft_8 h hk
    have az := al_size m.al
    rw [if_neg (by omega), if_neg (by omega), if_pos hk]
    unfold exS
    simp only [vec_size]
    omega
  · obtain ⟨z1, z2, z3⟩ := ft_11 h hk
    rw [if_neg (by omega), if_neg (by omega), if_neg (by omega), if_pos hk]
    have := (cfS_size m.cs (fun t ht => (z3 t ht).2)).1
    unfold ctS
    simp only [ap_size, vec_size, s1]
    omega
  · rw [if_neg (by omega), if_neg (by omega), if_neg (by omega), if_neg (by omega), if_pos hk]
    have zs := sgS_size m.x m.y
    unfold vfS
    simp only [ap_size, vec_size, s9]
    omega
  · rw [if_neg (by omega), if_neg (by omega), if_neg (by omega), if_neg (by omega), if_neg (by omega)]
    have := ft_20 h hk
    omega
theorem rWrite_any (m : Mg) (hm : m.ok) (u : Value) (z1 : m.cs.length ≤ 9223372036854775807) (y1 : ∀ t ∈ m.cs, t.size ≤ maxLen) (hz : m.nm.size ≤ maxLen) (w : World) (hu : Txs w u m.cs) :
    Calls Tryz.prog 9 #[m.v u] w fun e w' => e = .returned (wmR m) ∧ Below w.heap.size w w' := by
  obtain ⟨a0, c, e, f1⟩ := hu.form
  subst e
  have CF := fun W (hb : Below w.heap.size w W) => rFit_any m hm _ z1 y1 hz W (hu.to hb)
  unfold wmR
  cases h : ftB m
  · rw [h] at CF
    exact rWrite_no m a0 _ c w CF
  · rw [h] at CF
    have hk := kd_cases (ft_kd h)
    have e : m.k % 256 = m.k := by omega
    have zb := bdy_size h
    have sv := vec_size 3 (bdy m)
    exact rWrite_yes m m.k rfl a0 _ c (mkS [m.k]) (bdy m) (vec 3 (bdy m)) (wrM m) (by rw [e]) (by rw [mkS_size, sv]; simp; omega) rfl w CF (fun W hb => rbody_any m h _ W (hu.to hb)) (fun W => rvec_i 3 3 rfl _ (by omega) (by omega) W)
end Go.Proofs.YtjdpeedghpblgaaGreatDoor
