/- Texts joined: G3, G5. -/
import Derived.Test.YtjaljnfijhfkcaaGreatDoorJ5
/- The product of two blocks. -/
set_option linter.all false
set_option maxRecDepth 100000
namespace Go.Proofs.YtjaljnfijhfkcaaGreatDoor
open Go.RowKit Go.Sort Lin
theorem idx59 (x y : Int) (k : Nat) (hk : k < 2) (W : World) : (Instr.index 135 (.agg #[.int .u64 x, .int .u64 y]) (.int .i64 (k : Int))).run Tryz.prog W = .ok (g2 x y k) W := by
  have h0 : (0 : Int) ≤ (k : Int) ∧ (k : Int) < ((2 : Nat) : Int) := by omega
  have hs : (Go.sizeOf 22).run Tryz.prog W = .ok 1 W := by kernel_rfl
  simp only [Instr.index, asIntOf, Sem.run_bind, Sem.run_pure, Result.andThen_ok, run_underlying Tryz.underlying135]
  rw [Sem.run_ite, if_pos h0]
  simp only [Sem.run_bind, hs, Result.andThen_ok, Int.toNat_natCast, Nat.mul_one]
  have ha : (isAgg 22).run Tryz.prog W = .ok false W := by kernel_rfl
  simp [part, Sem.run_bind, ha, g2_at x y k hk]
/-- The word of a block that is gone through in round i. -/
def wi (x y : Int) (i : Nat) : Int := if i = 0 then x else y
theorem g2_wi (x y : Int) (i : Nat) : g2 x y i = .int .u64 (wi x y i) := by unfold g2 wi; split <;> rfl
set_option maxHeartbeats 1000000 in
theorem times_core (x y : Int) (sx sy ox oy m p q : Nat → Int) (h0 : sx 0 = 0) (h1 : sy 0 = 0)
    (hm : ∀ (i k : Nat), i < 2 → k < 64 → bits .and .u64 (wi x y i / 2 ^ (63 - k)) 1 = m (64 * i + k))
    (C36 : ∀ j W, Calls Tryz.prog 116 #[gk (ox j) (oy j), .int .u64 (m j)] W fun e w' => e = .returned (gk (p j) (q j)) ∧ Below W.heap.size W w')
    (C35 : ∀ j W, Calls Tryz.prog 79 #[gk (sx j) (sy j), gk (p j) (q j)] W fun e w' => e = .returned (gk (sx (j + 1)) (sy (j + 1))) ∧ Below W.heap.size W w')
    (C37 : ∀ j W, Calls Tryz.prog 117 #[gk (ox j) (oy j)] W fun e w' => e = .returned (gk (ox (j + 1)) (oy (j + 1))) ∧ Below W.heap.size W w') (w : World) :
    Calls Tryz.prog 102 #[gk x y, gk (ox 0) (oy 0)] w fun e w' => e = .returned (gk (sx 128) (sy 128)) ∧ Below w.heap.size w w' := by
  have C34 := fun W => words_core x y W
  unfold gk at *
  go_enter Tryz.func102, Tryz.ntmps102
  go_wp2_with fail
  have A1 := (((Arr.new (w.alloc (.cells #[.int .u64 x, .int .u64 y] 105)) _ 105 (w.heap.size + 1) (by simp) _ 2 (g2_at (ox 0) (oy 0))).al' (.cells #[.int .u64 0, .int .u64 0] 105)).al' (.cells #[.int .u64 0, .int .u64 0] 105))
  have A2 := ((Arr.new ((w.alloc (.cells #[.int .u64 x, .int .u64 y] 105)).alloc (.cells #[.int .u64 (ox 0), .int .u64 (oy 0)] 105)) _ 105 (w.heap.size + 1 + 1) (by simp) _ 2 (g2_at 0 0)).al' (.cells #[.int .u64 0, .int .u64 0] 105))
  have A3 := (Arr.new (((w.alloc (.cells #[.int .u64 x, .int .u64 y] 105)).alloc (.cells #[.int .u64 (ox 0), .int .u64 (oy 0)] 105)).alloc (.cells #[.int .u64 0, .int .u64 0] 105)) _ 105 (w.heap.size + 1 + 1 + 1) (by simp) _ 2 (g2_at 0 0))
  have hB : Below w.heap.size w ((((w.alloc (.cells #[.int .u64 x, .int .u64 y] 105)).alloc (.cells #[.int .u64 (ox 0), .int .u64 (oy 0)] 105)).alloc (.cells #[.int .u64 0, .int .u64 0] 105)).alloc (.cells #[.int .u64 0, .int .u64 0] 105)) := by go_grown
  generalize ((((w.alloc (.cells #[.int .u64 x, .int .u64 y] 105)).alloc (.cells #[.int .u64 (ox 0), .int .u64 (oy 0)] 105)).alloc (.cells #[.int .u64 0, .int .u64 0] 105)).alloc (.cells #[.int .u64 0, .int .u64 0] 105)) = W at *
  refine (C34 _).mono ?_
  rintro e w1 ⟨rfl, hb⟩
  replace A1 := A1.to' hb
  replace A2 := A2.to' hb
  replace A3 := A3.to' hb
  replace hB := Bel.call hB hb
  clear hb C34
  go_wp2_with fail
  go_loopw [11] (fun i wr => ∃ k : Nat, k ≤ 2 ∧ i = .int .i64 k ∧ Below w.heap.size w wr ∧ Arr wr (w.heap.size + 1) 2 (g2 (ox (64 * k)) (oy (64 * k))) ∧ Arr wr (w.heap.size + 1 + 1) 2 (g2 0 0) ∧ Arr wr (w.heap.size + 1 + 1 + 1) 2 (g2 (sx (64 * k)) (sy (64 * k)))) (fun i _ => 2 - (intOf i).toNat)
  case atStart => exact ⟨0, by omega, rfl, hB, A1, A2, by rw [Nat.mul_zero, h0, h1]; exact A3⟩
  case round =>
    clear A1 A2 A3 hB
    obtain ⟨i, hi2, rfl, hB, A1, A2, A3⟩ := hrel
    by_cases hlt : i < 2
    · have i0 : (0 : Int) ≤ (i : Int) := by omega
      have i2 : (i : Int) < 2 := by omega
      have I := fun W => idx59 x y i hlt W
      rw [g2_wi] at I
      have hmi := fun k hk => hm i k hlt hk
      generalize wi x y i = c at *
      clear hm
      go_wp2_with fail
      go_loopw [14] (fun z ws => ∃ k : Nat, k ≤ 64 ∧ z = .int .i64 k ∧ Below w.heap.size w ws ∧ Arr ws (w.heap.size + 1) 2 (g2 (ox (64 * i + k)) (oy (64 * i + k))) ∧ Arr ws (w.heap.size + 1 + 1) 2 (g2 0 0) ∧ Arr ws (w.heap.size + 1 + 1 + 1) 2 (g2 (sx (64 * i + k)) (sy (64 * i + k)))) (fun z _ => 64 - (intOf z).toNat)
      case atStart => exact ⟨0, by omega, rfl, hB, A1, A2, A3⟩
      case round =>
        clear A1 A2 A3 hB
        obtain ⟨k, hk, rfl, hB, A1, A2, A3⟩ := hrel
        by_cases hlk : k < 64
        · have k0 : (0 : Int) ≤ (k : Int) := by omega
          have k2 : (k : Int) < 64 := by omega
          have hmk := hmi k hlk
          obtain ⟨j, hj⟩ : ∃ j, 64 * i + k = j := ⟨_, rfl⟩
          have HJ : Hid (64 * i + k = j) := hj
          rw [hj] at hmk A1 A3
          have c36 := C36 j
          have c35 := C35 j
          have c37 := C37 j
          have r0 := fun ds os => cell_regrown A1.h ds os
          have r1 := fun ds os => cell_regrown A1.l ds os
          have r2 := fun ds os => cell_regrown A3.h ds os
          have r3 := fun ds os => cell_regrown A3.l ds os
          clear C36 C35 C37 hmi hj I
          go_wp2_with fail
          refine wp_region_below_tail 9 (by kernel_rfl) (by kernel_rfl) ?_
          simp only [List.take_succ_cons, List.take_zero, List.drop_succ_cons, List.drop_zero]
          repeat (go_big_quiet_step (first | (go_at_call 116; exact Calls.regrown_of (c36 _)) | (go_at_call 79; exact Calls.regrown_of (c35 _))))
          refine wpQuiet_nil ?_
          intro w1 hw'
          obtain ⟨⟨dq, osq⟩, hw''⟩ := hw'
          have hb1 := below_of hw''
          clear hw'' r0 r1 r2 r3 c36 c35
          have B1 := A1.to' hb1
          have B2 := A2.to' hb1
          have B3 := A3.to' hb1
          have hB1 := Bel.call hB hb1
          clear A1 A2 A3 hB hb1
          have d0 := B3.c 0 (by omega)
          have d1 := B3.c 1 (by omega)
          have z0 := B3.z 0 (by omega)
          have z1 := B3.z 1 (by omega)
          have e0 := (B1.st2o (show w.heap.size + 1 + 1 + 1 ≠ w.heap.size + 1 by omega) (sx (j + 1)) (sy (j + 1))).h
          have e1 := (B1.st2o (show w.heap.size + 1 + 1 + 1 ≠ w.heap.size + 1 by omega) (sx (j + 1)) (sy (j + 1))).l
          unfold st2 at e0 e1
          go_wp2_with fail
          refine (c37 _).mono ?_
          rintro e w2 ⟨rfl, hb2⟩
          have D1 : Arr _ (w.heap.size + 1) 2 _ := Arr.to' (n := 1) (B1.st2o (show w.heap.size + 1 + 1 + 1 ≠ w.heap.size + 1 by omega) (sx (j + 1)) (sy (j + 1))) hb2
          have D2 : Arr _ (w.heap.size + 1 + 1) 2 _ := Arr.to' (n := 1) (B2.st2o (show w.heap.size + 1 + 1 + 1 ≠ w.heap.size + 1 + 1 by omega) (sx (j + 1)) (sy (j + 1))) hb2
          have D3 : Arr _ (w.heap.size + 1 + 1 + 1) 2 _ := Arr.to' (n := 1) (B3.st2 (sx (j + 1)) (sy (j + 1))) hb2
          have hB2 : Below w.heap.size w w2 := Bel.call (Bel.st2 hB1 (b := w.heap.size + 1 + 1 + 1) (by omega) (sx (j + 1)) (sy (j + 1))) hb2
          clear B1 B2 B3 hB1 hb2 d0 d1 z0 z1 e0 e1 c37
          have d0 := D1.c 0 (by omega)
          have d1 := D1.c 1 (by omega)
          have z0 := D1.z 0 (by omega)
          have z1 := D1.z 1 (by omega)
          go_wp2_with fail
          have hj1 : 64 * i + (k + 1) = j + 1 := by have := HJ.out; omega
          refine ⟨⟨k + 1, by omega, by go_num, Bel.st2 hB2 (by omega) _ _, ?_, D2.st2o (by omega) _ _, ?_⟩, by simp [intOf]; omega⟩
          · rw [hj1]; exact D1.st2 _ _
          · rw [hj1]; exact D3.st2o (by omega) _ _
        · have e : k = 64 := by omega
          rw [show ((k : Nat) : Int) = 64 by omega]
          subst e
          clear hmi C36 C35 C37
          go_wp2_with fail
          rw [show 64 * i + 64 = 64 * (i + 1) by omega] at A1 A3
          exact ⟨⟨i + 1, by omega, by go_num, hB, A1, A2, A3⟩, by simp [intOf]; omega⟩
    · have e : i = 2 := by omega
      rw [show ((i : Nat) : Int) = 2 by omega]
      subst e
      have c0 := A3.h
      have c1 := A3.l
      have d0 := A2.c 0 (by omega)
      have d1 := A2.c 1 (by omega)
      have z0 := A2.z 0 (by omega)
      have z1 := A2.z 1 (by omega)
      have E := A2.st2 (sx (64 * 2)) (sy (64 * 2))
      have e0 := E.h
      have e1 := E.l
      unfold Go.Proofs.YtjaljnfijhfkcaaGreatDoor.st2 at e0 e1
      clear C36 C35 C37 hm
      go_wp2_with fail
      refine bodyPost_ret (v := gk (sx 128) (sy 128)) (by simp [gk, results, Tryz.results102, go_sem, e0, e1]) rfl ⟨rfl, Bel.st2 hB (by omega) _ _⟩
/-- The product of two blocks. -/
theorem btimes_any {a b : Nat} (ha : a < 2 ^ 128) (hb : b < 2 ^ 128) (w : World) : Calls Tryz.prog 102 #[gB a, gB b] w fun e w' => e = .returned (gB (tB a b)) ∧ Below w.heap.size w w' := by
  have ol : ∀ j, it T128 j b < 2 ^ 128 := fun j => it_lt T128_lt j b hb
  have sl : ∀ j, S T128 (bs a) j b < 2 ^ 128 := fun j => S_lt T128_lt j _ b hb
  refine times_core (hi a) (lo a) (fun j => hi (S T128 (bs a) j b)) (fun j => lo (S T128 (bs a) j b)) (fun j => hi (it T128 j b)) (fun j => lo (it T128 j b)) (fun j => if bs a j = true then 1 else 0)
    (fun j => hi (if bs a j = true then it T128 j b else 0)) (fun j => lo (if bs a j = true then it T128 j b else 0)) (by simp [S, hi]) (by simp [S, lo]) (fun i k hi2 hk => ?_) (fun j W => masked_any (ol j) (bs a j) W) (fun j W => ?_) (fun j W => timesX_any (ol j) W) w
  · have : i = 0 ∨ i = 1 := by omega
    rcases this with rfl | rfl
    · show bits .and .u64 (((a / 2 ^ 64 : Nat) : Int) / 2 ^ (63 - k)) 1 = if bs a (64 * 0 + k) = true then 1 else 0
      rw [bit_at _ k (hi_lt ha) hk, bs_hi a k hk, Nat.mul_zero, Nat.zero_add]
    · show bits .and .u64 (((a % 2 ^ 64 : Nat) : Int) / 2 ^ (63 - k)) 1 = if bs a (64 * 1 + k) = true then 1 else 0
      rw [bit_at _ k (lo_lt a) hk, bs_lo a k hk]
  · have := gplus_any (a := S T128 (bs a) j b) (b := if bs a j = true then it T128 j b else 0) (sl j) (by split; exact ol j; decide) W
    rw [← S_end] at this
    exact this
end Go.Proofs.YtjaljnfijhfkcaaGreatDoor
/- A block's 16 bytes as a text. -/
set_option linter.all false
set_option maxRecDepth 100000
namespace Go.Proofs.YtjaljnfijhfkcaaGreatDoor
open Go.RowKit Go.Sort Lin
/-- A word's first j bytes, the highest first. -/
def oL (x : Int) (j : Nat) : List Int := (List.range j).map fun i => x / 2 ^ (56 - 8 * i) % 256
theorem oL_succ (x : Int) (j : Nat) : oL x (j + 1) = oL x j ++ [x / 2 ^ (56 - 8 * j) % 256] := by simp [oL, List.range_succ]
theorem oL_len (x : Int) (j : Nat) : (oL x j).length = j := by simp [oL]
def dL (x y : Int) : Nat → List Int
  | 0 => []
  | k + 1 => dL x y k ++ oL (wi x y k) 8
theorem dL_len (x y : Int) (k : Nat) : (dL x y k).length = 8 * k := by
  induction k with
  | zero => rfl
  | succ k ih => rw [dL, List.length_append, ih, oL_len]; omega
set_option maxHeartbeats 1000000 in
theorem gtext_core (x y : Int) (T : ByteArray) (hT : mkS (dL x y 2) = T) (w : World) : Calls Tryz.prog 56 #[gk x y] w fun e w' => e = .returned (.string T) ∧ Below w.heap.size w w' := by
  have C34 := fun W => words_core x y W
  obtain ⟨i0, hi, hz0, hz1, hz2⟩ := info_parts Tryz.info5
  obtain ⟨wm, hmk, hown, hgm⟩ := run_make_own (P := Tryz.prog) (w.alloc (.cells #[.int .u64 x, .int .u64 y] 105)) w.heap.size 50 5 i0 (.int .u8 0) 1 Tryz.underlying50 hi hz0 hz1 .i64 .i64 16 (by rw [hz2]; omega) (by unfold maxLen; omega) (by simp)
  rw [show ((16 : Nat) : Int) = 16 from rfl] at hmk
  have A0 := Arr.new w _ 105 _ rfl _ 2 (g2_at x y)
  have hmb : Below (w.alloc (.cells #[.int .u64 x, .int .u64 y] 105)).heap.size (w.alloc (.cells #[.int .u64 x, .int .u64 y] 105)) wm := ⟨hgm.os, hgm.tape, hgm.output, hgm.size, fun k hk => hgm.block k hk (by intro e; cases e)⟩
  replace A0 := A0.to' hmb
  have hB := Bel.call ((Below.refl _ w).alloc (Nat.le_refl _) (.cells #[.int .u64 x, .int .u64 y] 105)) hmb
  clear hgm hmb
  have c0 := A0.h
  have c1 := A0.l
  unfold gk at *
  go_enter Tryz.func56, Tryz.ntmps56
  go_wp2_with fail
  clear hmk
  refine (C34 _).mono ?_
  rintro e w1 ⟨rfl, hb⟩
  replace hown := hown.kept (gby hb) (.inr (by simp [Value.ownBlock]))
  replace hB := Bel.call hB hb
  clear hb C34 A0 c0 c1
  rw [World.size_alloc] at hown
  go_wp2_with fail
  go_loopw [3, 10] (fun v i wr => ∃ k : Nat, k ≤ 2 ∧ i = .int .i64 k ∧ wr.ownsRow w.heap.size 5 1 v (8 * k) ((dL x y k).map (Value.int .u8)) ∧ Below w.heap.size w wr) (fun _ i _ => 2 - (intOf i).toNat)
  case atStart => exact ⟨0, by omega, rfl, hown, hB⟩
  case round =>
    clear hown hB
    obtain ⟨k, hk, rfl, hown, hB⟩ := hrel
    by_cases hlt : k < 2
    · have k0 : (0 : Int) ≤ (k : Int) := by omega
      have k2 : (k : Int) < 2 := by omega
      have I := fun W => idx59 x y k hlt W
      rw [g2_wi] at I
      have HC : Hid (dL x y (k + 1) = dL x y k ++ oL (wi x y k) 8) := rfl
      generalize wi x y k = c at *
      go_wp2_with fail
      go_loopw [3, 6] (fun v z ws => ∃ j : Nat, j ≤ 8 ∧ z = .int .i64 (56 - 8 * (j : Int)) ∧ ws.ownsRow w.heap.size 5 1 v (8 * k + j) ((dL x y k ++ oL c j).map (Value.int .u8)) ∧ Below w.heap.size w ws) (fun _ z _ => (intOf z + 8).toNat)
      case atStart => exact ⟨0, by omega, rfl, by simpa [oL] using hown, hB⟩
      case round =>
        clear hown hB
        obtain ⟨j, hj, rfl, hown, hB⟩ := hrel
        by_cases hlj : j < 8
        · obtain ⟨m, hm⟩ : ∃ m, 56 - 8 * j = m := ⟨_, rfl⟩
          have em : (56 : Int) - 8 * (j : Int) = (m : Int) := by omega
          rw [em]
          have m0 : (0 : Int) ≤ (m : Int) := by omega
          have m1 : (m : Int) ≤ 56 := by omega
          obtain ⟨ao, cv, hv⟩ := own_form hown
          subst hv
          have HL : Hid ((dL x y k ++ oL c (j + 1)).map (Value.int .u8) = (dL x y k ++ oL c j).map (Value.int .u8) ++ [.int .u8 (c / 2 ^ m % 256)]) := by
            show _ = _
            rw [oL_succ, hm, ← List.append_assoc, List.map_append (l₁ := dL x y k ++ oL c j)]
            rfl
          have HM : Hid ((56 : Int) - 8 * (j : Int) = (m : Int)) := em
          have HO : Hid (wr.ownsRow w.heap.size 5 1 (.slice ao (8 * k + j) cv) (8 * k + j) ((dL x y k ++ oL c j).map (Value.int .u8))) := hown
          have hs := hB.size
          clear hown em hm I
          generalize (dL x y k ++ oL c j).map (Value.int .u8) = L at *
          go_wp2_with (at_builtin; refine stopAt ?_)
          unfold Stop
          refine wpList_append_own _ rfl _ _ 50 rfl w.heap.size 5 i0 (.int .u8 0) 1 1 Tryz.underlying50 hi hz0 hz1 hz2 rfl (by decide) _ _ _ rfl (World.ownsRow.alloc HO.out _) ⟨_, 0, none⟩ 1 1 [.int .u8 (c / 2 ^ m % 256)] rfl rfl (news_new _ _ _) (by simp [Value.oneCell']) (by unfold maxLen; omega) (by omega) (by simp; omega) ?_
          intro v' w3 hown' hgrow3 hnil3
          have b3 : Below w.heap.size w w3 := (Bel.al hB _).grown hgrow3 (by simp; omega) (fun q hq => (HO.out.lt q hq).1)
          clear hnil3 hgrow3
          go_wp2_with fail
          refine ⟨⟨j + 1, by omega, ?_, ?_, b3⟩, by simp [intOf]; omega⟩
          · have := HM.out
            congr 1
            omega
          · rw [HL.out]
            exact hown'
        · have e : j = 8 := by omega
          subst e
          rw [show (56 : Int) - 8 * ((8 : Nat) : Int) = -8 by omega]
          clear I
          go_wp2_with fail
          refine ⟨⟨k + 1, by omega, by go_num, ?_, hB⟩, by simp [intOf]; omega⟩
          rw [HC.out]
          exact hown
    · have e : k = 2 := by omega
      rw [show ((k : Nat) : Int) = 2 by omega]
      subst e
      obtain ⟨g, c, hv⟩ := own_some hown (by omega)
      subst hv
      have cv := convC wr g 16 c (dL x y 2) (dL_len x y 2) (World.ownsRow.cells hown rfl)
      rw [hT] at cv
      clear hown
      go_wp2_with fail
      go_ret
      exact ⟨rfl, hB⟩
/-- A block's 16 bytes. -/
def tN (n : Nat) : ByteArray := mkS (dL (hi n) (lo n) 2)
theorem gtext_any (n : Nat) (w : World) : Calls Tryz.prog 56 #[gB n] w fun e w' => e = .returned (.string (tN n)) ∧ Below w.heap.size w w' := gtext_core _ _ _ rfl w
theorem tN_size (n : Nat) : (tN n).size = 16 := by unfold tN; rw [mkS_size, dL_len]
end Go.Proofs.YtjaljnfijhfkcaaGreatDoor
