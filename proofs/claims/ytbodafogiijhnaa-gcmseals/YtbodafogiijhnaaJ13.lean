/- Texts joined: G4, G3, G5. -/
import Derived.Lib.BufferWrite
import Derived.Test.YtbodafogiijhnaaJ12
import Derived.Test.YtbodafogiijhnaaJ10
/- A text's first 16 bytes as a block. -/
set_option linter.all false
set_option maxRecDepth 100000
namespace Go.Proofs.Ytbodafogiijhnaa
open Go.RowKit Go.Sort Lin
theorem Try.size5 : (Try.prog.info? 5).map (·.size) = some 1 := by kernel_rfl
/-- copy(dst, s): as many bytes of s as dst has room for. -/
theorem run_copy_some {P : Program} (w : World) (dT sT ty elem : TypeId) (g o dLen dCap : Nat) (s : ByteArray) (cur : Array Value) (t : TypeId)
    (hu : P.underlying dT = some (.slice elem)) (hs : (P.info? elem).map (·.size) = some 1) (hg : w.heap[g]? = some (.cells cur t (0, 0))) (hfit : o + dLen ≤ cur.size) :
    (Builtin.copy_ #[dT, sT] ty #[.slice (some ⟨g, o, none⟩) dLen dCap, .string s]).run P w =
      .ok (goInt (Nat.min s.size dLen)) (w.setRow g (cur.toList.take o ++ Lib.byteCells (s.data.toList.take (Nat.min s.size dLen)) ++ cur.toList.drop (o + Nat.min s.size dLen)).toArray) := by
  have hlen : (Lib.byteCells (s.data.toList.take (Nat.min s.size dLen))).length = Nat.min s.size dLen := by
    rw [Lib.byteCells_length, List.length_take, Array.length_toList]
    show min (min s.size dLen) s.size = min s.size dLen
    omega
  have hst := run_storeCells_at P g o t (Lib.byteCells (s.data.toList.take (Nat.min s.size dLen))) 0 cur w hg (by rw [hlen]; have : min s.size dLen ≤ dLen := Nat.min_le_right _ _; show o + 0 + min s.size dLen ≤ _; omega) (Lib.byteCells_one _)
  have htk : List.take (Nat.min s.size dLen) (List.map (fun b : UInt8 => Value.int IntKind.u8 (b.toNat : Int)) s.data.toList) = Lib.byteCells (s.data.toList.take (Nat.min s.size dLen)) := by
    rw [← List.map_take]
    rfl
  rw [hlen] at hst
  simp only [Nat.add_zero] at hst
  cases hq : P.info? elem with
  | none => simp [hq] at hs
  | some i =>
    simp [Builtin.copy_, run_underlying hu, Builtin.lenOf, Builtin.firstCells, sizeOf, typeInfo, hq]
    rw [htk, hst]
    simp [Result.andThen]
theorem copy_gen (w : World) (M : Array Value) (hM : M.size = 16) (hz : ∀ j, j < 16 → M[j]? = some (.int .u8 0)) (s : ByteArray) : ∃ W : World, (Builtin.copy_ #[36, 9] 3 #[.slice (some ⟨w.heap.size, 0, none⟩) 16 16, .string s]).run Try.prog (w.alloc (.cells M 57)) = .ok (goInt (Nat.min s.size 16)) W ∧
    Below w.heap.size w W ∧ w.heap.size < W.heap.size ∧ Arr W w.heap.size 16 (fun j => .int .u8 (bt s j)) := by
  have sz : s.data.toList.length = s.size := by rw [Array.length_toList]; rfl
  have hcp := run_copy_some (P := Try.prog) (w.alloc (.cells M 57)) 36 9 3 5 w.heap.size 0 16 16 s M 57 Try.underlying36 Try.size5 (heap_alloc_new w _) (by omega)
  obtain ⟨Y, hY⟩ : ∃ Y, Y = (M.toList.take 0 ++ Lib.byteCells (s.data.toList.take (Nat.min s.size 16)) ++ M.toList.drop (0 + Nat.min s.size 16)).toArray := ⟨_, rfl⟩
  rw [← hY] at hcp
  refine ⟨_, hcp, ?_, ?_, ?_⟩
  · have hb1 : Below w.heap.size w (w.alloc (.cells M 57)) := (Below.refl _ w).alloc (Nat.le_refl _) _
    exact hb1.trans ⟨rfl, rfl, rfl, by simp, fun k hk => setRow_other _ _ _ _ (by omega)⟩
  · simp
  · have hgY : ((w.alloc (.cells M 57)).setRow w.heap.size Y).heap[w.heap.size]? = some (.cells Y 57 (0, 0)) := setRow_heap _ _ M _ 57 (0, 0) (heap_alloc_new w _)
    generalize (w.alloc (.cells M 57)).setRow w.heap.size Y = V at *
    intro j hj
    refine ⟨?_, by unfold World.frozen?; rw [hgY]; simp⟩
    have lm : (Lib.byteCells (s.data.toList.take (Nat.min s.size 16))).length = Nat.min s.size 16 := by
      rw [Lib.byteCells_length, List.length_take, sz]
      show min (min s.size 16) s.size = min s.size 16
      omega
    have e : Y[j]? = some (.int .u8 (bt s j)) := by
      rw [hY, List.getElem?_toArray, List.take_zero, List.nil_append]
      by_cases c : j < s.size
      · have cm : j < Nat.min s.size 16 := by show j < min s.size 16; omega
        rw [List.getElem?_append_left (by rw [lm]; exact cm)]
        unfold Lib.byteCells bt
        rw [List.getElem?_map, List.getElem?_take, if_pos cm, Array.getElem?_toList, Array.getElem?_eq_getElem (show j < s.data.size from c)]
        rfl
      · have cm : ¬ j < Nat.min s.size 16 := by show ¬ j < min s.size 16; omega
        rw [List.getElem?_append_right (by rw [lm]; omega), lm]
        have b0 : bt s j = 0 := by
          unfold bt
          rw [Array.getElem?_eq_none (by show s.size ≤ j; omega)]
          rfl
        rw [b0, List.getElem?_drop, Array.getElem?_toList, ← hz j hj]
        congr 1
        omega
    unfold World.cell?
    rw [hgY]
    simp [e]
theorem zb_at (j : Nat) (hj : j < 16) : (#[.int .u8 0, .int .u8 0, .int .u8 0, .int .u8 0, .int .u8 0, .int .u8 0, .int .u8 0, .int .u8 0, .int .u8 0, .int .u8 0, .int .u8 0, .int .u8 0, .int .u8 0, .int .u8 0, .int .u8 0, .int .u8 0] : Array Value)[j]? = some (.int .u8 0) := by
  have e : (#[.int .u8 0, .int .u8 0, .int .u8 0, .int .u8 0, .int .u8 0, .int .u8 0, .int .u8 0, .int .u8 0, .int .u8 0, .int .u8 0, .int .u8 0, .int .u8 0, .int .u8 0, .int .u8 0, .int .u8 0, .int .u8 0] : Array Value) = (List.replicate 16 (Value.int .u8 0)).toArray := rfl
  rw [e, List.getElem?_toArray, List.getElem?_replicate, if_pos hj]
theorem copy_row (w : World) (s : ByteArray) : ∃ W : World, (Builtin.copy_ #[36, 9] 3 #[.slice (some ⟨w.heap.size, 0, none⟩) 16 16, .string s]).run Try.prog (w.alloc (.cells #[.int .u8 0, .int .u8 0, .int .u8 0, .int .u8 0, .int .u8 0, .int .u8 0, .int .u8 0, .int .u8 0, .int .u8 0, .int .u8 0, .int .u8 0, .int .u8 0, .int .u8 0, .int .u8 0, .int .u8 0, .int .u8 0] 57)) = .ok (goInt (Nat.min s.size 16)) W ∧
    Below w.heap.size w W ∧ w.heap.size < W.heap.size ∧ Arr W w.heap.size 16 (fun j => .int .u8 (bt s j)) := copy_gen w _ rfl zb_at s
set_option maxHeartbeats 1000000 in
theorem gblockOf_core (s : ByteArray) (b H L : Nat → Int) (hbt : ∀ j, bt s j = b j) (hb : ∀ j, 0 ≤ b j ∧ b j < 256) (h0 : H 0 = 0) (l0 : L 0 = 0)
    (hH : ∀ k, k < 8 → bits .or .u64 (IntKind.u64.wrap (H k * 256)) (b k) = H (k + 1)) (hL : ∀ k, k < 8 → bits .or .u64 (IntKind.u64.wrap (L k * 256)) (b (8 + k)) = L (k + 1)) (w : World) :
    Calls Try.prog 20 #[.string s] w fun e w' => e = .returned (gk (H 8) (L 8)) ∧ Below w.heap.size w w' := by
  obtain ⟨W, hcp, hB0, hs0, A0⟩ := copy_row (w.alloc (.cells #[.int .u64 0, .int .u64 0] 41)) s
  have Z0 := (Arr.new w _ 41 _ rfl _ 2 (g2_at 0 0)).to' hB0
  have hB := Bel.call ((Below.refl _ w).alloc (Nat.le_refl _) (.cells #[.int .u64 0, .int .u64 0] 41)) hB0
  rw [World.size_alloc] at A0 hs0 hcp
  go_enter Try.func20, Try.ntmps20
  go_wp2_with fail
  clear hcp
  have A1 : Arr _ _ 16 _ := A0.al' (n := 15) (.cells #[.int .u64 0, .int .u64 0] 41)
  have Z1 := Z0.al' (.cells #[.int .u64 0, .int .u64 0] 41)
  have O1 := Arr.new W _ 41 _ rfl _ 2 (g2_at 0 0)
  have hB1 := Bel.al hB (.cells #[.int .u64 0, .int .u64 0] 41)
  clear A0 Z0 hB hB0
  generalize W.alloc (.cells #[.int .u64 0, .int .u64 0] 41) = W1 at *
  obtain ⟨p, hp⟩ : ∃ p, W.heap.size = p := ⟨_, rfl⟩
  rw [hp] at O1 hs0 ⊢
  clear hp
  go_loopw [9] (fun i wr => ∃ k : Nat, k ≤ 8 ∧ i = .int .i64 k ∧ Below w.heap.size w wr ∧ Arr wr w.heap.size 2 (g2 0 0) ∧ Arr wr (w.heap.size + 1) 16 (fun j => .int .u8 (bt s j)) ∧ Arr wr p 2 (g2 (H k) (L k))) (fun i _ => 8 - (intOf i).toNat)
  case atStart => exact ⟨0, by omega, rfl, hB1, Z1, A1, by rw [h0, l0]; exact O1⟩
  case round =>
    clear A1 Z1 O1 hB1
    obtain ⟨k, hk, rfl, hB, Z, A, O⟩ := hrel
    by_cases hlt : k < 8
    · have k0 : (0 : Int) ≤ (k : Int) := by omega
      have k8 : (k : Int) < 8 := by omega
      have r0 := fun ds os => cell_regrown O.h ds os
      have r1 := fun ds os => cell_regrown (A.cv k (by omega) (.int .u8 (b k)) (by rw [hbt])) ds os
      have hk1 := hH k hlt
      have hk2 := hL k hlt
      have b1 := (hb k).1
      have b2 := (hb k).2
      have b3 := (hb (8 + k)).1
      have b4 := (hb (8 + k)).2
      go_wp2_with fail
      refine wp_region_below_tail 9 (by kernel_rfl) (by kernel_rfl) ?_
      simp only [List.take_succ_cons, List.take_zero, List.drop_succ_cons, List.drop_zero]
      repeat (go_big_quiet_step (fail))
      refine wpQuiet_nil ?_
      intro w1 hw'
      obtain ⟨⟨dq, osq⟩, hw''⟩ := hw'
      have hb1 := below_of hw''
      clear hw'' r0 r1
      have Z1 := Z.to' hb1
      have A1 : Arr _ _ 16 _ := A.to' (n := 15) hb1
      have O1 := O.to' hb1
      have hB1 := Bel.call hB hb1
      clear Z A O hB hb1 hk1
      have np1 : p ≠ w.heap.size := by omega
      have np2 : p ≠ w.heap.size + 1 := by omega
      have lp : w.heap.size ≤ p := by omega
      have d0 := O1.h
      have z0 := O1.z 0 (by omega)
      go_wp2_with fail
      have Z2 := Z1.other np1 (k := 0) (.int .u64 (H (k + 1)))
      have A2 := A1.other np2 (k := 0) (.int .u64 (H (k + 1)))
      have O2 : Arr (w1.setCell ⟨p, 0, none⟩ (.int .u64 (H (k + 1)))) p 2 (g2 (H (k + 1)) (L k)) := (O1.set 0 (by omega) (.int .u64 (H (k + 1)))).congr (by
        intro j hj
        have : j = 0 ∨ j = 1 := by omega
        rcases this with rfl | rfl <;> simp [g2])
      have hB2 := Bel.st hB1 lp (k := 0) (.int .u64 (H (k + 1)))
      clear Z1 A1 O1 hB1 d0 z0
      generalize w1.setCell ⟨p, 0, none⟩ (.int .u64 (H (k + 1))) = w2 at *
      have r0 := fun ds os => cell_regrown O2.l ds os
      have r1 := fun ds os => cell_regrown (A2.cv (8 + k) (by omega) (.int .u8 (b (8 + k))) (by rw [hbt])) ds os
      have ek : ((8 + k : Nat) : Int) = 8 + (k : Int) := by omega
      refine wp_region_below_tail 10 (by kernel_rfl) (by kernel_rfl) ?_
      simp only [List.take_succ_cons, List.take_zero, List.drop_succ_cons, List.drop_zero]
      repeat (go_big_quiet_step (fail))
      refine wpQuiet_nil ?_
      intro w3 hw'
      obtain ⟨⟨dq, osq⟩, hw''⟩ := hw'
      have hb1 := below_of hw''
      clear hw'' r0 r1
      have Z3 := Z2.to' hb1
      have A3 : Arr _ _ 16 _ := A2.to' (n := 15) hb1
      have O3 := O2.to' hb1
      have hB3 := Bel.call hB2 hb1
      clear Z2 A2 O2 hB2 hb1 hk2
      have d0 := O3.l
      have z0 := O3.z 1 (by omega)
      go_wp2_with fail
      refine ⟨⟨k + 1, by omega, by go_num, Bel.st hB3 lp _, Z3.other np1 _, A3.other np2 _, ?_⟩, by simp [intOf]; omega⟩
      exact (O3.set 1 (by omega) (.int .u64 (L (k + 1)))).congr (by
        intro j hj
        have : j = 0 ∨ j = 1 := by omega
        rcases this with rfl | rfl <;> simp [g2])
    · have e : k = 8 := by omega
      rw [show ((k : Nat) : Int) = 8 by omega]
      subst e
      have c0 := O.h
      have c1 := O.l
      have d0 := Z.c 0 (by omega)
      have d1 := Z.c 1 (by omega)
      have z0 := Z.z 0 (by omega)
      have z1 := Z.z 1 (by omega)
      have E := Z.st2 (H 8) (L 8)
      have e0 := E.h
      have e1 := E.l
      unfold Go.Proofs.Ytbodafogiijhnaa.st2 at e0 e1
      clear hH hL
      go_wp2_with fail
      refine bodyPost_ret (v := gk (H 8) (L 8)) (by simp [gk, results, Try.results20, go_sem, e0, e1]) rfl ⟨rfl, Bel.st2 hB (by omega) _ _⟩
/-- The bytes of f from its a-th on, k of them, as a number: the first is the highest. -/
def be (f : Nat → By) : Nat → Nat
  | 0 => 0
  | k + 1 => be f k * 256 + (f k).val
theorem be_lt (f : Nat → By) (k : Nat) : be f k < 256 ^ k := by
  induction k with
  | zero => simp [be]
  | succ k ih => have := (f k).2; rw [be, Nat.pow_succ]; omega
/-- A text's first 16 bytes as a block. -/
def bN (s : ByteArray) : Nat := be (bF s) 8 * 2 ^ 64 + be (fun j => bF s (8 + j)) 8
theorem bN_lt (s : ByteArray) : bN s < 2 ^ 128 := by
  have h1 := be_lt (bF s) 8
  have h2 := be_lt (fun j => bF s (8 + j)) 8
  unfold bN
  have e : (256 : Nat) ^ 8 = 2 ^ 64 := by decide
  rw [e] at h1 h2
  omega
theorem be_step (f : Nat → By) (k : Nat) (hk : k < 8) : bits .or .u64 (IntKind.u64.wrap ((be f k : Int) * 256)) ((f k).val : Int) = (be f (k + 1) : Int) := by
  have h1 := be_lt f k
  have h2 := (f k).2
  have h3 : 256 ^ k ≤ 256 ^ 7 := Nat.pow_le_pow_right (by decide) (by omega)
  have e7 : (256 : Nat) ^ 7 = 72057594037927936 := by decide
  rw [e7] at h3
  have e1 : IntKind.u64.wrap ((be f k : Int) * 256) = ((be f k * 2 ^ 8 + 0 : Nat) : Int) := by rw [IntKind.wrap_u64]; omega
  have e2 : ((f k).val : Int) = ((0 * 2 ^ 8 + (f k).val : Nat) : Int) := by omega
  rw [e1, e2, (bits_ao64 _ _ (by omega) (by omega)).2, or_hi _ _ _ _ 8 (by decide) h2]
  simp [be]
theorem gblockOf_any (s : ByteArray) (w : World) : Calls Try.prog 20 #[.string s] w fun e w' => e = .returned (gB (bN s)) ∧ Below w.heap.size w w' := by
  have := gblockOf_core s (fun j => ((bF s j).val : Int)) (fun k => (be (bF s) k : Int)) (fun k => (be (fun j => bF s (8 + j)) k : Int)) (fun j => bF_bt s j) (fun j => by have := (bF s j).2; constructor <;> omega) rfl rfl (fun k hk => be_step _ k hk) (fun k hk => be_step (fun j => bF s (8 + j)) k hk) w
  have h2 := be_lt (fun j => bF s (8 + j)) 8
  rw [show (256 : Nat) ^ 8 = 2 ^ 64 by decide] at h2
  have e1 : hi (bN s) = (be (bF s) 8 : Int) := by unfold hi bN; omega
  have e2 : lo (bN s) = (be (fun j => bF s (8 + j)) 8 : Int) := by unfold lo bN; omega
  unfold gB
  rw [e1, e2]
  exact this
end Go.Proofs.Ytbodafogiijhnaa
/- The product of two blocks. -/
set_option linter.all false
set_option maxRecDepth 100000
namespace Go.Proofs.Ytbodafogiijhnaa
open Go.RowKit Go.Sort Lin
theorem idx59 (x y : Int) (k : Nat) (hk : k < 2) (W : World) : (Instr.index 59 (.agg #[.int .u64 x, .int .u64 y]) (.int .i64 (k : Int))).run Try.prog W = .ok (g2 x y k) W := by
  have h0 : (0 : Int) ≤ (k : Int) ∧ (k : Int) < ((2 : Nat) : Int) := by omega
  have hs : (Go.sizeOf 37).run Try.prog W = .ok 1 W := by kernel_rfl
  simp only [Instr.index, asIntOf, Sem.run_bind, Sem.run_pure, Result.andThen_ok, run_underlying Try.underlying59]
  rw [Sem.run_ite, if_pos h0]
  simp only [Sem.run_bind, hs, Result.andThen_ok, Int.toNat_natCast, Nat.mul_one]
  have ha : (isAgg 37).run Try.prog W = .ok false W := by kernel_rfl
  simp [part, Sem.run_bind, ha, g2_at x y k hk]
/-- The word of a block that is gone through in round i. -/
def wi (x y : Int) (i : Nat) : Int := if i = 0 then x else y
theorem g2_wi (x y : Int) (i : Nat) : g2 x y i = .int .u64 (wi x y i) := by unfold g2 wi; split <;> rfl
set_option maxHeartbeats 1000000 in
theorem times_core (x y : Int) (sx sy ox oy m p q : Nat → Int) (h0 : sx 0 = 0) (h1 : sy 0 = 0)
    (hm : ∀ (i k : Nat), i < 2 → k < 64 → bits .and .u64 (wi x y i / 2 ^ (63 - k)) 1 = m (64 * i + k))
    (C36 : ∀ j W, Calls Try.prog 36 #[gk (ox j) (oy j), .int .u64 (m j)] W fun e w' => e = .returned (gk (p j) (q j)) ∧ Below W.heap.size W w')
    (C35 : ∀ j W, Calls Try.prog 35 #[gk (sx j) (sy j), gk (p j) (q j)] W fun e w' => e = .returned (gk (sx (j + 1)) (sy (j + 1))) ∧ Below W.heap.size W w')
    (C37 : ∀ j W, Calls Try.prog 37 #[gk (ox j) (oy j)] W fun e w' => e = .returned (gk (ox (j + 1)) (oy (j + 1))) ∧ Below W.heap.size W w') (w : World) :
    Calls Try.prog 21 #[gk x y, gk (ox 0) (oy 0)] w fun e w' => e = .returned (gk (sx 128) (sy 128)) ∧ Below w.heap.size w w' := by
  have C34 := fun W => words_core x y W
  unfold gk at *
  go_enter Try.func21, Try.ntmps21
  go_wp2_with fail
  have A1 := (((Arr.new (w.alloc (.cells #[.int .u64 x, .int .u64 y] 41)) _ 41 (w.heap.size + 1) (by simp) _ 2 (g2_at (ox 0) (oy 0))).al' (.cells #[.int .u64 0, .int .u64 0] 41)).al' (.cells #[.int .u64 0, .int .u64 0] 41))
  have A2 := ((Arr.new ((w.alloc (.cells #[.int .u64 x, .int .u64 y] 41)).alloc (.cells #[.int .u64 (ox 0), .int .u64 (oy 0)] 41)) _ 41 (w.heap.size + 1 + 1) (by simp) _ 2 (g2_at 0 0)).al' (.cells #[.int .u64 0, .int .u64 0] 41))
  have A3 := (Arr.new (((w.alloc (.cells #[.int .u64 x, .int .u64 y] 41)).alloc (.cells #[.int .u64 (ox 0), .int .u64 (oy 0)] 41)).alloc (.cells #[.int .u64 0, .int .u64 0] 41)) _ 41 (w.heap.size + 1 + 1 + 1) (by simp) _ 2 (g2_at 0 0))
  have hB : Below w.heap.size w ((((w.alloc (.cells #[.int .u64 x, .int .u64 y] 41)).alloc (.cells #[.int .u64 (ox 0), .int .u64 (oy 0)] 41)).alloc (.cells #[.int .u64 0, .int .u64 0] 41)).alloc (.cells #[.int .u64 0, .int .u64 0] 41)) := by go_grown
  generalize ((((w.alloc (.cells #[.int .u64 x, .int .u64 y] 41)).alloc (.cells #[.int .u64 (ox 0), .int .u64 (oy 0)] 41)).alloc (.cells #[.int .u64 0, .int .u64 0] 41)).alloc (.cells #[.int .u64 0, .int .u64 0] 41)) = W at *
  refine (C34 _).mono ?_
  rintro e w1 ⟨rfl, hb⟩
  replace A1 := A1.to' hb
  replace A2 := A2.to' hb
  replace A3 := A3.to' hb
  replace hB := Bel.call hB hb
  clear hb C34
  go_wp2_with fail
  go_loopw [11] (fun i wr => ∃ k : Nat, k ≤ 2 ∧ i = .int .i64 k ∧ Below w.heap.size w wr ∧ Arr wr (w.heap.size + 1) 2 (g2 (ox (64 * k)) (oy (64 * k))) ∧ Arr wr (w.heap.size + 1 + 1) 2 (g2 0 0) ∧ Arr wr (w.heap.size + 1 + 1 + 1) 2 (g2 (sx (64 * k)) (sy (64 * k)))) (fun i _ => 2 - (intOf i).toNat)
  case atStart => exact ⟨0, by omega, rfl, hB, A1, A2, by rw [Nat.mul_zero, h0, h1]; exact A3⟩
  case round =>
    clear A1 A2 A3 hB
    obtain ⟨i, hi2, rfl, hB, A1, A2, A3⟩ := hrel
    by_cases hlt : i < 2
    · have i0 : (0 : Int) ≤ (i : Int) := by omega
      have i2 : (i : Int) < 2 := by omega
      have I := fun W => idx59 x y i hlt W
      rw [g2_wi] at I
      have hmi := fun k hk => hm i k hlt hk
      generalize wi x y i = c at *
      clear hm
      go_wp2_with fail
      go_loopw [14] (fun z ws => ∃ k : Nat, k ≤ 64 ∧ z = .int .i64 k ∧ Below w.heap.size w ws ∧ Arr ws (w.heap.size + 1) 2 (g2 (ox (64 * i + k)) (oy (64 * i + k))) ∧ Arr ws (w.heap.size + 1 + 1) 2 (g2 0 0) ∧ Arr ws (w.heap.size + 1 + 1 + 1) 2 (g2 (sx (64 * i + k)) (sy (64 * i + k)))) (fun z _ => 64 - (intOf z).toNat)
      case atStart => exact ⟨0, by omega, rfl, hB, A1, A2, A3⟩
      case round =>
        clear A1 A2 A3 hB
        obtain ⟨k, hk, rfl, hB, A1, A2, A3⟩ := hrel
        by_cases hlk : k < 64
        · have k0 : (0 : Int) ≤ (k : Int) := by omega
          have k2 : (k : Int) < 64 := by omega
          have hmk := hmi k hlk
          obtain ⟨j, hj⟩ : ∃ j, 64 * i + k = j := ⟨_, rfl⟩
          have HJ : Hid (64 * i + k = j) := hj
          rw [hj] at hmk A1 A3
          have c36 := C36 j
          have c35 := C35 j
          have c37 := C37 j
          have r0 := fun ds os => cell_regrown A1.h ds os
          have r1 := fun ds os => cell_regrown A1.l ds os
          have r2 := fun ds os => cell_regrown A3.h ds os
          have r3 := fun ds os => cell_regrown A3.l ds os
          clear C36 C35 C37 hmi hj I
          go_wp2_with fail
          refine wp_region_below_tail 9 (by kernel_rfl) (by kernel_rfl) ?_
          simp only [List.take_succ_cons, List.take_zero, List.drop_succ_cons, List.drop_zero]
          repeat (go_big_quiet_step (first | (go_at_call 36; exact Calls.regrown_of (c36 _)) | (go_at_call 35; exact Calls.regrown_of (c35 _))))
          refine wpQuiet_nil ?_
          intro w1 hw'
          obtain ⟨⟨dq, osq⟩, hw''⟩ := hw'
          have hb1 := below_of hw''
          clear hw'' r0 r1 r2 r3 c36 c35
          have B1 := A1.to' hb1
          have B2 := A2.to' hb1
          have B3 := A3.to' hb1
          have hB1 := Bel.call hB hb1
          clear A1 A2 A3 hB hb1
          have d0 := B3.c 0 (by omega)
          have d1 := B3.c 1 (by omega)
          have z0 := B3.z 0 (by omega)
          have z1 := B3.z 1 (by omega)
          have e0 := (B1.st2o (show w.heap.size + 1 + 1 + 1 ≠ w.heap.size + 1 by omega) (sx (j + 1)) (sy (j + 1))).h
          have e1 := (B1.st2o (show w.heap.size + 1 + 1 + 1 ≠ w.heap.size + 1 by omega) (sx (j + 1)) (sy (j + 1))).l
          unfold st2 at e0 e1
          go_wp2_with fail
          refine (c37 _).mono ?_
          rintro e w2 ⟨rfl, hb2⟩
          have D1 : Arr _ (w.heap.size + 1) 2 _ := Arr.to' (n := 1) (B1.st2o (show w.heap.size + 1 + 1 + 1 ≠ w.heap.size + 1 by omega) (sx (j + 1)) (sy (j + 1))) hb2
          have D2 : Arr _ (w.heap.size + 1 + 1) 2 _ := Arr.to' (n := 1) (B2.st2o (show w.heap.size + 1 + 1 + 1 ≠ w.heap.size + 1 + 1 by omega) (sx (j + 1)) (sy (j + 1))) hb2
          have D3 : Arr _ (w.heap.size + 1 + 1 + 1) 2 _ := Arr.to' (n := 1) (B3.st2 (sx (j + 1)) (sy (j + 1))) hb2
          have hB2 : Below w.heap.size w w2 := Bel.call (Bel.st2 hB1 (b := w.heap.size + 1 + 1 + 1) (by omega) (sx (j + 1)) (sy (j + 1))) hb2
          clear B1 B2 B3 hB1 hb2 d0 d1 z0 z1 e0 e1 c37
          have d0 := D1.c 0 (by omega)
          have d1 := D1.c 1 (by omega)
          have z0 := D1.z 0 (by omega)
          have z1 := D1.z 1 (by omega)
          go_wp2_with fail
          have hj1 : 64 * i + (k + 1) = j + 1 := by have := HJ.out; omega
          refine ⟨⟨k + 1, by omega, by go_num, Bel.st2 hB2 (by omega) _ _, ?_, D2.st2o (by omega) _ _, ?_⟩, by simp [intOf]; omega⟩
          · rw [hj1]; exact D1.st2 _ _
          · rw [hj1]; exact D3.st2o (by omega) _ _
        · have e : k = 64 := by omega
          rw [show ((k : Nat) : Int) = 64 by omega]
          subst e
          clear hmi C36 C35 C37
          go_wp2_with fail
          rw [show 64 * i + 64 = 64 * (i + 1) by omega] at A1 A3
          exact ⟨⟨i + 1, by omega, by go_num, hB, A1, A2, A3⟩, by simp [intOf]; omega⟩
    · have e : i = 2 := by omega
      rw [show ((i : Nat) : Int) = 2 by omega]
      subst e
      have c0 := A3.h
      have c1 := A3.l
      have d0 := A2.c 0 (by omega)
      have d1 := A2.c 1 (by omega)
      have z0 := A2.z 0 (by omega)
      have z1 := A2.z 1 (by omega)
      have E := A2.st2 (sx (64 * 2)) (sy (64 * 2))
      have e0 := E.h
      have e1 := E.l
      unfold Go.Proofs.Ytbodafogiijhnaa.st2 at e0 e1
      clear C36 C35 C37 hm
      go_wp2_with fail
      refine bodyPost_ret (v := gk (sx 128) (sy 128)) (by simp [gk, results, Try.results21, go_sem, e0, e1]) rfl ⟨rfl, Bel.st2 hB (by omega) _ _⟩
/-- The product of two blocks. -/
theorem btimes_any {a b : Nat} (ha : a < 2 ^ 128) (hb : b < 2 ^ 128) (w : World) : Calls Try.prog 21 #[gB a, gB b] w fun e w' => e = .returned (gB (tB a b)) ∧ Below w.heap.size w w' := by
  have ol : ∀ j, it T128 j b < 2 ^ 128 := fun j => it_lt T128_lt j b hb
  have sl : ∀ j, S T128 (bs a) j b < 2 ^ 128 := fun j => S_lt T128_lt j _ b hb
  refine times_core (hi a) (lo a) (fun j => hi (S T128 (bs a) j b)) (fun j => lo (S T128 (bs a) j b)) (fun j => hi (it T128 j b)) (fun j => lo (it T128 j b)) (fun j => if bs a j = true then 1 else 0)
    (fun j => hi (if bs a j = true then it T128 j b else 0)) (fun j => lo (if bs a j = true then it T128 j b else 0)) (by simp [S, hi]) (by simp [S, lo]) (fun i k hi2 hk => ?_) (fun j W => masked_any (ol j) (bs a j) W) (fun j W => ?_) (fun j W => timesX_any (ol j) W) w
  · have : i = 0 ∨ i = 1 := by omega
    rcases this with rfl | rfl
    · show bits .and .u64 (((a / 2 ^ 64 : Nat) : Int) / 2 ^ (63 - k)) 1 = if bs a (64 * 0 + k) = true then 1 else 0
      rw [bit_at _ k (hi_lt ha) hk, bs_hi a k hk, Nat.mul_zero, Nat.zero_add]
    · show bits .and .u64 (((a % 2 ^ 64 : Nat) : Int) / 2 ^ (63 - k)) 1 = if bs a (64 * 1 + k) = true then 1 else 0
      rw [bit_at _ k (lo_lt a) hk, bs_lo a k hk]
  · have := gplus_any (a := S T128 (bs a) j b) (b := if bs a j = true then it T128 j b else 0) (sl j) (by split; exact ol j; decide) W
    rw [← S_end] at this
    exact this
end Go.Proofs.Ytbodafogiijhnaa
/- A block's 16 bytes as a text. -/
set_option linter.all false
set_option maxRecDepth 100000
namespace Go.Proofs.Ytbodafogiijhnaa
open Go.RowKit Go.Sort Lin
/-- A word's first j bytes, the highest first. -/
def oL (x : Int) (j : Nat) : List Int := (List.range j).map fun i => x / 2 ^ (56 - 8 * i) % 256
theorem oL_succ (x : Int) (j : Nat) : oL x (j + 1) = oL x j ++ [x / 2 ^ (56 - 8 * j) % 256] := by simp [oL, List.range_succ]
theorem oL_len (x : Int) (j : Nat) : (oL x j).length = j := by simp [oL]
def dL (x y : Int) : Nat → List Int
  | 0 => []
  | k + 1 => dL x y k ++ oL (wi x y k) 8
theorem dL_len (x y : Int) (k : Nat) : (dL x y k).length = 8 * k := by
  induction k with
  | zero => rfl
  | succ k ih => rw [dL, List.length_append, ih, oL_len]; omega
set_option maxHeartbeats 1000000 in
theorem gtext_core (x y : Int) (T : ByteArray) (hT : mkS (dL x y 2) = T) (w : World) : Calls Try.prog 22 #[gk x y] w fun e w' => e = .returned (.string T) ∧ Below w.heap.size w w' := by
  have C34 := fun W => words_core x y W
  obtain ⟨i0, hi, hz0, hz1, hz2⟩ := info_parts Try.info5
  obtain ⟨wm, hmk, hown, hgm⟩ := run_make_own (P := Try.prog) (w.alloc (.cells #[.int .u64 x, .int .u64 y] 41)) w.heap.size 36 5 i0 (.int .u8 0) 1 Try.underlying36 hi hz0 hz1 .i64 .i64 16 (by rw [hz2]; omega) (by unfold maxLen; omega) (by simp)
  rw [show ((16 : Nat) : Int) = 16 from rfl] at hmk
  have A0 := Arr.new w _ 41 _ rfl _ 2 (g2_at x y)
  have hmb : Below (w.alloc (.cells #[.int .u64 x, .int .u64 y] 41)).heap.size (w.alloc (.cells #[.int .u64 x, .int .u64 y] 41)) wm := ⟨hgm.os, hgm.tape, hgm.output, hgm.size, fun k hk => hgm.block k hk (by intro e; cases e)⟩
  replace A0 := A0.to' hmb
  have hB := Bel.call ((Below.refl _ w).alloc (Nat.le_refl _) (.cells #[.int .u64 x, .int .u64 y] 41)) hmb
  clear hgm hmb
  have c0 := A0.h
  have c1 := A0.l
  unfold gk at *
  go_enter Try.func22, Try.ntmps22
  go_wp2_with fail
  clear hmk
  refine (C34 _).mono ?_
  rintro e w1 ⟨rfl, hb⟩
  replace hown := hown.kept (gby hb) (.inr (by simp [Value.ownBlock]))
  replace hB := Bel.call hB hb
  clear hb C34 A0 c0 c1
  rw [World.size_alloc] at hown
  go_wp2_with fail
  go_loopw [3, 10] (fun v i wr => ∃ k : Nat, k ≤ 2 ∧ i = .int .i64 k ∧ wr.ownsRow w.heap.size 5 1 v (8 * k) ((dL x y k).map (Value.int .u8)) ∧ Below w.heap.size w wr) (fun _ i _ => 2 - (intOf i).toNat)
  case atStart => exact ⟨0, by omega, rfl, hown, hB⟩
  case round =>
    clear hown hB
    obtain ⟨k, hk, rfl, hown, hB⟩ := hrel
    by_cases hlt : k < 2
    · have k0 : (0 : Int) ≤ (k : Int) := by omega
      have k2 : (k : Int) < 2 := by omega
      have I := fun W => idx59 x y k hlt W
      rw [g2_wi] at I
      have HC : Hid (dL x y (k + 1) = dL x y k ++ oL (wi x y k) 8) := rfl
      generalize wi x y k = c at *
      go_wp2_with fail
      go_loopw [3, 6] (fun v z ws => ∃ j : Nat, j ≤ 8 ∧ z = .int .i64 (56 - 8 * (j : Int)) ∧ ws.ownsRow w.heap.size 5 1 v (8 * k + j) ((dL x y k ++ oL c j).map (Value.int .u8)) ∧ Below w.heap.size w ws) (fun _ z _ => (intOf z + 8).toNat)
      case atStart => exact ⟨0, by omega, rfl, by simpa [oL] using hown, hB⟩
      case round =>
        clear hown hB
        obtain ⟨j, hj, rfl, hown, hB⟩ := hrel
        by_cases hlj : j < 8
        · obtain ⟨m, hm⟩ : ∃ m, 56 - 8 * j = m := ⟨_, rfl⟩
          have em : (56 : Int) - 8 * (j : Int) = (m : Int) := by omega
          rw [em]
          have m0 : (0 : Int) ≤ (m : Int) := by omega
          have m1 : (m : Int) ≤ 56 := by omega
          obtain ⟨ao, cv, hv⟩ := own_form hown
          subst hv
          have HL : Hid ((dL x y k ++ oL c (j + 1)).map (Value.int .u8) = (dL x y k ++ oL c j).map (Value.int .u8) ++ [.int .u8 (c / 2 ^ m % 256)]) := by
            show _ = _
            rw [oL_succ, hm, ← List.append_assoc, List.map_append (l₁ := dL x y k ++ oL c j)]
            rfl
          have HM : Hid ((56 : Int) - 8 * (j : Int) = (m : Int)) := em
          have HO : Hid (wr.ownsRow w.heap.size 5 1 (.slice ao (8 * k + j) cv) (8 * k + j) ((dL x y k ++ oL c j).map (Value.int .u8))) := hown
          have hs := hB.size
          clear hown em hm I
          generalize (dL x y k ++ oL c j).map (Value.int .u8) = L at *
          go_wp2_with (at_builtin; refine stopAt ?_)
          unfold Stop
          refine wpList_append_own _ rfl _ _ 36 rfl w.heap.size 5 i0 (.int .u8 0) 1 1 Try.underlying36 hi hz0 hz1 hz2 rfl (by decide) _ _ _ rfl (World.ownsRow.alloc HO.out _) ⟨_, 0, none⟩ 1 1 [.int .u8 (c / 2 ^ m % 256)] rfl rfl (news_new _ _ _) (by simp [Value.oneCell']) (by unfold maxLen; omega) (by omega) (by simp; omega) ?_
          intro v' w3 hown' hgrow3 hnil3
          have b3 : Below w.heap.size w w3 := (Bel.al hB _).grown hgrow3 (by simp; omega) (fun q hq => (HO.out.lt q hq).1)
          clear hnil3 hgrow3
          go_wp2_with fail
          refine ⟨⟨j + 1, by omega, ?_, ?_, b3⟩, by simp [intOf]; omega⟩
          · have := HM.out
            congr 1
            omega
          · rw [HL.out]
            exact hown'
        · have e : j = 8 := by omega
          subst e
          rw [show (56 : Int) - 8 * ((8 : Nat) : Int) = -8 by omega]
          clear I
          go_wp2_with fail
          refine ⟨⟨k + 1, by omega, by go_num, ?_, hB⟩, by simp [intOf]; omega⟩
          rw [HC.out]
          exact hown
    · have e : k = 2 := by omega
      rw [show ((k : Nat) : Int) = 2 by omega]
      subst e
      obtain ⟨g, c, hv⟩ := own_some hown (by omega)
      subst hv
      have cv := convC wr g 16 c (dL x y 2) (dL_len x y 2) (World.ownsRow.cells hown rfl)
      rw [hT] at cv
      clear hown
      go_wp2_with fail
      go_ret
      exact ⟨rfl, hB⟩
/-- A block's 16 bytes. -/
def tN (n : Nat) : ByteArray := mkS (dL (hi n) (lo n) 2)
theorem gtext_any (n : Nat) (w : World) : Calls Try.prog 22 #[gB n] w fun e w' => e = .returned (.string (tN n)) ∧ Below w.heap.size w w' := gtext_core _ _ _ rfl w
theorem tN_size (n : Nat) : (tN n).size = 16 := by unfold tN; rw [mkS_size, dL_len]
end Go.Proofs.Ytbodafogiijhnaa
