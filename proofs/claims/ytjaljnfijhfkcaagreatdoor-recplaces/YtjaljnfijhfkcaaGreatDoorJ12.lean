/- Texts joined: G4, A11, A12. -/
import Derived.Lib.BufferWrite
import Derived.Test.YtjaljnfijhfkcaaGreatDoorJ5
import Derived.Test.YtjaljnfijhfkcaaGreatDoorJ11
/- A text's first 16 bytes as a block. -/
set_option linter.all false
set_option maxRecDepth 100000
namespace Go.Proofs.YtjaljnfijhfkcaaGreatDoor
open Go.RowKit Go.Sort Lin
theorem Tryz.size5 : (Tryz.prog.info? 5).map (·.size) = some 1 := by kernel_rfl
/-- copy(dst, s): as many bytes of s as dst has room for. -/
theorem run_copy_some {P : Program} (w : World) (dT sT ty elem : TypeId) (g o dLen dCap : Nat) (s : ByteArray) (cur : Array Value) (t : TypeId)
    (hu : P.underlying dT = some (.slice elem)) (hs : (P.info? elem).map (·.size) = some 1) (hg : w.heap[g]? = some (.cells cur t (0, 0))) (hfit : o + dLen ≤ cur.size) :
    (Builtin.copy_ #[dT, sT] ty #[.slice (some ⟨g, o, none⟩) dLen dCap, .string s]).run P w =
      .ok (goInt (Nat.min s.size dLen)) (w.setRow g (cur.toList.take o ++ Lib.byteCells (s.data.toList.take (Nat.min s.size dLen)) ++ cur.toList.drop (o + Nat.min s.size dLen)).toArray) := by
  have hlen : (Lib.byteCells (s.data.toList.take (Nat.min s.size dLen))).length = Nat.min s.size dLen := by
    rw [Lib.byteCells_length, List.length_take, Array.length_toList]
    show min (min s.size dLen) s.size = min s.size dLen
    omega
  have hst := run_storeCells_at P g o t (Lib.byteCells (s.data.toList.take (Nat.min s.size dLen))) 0 cur w hg (by rw [hlen]; have : min s.size dLen ≤ dLen := Nat.min_le_right _ _; show o + 0 + min s.size dLen ≤ _; omega) (Lib.byteCells_one _)
  have htk : List.take (Nat.min s.size dLen) (List.map (fun b : UInt8 => Value.int IntKind.u8 (b.toNat : Int)) s.data.toList) = Lib.byteCells (s.data.toList.take (Nat.min s.size dLen)) := by
    rw [← List.map_take]
    rfl
  rw [hlen] at hst
  simp only [Nat.add_zero] at hst
  cases hq : P.info? elem with
  | none => simp [hq] at hs
  | some i =>
    simp [Builtin.copy_, run_underlying hu, Builtin.lenOf, Builtin.firstCells, sizeOf, typeInfo, hq]
    rw [htk, hst]
    simp [Result.andThen]
theorem copy_gen (w : World) (M : Array Value) (hM : M.size = 16) (hz : ∀ j, j < 16 → M[j]? = some (.int .u8 0)) (s : ByteArray) : ∃ W : World, (Builtin.copy_ #[50, 9] 3 #[.slice (some ⟨w.heap.size, 0, none⟩) 16 16, .string s]).run Tryz.prog (w.alloc (.cells M 147)) = .ok (goInt (Nat.min s.size 16)) W ∧
    Below w.heap.size w W ∧ w.heap.size < W.heap.size ∧ Arr W w.heap.size 16 (fun j => .int .u8 (bt s j)) := by
  have sz : s.data.toList.length = s.size := by rw [Array.length_toList]; rfl
  have hcp := run_copy_some (P := Tryz.prog) (w.alloc (.cells M 147)) 50 9 3 5 w.heap.size 0 16 16 s M 147 Tryz.underlying50 Tryz.size5 (heap_alloc_new w _) (by omega)
  obtain ⟨Y, hY⟩ : ∃ Y, Y = (M.toList.take 0 ++ Lib.byteCells (s.data.toList.take (Nat.min s.size 16)) ++ M.toList.drop (0 + Nat.min s.size 16)).toArray := ⟨_, rfl⟩
  rw [← hY] at hcp
  refine ⟨_, hcp, ?_, ?_, ?_⟩
  · have hb1 : Below w.heap.size w (w.alloc (.cells M 147)) := (Below.refl _ w).alloc (Nat.le_refl _) _
    exact hb1.trans ⟨rfl, rfl, rfl, by simp, fun k hk => setRow_other _ _ _ _ (by omega)⟩
  · simp
  · have hgY : ((w.alloc (.cells M 147)).setRow w.heap.size Y).heap[w.heap.size]? = some (.cells Y 147 (0, 0)) := setRow_heap _ _ M _ 147 (0, 0) (heap_alloc_new w _)
    generalize (w.alloc (.cells M 147)).setRow w.heap.size Y = V at *
    intro j hj
    refine ⟨?_, by unfold World.frozen?; rw [hgY]; simp⟩
    have lm : (Lib.byteCells (s.data.toList.take (Nat.min s.size 16))).length = Nat.min s.size 16 := by
      rw [Lib.byteCells_length, List.length_take, sz]
      show min (min s.size 16) s.size = min s.size 16
      omega
    have e : Y[j]? = some (.int .u8 (bt s j)) := by
      rw [hY, List.getElem?_toArray, List.take_zero, List.nil_append]
      by_cases c : j < s.size
      · have cm : j < Nat.min s.size 16 := by show j < min s.size 16; omega
        rw [List.getElem?_append_left (by rw [lm]; exact cm)]
        unfold Lib.byteCells bt
        rw [List.getElem?_map, List.getElem?_take, if_pos cm, Array.getElem?_toList, Array.getElem?_eq_getElem (show j < s.data.size from c)]
        rfl
      · have cm : ¬ j < Nat.min s.size 16 := by show ¬ j < min s.size 16; omega
        rw [List.getElem?_append_right (by rw [lm]; omega), lm]
        have b0 : bt s j = 0 := by
          unfold bt
          rw [Array.getElem?_eq_none (by show s.size ≤ j; omega)]
          rfl
        rw [b0, List.getElem?_drop, Array.getElem?_toList, ← hz j hj]
        congr 1
        omega
    unfold World.cell?
    rw [hgY]
    simp [e]
theorem zb_at (j : Nat) (hj : j < 16) : (#[.int .u8 0, .int .u8 0, .int .u8 0, .int .u8 0, .int .u8 0, .int .u8 0, .int .u8 0, .int .u8 0, .int .u8 0, .int .u8 0, .int .u8 0, .int .u8 0, .int .u8 0, .int .u8 0, .int .u8 0, .int .u8 0] : Array Value)[j]? = some (.int .u8 0) := by
  have e : (#[.int .u8 0, .int .u8 0, .int .u8 0, .int .u8 0, .int .u8 0, .int .u8 0, .int .u8 0, .int .u8 0, .int .u8 0, .int .u8 0, .int .u8 0, .int .u8 0, .int .u8 0, .int .u8 0, .int .u8 0, .int .u8 0] : Array Value) = (List.replicate 16 (Value.int .u8 0)).toArray := rfl
  rw [e, List.getElem?_toArray, List.getElem?_replicate, if_pos hj]
theorem copy_row (w : World) (s : ByteArray) : ∃ W : World, (Builtin.copy_ #[50, 9] 3 #[.slice (some ⟨w.heap.size, 0, none⟩) 16 16, .string s]).run Tryz.prog (w.alloc (.cells #[.int .u8 0, .int .u8 0, .int .u8 0, .int .u8 0, .int .u8 0, .int .u8 0, .int .u8 0, .int .u8 0, .int .u8 0, .int .u8 0, .int .u8 0, .int .u8 0, .int .u8 0, .int .u8 0, .int .u8 0, .int .u8 0] 147)) = .ok (goInt (Nat.min s.size 16)) W ∧
    Below w.heap.size w W ∧ w.heap.size < W.heap.size ∧ Arr W w.heap.size 16 (fun j => .int .u8 (bt s j)) := copy_gen w _ rfl zb_at s
set_option maxHeartbeats 1000000 in
theorem gblockOf_core (s : ByteArray) (b H L : Nat → Int) (hbt : ∀ j, bt s j = b j) (hb : ∀ j, 0 ≤ b j ∧ b j < 256) (h0 : H 0 = 0) (l0 : L 0 = 0)
    (hH : ∀ k, k < 8 → bits .or .u64 (IntKind.u64.wrap (H k * 256)) (b k) = H (k + 1)) (hL : ∀ k, k < 8 → bits .or .u64 (IntKind.u64.wrap (L k * 256)) (b (8 + k)) = L (k + 1)) (w : World) :
    Calls Tryz.prog 70 #[.string s] w fun e w' => e = .returned (gk (H 8) (L 8)) ∧ Below w.heap.size w w' := by
  obtain ⟨W, hcp, hB0, hs0, A0⟩ := copy_row (w.alloc (.cells #[.int .u64 0, .int .u64 0] 105)) s
  have Z0 := (Arr.new w _ 105 _ rfl _ 2 (g2_at 0 0)).to' hB0
  have hB := Bel.call ((Below.refl _ w).alloc (Nat.le_refl _) (.cells #[.int .u64 0, .int .u64 0] 105)) hB0
  rw [World.size_alloc] at A0 hs0 hcp
  go_enter Tryz.func70, Tryz.ntmps70
  go_wp2_with fail
  clear hcp
  have A1 : Arr _ _ 16 _ := A0.al' (n := 15) (.cells #[.int .u64 0, .int .u64 0] 105)
  have Z1 := Z0.al' (.cells #[.int .u64 0, .int .u64 0] 105)
  have O1 := Arr.new W _ 105 _ rfl _ 2 (g2_at 0 0)
  have hB1 := Bel.al hB (.cells #[.int .u64 0, .int .u64 0] 105)
  clear A0 Z0 hB hB0
  generalize W.alloc (.cells #[.int .u64 0, .int .u64 0] 105) = W1 at *
  obtain ⟨p, hp⟩ : ∃ p, W.heap.size = p := ⟨_, rfl⟩
  rw [hp] at O1 hs0 ⊢
  clear hp
  go_loopw [9] (fun i wr => ∃ k : Nat, k ≤ 8 ∧ i = .int .i64 k ∧ Below w.heap.size w wr ∧ Arr wr w.heap.size 2 (g2 0 0) ∧ Arr wr (w.heap.size + 1) 16 (fun j => .int .u8 (bt s j)) ∧ Arr wr p 2 (g2 (H k) (L k))) (fun i _ => 8 - (intOf i).toNat)
  case atStart => exact ⟨0, by omega, rfl, hB1, Z1, A1, by rw [h0, l0]; exact O1⟩
  case round =>
    clear A1 Z1 O1 hB1
    obtain ⟨k, hk, rfl, hB, Z, A, O⟩ := hrel
    by_cases hlt : k < 8
    · have k0 : (0 : Int) ≤ (k : Int) := by omega
      have k8 : (k : Int) < 8 := by omega
      have r0 := fun ds os => cell_regrown O.h ds os
      have r1 := fun ds os => cell_regrown (A.cv k (by omega) (.int .u8 (b k)) (by rw [hbt])) ds os
      have hk1 := hH k hlt
      have hk2 := hL k hlt
      have b1 := (hb k).1
      have b2 := (hb k).2
      have b3 := (hb (8 + k)).1
      have b4 := (hb (8 + k)).2
      go_wp2_with fail
      refine wp_region_below_tail 9 (by kernel_rfl) (by kernel_rfl) ?_
      simp only [List.take_succ_cons, List.take_zero, List.drop_succ_cons, List.drop_zero]
      repeat (go_big_quiet_step (fail))
      refine wpQuiet_nil ?_
      intro w1 hw'
      obtain ⟨⟨dq, osq⟩, hw''⟩ := hw'
      have hb1 := below_of hw''
      clear hw'' r0 r1
      have Z1 := Z.to' hb1
      have A1 : Arr _ _ 16 _ := A.to' (n := 15) hb1
      have O1 := O.to' hb1
      have hB1 := Bel.call hB hb1
      clear Z A O hB hb1 hk1
      have np1 : p ≠ w.heap.size := by omega
      have np2 : p ≠ w.heap.size + 1 := by omega
      have lp : w.heap.size ≤ p := by omega
      have d0 := O1.h
      have z0 := O1.z 0 (by omega)
      go_wp2_with fail
      have Z2 := Z1.other np1 (k := 0) (.int .u64 (H (k + 1)))
      have A2 := A1.other np2 (k := 0) (.int .u64 (H (k + 1)))
      have O2 : Arr (w1.setCell ⟨p, 0, none⟩ (.int .u64 (H (k + 1)))) p 2 (g2 (H (k + 1)) (L k)) := (O1.set 0 (by omega) (.int .u64 (H (k + 1)))).congr (by
        intro j hj
        have : j = 0 ∨ j = 1 := by omega
        rcases this with rfl | rfl <;> simp [g2])
      have hB2 := Bel.st hB1 lp (k := 0) (.int .u64 (H (k + 1)))
      clear Z1 A1 O1 hB1 d0 z0
      generalize w1.setCell ⟨p, 0, none⟩ (.int .u64 (H (k + 1))) = w2 at *
      have r0 := fun ds os => cell_regrown O2.l ds os
      have r1 := fun ds os => cell_regrown (A2.cv (8 + k) (by omega) (.int .u8 (b (8 + k))) (by rw [hbt])) ds os
      have ek : ((8 + k : Nat) : Int) = 8 + (k : Int) := by omega
      refine wp_region_below_tail 10 (by kernel_rfl) (by kernel_rfl) ?_
      simp only [List.take_succ_cons, List.take_zero, List.drop_succ_cons, List.drop_zero]
      repeat (go_big_quiet_step (fail))
      refine wpQuiet_nil ?_
      intro w3 hw'
      obtain ⟨⟨dq, osq⟩, hw''⟩ := hw'
      have hb1 := below_of hw''
      clear hw'' r0 r1
      have Z3 := Z2.to' hb1
      have A3 : Arr _ _ 16 _ := A2.to' (n := 15) hb1
      have O3 := O2.to' hb1
      have hB3 := Bel.call hB2 hb1
      clear Z2 A2 O2 hB2 hb1 hk2
      have d0 := O3.l
      have z0 := O3.z 1 (by omega)
      go_wp2_with fail
      refine ⟨⟨k + 1, by omega, by go_num, Bel.st hB3 lp _, Z3.other np1 _, A3.other np2 _, ?_⟩, by simp [intOf]; omega⟩
      exact (O3.set 1 (by omega) (.int .u64 (L (k + 1)))).congr (by
        intro j hj
        have : j = 0 ∨ j = 1 := by omega
        rcases this with rfl | rfl <;> simp [g2])
    · have e : k = 8 := by omega
      rw [show ((k : Nat) : Int) = 8 by omega]
      subst e
      have c0 := O.h
      have c1 := O.l
      have d0 := Z.c 0 (by omega)
      have d1 := Z.c 1 (by omega)
      have z0 := Z.z 0 (by omega)
      have z1 := Z.z 1 (by omega)
      have E := Z.st2 (H 8) (L 8)
      have e0 := E.h
      have e1 := E.l
      unfold Go.Proofs.YtjaljnfijhfkcaaGreatDoor.st2 at e0 e1
      clear hH hL
      go_wp2_with fail
      refine bodyPost_ret (v := gk (H 8) (L 8)) (by simp [gk, results, Tryz.results70, go_sem, e0, e1]) rfl ⟨rfl, Bel.st2 hB (by omega) _ _⟩
/-- The bytes of f from its a-th on, k of them, as a number: the first is the highest. -/
def be (f : Nat → By) : Nat → Nat
  | 0 => 0
  | k + 1 => be f k * 256 + (f k).val
theorem be_lt (f : Nat → By) (k : Nat) : be f k < 256 ^ k := by
  induction k with
  | zero => simp [be]
  | succ k ih => have := (f k).2; rw [be, Nat.pow_succ]; omega
/-- A text's first 16 bytes as a block. -/
def bN (s : ByteArray) : Nat := be (bF s) 8 * 2 ^ 64 + be (fun j => bF s (8 + j)) 8
theorem bN_lt (s : ByteArray) : bN s < 2 ^ 128 := by
  have h1 := be_lt (bF s) 8
  have h2 := be_lt (fun j => bF s (8 + j)) 8
  unfold bN
  have e : (256 : Nat) ^ 8 = 2 ^ 64 := by decide
  rw [e] at h1 h2
  omega
theorem be_step (f : Nat → By) (k : Nat) (hk : k < 8) : bits .or .u64 (IntKind.u64.wrap ((be f k : Int) * 256)) ((f k).val : Int) = (be f (k + 1) : Int) := by
  have h1 := be_lt f k
  have h2 := (f k).2
  have h3 : 256 ^ k ≤ 256 ^ 7 := Nat.pow_le_pow_right (by decide) (by omega)
  have e7 : (256 : Nat) ^ 7 = 72057594037927936 := by decide
  rw [e7] at h3
  have e1 : IntKind.u64.wrap ((be f k : Int) * 256) = ((be f k * 2 ^ 8 + 0 : Nat) : Int) := by rw [IntKind.wrap_u64]; omega
  have e2 : ((f k).val : Int) = ((0 * 2 ^ 8 + (f k).val : Nat) : Int) := by omega
  rw [e1, e2, (bits_ao64 _ _ (by omega) (by omega)).2, or_hi _ _ _ _ 8 (by decide) h2]
  simp [be]
theorem gblockOf_any (s : ByteArray) (w : World) : Calls Tryz.prog 70 #[.string s] w fun e w' => e = .returned (gB (bN s)) ∧ Below w.heap.size w w' := by
  have := gblockOf_core s (fun j => ((bF s j).val : Int)) (fun k => (be (bF s) k : Int)) (fun k => (be (fun j => bF s (8 + j)) k : Int)) (fun j => bF_bt s j) (fun j => by have := (bF s j).2; constructor <;> omega) rfl rfl (fun k hk => be_step _ k hk) (fun k hk => be_step (fun j => bF s (8 + j)) k hk) w
  have h2 := be_lt (fun j => bF s (8 + j)) 8
  rw [show (256 : Nat) ^ 8 = 2 ^ 64 by decide] at h2
  have e1 : hi (bN s) = (be (bF s) 8 : Int) := by unfold hi bN; omega
  have e2 : lo (bN s) = (be (fun j => bF s (8 + j)) 8 : Int) := by unfold lo bN; omega
  unfold gB
  rw [e1, e2]
  exact this
end Go.Proofs.YtjaljnfijhfkcaaGreatDoor
/- Blocks of texts. -/
set_option linter.all false
set_option maxRecDepth 100000
namespace Go.Proofs.YtjaljnfijhfkcaaGreatDoor
open Go.RowKit Go.Sort Lin
set_option maxHeartbeats 1000000 in
theorem blockOf_core (s : ByteArray) (hs : s.size = 16) (g : Nat → Int) (C : ∀ k, k < 4 → ∀ W, Calls Tryz.prog 112 #[.string (s.extract (4 * k) 16)] W fun e w' => e = .returned (.int .u32 (g k)) ∧ Below W.heap.size W w') (w : World) :
    Calls Tryz.prog 97 #[.string s] w fun e w' => e = .returned (bv g) ∧ Below w.heap.size w w' := by
  unfold bv
  have hg := C
  have s16 : (s.size : Int) = 16 := by omega
  go_enter Tryz.func97, Tryz.ntmps97
  go_wp2_with fail
  go_loopw [5] (fun i wr => ∃ k : Nat, k ≤ 4 ∧ i = .int .i64 k ∧ Below w.heap.size w wr ∧ Arr wr w.heap.size 4 (fun _ => .int .u32 0) ∧ Arr wr (w.heap.size + 1) 4 (mid g (fun _ => 0) k)) (fun i _ => 4 - (intOf i).toNat)
  case atStart =>
    refine ⟨0, by omega, rfl, by go_grown, ?_, ?_⟩
    · exact (Arr.new _ _ _ _ (by simp) _ 4 z4_at).al' _
    · exact (Arr.new _ _ _ _ (by simp) _ 4 z4_at).congr fun j _ => (mid_0 (fun _ => 0) g j).symm
  case round =>
    obtain ⟨k, hk, rfl, hB, A1, A2⟩ := hrel
    by_cases hlt : k < 4
    · have k0 : (0 : Int) ≤ (k : Int) := by omega
      have k4 : (k : Int) < 4 := by omega
      have c47 := C k hlt wr
      clear C hg
      go_wp2_with fail
      refine c47.mono ?_
      rintro e w1 ⟨rfl, hb⟩
      have hB1 := Bel.call hB hb
      have B1 := A1.to' hb
      have B2 := A2.to' hb
      clear A1 A2 hB hb c47
      have c := B2.c k hlt
      have z := B2.z k hlt
      go_wp2_with fail
      refine ⟨⟨k + 1, by omega, by go_num, Bel.st hB1 (by omega) _, B1.other (by omega) _, mid_at B2 hlt⟩, by simp [intOf]; omega⟩
    · have e : k = 4 := by omega
      rw [show ((k : Nat) : Int) = 4 by omega]
      subst e
      have A := mid_end A2
      have c0 := A.c 0 (by omega)
      have c1 := A.c 1 (by omega)
      have c2 := A.c 2 (by omega)
      have c3 := A.c 3 (by omega)
      have d := A1.c
      have z := A1.z
      have E := (A1.st4 g).c
      clear A2 hk hlt hg C
      go_wp2_with fail
      refine bodyPost_ret (v := bv g) ?_ rfl ⟨rfl, Bel.st4 hB (by omega) g⟩
      simp only [Go.Proofs.YtjaljnfijhfkcaaGreatDoor.st4] at E
      simp [bv, results, Tryz.results97, go_sem, E]
theorem blockOf_any (s : ByteArray) (hs : s.size = 16) (w : World) : Calls Tryz.prog 97 #[.string s] w fun e w' => e = .returned (bv (col (bF s))) ∧ Below w.heap.size w w' :=
  blockOf_core s hs (col (bF s)) (fun k hk W => by
    have := wordOf_any (s.extract (4 * k) s.size) (by rw [ByteArray.size_extract]; omega) W
    rw [bF_ext s _ 0 (by omega), bF_ext s _ 1 (by omega), bF_ext s _ 2 (by omega), bF_ext s _ 3 (by omega), hs] at this
    exact this) w
end Go.Proofs.YtjaljnfijhfkcaaGreatDoor
/- A block as a text. -/
set_option linter.all false
set_option maxRecDepth 100000
namespace Go.Proofs.YtjaljnfijhfkcaaGreatDoor
open Go.RowKit Go.Sort Lin
/-- A word's four bytes, the highest first. -/
def w4 (x : Int) : List Int := [x / 16777216 % 256, x / 65536 % 256, x / 256 % 256, x % 256]
def hfL (x : Nat → Int) : Nat → List Int
  | 0 => []
  | n + 1 => hfL x n ++ w4 (x n)
theorem hfL_len (x : Nat → Int) (n : Nat) : (hfL x n).length = 4 * n := by
  induction n with
  | zero => rfl
  | succ n ih => rw [hfL, List.length_append, ih]; simp [w4]; omega
set_option maxHeartbeats 2000000 in
theorem appended_core (x : Nat → Int) (base n : Nat) (v : Value) (L0 : List Value) (w : World) (hw : w.ownsRow base 5 1 v n L0) (hbase : base ≤ w.heap.size) (hn : n ≤ 1000000) :
    Calls Tryz.prog 100 #[bv x, v] w fun e w' => ∃ v', e = .returned v' ∧ w'.ownsRow base 5 1 v' (n + 16) (L0 ++ (hfL x 4).map (Value.int .u8)) ∧ Below base w w' := by
  obtain ⟨i0, hi, hz0, hz1, hz2⟩ := info_parts Tryz.info5
  unfold bv
  go_enter Tryz.func100, Tryz.ntmps100
  go_wp2_with fail
  go_loopw [1, 8] (fun v i wr => ∃ (k : Nat) (L : List Value), k ≤ 4 ∧ i = .int .i64 k ∧ wr.ownsRow base 5 1 v (n + 4 * k) L ∧ L = L0 ++ (hfL x k).map (Value.int .u8) ∧ Below base w wr)
    (fun _ i _ => 4 - (intOf i).toNat)
  case atStart => exact ⟨0, L0, by omega, rfl, World.ownsRow.alloc hw _, by simp [hfL], (Below.refl _ _).alloc hbase _⟩
  case round =>
    obtain ⟨k, L, hk, rfl, hown, hL, hB⟩ := hrel
    by_cases hlt : k < 4
    · have k0 : (0 : Int) ≤ (k : Int) := by omega
      have k1 : (k : Int) < 4 := by omega
      have I := fun W => idx68 _ k _ hlt (h4_at x k hlt) W
      obtain ⟨ao, cv, hv⟩ := own_form hown
      subst hv
      have HL : Hid (L0 ++ (hfL x (k + 1)).map (Value.int .u8) = L ++ (w4 (x k)).map (Value.int .u8)) := by
        show _ = _
        rw [hfL, List.map_append, hL, List.append_assoc]
      have kb : n + 4 * k + 4 ≤ maxLen := by unfold maxLen; omega
      have kb2 : (n + 4 * k + 4) * 1 ≤ 140737488355328 := by omega
      have hs := hB.size
      have sb : ∀ ob, base ≤ (wr.alloc ob).heap.size := fun ob => by simp; omega
      have HO : Hid (wr.ownsRow base 5 1 (.slice ao (n + 4 * k) cv) (n + 4 * k) L) := hown
      unfold w4 at HL
      clear hL hown hw
      go_wp2_with (at_builtin; refine stopAt ?_)
      unfold Stop
      refine wpList_append_own _ rfl _ _ 50 rfl base 5 i0 (.int .u8 0) 1 1 Tryz.underlying50 hi hz0 hz1 hz2 rfl (by decide) _ _ _ rfl (World.ownsRow.alloc HO.out _) ⟨_, 0, none⟩ 4 4 [.int .u8 (x k / 16777216 % 256), .int .u8 (x k / 65536 % 256), .int .u8 (x k / 256 % 256), .int .u8 (x k % 256)] rfl rfl (news_new _ _ _) (by simp [Value.oneCell']) kb kb2 (sb _) ?_
      intro v' w3 hown' hgrow3 hnil3
      have b3 : Below base w w3 := (hB.alloc (by omega) _).grown hgrow3 (by simp; omega) (fun q hq => (HO.out.lt q hq).1)
      clear hnil3 hgrow3
      go_wp2_with fail
      refine ⟨⟨k + 1, _, by omega, by go_num, hown', HL.out.symm, b3⟩, by simp [intOf]; omega⟩
    · have e : k = 4 := by omega
      subst e
      subst hL
      have HO : Hid (wr.ownsRow base 5 1 u1 (n + 16) (L0 ++ (hfL x 4).map (Value.int .u8))) := hown
      clear hown hw
      go_wp2_with fail
      go_ret
      exact ⟨_, rfl, HO.out, hB⟩
/-- A block's bytes as a text. -/
def txt (x : Nat → Int) : ByteArray := mkS (hfL x 4)
set_option maxHeartbeats 1000000 in
theorem text_any (x : Nat → Int) (w : World) : Calls Tryz.prog 98 #[bv x] w fun e w' => e = .returned (.string (txt x)) ∧ Below w.heap.size w w' := by
  have A : ∀ W, Calls Tryz.prog 100 #[bv x, .slice none 0 0] W fun e w' => ∃ v', e = .returned v' ∧ w'.ownsRow W.heap.size 5 1 v' 16 ((hfL x 4).map (Value.int .u8)) ∧ Below W.heap.size W w' := fun W => by
    have := appended_core x W.heap.size 0 (.slice none 0 0) [] W (World.ownsRow_nil _ _ _ _) (Nat.le_refl _) (by omega)
    simpa using this
  unfold bv at A ⊢
  go_enter Tryz.func98, Tryz.ntmps98
  go_wp2_with fail
  refine (A _).mono ?_
  rintro e w1 ⟨v', rfl, hown, hb⟩
  obtain ⟨g, c, hv⟩ := own_some hown (by omega)
  subst hv
  have cv := convC w1 g 16 c (hfL x 4) (hfL_len x _) (World.ownsRow.cells hown rfl)
  have hb1 : Below w.heap.size w w1 := ((Below.refl _ w).alloc (Nat.le_refl _) _).trans (hb.mono (by simp))
  have ct : mkS (hfL x 4) = txt x := rfl
  rw [ct] at cv
  clear hown hb A ct
  go_wp2_with fail
  go_ret
  exact ⟨rfl, hb1⟩
end Go.Proofs.YtjaljnfijhfkcaaGreatDoor
