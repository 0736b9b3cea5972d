/- What sha.masked and Mac answer. -/
import Derived.Test.YtfglpcfacjedmaaDoorC8
import Derived.Lib.BufferWrite
set_option linter.all false
set_option maxRecDepth 100000
namespace Go.Proofs.YtfglpcfacjedmaaDoor
open Go.RowKit Go.Sort
theorem Tryd.size5 : (Tryd.prog.info? 5).map (·.size) = some 1 := by kernel_rfl
theorem copy_gen (w : World) (M : Array Value) (hM : M.size = 64) (hz : ∀ j, j < 64 → M[j]? = some (.int .u8 0)) (key : ByteArray) (hk : key.size ≤ 64) : ∃ W : World, (Builtin.copy_ #[65, 9] 3 #[.slice (some ⟨w.heap.size, 0, none⟩) 64 64, .string key]).run Tryd.prog (w.alloc (.cells M 90)) = .ok (goInt key.size) W ∧
    Below w.heap.size w W ∧ Arr W w.heap.size 64 (fun j => .int .u8 (bt key j)) := by
  have sz : key.data.toList.length = key.size := by rw [Array.length_toList]; rfl
  have hcp := Lib.run_copy_row_string (P := Tryd.prog) (w.alloc (.cells M 90)) 65 9 3 5 w.heap.size 0 64 64 key M 90 Tryd.underlying65 Tryd.size5 (heap_alloc_new w _) hk (by omega)
  obtain ⟨Y, hY⟩ : ∃ Y, Y = (M.toList.take 0 ++ Lib.byteCells key.data.toList ++ M.toList.drop (0 + key.size)).toArray := ⟨_, rfl⟩
  rw [← hY] at hcp
  refine ⟨_, hcp, ?_, ?_⟩
  · have hb1 : Below w.heap.size w (w.alloc (.cells M 90)) := (Below.refl _ w).alloc (Nat.le_refl _) _
    exact hb1.trans ⟨rfl, rfl, rfl, by simp, fun k hk => setRow_other _ _ _ _ (by omega)⟩
  · have hgY : ((w.alloc (.cells M 90)).setRow w.heap.size Y).heap[w.heap.size]? = some (.cells Y 90 (0, 0)) := setRow_heap _ _ M _ 90 (0, 0) (heap_alloc_new w _)
    generalize (w.alloc (.cells M 90)).setRow w.heap.size Y = V at *
    intro j hj
    refine ⟨?_, by unfold World.frozen?; rw [hgY]; simp⟩
    have e : Y[j]? = some (.int .u8 (bt key j)) := by
      rw [hY, List.getElem?_toArray, List.take_zero, List.nil_append]
      by_cases c : j < key.size
      · rw [List.getElem?_append_left (by rw [Lib.byteCells_length]; omega)]
        unfold Lib.byteCells bt
        rw [List.getElem?_map, Array.getElem?_toList, Array.getElem?_eq_getElem (show j < key.data.size from c)]
        rfl
      · rw [List.getElem?_append_right (by rw [Lib.byteCells_length]; omega), Lib.byteCells_length, sz]
        have b0 : bt key j = 0 := by
          unfold bt
          rw [Array.getElem?_eq_none (by show key.size ≤ j; omega)]
          rfl
        rw [b0, List.getElem?_drop, Array.getElem?_toList, ← hz j hj]
        congr 1
        omega
    unfold World.cell?
    rw [hgY]
    simp [e]
theorem zb_at (j : Nat) (hj : j < 64) : (#[.int .u8 0, .int .u8 0, .int .u8 0, .int .u8 0, .int .u8 0, .int .u8 0, .int .u8 0, .int .u8 0, .int .u8 0, .int .u8 0, .int .u8 0, .int .u8 0, .int .u8 0, .int .u8 0, .int .u8 0, .int .u8 0, .int .u8 0, .int .u8 0, .int .u8 0, .int .u8 0, .int .u8 0, .int .u8 0, .int .u8 0, .int .u8 0, .int .u8 0, .int .u8 0, .int .u8 0, .int .u8 0, .int .u8 0, .int .u8 0, .int .u8 0, .int .u8 0, .int .u8 0, .int .u8 0, .int .u8 0, .int .u8 0, .int .u8 0, .int .u8 0, .int .u8 0, .int .u8 0, .int .u8 0, .int .u8 0, .int .u8 0, .int .u8 0, .int .u8 0, .int .u8 0, .int .u8 0, .int .u8 0, .int .u8 0, .int .u8 0, .int .u8 0, .int .u8 0, .int .u8 0, .int .u8 0, .int .u8 0, .int .u8 0, .int .u8 0, .int .u8 0, .int .u8 0, .int .u8 0, .int .u8 0, .int .u8 0, .int .u8 0, .int .u8 0] : Array Value)[j]? = some (.int .u8 0) := by
  have e : (#[.int .u8 0, .int .u8 0, .int .u8 0, .int .u8 0, .int .u8 0, .int .u8 0, .int .u8 0, .int .u8 0, .int .u8 0, .int .u8 0, .int .u8 0, .int .u8 0, .int .u8 0, .int .u8 0, .int .u8 0, .int .u8 0, .int .u8 0, .int .u8 0, .int .u8 0, .int .u8 0, .int .u8 0, .int .u8 0, .int .u8 0, .int .u8 0, .int .u8 0, .int .u8 0, .int .u8 0, .int .u8 0, .int .u8 0, .int .u8 0, .int .u8 0, .int .u8 0, .int .u8 0, .int .u8 0, .int .u8 0, .int .u8 0, .int .u8 0, .int .u8 0, .int .u8 0, .int .u8 0, .int .u8 0, .int .u8 0, .int .u8 0, .int .u8 0, .int .u8 0, .int .u8 0, .int .u8 0, .int .u8 0, .int .u8 0, .int .u8 0, .int .u8 0, .int .u8 0, .int .u8 0, .int .u8 0, .int .u8 0, .int .u8 0, .int .u8 0, .int .u8 0, .int .u8 0, .int .u8 0, .int .u8 0, .int .u8 0, .int .u8 0, .int .u8 0] : Array Value) = (List.replicate 64 (Value.int .u8 0)).toArray := rfl
  rw [e, List.getElem?_toArray, List.getElem?_replicate, if_pos hj]
theorem copy_row (w : World) (key : ByteArray) (hk : key.size ≤ 64) : ∃ W : World, (Builtin.copy_ #[65, 9] 3 #[.slice (some ⟨w.heap.size, 0, none⟩) 64 64, .string key]).run Tryd.prog (w.alloc (.cells #[.int .u8 0, .int .u8 0, .int .u8 0, .int .u8 0, .int .u8 0, .int .u8 0, .int .u8 0, .int .u8 0, .int .u8 0, .int .u8 0, .int .u8 0, .int .u8 0, .int .u8 0, .int .u8 0, .int .u8 0, .int .u8 0, .int .u8 0, .int .u8 0, .int .u8 0, .int .u8 0, .int .u8 0, .int .u8 0, .int .u8 0, .int .u8 0, .int .u8 0, .int .u8 0, .int .u8 0, .int .u8 0, .int .u8 0, .int .u8 0, .int .u8 0, .int .u8 0, .int .u8 0, .int .u8 0, .int .u8 0, .int .u8 0, .int .u8 0, .int .u8 0, .int .u8 0, .int .u8 0, .int .u8 0, .int .u8 0, .int .u8 0, .int .u8 0, .int .u8 0, .int .u8 0, .int .u8 0, .int .u8 0, .int .u8 0, .int .u8 0, .int .u8 0, .int .u8 0, .int .u8 0, .int .u8 0, .int .u8 0, .int .u8 0, .int .u8 0, .int .u8 0, .int .u8 0, .int .u8 0, .int .u8 0, .int .u8 0, .int .u8 0, .int .u8 0] 90)) = .ok (goInt key.size) W ∧
    Below w.heap.size w W ∧ Arr W w.heap.size 64 (fun j => .int .u8 (bt key j)) := copy_gen w _ rfl zb_at key hk
/-- A key's block, each byte altered. -/
def mkL (key : ByteArray) (c : Int) : List Int := (List.range 64).map fun j => bits .xor .u8 (bt key j) c
def mskS (key : ByteArray) (c : Int) : ByteArray := mkS (mkL key c)
theorem mskS_size (key : ByteArray) (c : Int) : (mskS key c).size = 64 := by unfold mskS mkL; rw [mkS_size]; simp
set_option maxHeartbeats 2000000 in
theorem masked_core (k0 key S : ByteArray) (c : Int) (hk : key.size ≤ 64) (hk0 : k0.size ≤ maxLen) (hS : S = mskS key c) (w : World)
    (hc : (k0.size ≤ 64 ∧ k0 = key) ∨ (64 < k0.size ∧ ∀ W, Below w.heap.size w W → Calls Tryd.prog 33 #[.string k0] W fun e w' => e = .returned (.string key) ∧ Below W.heap.size W w')) :
    Calls Tryd.prog 43 #[.string k0, .int .u8 c] w fun e w' => e = .returned (.string S) ∧ Below w.heap.size w w' := by
  unfold maxLen at hk0
  go_enter Tryd.func43, Tryd.ntmps43
  rcases hc with ⟨h64, rfl⟩ | ⟨h64, C12⟩
  · have i64 : ¬ (64 : Int) < (k0.size : Int) := by omega
    obtain ⟨W, hcp, hB, A⟩ := copy_row w k0 hk
    have lw : w.heap.size ≤ w.heap.size := Nat.le_refl _
    go_wp2_with fail
    clear hcp
    go_loopw [15] (fun i wr => ∃ k : Nat, k ≤ 64 ∧ i = .int .i64 k ∧ Below w.heap.size w wr ∧ Arr wr w.heap.size 64 (fun j => .int .u8 (if j < k then bits .xor .u8 (bt k0 j) c else bt k0 j)))
      (fun i _ => 64 - (intOf i).toNat)
    case atStart => exact ⟨0, by omega, rfl, hB, A.congr (by intro j hj; rw [if_neg (by omega)])⟩
    case round =>
      have lw : w.heap.size ≤ w.heap.size := lw
      clear A hB
      obtain ⟨k, hk, rfl, hB, A⟩ := hrel
      by_cases hlt : k < 64
      · have q0 : (0 : Int) ≤ (k : Int) := by omega
        have k64 : (k : Int) < 64 := by omega
        have r := A.cv k hlt (.int .u8 (bt k0 k)) (by rw [if_neg (by omega)])
        have z := A.z k hlt
        clear hS
        go_wp2_with fail
        refine ⟨⟨k + 1, by omega, by go_num, Bel.st hB lw _, (A.set k hlt _).congr ?_⟩, by simp [intOf]; omega⟩
        intro j hj
        by_cases e : j = k
        · subst e; simp
        · simp only [if_neg e]
          by_cases e2 : j < k
          · rw [if_pos e2, if_pos (by omega)]
          · rw [if_neg e2, if_neg (by omega)]
      · have e : k = 64 := by omega
        subst e
        have cv := convC wr w.heap.size 64 64 (mkL k0 c) (by simp [mkL]) (by
          intro j u hu
          rw [Addr.add_mid, Nat.zero_add]
          have hj : j < 64 := by have := (List.getElem?_eq_some_iff.1 hu).1; simpa [mkL] using this
          rw [A.c j hj, if_pos hj, ← hu]
          simp [mkL, hj])
        rw [show mkS (mkL k0 c) = S from hS.symm] at cv
        clear A hS
        go_wp2_with fail
        go_ret
        exact ⟨rfl, hB⟩
  · have i64 : (64 : Int) < (k0.size : Int) := by omega
    go_wp2_with fail
    refine (C12 _ (Below.refl _ _)).mono ?_
    rintro e w1 ⟨rfl, hb⟩
    obtain ⟨W, hcp, hB1, A⟩ := copy_row w1 key hk
    have lw := hb.size
    have hB := Bel.call hb hB1
    clear hb hB1 C12
    go_wp2_with fail
    clear hcp
    go_loopw [15] (fun i wr => ∃ k : Nat, k ≤ 64 ∧ i = .int .i64 k ∧ Below w.heap.size w wr ∧ Arr wr w1.heap.size 64 (fun j => .int .u8 (if j < k then bits .xor .u8 (bt key j) c else bt key j)))
      (fun i _ => 64 - (intOf i).toNat)
    case atStart => exact ⟨0, by omega, rfl, hB, A.congr (by intro j hj; rw [if_neg (by omega)])⟩
    case round =>
      have lw : w.heap.size ≤ w1.heap.size := lw
      clear A hB
      obtain ⟨k, hk, rfl, hB, A⟩ := hrel
      by_cases hlt : k < 64
      · have q0 : (0 : Int) ≤ (k : Int) := by omega
        have k64 : (k : Int) < 64 := by omega
        have r := A.cv k hlt (.int .u8 (bt key k)) (by rw [if_neg (by omega)])
        have z := A.z k hlt
        clear hS
        go_wp2_with fail
        refine ⟨⟨k + 1, by omega, by go_num, Bel.st hB lw _, (A.set k hlt _).congr ?_⟩, by simp [intOf]; omega⟩
        intro j hj
        by_cases e : j = k
        · subst e; simp
        · simp only [if_neg e]
          by_cases e2 : j < k
          · rw [if_pos e2, if_pos (by omega)]
          · rw [if_neg e2, if_neg (by omega)]
      · have e : k = 64 := by omega
        subst e
        have cv := convC wr w1.heap.size 64 64 (mkL key c) (by simp [mkL]) (by
          intro j u hu
          rw [Addr.add_mid, Nat.zero_add]
          have hj : j < 64 := by have := (List.getElem?_eq_some_iff.1 hu).1; simpa [mkL] using this
          rw [A.c j hj, if_pos hj, ← hu]
          simp [mkL, hj])
        rw [show mkS (mkL key c) = S from hS.symm] at cv
        clear A hS
        go_wp2_with fail
        go_ret
        exact ⟨rfl, hB⟩
/-- The key that is masked. -/
def kyS (key : ByteArray) : ByteArray := if 64 < key.size then ofS key else key
theorem kyS_size (key : ByteArray) : (kyS key).size ≤ 64 := by
  unfold kyS
  split
  · rw [ofS_size]; omega
  · omega
theorem masked_any (key : ByteArray) (c : Int) (hk : key.size ≤ 1000000) (w : World) (hT : Tab w) :
    Calls Tryd.prog 43 #[.string key, .int .u8 c] w fun e w' => e = .returned (.string (mskS (kyS key) c)) ∧ Below w.heap.size w w' := by
  refine masked_core key (kyS key) _ c (kyS_size key) (by unfold maxLen; omega) rfl w ?_
  by_cases h : 64 < key.size
  · refine .inr ⟨h, fun W hW => ?_⟩
    have e : kyS key = ofS key := by unfold kyS; rw [if_pos h]
    rw [e]
    exact of_any key hk W (hT.bel hW)
  · refine .inl ⟨by omega, ?_⟩
    unfold kyS; rw [if_neg h]
set_option maxHeartbeats 4000000 in
theorem mac_core (key s M1 M2 D S : ByteArray) (g1 g2 : Nat → Int) (L1 L2 : ByteArray) (n1 n2 : Int) (a b c : Value) (w : World) (hT : Tab w)
    (C16 : ∀ W, Tab W → Calls Tryd.prog 42 #[] W fun e w' => e = .returned a ∧ Below W.heap.size W w')
    (C28 : ∀ W, Tab W → Calls Tryd.prog 43 #[.string key, .int .u8 54] W fun e w' => e = .returned (.string M1) ∧ Below W.heap.size W w')
    (D28 : ∀ W, Tab W → Calls Tryd.prog 43 #[.string key, .int .u8 92] W fun e w' => e = .returned (.string M2) ∧ Below W.heap.size W w')
    (C20 : ∀ W, Tab W → Calls Tryd.prog 41 #[a, .string M1] W fun e w' => e = .returned (hv g1 L1 n1) ∧ Below W.heap.size W w')
    (D20 : ∀ W, Tab W → Calls Tryd.prog 41 #[a, .string M2] W fun e w' => e = .returned (hv g2 L2 n2) ∧ Below W.heap.size W w')
    (E20 : ∀ W, Tab W → Calls Tryd.prog 41 #[hv g1 L1 n1, .string s] W fun e w' => e = .returned b ∧ Below W.heap.size W w')
    (E22 : ∀ W, Tab W → Calls Tryd.prog 44 #[b] W fun e w' => e = .returned (.string D) ∧ Below W.heap.size W w')
    (F20 : ∀ W, Tab W → Calls Tryd.prog 41 #[hv g2 L2 n2, .string D] W fun e w' => e = .returned c ∧ Below W.heap.size W w')
    (F22 : ∀ W, Tab W → Calls Tryd.prog 44 #[c] W fun e w' => e = .returned (.string S) ∧ Below W.heap.size W w') :
    Calls Tryd.prog 30 #[.string key, .string s] w fun e w' => e = .returned (.string S) ∧ Below w.heap.size w w' := by
  unfold hv at *
  go_enter Tryd.func30, Tryd.ntmps30
  go_wp2_with fail
  refine (C16 _ hT).mono ?_
  rintro e w1 ⟨rfl, hb1⟩
  have T1 := hT.to hb1
  go_wp2_with fail
  refine (C28 _ T1).mono ?_
  rintro e w2 ⟨rfl, hb2⟩
  have T2 := T1.to hb2
  have B2 := Bel.call hb1 hb2
  clear hb1 hb2 T1 C28
  go_wp2_with fail
  refine (C20 _ T2).mono ?_
  rintro e w3 ⟨rfl, hb3⟩
  have T3 := T2.to hb3
  have B3 := Bel.call B2 hb3
  clear hb3 B2 T2 C20
  go_wp2_with fail
  have A1 := Arr.new w3 #[.int .u32 (g1 0), .int .u32 (g1 1), .int .u32 (g1 2), .int .u32 (g1 3), .int .u32 (g1 4), .int .u32 (g1 5), .int .u32 (g1 6), .int .u32 (g1 7), .string L1, .int .u64 n1] 70 _ rfl _ 10 (hx_at g1 L1 n1)
  have T4 := T3.al (.cells #[.int .u32 (g1 0), .int .u32 (g1 1), .int .u32 (g1 2), .int .u32 (g1 3), .int .u32 (g1 4), .int .u32 (g1 5), .int .u32 (g1 6), .int .u32 (g1 7), .string L1, .int .u64 n1] 70)
  have B4 := Bel.al B3 (.cells #[.int .u32 (g1 0), .int .u32 (g1 1), .int .u32 (g1 2), .int .u32 (g1 3), .int .u32 (g1 4), .int .u32 (g1 5), .int .u32 (g1 6), .int .u32 (g1 7), .string L1, .int .u64 n1] 70)
  generalize (w3.alloc (.cells #[.int .u32 (g1 0), .int .u32 (g1 1), .int .u32 (g1 2), .int .u32 (g1 3), .int .u32 (g1 4), .int .u32 (g1 5), .int .u32 (g1 6), .int .u32 (g1 7), .string L1, .int .u64 n1] 70)) = W4 at *
  refine (C16 _ T4).mono ?_
  rintro e w5 ⟨rfl, hb5⟩
  have T5 := T4.to hb5
  have B5 := Bel.call B4 hb5
  have A5 := A1.to' hb5
  clear hb5 T4 B4 A1 C16
  go_wp2_with fail
  refine (D28 _ T5).mono ?_
  rintro e w6 ⟨rfl, hb6⟩
  have T6 := T5.to hb6
  have B6 := Bel.call B5 hb6
  have A6 := A5.to' hb6
  clear hb6 T5 B5 A5 D28
  go_wp2_with fail
  refine (D20 _ T6).mono ?_
  rintro e w7 ⟨rfl, hb7⟩
  have T7 := T6.to hb7
  have B7 := Bel.call B6 hb7
  have A7 := A6.to' hb7
  clear hb7 T6 B6 A6 D20
  go_wp2_with fail
  have A8 := A7.al' (.cells #[.int .u32 (g2 0), .int .u32 (g2 1), .int .u32 (g2 2), .int .u32 (g2 3), .int .u32 (g2 4), .int .u32 (g2 5), .int .u32 (g2 6), .int .u32 (g2 7), .string L2, .int .u64 n2] 70)
  have A9 := Arr.new w7 #[.int .u32 (g2 0), .int .u32 (g2 1), .int .u32 (g2 2), .int .u32 (g2 3), .int .u32 (g2 4), .int .u32 (g2 5), .int .u32 (g2 6), .int .u32 (g2 7), .string L2, .int .u64 n2] 70 _ rfl _ 10 (hx_at g2 L2 n2)
  have T8 := T7.al (.cells #[.int .u32 (g2 0), .int .u32 (g2 1), .int .u32 (g2 2), .int .u32 (g2 3), .int .u32 (g2 4), .int .u32 (g2 5), .int .u32 (g2 6), .int .u32 (g2 7), .string L2, .int .u64 n2] 70)
  have B8 := Bel.al B7 (.cells #[.int .u32 (g2 0), .int .u32 (g2 1), .int .u32 (g2 2), .int .u32 (g2 3), .int .u32 (g2 4), .int .u32 (g2 5), .int .u32 (g2 6), .int .u32 (g2 7), .string L2, .int .u64 n2] 70)
  generalize (w7.alloc (.cells #[.int .u32 (g2 0), .int .u32 (g2 1), .int .u32 (g2 2), .int .u32 (g2 3), .int .u32 (g2 4), .int .u32 (g2 5), .int .u32 (g2 6), .int .u32 (g2 7), .string L2, .int .u64 n2] 70)) = W8 at *
  have tR := fun ds os => T8.bel (below_regrown W8 ds os)
  obtain ⟨j0, j8, j9⟩ := A8.ten
  obtain ⟨k0, k8, k9⟩ := A9.ten
  have rj0 := fun ds os => cell_regrown (j0 0 (by omega)) ds os
  have rj1 := fun ds os => cell_regrown (j0 1 (by omega)) ds os
  have rj2 := fun ds os => cell_regrown (j0 2 (by omega)) ds os
  have rj3 := fun ds os => cell_regrown (j0 3 (by omega)) ds os
  have rj4 := fun ds os => cell_regrown (j0 4 (by omega)) ds os
  have rj5 := fun ds os => cell_regrown (j0 5 (by omega)) ds os
  have rj6 := fun ds os => cell_regrown (j0 6 (by omega)) ds os
  have rj7 := fun ds os => cell_regrown (j0 7 (by omega)) ds os
  have rj8 := fun ds os => cell_regrown j8 ds os
  have rj9 := fun ds os => cell_regrown j9 ds os
  have rk0 := fun ds os => cell_regrown (k0 0 (by omega)) ds os
  have rk1 := fun ds os => cell_regrown (k0 1 (by omega)) ds os
  have rk2 := fun ds os => cell_regrown (k0 2 (by omega)) ds os
  have rk3 := fun ds os => cell_regrown (k0 3 (by omega)) ds os
  have rk4 := fun ds os => cell_regrown (k0 4 (by omega)) ds os
  have rk5 := fun ds os => cell_regrown (k0 5 (by omega)) ds os
  have rk6 := fun ds os => cell_regrown (k0 6 (by omega)) ds os
  have rk7 := fun ds os => cell_regrown (k0 7 (by omega)) ds os
  have rk8 := fun ds os => cell_regrown k8 ds os
  have rk9 := fun ds os => cell_regrown k9 ds os
  clear j0 j8 j9 k0 k8 k9 A7 A8 A9
  refine wp_region_quiet_below (by kernel_rfl) (by kernel_rfl) ?_
  repeat (go_big_quiet_step (first | (go_at_call 41; with_reducible first | exact Calls.regrown_of (E20 _ (tR _ _)) | exact Calls.regrown_of (F20 _ (tR _ _))) | (go_at_call 44; with_reducible first | exact Calls.regrown_of (E22 _ (tR _ _)) | exact Calls.regrown_of (F22 _ (tR _ _)))))
  refine wpQuiet_nil ?_
  intro w9 hw'
  obtain ⟨⟨dq, osq⟩, hw''⟩ := hw'
  have hb := below_of hw''
  clear hw'' tR
  have B9 := Bel.call B8 hb
  go_wp2_with fail
  go_ret
  exact ⟨rfl, B9⟩
/-- A text's digest by a key. -/
def macS (key s : ByteArray) : ByteArray :=
  let m1 := mskS (kyS key) 54
  let m2 := mskS (kyS key) 92
  let d := sumS (wrH (wrH bgn ⟨#[]⟩ m1) (wrL ⟨#[]⟩ m1) s) (wrL (wrL ⟨#[]⟩ m1) s) (wrN (wrN 0 m1) s)
  sumS (wrH (wrH bgn ⟨#[]⟩ m2) (wrL ⟨#[]⟩ m2) d) (wrL (wrL ⟨#[]⟩ m2) d) (wrN (wrN 0 m2) d)
theorem macS_size (key s : ByteArray) : (macS key s).size = 32 := sumS_size _ _ _
theorem mac_any (key s : ByteArray) (hk : key.size ≤ 1000000) (hs : s.size ≤ 1000000) (w : World) (hT : Tab w) :
    Calls Tryd.prog 30 #[.string key, .string s] w fun e w' => e = .returned (.string (macS key s)) ∧ Below w.heap.size w w' := by
  have e1 := mskS_size (kyS key) 54
  have e2 := mskS_size (kyS key) 92
  have l1 := wrL_lt ⟨#[]⟩ (mskS (kyS key) 54)
  have l2 := wrL_lt ⟨#[]⟩ (mskS (kyS key) 92)
  refine mac_core key s _ _ _ _ _ _ _ _ _ _ _ _ _ w hT (fun W hW => new_any W hW) (fun W hW => masked_any key 54 hk W hW) (fun W hW => masked_any key 92 hk W hW)
    (fun W hW => write_any bgn ⟨#[]⟩ _ 0 (by omega) (by decide) W hW) (fun W hW => write_any bgn ⟨#[]⟩ _ 0 (by omega) (by decide) W hW) (fun W hW => write_any _ _ s _ hs (by omega) W hW)
    (fun W hW => sum_any _ _ _ ?_ W hW) (fun W hW => write_any _ _ _ _ ?_ (by omega) W hW) (fun W hW => sum_any _ _ _ ?_ W hW)
  · have := wrL_lt (wrL ⟨#[]⟩ (mskS (kyS key) 54)) s; omega
  · rw [sumS_size]; omega
  · exact Nat.le_trans (Nat.le_of_lt (wrL_lt _ _)) (by omega)
end Go.Proofs.YtfglpcfacjedmaaDoor
