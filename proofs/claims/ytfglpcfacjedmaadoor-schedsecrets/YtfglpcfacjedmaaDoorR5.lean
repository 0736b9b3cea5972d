/- What the reference's Of, masked and Mac answer. -/
import Derived.Test.YtfglpcfacjedmaaDoorR4
import Derived.Test.YtfglpcfacjedmaaDoorC9
import Derived.Test.YtfglpcfacjedmaaDoorM1
set_option linter.all false
set_option maxRecDepth 100000
namespace Go.Proofs.YtfglpcfacjedmaaDoor
open Go.RowKit Go.Sort
set_option maxHeartbeats 1000000 in
theorem rof_core (s S : ByteArray) (a b : Value) (w : World)
    (C17 : ∀ W, Calls Tryd.prog 50 #[] W fun e w' => e = .returned a ∧ Below W.heap.size W w')
    (C21 : ∀ W, Calls Tryd.prog 49 #[a, .string s] W fun e w' => e = .returned b ∧ Below W.heap.size W w')
    (C23 : ∀ W, Calls Tryd.prog 48 #[b] W fun e w' => e = .returned (.string S) ∧ Below W.heap.size W w') :
    Calls Tryd.prog 35 #[.string s] w fun e w' => e = .returned (.string S) ∧ Below w.heap.size w w' := by
  go_enter Tryd.func35, Tryd.ntmps35
  go_wp2_with fail
  refine (C17 _).mono ?_
  rintro e w1 ⟨rfl, hb⟩
  go_wp2_with fail
  refine (C21 _).mono ?_
  rintro e w2 ⟨rfl, hb2⟩
  have hB := Bel.call hb hb2
  clear hb hb2
  go_wp2_with fail
  refine (C23 _).mono ?_
  rintro e w3 ⟨rfl, hb⟩
  have hB' := Bel.call hB hb
  clear hb hB
  go_wp2_with fail
  go_ret
  exact ⟨rfl, hB'⟩
theorem rof_any (s : ByteArray) (hs : s.size ≤ 1000000) (w : World) : Calls Tryd.prog 35 #[.string s] w fun e w' => e = .returned (.string (ofS s)) ∧ Below w.heap.size w w' :=
  rof_core s _ _ _ w (fun W => rnew_any W) (fun W => rwrite_any bgn ⟨#[]⟩ s 0 hs (by decide) W) (fun W => rsum_any _ _ _ (by have := wrL_lt ⟨#[]⟩ s; omega) W)
theorem madeB : ∃ C : Array Value, C.size = 64 ∧ (∀ j, j < 64 → C[j]? = some (.int .u8 0)) ∧ ∀ W : World, (Instr.makeSlice 65 (.int .i64 64) (.int .i64 64)).run Tryd.prog W = .ok (.slice (some ⟨W.heap.size, 0, none⟩) 64 64) (W.alloc (.cells C 5)) := by
  obtain ⟨i0, hi, hz0, hz1, hz2⟩ := info_parts Tryd.info5
  refine ⟨madeCells (Value.int .u8 0).cells (64 * 1), by rw [size_madeCells], ?_, fun W => ?_⟩
  · intro j hj
    simp only [madeCells, Value.cells]
    rw [Array.getElem?_map, Array.getElem?_range, if_pos (by omega)]
    simp [Nat.mod_one]
  · have := run_make (P := Tryd.prog) W 65 5 i0 (.int .u8 0) Tryd.underlying65 hi hz0 .i64 .i64 64 64 (by omega) (by omega) (by rw [hz2]; omega) (by omega)
    rw [hz1] at this
    exact this
/-- What the reference puts into place j. -/
def rmB (key : ByteArray) (c : Int) (j : Nat) : Int := if j < key.size then bits .xor .u8 c (bt key j) else c
set_option maxHeartbeats 2000000 in
theorem rmasked_core (key S : ByteArray) (c : Int) (hk : key.size ≤ 1000000) (ns : List Int) (hn : ns.length = 64) (hns : ∀ j, j < 64 → ns[j]? = some (rmB key c j)) (hS : S = mkS ns) (C : Array Value) (hC : ∀ j, j < 64 → C[j]? = some (.int .u8 0)) (w : World)
    (mk : ∀ W : World, (Instr.makeSlice 65 (.int .i64 64) (.int .i64 64)).run Tryd.prog W = .ok (.slice (some ⟨W.heap.size, 0, none⟩) 64 64) (W.alloc (.cells C 5))) :
    Calls Tryd.prog 45 #[.string key, .int .u8 c] w fun e w' => e = .returned (.string S) ∧ Below w.heap.size w w' := by
  go_enter Tryd.func45, Tryd.ntmps45
  go_wp2_with fail
  have A := Arr.new w C 5 _ rfl _ 64 hC
  have hB : Below w.heap.size w (w.alloc (.cells C 5)) := by go_grown
  generalize w.alloc (.cells C 5) = W at *
  clear mk hC
  go_loopw [6] (fun i wr => ∃ k : Nat, k ≤ 64 ∧ i = .int .i64 k ∧ Below w.heap.size w wr ∧ Arr wr w.heap.size 64 (fun j => .int .u8 (if j < k then rmB key c j else 0))) (fun i _ => 64 - (intOf i).toNat)
  case atStart => exact ⟨0, by omega, rfl, hB, A.congr (by intro j hj; rw [if_neg (by omega)])⟩
  case round =>
    clear A hB
    obtain ⟨k, hk, rfl, hB, A⟩ := hrel
    have nxt : ∀ (V : World), Arr V w.heap.size 64 (fun j => if j = k then .int .u8 (rmB key c k) else .int .u8 (if j < k then rmB key c j else 0)) → Arr V w.heap.size 64 (fun j => .int .u8 (if j < k + 1 then rmB key c j else 0)) := fun V h => h.congr (by
      intro j hj
      by_cases e : j = k
      · subst e; simp
      · simp only [if_neg e]
        by_cases e2 : j < k
        · rw [if_pos e2, if_pos (by omega)]
        · rw [if_neg e2, if_neg (by omega)])
    by_cases hlt : k < 64
    · have q0 : (0 : Int) ≤ (k : Int) := by omega
      have k64 : (k : Int) < 64 := by omega
      have r := A.c k hlt
      have z := A.z k hlt
      clear hns hn hS
      by_cases h2 : k < key.size
      · have i2 : (k : Int) < (key.size : Int) := by omega
        have I := fun W => idxS key k h2 W
        have e : rmB key c k = bits .xor .u8 c (bt key k) := by unfold rmB; rw [if_pos h2]
        rw [e] at nxt
        have B := (A.set k hlt (.int .u8 c)).set k hlt (.int .u8 (bits .xor .u8 c (bt key k)))
        have B2 := nxt _ (B.congr (by intro j hj; by_cases e : j = k <;> simp [e]))
        generalize bt key k = x at *
        clear nxt B e
        go_wp2_with fail
        exact ⟨⟨k + 1, by omega, by go_num, Bel.st (Bel.st hB (Nat.le_refl _) _) (Nat.le_refl _) _, B2⟩, by simp [intOf]; omega⟩
      · have i2 : ¬ (k : Int) < (key.size : Int) := by omega
        have e : rmB key c k = c := by unfold rmB; rw [if_neg h2]
        rw [e] at nxt
        have B2 := nxt _ (A.set k hlt (.int .u8 c))
        clear nxt e
        go_wp2_with fail
        exact ⟨⟨k + 1, by omega, by go_num, Bel.st hB (Nat.le_refl _) _, B2⟩, by simp [intOf]; omega⟩
    · have e : k = 64 := by omega
      subst e
      have cv := convC wr w.heap.size 64 64 ns hn (by
        intro j u hu
        rw [Addr.add_mid, Nat.zero_add]
        have hj : j < 64 := by have := (List.getElem?_eq_some_iff.1 hu).1; rw [List.length_map, hn] at this; exact this
        rw [A.c j hj, if_pos hj, ← hu, List.getElem?_map, hns j hj]
        rfl)
      rw [← hS] at cv
      clear A hS nxt
      go_wp2_with fail
      go_ret
      exact ⟨rfl, hB⟩
theorem xor_comm8 (a b : Int) : bits .xor .u8 a b = bits .xor .u8 b a := by
  show IntKind.u8.wrap ((BitVec.ofInt 8 a ^^^ BitVec.ofInt 8 b).toNat : Int) = IntKind.u8.wrap ((BitVec.ofInt 8 b ^^^ BitVec.ofInt 8 a).toNat : Int)
  rw [BitVec.xor_comm]
theorem bt_out (s : ByteArray) (j : Nat) (h : s.size ≤ j) : bt s j = 0 := by
  unfold bt
  rw [Array.getElem?_eq_none h]
  rfl
theorem rmB_eq (key : ByteArray) (c : Int) (hc : bits .xor .u8 0 c = c) (j : Nat) : bits .xor .u8 (bt key j) c = rmB key c j := by
  unfold rmB
  by_cases h : j < key.size
  · rw [if_pos h, xor_comm8]
  · rw [if_neg h, bt_out key j (by omega), hc]
theorem rmasked_any (key : ByteArray) (c : Int) (hk : key.size ≤ 1000000) (hc : bits .xor .u8 0 c = c) (w : World) :
    Calls Tryd.prog 45 #[.string key, .int .u8 c] w fun e w' => e = .returned (.string (mskS key c)) ∧ Below w.heap.size w w' := by
  obtain ⟨C, _, hC, mk⟩ := madeB
  exact rmasked_core key _ c hk (mkL key c) (by simp [mkL]) (by intro j hj; rw [← rmB_eq key c hc]; simp [mkL, hj]) rfl C hC w mk
set_option maxHeartbeats 2000000 in
theorem rmac_core (k0 key s M1 M2 D S : ByteArray) (hk : k0.size ≤ maxLen) (w : World) (hs : s.size ≤ 1000000) (h1 : M1.size = 64) (h2 : M2.size = 64) (hD : D.size = 32)
    (hc : (k0.size ≤ 64 ∧ k0 = key) ∨ (64 < k0.size ∧ ∀ W, Calls Tryd.prog 35 #[.string k0] W fun e w' => e = .returned (.string key) ∧ Below W.heap.size W w'))
    (C29 : ∀ W, Calls Tryd.prog 45 #[.string key, .int .u8 92] W fun e w' => e = .returned (.string M2) ∧ Below W.heap.size W w')
    (D29 : ∀ W, Calls Tryd.prog 45 #[.string key, .int .u8 54] W fun e w' => e = .returned (.string M1) ∧ Below W.heap.size W w')
    (C13 : ∀ W, Calls Tryd.prog 35 #[.string (M1 ++ s)] W fun e w' => e = .returned (.string D) ∧ Below W.heap.size W w')
    (D13 : ∀ W, Calls Tryd.prog 35 #[.string (M2 ++ D)] W fun e w' => e = .returned (.string S) ∧ Below W.heap.size W w') :
    Calls Tryd.prog 31 #[.string k0, .string s] w fun e w' => e = .returned (.string S) ∧ Below w.heap.size w w' := by
  unfold maxLen at hk
  go_enter Tryd.func31, Tryd.ntmps31
  rcases hc with ⟨h64, rfl⟩ | ⟨h64, CO⟩
  · have i64 : ¬ (64 : Int) < (k0.size : Int) := by omega
    go_wp2_with fail
    refine (C29 _).mono ?_
    rintro e w1 ⟨rfl, hb1⟩
    have B1 := hb1
    clear hb1
    go_wp2_with fail
    refine (D29 _).mono ?_
    rintro e w2 ⟨rfl, hb2⟩
    have B2 := Bel.call B1 hb2
    clear hb2 B1
    go_wp2_with fail
    refine (C13 _).mono ?_
    rintro e w3 ⟨rfl, hb3⟩
    have B3 := Bel.call B2 hb3
    clear hb3 B2
    go_wp2_with fail
    refine (D13 _).mono ?_
    rintro e w4 ⟨rfl, hb4⟩
    have B4 := Bel.call B3 hb4
    clear hb4 B3
    go_wp2_with fail
    go_ret
    exact ⟨rfl, B4⟩
  · have i64 : (64 : Int) < (k0.size : Int) := by omega
    go_wp2_with fail
    refine (CO _).mono ?_
    rintro e w0 ⟨rfl, hb0⟩
    go_wp2_with fail
    refine (C29 _).mono ?_
    rintro e w1 ⟨rfl, hb1⟩
    have B1 := Bel.call hb0 hb1
    clear hb0 CO
    clear hb1
    go_wp2_with fail
    refine (D29 _).mono ?_
    rintro e w2 ⟨rfl, hb2⟩
    have B2 := Bel.call B1 hb2
    clear hb2 B1
    go_wp2_with fail
    refine (C13 _).mono ?_
    rintro e w3 ⟨rfl, hb3⟩
    have B3 := Bel.call B2 hb3
    clear hb3 B2
    go_wp2_with fail
    refine (D13 _).mono ?_
    rintro e w4 ⟨rfl, hb4⟩
    have B4 := Bel.call B3 hb4
    clear hb4 B3
    go_wp2_with fail
    go_ret
    exact ⟨rfl, B4⟩
theorem macS_of (key s : ByteArray) : macS key s = ofS (mskS (kyS key) 92 ++ ofS (mskS (kyS key) 54 ++ s)) := by
  unfold macS ofS
  simp only [wrH_twice, wrL_twice, wrN_twice]
theorem rmac_any (key s : ByteArray) (hk : key.size ≤ 100000) (hs : s.size ≤ 100000) (w : World) :
    Calls Tryd.prog 31 #[.string key, .string s] w fun e w' => e = .returned (.string (macS key s)) ∧ Below w.heap.size w w' := by
  rw [macS_of]
  have e1 := mskS_size (kyS key) 54
  have e2 := mskS_size (kyS key) 92
  have ks := kyS_size key
  have a1 := app_size (mskS (kyS key) 54) s
  have a2 := app_size (mskS (kyS key) 92) (ofS (mskS (kyS key) 54 ++ s))
  have o1 := ofS_size (mskS (kyS key) 54 ++ s)
  refine rmac_core key (kyS key) s _ _ _ _ (by unfold maxLen; omega) w (by omega) e1 e2 o1 ?_ (fun W => rmasked_any _ 92 (by omega) (by decide) W) (fun W => rmasked_any _ 54 (by omega) (by decide) W) (fun W => rof_any _ (by omega) W) (fun W => rof_any _ (by omega) W)
  by_cases h : 64 < key.size
  · refine .inr ⟨h, fun W => ?_⟩
    have e : kyS key = ofS key := by unfold kyS; rw [if_pos h]
    rw [e]
    exact rof_any key (by omega) W
  · refine .inl ⟨by omega, ?_⟩
    unfold kyS; rw [if_neg h]
end Go.Proofs.YtfglpcfacjedmaaDoor
