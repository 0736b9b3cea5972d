/- The reference of numbers as texts (carried). -/
import Derived.Test.YtajdfjpcobaioaaGreatDoorN3
import Derived.Laws.IdiomStrings
set_option linter.all false
set_option maxRecDepth 100000
namespace Go.Proofs.YtajdfjpcobaioaaGreatDoor
open Go.RowKit Go.Sort
/-- A number's bytes, the lowest first. -/
def ltL (N : Int) : List Int := (List.range 32).map fun j => byt N (31 - j)
theorem ltL_at (N : Int) (j : Nat) (hj : j < 32) : (ltL N)[j]? = some (byt N (31 - j)) := by simp [ltL, hj]
/-- The j-th half of 32 bits. -/
def hf (N : Int) (j : Nat) : Int := N / 4294967296 ^ j % 4294967296
set_option maxHeartbeats 1000000 in
theorem sized_any (s : ByteArray) (n : Int) (hs : s.size ≤ maxLen) (w : World) :
    Calls Tryz.prog 71 #[.string s, .int .i64 n] w fun e w' => e = .returned (.int .i64 (lenE s.size n)) ∧ w' = w := by
  unfold maxLen at hs
  unfold lenE
  by_cases h : (s.size : Int) < n
  · rw [if_pos h]
    go_enter Tryz.func71, Tryz.ntmps71
    go_wp2
    go_ret
    exact ⟨rfl, rfl⟩
  · rw [if_neg h]
    by_cases h2 : n < (s.size : Int)
    · rw [if_pos h2]
      go_enter Tryz.func71, Tryz.ntmps71
      go_wp2
      go_ret
      exact ⟨rfl, rfl⟩
    · rw [if_neg h2]
      go_enter Tryz.func71, Tryz.ntmps71
      go_wp2
      go_ret
      exact ⟨rfl, rfl⟩
theorem made32 : ∃ C : Array Value, (∀ j, j < 32 → C[j]? = some (.int .u8 0)) ∧ ∀ W : World, (Instr.makeSlice 51 (.int .i64 32) (.int .i64 32)).run Tryz.prog W = .ok (.slice (some ⟨W.heap.size, 0, none⟩) 32 32) (W.alloc (.cells C 5)) := by
  obtain ⟨i0, hi, hz0, hz1, hz2⟩ := info_parts Tryz.info5
  refine ⟨madeCells (Value.int .u8 0).cells (32 * 1), ?_, fun W => ?_⟩
  · intro j hj
    simp only [madeCells, Value.cells]
    rw [Array.getElem?_map, Array.getElem?_range, if_pos (by omega)]
    simp [Nat.mod_one]
  · have := run_make (P := Tryz.prog) W 51 5 i0 (.int .u8 0) Tryz.underlying51 hi hz0 .i64 .i64 32 32 (by omega) (by omega) (by rw [hz2]; omega) (by omega)
    rw [hz1] at this
    exact this
theorem byt_lim (N : Int) (i q r : Nat) (hi : i = 8 * q + r) (hr : r < 8) (hq : q < 4) : lim N q / 2 ^ (8 * r) % 256 = byt N (31 - i) := by
  unfold byt lim
  have e1 : (18446744073709551616 : Int) ^ q = 2 ^ (64 * q) := by rw [Int.pow_mul]; rfl
  have e2 : 8 * (31 - (31 - i)) = 64 * q + 8 * r := by omega
  rw [e1, e2, Int.pow_add, ← Int.ediv_ediv_of_nonneg (Int.le_of_lt (Int.pow_pos (by omega)))]
  generalize N / 2 ^ (64 * q) = x
  have h : r = 0 ∨ r = 1 ∨ r = 2 ∨ r = 3 ∨ r = 4 ∨ r = 5 ∨ r = 6 ∨ r = 7 := by omega
  rcases h with rfl | rfl | rfl | rfl | rfl | rfl | rfl | rfl <;> simp <;> omega
set_option maxRecDepth 100000 in
set_option maxHeartbeats 4000000 in
theorem refLittle_core (N : Int) (C : Array Value) (hC : Hid (∀ j, j < 32 → C[j]? = some (.int .u8 0))) (mk : ∀ W : World, (Instr.makeSlice 51 (.int .i64 32) (.int .i64 32)).run Tryz.prog W = .ok (.slice (some ⟨W.heap.size, 0, none⟩) 32 32) (W.alloc (.cells C 5))) (w : World) :
    Calls Tryz.prog 63 #[nv N] w fun e w' => e = .returned (.string (mkS (ltL N))) ∧ Below w.heap.size w w' := by
  go_enter Tryz.func63, Tryz.ntmps63
  go_wp2_with fail
  go_loopw [4] (fun i wr => ∃ k : Nat, k ≤ 32 ∧ i = .int .i64 k ∧ Below w.heap.size w wr ∧ Arr wr w.heap.size 4 (fun j => .int .u64 (lim N j)) ∧ Arr wr (w.heap.size + 1) 32 (fun j => .int .u8 (if j < k then byt N (31 - j) else 0)))
    (fun i _ => 32 - (intOf i).toNat)
  case atStart =>
    refine ⟨0, by omega, rfl, by go_grown, Arr.mk4 (by simp [go_sem]) (by simp [go_sem]) (by simp [go_sem]) (by simp [go_sem]) (by simp [go_sem]) (by simp [go_sem]) (by simp [go_sem]) (by simp [go_sem]), ?_⟩
    exact (Arr.new _ _ _ _ (by simp) _ 32 hC.out).congr (by intro j hj; rw [if_neg (by omega)])
  case round =>
    clear mk hC
    obtain ⟨k, hk, rfl, hB, hN, hA⟩ := hrel
    by_cases hlt : k < 32
    · have k0 : (0 : Int) ≤ (k : Int) := by omega
      have k32 : (k : Int) < 32 := by omega
      obtain ⟨q, r, hq, hr, e, q4, r8⟩ : ∃ q r : Nat, (k : Int) / 8 = (q : Int) ∧ (k : Int) % 8 = (r : Int) ∧ k = 8 * q + r ∧ q < 4 ∧ r < 8 := ⟨k / 8, k % 8, by omega, by omega, by omega, by omega, by omega⟩
      have q0 : (0 : Int) ≤ (q : Int) := by omega
      have q4' : (q : Int) < 4 := by omega
      have r0 : (0 : Int) ≤ (r : Int) := by omega
      have r8' : (r : Int) < 8 := by omega
      have rn := hN.c q q4
      have ra := hA.c k hlt
      have za := hA.z k hlt
      have tn : (8 * (r : Int)).toNat = 8 * r := by omega
      have bl := byt_lim N k q r e r8 q4
      have wb : IntKind.u8.wrap (lim N q / 2 ^ (8 * r)) = byt N (31 - k) := by rw [IntKind.wrap_u8]; exact bl
      have st : Arr (wr.setCell ⟨w.heap.size + 1, k, none⟩ (.int .u8 (byt N (31 - k)))) (w.heap.size + 1) 32 (fun j => .int .u8 (if j < k + 1 then byt N (31 - j) else 0)) := by
        refine (hA.set k hlt _).congr ?_
        intro j hj
        by_cases h : j = k
        · subst h; rw [if_pos rfl, if_pos (by omega)]
        · rw [if_neg h]
          by_cases h2 : j < k
          · rw [if_pos h2, if_pos (by omega)]
          · rw [if_neg h2, if_neg (by omega)]
      have sn := hN.other (b' := w.heap.size + 1) (k := k) (by omega) (.int .u8 (byt N (31 - k)))
      have sB : Below w.heap.size w (wr.setCell ⟨w.heap.size + 1, k, none⟩ (.int .u8 (byt N (31 - k)))) := hB.setCell (by show _ ≤ w.heap.size + 1; omega) _
      clear bl e hA hN hB
      go_wp2_with fail
      exact ⟨⟨k + 1, by omega, by go_num, sB, sn, st⟩, by simp [intOf]; omega⟩
    · have e32 : k = 32 := by omega
      subst e32
      have cv := conv32 wr (w.heap.size + 1) (ltL N) (by simp [ltL]) (by intro j hj; rw [hA.c j hj, if_pos hj, List.getD, ltL_at N j hj]; rfl)
      clear hA hN
      generalize hT : mkS (ltL N) = T at cv
      have HT : Hid (mkS (ltL N) = T) := hT
      clear hT
      go_wp2_with fail
      go_ret
      exact ⟨by rw [HT.out]; rfl, hB⟩
theorem refLittle_any (N : Int) (w : World) : Calls Tryz.prog 63 #[nv N] w fun e w' => e = .returned (.string (mkS (ltL N))) ∧ Below w.heap.size w w' := by
  obtain ⟨C, hC, mk⟩ := made32
  exact refLittle_core N C hC mk w
theorem madeN (n : Nat) (hn : (n : Int) ≤ 281474976710656) : ∃ C : Array Value, (∀ j, j < n → C[j]? = some (.int .u8 0)) ∧ ∀ W : World, (Instr.makeSlice 51 (.int .i64 (n : Int)) (.int .i64 (n : Int))).run Tryz.prog W = .ok (.slice (some ⟨W.heap.size, 0, none⟩) n n) (W.alloc (.cells C 5)) := by
  obtain ⟨i0, hi, hz0, hz1, hz2⟩ := info_parts Tryz.info5
  refine ⟨madeCells (Value.int .u8 0).cells (n * 1), ?_, fun W => ?_⟩
  · intro j hj
    simp only [madeCells, Value.cells]
    rw [Array.getElem?_map, Array.getElem?_range, if_pos (by omega)]
    simp [Nat.mod_one]
  · have := run_make (P := Tryz.prog) W 51 5 i0 (.int .u8 0) Tryz.underlying51 hi hz0 .i64 .i64 n n (by omega) (by omega) (by rw [hz2]; omega) (by omega)
    rw [hz1] at this
    exact this
theorem convG (W : World) (g n : Nat) (ns : List Int) (hn : ns.length = n) (hc : ∀ j, j < n → W.cell? ⟨g, j, none⟩ = some (.int .u8 (ns.getD j 0))) :
    (convert 51 9 (.slice (some ⟨g, 0, none⟩) n n)).run Tryz.prog W = .ok (.string (mkS ns)) W := by
  rw [run_convert_bytes_string W 51 9 5 _ n n Tryz.underlying51 Tryz.underlying5 Tryz.underlying9]
  refine run_bytesToString W ⟨g, 0, none⟩ n n ns ?_
  have := run_loadCells_list (P := Tryz.prog) W ⟨g, 0, none⟩ (ns.map (Value.int .u8)) (by
    intro j v hv
    rw [Addr.add_mid, Nat.zero_add]
    rw [List.getElem?_map] at hv
    obtain ⟨m, hm, rfl⟩ := Option.map_eq_some_iff.1 hv
    have hj : j < n := by rw [← hn]; exact (List.getElem?_eq_some_iff.1 hm).1
    rw [hc j hj, List.getD, hm]; rfl)
  rw [List.length_map, hn] at this
  exact this
/-- A text's bytes from the last to the first. -/
def rvL (s : ByteArray) : List Int := (List.range s.size).map fun j => bt s (s.size - 1 - j)
theorem rvL_at (s : ByteArray) (j : Nat) (hj : j < s.size) : (rvL s)[j]? = some (bt s (s.size - 1 - j)) := by simp [rvL, hj]
set_option maxRecDepth 100000 in
set_option maxHeartbeats 4000000 in
theorem turned_core (s : ByteArray) (n : Nat) (hsn : s.size = n) (hn : (n : Int) ≤ 281474976710656) (C : Array Value) (hC : Hid (∀ j, j < n → C[j]? = some (.int .u8 0))) (mk : ∀ W : World, (Instr.makeSlice 51 (.int .i64 (n : Int)) (.int .i64 (n : Int))).run Tryz.prog W = .ok (.slice (some ⟨W.heap.size, 0, none⟩) n n) (W.alloc (.cells C 5))) (w : World) :
    Calls Tryz.prog 51 #[.string s] w fun e w' => e = .returned (.string (mkS (rvL s))) ∧ Below w.heap.size w w' := by
  go_enter Tryz.func51, Tryz.ntmps51
  go_wp2_with fail
  go_loopw [4] (fun i wr => ∃ k : Nat, k ≤ n ∧ i = .int .i64 k ∧ Below w.heap.size w wr ∧ Arr wr w.heap.size n (fun j => .int .u8 (if j < k then bt s (n - 1 - j) else 0)))
    (fun i _ => n - (intOf i).toNat)
  case atStart =>
    refine ⟨0, by omega, rfl, by go_grown, ?_⟩
    exact (Arr.new _ _ _ _ (by simp) _ n hC.out).congr (by intro j hj; rw [if_neg (by omega)])
  case round =>
    clear mk hC
    obtain ⟨k, hk, rfl, hB, hA⟩ := hrel
    by_cases hlt : k < n
    · have k0 : (0 : Int) ≤ (k : Int) := by omega
      have kn : (k : Int) < (n : Int) := by omega
      obtain ⟨q, hq⟩ : ∃ q : Nat, (n : Int) - 1 - (k : Int) = (q : Int) := ⟨n - 1 - k, by omega⟩
      have qe : q = n - 1 - k := by omega
      have I := fun W => idxS s q (by omega) W
      have ra := hA.c k hlt
      have za := hA.z k hlt
      have st : Arr (wr.setCell ⟨w.heap.size, k, none⟩ (.int .u8 (bt s q))) w.heap.size n (fun j => .int .u8 (if j < k + 1 then bt s (n - 1 - j) else 0)) := by
        refine (hA.set k hlt _).congr ?_
        intro j hj
        by_cases h : j = k
        · subst h; rw [if_pos rfl, if_pos (by omega), qe]
        · rw [if_neg h]
          by_cases h2 : j < k
          · rw [if_pos h2, if_pos (by omega)]
          · rw [if_neg h2, if_neg (by omega)]
      have sB : Below w.heap.size w (wr.setCell ⟨w.heap.size, k, none⟩ (.int .u8 (bt s q))) := hB.setCell (by show _ ≤ w.heap.size; omega) _
      clear qe hA hB
      go_wp2_with fail
      exact ⟨⟨k + 1, by omega, by go_num, sB, st⟩, by simp [intOf]; omega⟩
    · have en : k = n := by omega
      subst en
      have cv := convG wr w.heap.size k (rvL s) (by simp [rvL, hsn]) (by intro j hj; rw [hA.c j hj, if_pos hj, List.getD, rvL_at s j (by omega), hsn]; rfl)
      clear hA
      generalize hT : mkS (rvL s) = T at cv
      have HT : Hid (mkS (rvL s) = T) := hT
      clear hT
      go_wp2_with fail
      go_ret
      exact ⟨by rw [HT.out]; rfl, hB⟩
theorem turned_any (s : ByteArray) (hn : (s.size : Int) ≤ 281474976710656) (w : World) :
    Calls Tryz.prog 51 #[.string s] w fun e w' => e = .returned (.string (mkS (rvL s))) ∧ Below w.heap.size w w' := by
  obtain ⟨C, hC, mk⟩ := madeN s.size hn
  exact turned_core s s.size rfl hn C hC mk w
theorem rv_lt (N : Int) : rvL (mkS (ltL N)) = bgL N := by
  have sz : (mkS (ltL N)).size = 32 := by rw [mkS_size]; simp [ltL]
  have at1 := rvL_at (mkS (ltL N))
  have b1 := fun i (hi : i < 32) => mkS_bt (ltL N) i _ (ltL_at N i hi) (byt_bd N (31 - i)).1 (byt_bd N (31 - i)).2
  have len : (rvL (mkS (ltL N))).length = 32 := by unfold rvL; rw [List.length_map, List.length_range, sz]
  generalize mkS (ltL N) = K at *
  apply List.ext_getElem?
  intro i
  by_cases hi : i < 32
  · rw [at1 i (by rw [sz]; exact hi), bgL_at N i hi, sz, show 32 - 1 - i = 31 - i by omega, b1 (31 - i) (by omega), show 31 - (31 - i) = i by omega]
  · rw [List.getElem?_eq_none (by rw [len]; omega), List.getElem?_eq_none (by simp [bgL]; omega)]
set_option maxHeartbeats 1000000 in
theorem refBig_core (N : Int) (K G : ByteArray) (C19 : ∀ W, Calls Tryz.prog 63 #[nv N] W fun e w' => e = .returned (.string K) ∧ Below W.heap.size W w') (C40 : ∀ W, Calls Tryz.prog 51 #[.string K] W fun e w' => e = .returned (.string G) ∧ Below W.heap.size W w') (w : World) :
    Calls Tryz.prog 39 #[nv N] w fun e w' => e = .returned (.string G) ∧ Below w.heap.size w w' := by
  go_enter Tryz.func39, Tryz.ntmps39
  go_wp2_with fail
  refine (C19 _).mono ?_
  rintro e w1 ⟨rfl, hb1⟩
  have hB1 : Below w.heap.size w w1 := Below.trans (by go_grown) (hb1.mono (by go_size))
  clear hb1
  go_wp2_with fail
  refine (C40 _).mono ?_
  rintro e w2 ⟨rfl, hb2⟩
  have hB2 := hB1.trans (hb2.mono hB1.size)
  clear hb2 hB1
  go_wp2_with fail
  go_ret
  exact ⟨rfl, hB2⟩
theorem refBig_any (N : Int) (w : World) : Calls Tryz.prog 39 #[nv N] w fun e w' => e = .returned (.string (mkS (bgL N))) ∧ Below w.heap.size w w' := by
  refine refBig_core N (mkS (ltL N)) (mkS (bgL N)) (fun W => refLittle_any N W) (fun W => ?_) w
  have sz : (mkS (ltL N)).size = 32 := by rw [mkS_size]; simp [ltL]
  have := turned_any (mkS (ltL N)) (by rw [sz]; omega) W
  rw [rv_lt] at this
  exact this
theorem pn_first (wd : Nat) (g : Nat → Int) (b : Nat) : pn wd g (b + 1) = g 0 * 2 ^ (wd * b) + pn wd (sh g 1) b := by
  have := pn_add wd g 1 b
  rw [Nat.add_comm 1 b] at this
  rw [this]
  show (0 * 2 ^ wd + g 0) * _ + _ = _
  rw [Int.zero_mul, Int.zero_add]
/-- Part j when k bytes have come, the lowest first. -/
def pl (f : Nat → Int) : Nat → Nat → Int
  | 0, _ => 0
  | k + 1, j => if j = k / 8 then pl f k j + f k * 2 ^ (8 * (k % 8)) else pl f k j
theorem pl_is (f : Nat → Int) : ∀ k j, pl f k j = if k ≤ 8 * j then 0 else if k ≤ 8 * j + 8 then pn 8 (fun i => f (k - 1 - i)) (k - 8 * j) else pn 8 (fun i => f (8 * j + 7 - i)) 8 := by
  intro k
  induction k with
  | zero => intro j; simp [pl]
  | succ k ih =>
    intro j
    have hi := ih j
    show (if j = k / 8 then pl f k j + f k * 2 ^ (8 * (k % 8)) else pl f k j) = _
    by_cases c : j = k / 8
    · rw [if_pos c, hi, if_neg (show ¬ k + 1 ≤ 8 * j by omega), if_pos (show k + 1 ≤ 8 * j + 8 by omega)]
      have e : k + 1 - 8 * j = (k - 8 * j) + 1 := by omega
      rw [e, pn_first 8 (fun i => f (k + 1 - 1 - i)) (k - 8 * j)]
      have e2 : (fun i => f (k + 1 - 1 - i)) 0 = f k := by simp
      have e3 : sh (fun i => f (k + 1 - 1 - i)) 1 = fun i => f (k - 1 - i) := by funext i; unfold sh; simp only; congr 1; omega
      rw [e3, show k - 8 * j = k % 8 by omega]
      show _ = f (k + 1 - 1 - 0) * _ + _
      rw [show k + 1 - 1 - 0 = k by omega]
      by_cases c2 : k ≤ 8 * j
      · rw [if_pos c2, show k % 8 = 0 by omega]
        simp [pn]
      · rw [if_neg c2, if_pos (show k ≤ 8 * j + 8 by omega), Int.add_comm]
    · rw [if_neg c, hi]
      by_cases c2 : k + 1 ≤ 8 * j
      · rw [if_pos c2, if_pos (by omega)]
      · rw [if_neg c2]
        by_cases c3 : k ≤ 8 * j
        · omega
        · rw [if_neg c3, if_neg (show ¬ k + 1 ≤ 8 * j + 8 by omega)]
          by_cases c4 : k ≤ 8 * j + 8
          · have ek : k = 8 * j + 8 := by omega
            rw [if_pos c4, ek, show 8 * j + 8 - 8 * j = 8 by omega]
            rfl
          · rw [if_neg c4]
theorem pl_lim (f : Nat → Int) (hf : ∀ i, 0 ≤ f i ∧ f i < 2 ^ 8) (j : Nat) (hj : j < 4) : pl f 32 j = lim (pn 8 (fun i => f (31 - i)) 32) j := by
  have h := pb_lim 8 8 (fun i => f (31 - i)) (by omega) (by omega) (fun i => hf _) j hj
  rw [show (4 * 8 : Nat) = 32 from rfl] at h
  have e : j = 0 ∨ j = 1 ∨ j = 2 ∨ j = 3 := by omega
  rw [← h, pb_is 8 8 _ (by omega) 32 j hj (by omega), pl_is]
  rcases e with rfl | rfl | rfl | rfl <;> rfl
theorem pl_bd (f : Nat → Int) (hf : ∀ i, 0 ≤ f i ∧ f i < 2 ^ 8) (k : Nat) : 0 ≤ pl f k (k / 8) ∧ pl f k (k / 8) < 2 ^ (8 * (k % 8)) := by
  rw [pl_is]
  by_cases c : k ≤ 8 * (k / 8)
  · rw [if_pos c]; exact ⟨Int.le_refl _, Int.pow_pos (by omega)⟩
  · rw [if_neg c, if_pos (show k ≤ 8 * (k / 8) + 8 by omega), show k - 8 * (k / 8) = k % 8 by omega]
    exact ⟨pn_nn 8 _ (fun i => (hf _).1) _, pn_lt 8 _ (fun i => hf _) _⟩
theorem or_up (x d : Int) (r : Nat) (hr : r < 8) (x0 : 0 ≤ x) (x1 : x < 2 ^ (8 * r)) (d0 : 0 ≤ d) (d1 : d < 256) :
    bits .or .u64 x (IntKind.u64.wrap (d * 2 ^ (8 * r))) = x + d * 2 ^ (8 * r) := by
  by_cases c : r = 0
  · subst c
    have hx : x = 0 := by simp at x1; omega
    subst hx
    have w : IntKind.u64.wrap (d * 2 ^ (8 * 0)) = d := by rw [IntKind.wrap_u64]; simp; omega
    rw [w]
    have b := bits_or_u64_nat 0 d.toNat (by omega) (by omega)
    rw [Int.toNat_of_nonneg d0] at b
    have e : bits .or .u64 0 d = d := by
      have : ((0 : Nat) : Int) = 0 := rfl
      rw [← this, b]
      simp; omega
    rw [e]; simp
  · have p : (0 : Int) < 2 ^ (64 - 8 * r) := Int.pow_pos (by omega)
    have sp : (2 : Int) ^ (8 * r) * 2 ^ (64 - 8 * r) = 18446744073709551616 := pow_split (8 * r) (by omega)
    have h0 : 0 ≤ x * 2 ^ (64 - 8 * r) := Int.mul_nonneg x0 (Int.le_of_lt p)
    have h1 : x * 2 ^ (64 - 8 * r) < 18446744073709551616 := by rw [← sp]; exact Int.mul_lt_mul_of_pos_right x1 p
    have j := or_join (x * 2 ^ (64 - 8 * r)) d (64 - 8 * r) (by omega) h0 h1 d0
    rw [Int.mul_ediv_cancel _ (Int.ne_of_gt p), show 64 - (64 - 8 * r) = 8 * r by omega] at j
    have hd : d % 2 ^ (64 - 8 * r) = d := by
      refine Int.emod_eq_of_lt d0 ?_
      have : (2 : Nat) ^ 8 ≤ 2 ^ (64 - 8 * r) := Nat.pow_le_pow_right (by omega) (by omega)
      have q : ((2 ^ 8 : Nat) : Int) ≤ ((2 ^ (64 - 8 * r) : Nat) : Int) := Int.ofNat_le.2 this
      have e1 : ((2 ^ 8 : Nat) : Int) = 256 := rfl
      have e2 : ((2 ^ (64 - 8 * r) : Nat) : Int) = 2 ^ (64 - 8 * r) := by push_cast; rfl
      omega
    rw [hd] at j
    exact j
set_option maxRecDepth 100000 in
set_option maxHeartbeats 4000000 in
theorem refFromLittle_ok (s : ByteArray) (hs : s.size = 32) (w : World) :
    Calls Tryz.prog 50 #[.string s] w fun e w' => e = .returned (.tuple #[.agg #[.int .u64 (pl (bt s) 32 0), .int .u64 (pl (bt s) 32 1), .int .u64 (pl (bt s) 32 2), .int .u64 (pl (bt s) 32 3)], .int .i64 0]) ∧ Below w.heap.size w w' := by
  have LE := fun W => sized_any s 32 (by rw [hs]; decide) W
  have le0 : lenE (s.size : Int) 32 = 0 := by rw [hs]; decide
  rw [le0] at LE
  go_enter Tryz.func50, Tryz.ntmps50
  go_wp2_with (go_at_call 71; refine (LE _).mono ?_; rintro e w1 ⟨rfl, rfl⟩)
  go_loopw [6] (fun i wr => ∃ k : Nat, k ≤ 32 ∧ i = .int .i64 k ∧ Below w.heap.size w wr ∧ Arr wr w.heap.size 4 (fun _ => .int .u64 0) ∧ Arr wr (w.heap.size + 1) 4 (fun j => .int .u64 (pl (bt s) k j)))
    (fun i _ => 32 - (intOf i).toNat)
  case atStart => exact ⟨0, by omega, rfl, by go_grown, Arr.mk4 (by simp [go_sem]) (by simp [go_sem]) (by simp [go_sem]) (by simp [go_sem]) (by simp [go_sem]) (by simp [go_sem]) (by simp [go_sem]) (by simp [go_sem]), Arr.mk4 (by simp [go_sem, pl]) (by simp [go_sem, pl]) (by simp [go_sem, pl]) (by simp [go_sem, pl]) (by simp [go_sem]) (by simp [go_sem]) (by simp [go_sem]) (by simp [go_sem])⟩
  case round =>
    clear LE le0
    obtain ⟨k, hk, rfl, hB, hZ, hA⟩ := hrel
    by_cases hlt : k < 32
    · have k0 : (0 : Int) ≤ (k : Int) := by omega
      have k32 : (k : Int) < 32 := by omega
      obtain ⟨q, r, hq, hr, qe, re⟩ : ∃ q r : Nat, (k : Int) / 8 = (q : Int) ∧ (k : Int) % 8 = (r : Int) ∧ q = k / 8 ∧ r = k % 8 := ⟨k / 8, k % 8, by omega, by omega, rfl, rfl⟩
      have q0 : (0 : Int) ≤ (q : Int) := by omega
      have q4 : (q : Int) < 4 := by omega
      have r0 : (0 : Int) ≤ (r : Int) := by omega
      have r8 : (r : Int) < 8 := by omega
      have bb := bt_bd s k
      have I := fun W => idxS s k (by omega) W
      have pbd := pl_bd (bt s) (bt_8 s) k
      rw [← qe, ← re] at pbd
      have ou := or_up (pl (bt s) k q) (bt s k) r (by omega) pbd.1 pbd.2 bb.1 bb.2
      have ra := hA.c q (by omega)
      have za := hA.z q (by omega)
      have tn : (8 * (r : Int)).toNat = 8 * r := by omega
      have st : Arr ((wr.setCell ⟨w.heap.size + 1, q, none⟩ (.int .u64 (pl (bt s) k q + bt s k * 2 ^ (8 * r)))).drew) (w.heap.size + 1) 4 (fun j => .int .u64 (pl (bt s) (k + 1) j)) := by
        refine ((hA.set q (by omega) _).congr ?_).drew
        intro j hj
        show _ = Value.int .u64 (if j = k / 8 then pl (bt s) k j + bt s k * 2 ^ (8 * (k % 8)) else pl (bt s) k j)
        by_cases h : j = q
        · subst h; rw [if_pos rfl, if_pos qe, re]
        · rw [if_neg h, if_neg (by omega)]
      have sz : Arr ((wr.setCell ⟨w.heap.size + 1, q, none⟩ (.int .u64 (pl (bt s) k q + bt s k * 2 ^ (8 * r)))).drew) w.heap.size 4 (fun _ => .int .u64 0) := (hZ.other (by omega) _).drew
      have sB : Below w.heap.size w ((wr.setCell ⟨w.heap.size + 1, q, none⟩ (.int .u64 (pl (bt s) k q + bt s k * 2 ^ (8 * r)))).drew) := (hB.setCell (by show _ ≤ w.heap.size + 1; omega) _).drew
      clear qe re pbd hA hZ hB
      go_wp2_with fail
      go_region
      go_wp2_with fail
      exact ⟨⟨k + 1, by omega, by go_num, sB, sz, st⟩, by simp [intOf]; omega⟩
    · have e32 : k = 32 := by omega
      subst e32
      have r1 := hA.c
      have r0 := hZ.c
      have z0 := hZ.z
      clear hA hZ
      go_wp2_with fail
      refine bodyPost_ret (v := .tuple #[.agg #[.int .u64 (pl (bt s) 32 0), .int .u64 (pl (bt s) 32 1), .int .u64 (pl (bt s) 32 2), .int .u64 (pl (bt s) 32 3)], .int .i64 0]) (by simp [results, Tryz.results50, go_sem, r0]) rfl ⟨rfl, ?_⟩
      go_grown
theorem nv_pl (f : Nat → Int) (hf : ∀ i, 0 ≤ f i ∧ f i < 2 ^ 8) :
    (.agg #[.int .u64 (pl f 32 0), .int .u64 (pl f 32 1), .int .u64 (pl f 32 2), .int .u64 (pl f 32 3)] : Value) = nv (pn 8 (fun i => f (31 - i)) 32) := by
  simp only [nv, pl_lim f hf 0 (by omega), pl_lim f hf 1 (by omega), pl_lim f hf 2 (by omega), pl_lim f hf 3 (by omega)]
theorem refFromLittle_yes (s : ByteArray) (hs : s.size = 32) (w : World) :
    Calls Tryz.prog 50 #[.string s] w fun e w' => e = .returned (.tuple #[nv (pn 8 (fun i => bt s (31 - i)) 32), .int .i64 0]) ∧ Below w.heap.size w w' := by
  have := refFromLittle_ok s hs w
  rw [nv_pl (bt s) (bt_8 s)] at this
  exact this
set_option maxHeartbeats 1000000 in
theorem refFromBig_core (s : ByteArray) (T : ByteArray) (V : Value) (E : Int) (a0 a1 a2 a3 : Int) (hV : V = .agg #[.int .u64 a0, .int .u64 a1, .int .u64 a2, .int .u64 a3])
    (C40 : ∀ W, Calls Tryz.prog 51 #[.string s] W fun e w' => e = .returned (.string T) ∧ Below W.heap.size W w')
    (C13 : ∀ W, Calls Tryz.prog 50 #[.string T] W fun e w' => e = .returned (.tuple #[.agg #[.int .u64 a0, .int .u64 a1, .int .u64 a2, .int .u64 a3], .int .i64 E]) ∧ Below W.heap.size W w') (w : World) :
    Calls Tryz.prog 21 #[.string s] w fun e w' => e = .returned (.tuple #[.agg #[.int .u64 a0, .int .u64 a1, .int .u64 a2, .int .u64 a3], .int .i64 E]) ∧ Below w.heap.size w w' := by
  go_enter Tryz.func21, Tryz.ntmps21
  go_wp2_with fail
  refine (C40 _).mono ?_
  rintro e w1 ⟨rfl, hb1⟩
  have A1 := (Arr.mk4 (f := fun _ => .int .u64 0) (b := w.heap.size) (by simp [go_sem]) (by simp [go_sem]) (by simp [go_sem]) (by simp [go_sem]) (by simp [go_sem]) (by simp [go_sem]) (by simp [go_sem]) (by simp [go_sem])).below hb1 (by go_size)
  have s1 : w.heap.size < w1.heap.size := by have := hb1.size; simp at this; omega
  have hB1 : Below w.heap.size w w1 := Below.trans (by go_grown) (hb1.mono (by go_size))
  clear hb1
  go_wp2_with fail
  refine (C13 _).mono ?_
  rintro e w2 ⟨rfl, hb2⟩
  have A2 := A1.below hb2 s1
  have hB2 := hB1.trans (hb2.mono hB1.size)
  have r0 := A2.c
  have z0 := A2.z
  clear hb2 A1 A2 hB1
  go_wp2_with fail
  refine bodyPost_ret (v := .tuple #[.agg #[.int .u64 a0, .int .u64 a1, .int .u64 a2, .int .u64 a3], .int .i64 E]) (by simp [results, Tryz.results21, go_sem, r0]) rfl ⟨rfl, ?_⟩
  go_grown
theorem rv_size (s : ByteArray) : (mkS (rvL s)).size = s.size := by rw [mkS_size]; simp [rvL]
theorem refFromBig_yes (s : ByteArray) (hs : s.size = 32) (w : World) :
    Calls Tryz.prog 21 #[.string s] w fun e w' => e = .returned (.tuple #[nv (pn 8 (bt s) 32), .int .i64 0]) ∧ Below w.heap.size w w' := by
  refine refFromBig_core s (mkS (rvL s)) _ 0 _ _ _ _ rfl (fun W => turned_any s (by rw [hs]; omega) W) (fun W => ?_) w
  have := refFromLittle_yes (mkS (rvL s)) (by rw [rv_size]; exact hs) W
  have e : pn 8 (fun i => bt (mkS (rvL s)) (31 - i)) 32 = pn 8 (bt s) 32 := pn_congr 8 _ _ 32 fun i hi => by
    have b := bt_bd s (s.size - 1 - (31 - i))
    show bt (mkS (rvL s)) (31 - i) = bt s i
    rw [mkS_bt _ (31 - i) _ (rvL_at s (31 - i) (by omega)) b.1 b.2, hs]
    congr 1; omega
  rw [e] at this
  exact this
end Go.Proofs.YtajdfjpcobaioaaGreatDoor
