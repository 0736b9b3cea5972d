/- What the reference's turned answers. -/
import Derived.Test.YtpigofooblmdhaaT6
set_option linter.all false
set_option maxRecDepth 100000
namespace Go.Proofs.Ytpigofooblmdhaa
open Go.RowKit
theorem madeN (n : Nat) (hn : (n : Int) ≤ 281474976710656) : ∃ C : Array Value, (∀ j, j < n → C[j]? = some (.int .u8 0)) ∧ ∀ W : World, (Instr.makeSlice 43 (.int .i64 (n : Int)) (.int .i64 (n : Int))).run Try.prog W = .ok (.slice (some ⟨W.heap.size, 0, none⟩) n n) (W.alloc (.cells C 5)) := by
  obtain ⟨i0, hi, hz0, hz1, hz2⟩ := info_parts Try.info5
  refine ⟨madeCells (Value.int .u8 0).cells (n * 1), ?_, fun W => ?_⟩
  · intro j hj
    simp only [madeCells, Value.cells]
    rw [Array.getElem?_map, Array.getElem?_range, if_pos (by omega)]
    simp [Nat.mod_one]
  · have := run_make (P := Try.prog) W 43 5 i0 (.int .u8 0) Try.underlying43 hi hz0 .i64 .i64 n n (by omega) (by omega) (by rw [hz2]; omega) (by omega)
    rw [hz1] at this
    exact this
theorem convG (W : World) (g n : Nat) (ns : List Int) (hn : ns.length = n) (hc : ∀ j, j < n → W.cell? ⟨g, j, none⟩ = some (.int .u8 (ns.getD j 0))) :
    (convert 43 9 (.slice (some ⟨g, 0, none⟩) n n)).run Try.prog W = .ok (.string (mkS ns)) W := by
  rw [run_convert_bytes_string W 43 9 5 _ n n Try.underlying43 Try.underlying5 Try.underlying9]
  refine run_bytesToString W ⟨g, 0, none⟩ n n ns ?_
  have := run_loadCells_list (P := Try.prog) W ⟨g, 0, none⟩ (ns.map (Value.int .u8)) (by
    intro j v hv
    rw [Addr.add_mid, Nat.zero_add]
    rw [List.getElem?_map] at hv
    obtain ⟨m, hm, rfl⟩ := Option.map_eq_some_iff.1 hv
    have hj : j < n := by rw [← hn]; exact (List.getElem?_eq_some_iff.1 hm).1
    rw [hc j hj, List.getD, hm]; rfl)
  rw [List.length_map, hn] at this
  exact this
/-- A text's bytes from the last to the first. -/
def rvL (s : ByteArray) : List Int := (List.range s.size).map fun j => bt s (s.size - 1 - j)
theorem rvL_at (s : ByteArray) (j : Nat) (hj : j < s.size) : (rvL s)[j]? = some (bt s (s.size - 1 - j)) := by simp [rvL, hj]
set_option maxRecDepth 100000 in
set_option maxHeartbeats 4000000 in
theorem turned_core (s : ByteArray) (n : Nat) (hsn : s.size = n) (hn : (n : Int) ≤ 281474976710656) (C : Array Value) (hC : Hid (∀ j, j < n → C[j]? = some (.int .u8 0))) (mk : ∀ W : World, (Instr.makeSlice 43 (.int .i64 (n : Int)) (.int .i64 (n : Int))).run Try.prog W = .ok (.slice (some ⟨W.heap.size, 0, none⟩) n n) (W.alloc (.cells C 5))) (w : World) :
    Calls Try.prog 53 #[.string s] w fun e w' => e = .returned (.string (mkS (rvL s))) ∧ Below w.heap.size w w' := by
  go_enter Try.func53, Try.ntmps53
  go_wp2_with fail
  go_loopw [4] (fun i wr => ∃ k : Nat, k ≤ n ∧ i = .int .i64 k ∧ Below w.heap.size w wr ∧ Arr wr w.heap.size n (fun j => .int .u8 (if j < k then bt s (n - 1 - j) else 0)))
    (fun i _ => n - (intOf i).toNat)
  case atStart =>
    refine ⟨0, by omega, rfl, by go_grown, ?_⟩
    exact (Arr.new _ _ _ _ (by simp) _ n hC.out).congr (by intro j hj; rw [if_neg (by omega)])
  case round =>
    clear mk hC
    obtain ⟨k, hk, rfl, hB, hA⟩ := hrel
    by_cases hlt : k < n
    · have k0 : (0 : Int) ≤ (k : Int) := by omega
      have kn : (k : Int) < (n : Int) := by omega
      obtain ⟨q, hq⟩ : ∃ q : Nat, (n : Int) - 1 - (k : Int) = (q : Int) := ⟨n - 1 - k, by omega⟩
      have qe : q = n - 1 - k := by omega
      have I := fun W => idxS s q (by omega) W
      have ra := hA.c k hlt
      have za := hA.z k hlt
      have st : Arr (wr.setCell ⟨w.heap.size, k, none⟩ (.int .u8 (bt s q))) w.heap.size n (fun j => .int .u8 (if j < k + 1 then bt s (n - 1 - j) else 0)) := by
        refine (hA.set k hlt _).congr ?_
        intro j hj
        by_cases h : j = k
        · subst h; rw [if_pos rfl, if_pos (by omega), qe]
        · rw [if_neg h]
          by_cases h2 : j < k
          · rw [if_pos h2, if_pos (by omega)]
          · rw [if_neg h2, if_neg (by omega)]
      have sB : Below w.heap.size w (wr.setCell ⟨w.heap.size, k, none⟩ (.int .u8 (bt s q))) := hB.setCell (by show _ ≤ w.heap.size; omega) _
      clear qe hA hB
      go_wp2_with fail
      exact ⟨⟨k + 1, by omega, by go_num, sB, st⟩, by simp [intOf]; omega⟩
    · have en : k = n := by omega
      subst en
      have cv := convG wr w.heap.size k (rvL s) (by simp [rvL, hsn]) (by intro j hj; rw [hA.c j hj, if_pos hj, List.getD, rvL_at s j (by omega), hsn]; rfl)
      clear hA
      generalize hT : mkS (rvL s) = T at cv
      have HT : Hid (mkS (rvL s) = T) := hT
      clear hT
      go_wp2_with fail
      go_ret
      exact ⟨by rw [HT.out]; rfl, hB⟩
theorem turned_any (s : ByteArray) (hn : (s.size : Int) ≤ 281474976710656) (w : World) :
    Calls Try.prog 53 #[.string s] w fun e w' => e = .returned (.string (mkS (rvL s))) ∧ Below w.heap.size w w' := by
  obtain ⟨C, hC, mk⟩ := madeN s.size hn
  exact turned_core s s.size rfl hn C hC mk w
theorem rv_lt (N : Int) : rvL (mkS (ltL N)) = bgL N := by
  have sz : (mkS (ltL N)).size = 32 := by rw [mkS_size]; simp [ltL]
  have at1 := rvL_at (mkS (ltL N))
  have b1 := fun i (hi : i < 32) => mkS_bt (ltL N) i _ (ltL_at N i hi) (byt_bd N (31 - i)).1 (byt_bd N (31 - i)).2
  have len : (rvL (mkS (ltL N))).length = 32 := by unfold rvL; rw [List.length_map, List.length_range, sz]
  generalize mkS (ltL N) = K at *
  apply List.ext_getElem?
  intro i
  by_cases hi : i < 32
  · rw [at1 i (by rw [sz]; exact hi), bgL_at N i hi, sz, show 32 - 1 - i = 31 - i by omega, b1 (31 - i) (by omega), show 31 - (31 - i) = i by omega]
  · rw [List.getElem?_eq_none (by rw [len]; omega), List.getElem?_eq_none (by simp [bgL]; omega)]
set_option maxHeartbeats 1000000 in
theorem refBig_core (N : Int) (K G : ByteArray) (C19 : ∀ W, Calls Try.prog 19 #[nv N] W fun e w' => e = .returned (.string K) ∧ Below W.heap.size W w') (C40 : ∀ W, Calls Try.prog 53 #[.string K] W fun e w' => e = .returned (.string G) ∧ Below W.heap.size W w') (w : World) :
    Calls Try.prog 17 #[nv N] w fun e w' => e = .returned (.string G) ∧ Below w.heap.size w w' := by
  go_enter Try.func17, Try.ntmps17
  go_wp2_with fail
  refine (C19 _).mono ?_
  rintro e w1 ⟨rfl, hb1⟩
  have hB1 : Below w.heap.size w w1 := Below.trans (by go_grown) (hb1.mono (by go_size))
  clear hb1
  go_wp2_with fail
  refine (C40 _).mono ?_
  rintro e w2 ⟨rfl, hb2⟩
  have hB2 := hB1.trans (hb2.mono hB1.size)
  clear hb2 hB1
  go_wp2_with fail
  go_ret
  exact ⟨rfl, hB2⟩
theorem refBig_any (N : Int) (w : World) : Calls Try.prog 17 #[nv N] w fun e w' => e = .returned (.string (mkS (bgL N))) ∧ Below w.heap.size w w' := by
  refine refBig_core N (mkS (ltL N)) (mkS (bgL N)) (fun W => refLittle_any N W) (fun W => ?_) w
  have sz : (mkS (ltL N)).size = 32 := by rw [mkS_size]; simp [ltL]
  have := turned_any (mkS (ltL N)) (by rw [sz]; omega) W
  rw [rv_lt] at this
  exact this
end Go.Proofs.Ytpigofooblmdhaa
