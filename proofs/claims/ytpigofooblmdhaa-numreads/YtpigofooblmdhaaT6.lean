/- What the reference's sized, digit and Little answer. -/
import Derived.Test.YtpigofooblmdhaaT5
import Derived.Test.YtpigofooblmdhaaM7
set_option linter.all false
set_option maxRecDepth 100000
namespace Go.Proofs.Ytpigofooblmdhaa
open Go.RowKit
set_option maxHeartbeats 1000000 in
theorem sized_any (s : ByteArray) (n : Int) (hs : s.size ≤ maxLen) (w : World) :
    Calls Try.prog 51 #[.string s, .int .i64 n] w fun e w' => e = .returned (.int .i64 (lenE s.size n)) ∧ w' = w := by
  unfold maxLen at hs
  unfold lenE
  by_cases h : (s.size : Int) < n
  · rw [if_pos h]
    go_enter Try.func51, Try.ntmps51
    go_wp2
    go_ret
    exact ⟨rfl, rfl⟩
  · rw [if_neg h]
    by_cases h2 : n < (s.size : Int)
    · rw [if_pos h2]
      go_enter Try.func51, Try.ntmps51
      go_wp2
      go_ret
      exact ⟨rfl, rfl⟩
    · rw [if_neg h2]
      go_enter Try.func51, Try.ntmps51
      go_wp2
      go_ret
      exact ⟨rfl, rfl⟩
/-- The reference's digit: -1 where there is none. -/
def dgi (c : Int) : Int := if dgo c then dgv c else -1
set_option maxHeartbeats 1000000 in
theorem digit_ref (c : Int) (h0 : 0 ≤ c) (h1 : c < 256) (w : World) :
    Calls Try.prog 52 #[.int .u8 c] w fun e w' => e = .returned (.int .i64 (dgi c)) ∧ w' = w := by
  by_cases a : 48 ≤ c ∧ c ≤ 57
  · have e1 : dgi c = c - 48 := by unfold dgi dgv dgo; simp [a]
    rw [e1]
    obtain ⟨a1, a2⟩ := a
    clear e1
    go_enter Try.func52, Try.ntmps52
    go_wp2
    go_ret
    exact ⟨rfl, rfl⟩
  · by_cases b : 97 ≤ c ∧ c ≤ 102
    · have e1 : dgi c = c - 87 := by unfold dgi dgv dgo; rw [decide_eq_false a, decide_eq_true b, if_neg a, if_pos b]; rfl
      rw [e1]
      obtain ⟨b1, b2⟩ := b
      have a1 : (48 : Int) ≤ c := by omega
      have a2 : ¬ c ≤ 57 := by omega
      clear e1 a
      go_enter Try.func52, Try.ntmps52
      go_wp2
      go_ret
      exact ⟨by simp; omega, rfl⟩
    · have e1 : dgi c = -1 := by unfold dgi dgo; rw [decide_eq_false a, decide_eq_false b]; rfl
      rw [e1]
      clear e1
      by_cases h48 : 48 ≤ c
      · have h57 : ¬ c ≤ 57 := by omega
        by_cases h97 : 97 ≤ c
        · have h102 : ¬ c ≤ 102 := by omega
          clear a b
          go_enter Try.func52, Try.ntmps52
          go_wp2
          go_ret
          exact ⟨rfl, rfl⟩
        · clear a b
          go_enter Try.func52, Try.ntmps52
          go_wp2
          go_ret
          exact ⟨rfl, rfl⟩
      · have h97 : ¬ 97 ≤ c := by omega
        clear a b
        go_enter Try.func52, Try.ntmps52
        go_wp2
        go_ret
        exact ⟨rfl, rfl⟩
theorem made32 : ∃ C : Array Value, (∀ j, j < 32 → C[j]? = some (.int .u8 0)) ∧ ∀ W : World, (Instr.makeSlice 43 (.int .i64 32) (.int .i64 32)).run Try.prog W = .ok (.slice (some ⟨W.heap.size, 0, none⟩) 32 32) (W.alloc (.cells C 5)) := by
  obtain ⟨i0, hi, hz0, hz1, hz2⟩ := info_parts Try.info5
  refine ⟨madeCells (Value.int .u8 0).cells (32 * 1), ?_, fun W => ?_⟩
  · intro j hj
    simp only [madeCells, Value.cells]
    rw [Array.getElem?_map, Array.getElem?_range, if_pos (by omega)]
    simp [Nat.mod_one]
  · have := run_make (P := Try.prog) W 43 5 i0 (.int .u8 0) Try.underlying43 hi hz0 .i64 .i64 32 32 (by omega) (by omega) (by rw [hz2]; omega) (by omega)
    rw [hz1] at this
    exact this
theorem byt_lim (N : Int) (i q r : Nat) (hi : i = 8 * q + r) (hr : r < 8) (hq : q < 4) : lim N q / 2 ^ (8 * r) % 256 = byt N (31 - i) := by
  unfold byt lim
  have e1 : (18446744073709551616 : Int) ^ q = 2 ^ (64 * q) := by rw [Int.pow_mul]; rfl
  have e2 : 8 * (31 - (31 - i)) = 64 * q + 8 * r := by omega
  rw [e1, e2, Int.pow_add, ← Int.ediv_ediv_of_nonneg (Int.le_of_lt (Int.pow_pos (by omega)))]
  generalize N / 2 ^ (64 * q) = x
  have h : r = 0 ∨ r = 1 ∨ r = 2 ∨ r = 3 ∨ r = 4 ∨ r = 5 ∨ r = 6 ∨ r = 7 := by omega
  rcases h with rfl | rfl | rfl | rfl | rfl | rfl | rfl | rfl <;> simp <;> omega
set_option maxRecDepth 100000 in
set_option maxHeartbeats 4000000 in
theorem refLittle_core (N : Int) (C : Array Value) (hC : Hid (∀ j, j < 32 → C[j]? = some (.int .u8 0))) (mk : ∀ W : World, (Instr.makeSlice 43 (.int .i64 32) (.int .i64 32)).run Try.prog W = .ok (.slice (some ⟨W.heap.size, 0, none⟩) 32 32) (W.alloc (.cells C 5))) (w : World) :
    Calls Try.prog 19 #[nv N] w fun e w' => e = .returned (.string (mkS (ltL N))) ∧ Below w.heap.size w w' := by
  go_enter Try.func19, Try.ntmps19
  go_wp2_with fail
  go_loopw [4] (fun i wr => ∃ k : Nat, k ≤ 32 ∧ i = .int .i64 k ∧ Below w.heap.size w wr ∧ Arr wr w.heap.size 4 (fun j => .int .u64 (lim N j)) ∧ Arr wr (w.heap.size + 1) 32 (fun j => .int .u8 (if j < k then byt N (31 - j) else 0)))
    (fun i _ => 32 - (intOf i).toNat)
  case atStart =>
    refine ⟨0, by omega, rfl, by go_grown, Arr.mk4 (by simp [go_sem]) (by simp [go_sem]) (by simp [go_sem]) (by simp [go_sem]) (by simp [go_sem]) (by simp [go_sem]) (by simp [go_sem]) (by simp [go_sem]), ?_⟩
    exact (Arr.new _ _ _ _ (by simp) _ 32 hC.out).congr (by intro j hj; rw [if_neg (by omega)])
  case round =>
    clear mk hC
    obtain ⟨k, hk, rfl, hB, hN, hA⟩ := hrel
    by_cases hlt : k < 32
    · have k0 : (0 : Int) ≤ (k : Int) := by omega
      have k32 : (k : Int) < 32 := by omega
      obtain ⟨q, r, hq, hr, e, q4, r8⟩ : ∃ q r : Nat, (k : Int) / 8 = (q : Int) ∧ (k : Int) % 8 = (r : Int) ∧ k = 8 * q + r ∧ q < 4 ∧ r < 8 := ⟨k / 8, k % 8, by omega, by omega, by omega, by omega, by omega⟩
      have q0 : (0 : Int) ≤ (q : Int) := by omega
      have q4' : (q : Int) < 4 := by omega
      have r0 : (0 : Int) ≤ (r : Int) := by omega
      have r8' : (r : Int) < 8 := by omega
      have rn := hN.c q q4
      have ra := hA.c k hlt
      have za := hA.z k hlt
      have tn : (8 * (r : Int)).toNat = 8 * r := by omega
      have bl := byt_lim N k q r e r8 q4
      have wb : IntKind.u8.wrap (lim N q / 2 ^ (8 * r)) = byt N (31 - k) := by rw [IntKind.wrap_u8]; exact bl
      have st : Arr (wr.setCell ⟨w.heap.size + 1, k, none⟩ (.int .u8 (byt N (31 - k)))) (w.heap.size + 1) 32 (fun j => .int .u8 (if j < k + 1 then byt N (31 - j) else 0)) := by
        refine (hA.set k hlt _).congr ?_
        intro j hj
        by_cases h : j = k
        · subst h; rw [if_pos rfl, if_pos (by omega)]
        · rw [if_neg h]
          by_cases h2 : j < k
          · rw [if_pos h2, if_pos (by omega)]
          · rw [if_neg h2, if_neg (by omega)]
      have sn := hN.other (b' := w.heap.size + 1) (k := k) (by omega) (.int .u8 (byt N (31 - k)))
      have sB : Below w.heap.size w (wr.setCell ⟨w.heap.size + 1, k, none⟩ (.int .u8 (byt N (31 - k)))) := hB.setCell (by show _ ≤ w.heap.size + 1; omega) _
      clear bl e hA hN hB
      go_wp2_with fail
      exact ⟨⟨k + 1, by omega, by go_num, sB, sn, st⟩, by simp [intOf]; omega⟩
    · have e32 : k = 32 := by omega
      subst e32
      have cv := conv32 wr (w.heap.size + 1) (ltL N) (by simp [ltL]) (by intro j hj; rw [hA.c j hj, if_pos hj, List.getD, ltL_at N j hj]; rfl)
      clear hA hN
      generalize hT : mkS (ltL N) = T at cv
      have HT : Hid (mkS (ltL N) = T) := hT
      clear hT
      go_wp2_with fail
      go_ret
      exact ⟨by rw [HT.out]; rfl, hB⟩
theorem refLittle_any (N : Int) (w : World) : Calls Try.prog 19 #[nv N] w fun e w' => e = .returned (.string (mkS (ltL N))) ∧ Below w.heap.size w w' := by
  obtain ⟨C, hC, mk⟩ := made32
  exact refLittle_core N C hC mk w
end Go.Proofs.Ytpigofooblmdhaa
