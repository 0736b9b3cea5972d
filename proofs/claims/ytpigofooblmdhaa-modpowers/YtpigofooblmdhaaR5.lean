/- What the reference's Len answers, and its Bit for any place. -/
import Derived.Test.YtpigofooblmdhaaR3
import Derived.Test.YtpigofooblmdhaaN10
set_option linter.all false
namespace Go.Proofs.Ytpigofooblmdhaa
open Go.RowKit
theorem bitLen_is (n m : Nat) (h0 : 2 ^ m ≤ n) (h1 : n < 2 ^ (m + 1)) : bitLen n = m + 1 := by
  have sp := bitLen_spec n
  have ne : n ≠ 0 := by have := Nat.pow_pos (n := m) (show 0 < 2 by omega); omega
  have lo := sp.2 ne
  have hi := sp.1
  by_cases c : bitLen n ≤ m
  · have := Nat.pow_le_pow_right (n := 2) (by omega) c
    omega
  · by_cases c2 : bitLen n ≤ m + 1
    · omega
    · have := Nat.pow_le_pow_right (n := 2) (by omega) (show m + 1 ≤ bitLen n - 1 by omega)
      omega
theorem bitLen_nil : bitLen 0 = 0 := by decide
theorem bit_up (N : Int) (m : Nat) (h0 : 0 ≤ N) (h1 : N < 2 ^ (m + 1)) : (N / 2 ^ m % 2 = 1 ∧ bitLen N.toNat = m + 1) ∨ (N / 2 ^ m % 2 = 0 ∧ N < 2 ^ m) := by
  have p : (0 : Int) < 2 ^ m := Int.pow_pos (by omega)
  have h2 : N < 2 * 2 ^ m := by rw [Int.pow_succ, Int.mul_comm] at h1; exact h1
  by_cases c : N < 2 ^ m
  · exact .inr ⟨by rw [Int.ediv_eq_zero_of_lt h0 c]; rfl, c⟩
  · have q : N / 2 ^ m = 1 := by
      have a : 1 ≤ N / 2 ^ m := Int.le_ediv_of_mul_le p (by omega)
      have b : N / 2 ^ m < 2 := Int.ediv_lt_of_lt_mul p (by omega)
      omega
    refine .inl ⟨by rw [q]; rfl, bitLen_is _ _ ?_ ?_⟩
    · have e : ((2 ^ m : Nat) : Int) = 2 ^ m := by push_cast; rfl
      omega
    · have e : ((2 ^ (m + 1) : Nat) : Int) = 2 ^ (m + 1) := by push_cast; rfl
      omega
set_option maxHeartbeats 2000000 in
theorem refLen_raw (N : Int) (h0 : 0 ≤ N) (h1 : Hid (N < 2 ^ 256)) (w : World) :
    Calls Try.prog 71 #[nv N] w fun e w' => e = .returned (.int .i64 (bitLen N.toNat)) ∧ Below w.heap.size w w' := by
  go_enter Try.func71, Try.ntmps71
  go_wp2_with fail
  go_loopw [3] (fun i wr => ∃ k : Nat, k ≤ 256 ∧ i = .int .i64 ((k : Int) - 1) ∧ Hid (N < 2 ^ k) ∧ Below w.heap.size w wr ∧ Arr wr w.heap.size 4 (fun j => .int .u64 (lim N j)))
    (fun i _ => (intOf i + 1).toNat)
  case atStart => exact ⟨256, by omega, by go_num, h1, by go_grown, Arr.mk4 (by simp [go_sem]) (by simp [go_sem]) (by simp [go_sem]) (by simp [go_sem]) (by simp [go_sem]) (by simp [go_sem]) (by simp [go_sem]) (by simp [go_sem])⟩
  case round =>
    obtain ⟨k, hk, rfl, HN, hB, hA⟩ := hrel
    have c := hA.c
    match k, hk, HN with
    | 0, _, HN =>
      have i1 : ((0 : Nat) : Int) - 1 = -1 := by omega
      have n0 : N = 0 := by have := HN.out; simp at this; omega
      have e : bitLen N.toNat = 0 := by rw [n0]; exact bitLen_nil
      have HE : Hid (bitLen N.toNat = 0) := e
      clear n0 e h1 HN
      go_wp2_with fail
      go_ret
      exact ⟨by rw [HE.out]; rfl, hB⟩
    | m + 1, hm, HN =>
      have i1 : ((m + 1 : Nat) : Int) - 1 = (m : Int) := by omega
      rw [i1]
      have m0 : (0 : Int) ≤ (m : Int) := by omega
      have m5 : (m : Int) ≤ 255 := by omega
      have BT := fun W => refBit_in N m (m / 64) (m % 64) (by omega) (by omega) (by omega) W
      have bu := bit_up N m h0 HN.out
      clear HN h1
      rcases bu with ⟨e, b⟩ | ⟨e, b⟩
      · rw [e] at BT
        have HE : Hid (bitLen N.toNat = m + 1) := b
        clear e b
        go_wp2_with fail
        refine (BT _).mono ?_
        rintro e w1 ⟨rfl, hb1⟩
        have hB1 := hB.trans (hb1.mono hB.size)
        go_wp2_with fail
        go_ret
        exact ⟨by rw [HE.out]; go_num, hB1⟩
      · rw [e] at BT
        have HB : Hid (N < 2 ^ m) := b
        clear e b
        go_wp2_with fail
        refine (BT _).mono ?_
        rintro e w1 ⟨rfl, hb1⟩
        have hB1 := hB.trans (hb1.mono hB.size)
        have hA1 := hA.below hb1 (by have := hA.c 0 (by omega); exact block_lt_of_cell this)
        clear hb1 hA hB c
        go_wp2_with fail
        go_roundw
        case rel => exact ⟨m, by omega, by go_num, HB, hB1, hA1⟩
        case measure => simp [intOf]
theorem refLen_any (N : Int) (h0 : 0 ≤ N) (h1 : N < top256) (w : World) :
    Calls Try.prog 71 #[nv N] w fun e w' => e = .returned (.int .i64 (bitLen N.toNat)) ∧ Below w.heap.size w w' :=
  refLen_raw N h0 (by have e : top256 = 2 ^ 256 := by decide
                      show N < 2 ^ 256
                      rw [← e]; exact h1) w
set_option maxHeartbeats 1000000 in
theorem refBit_out (N : Int) (i : Int) (h : i < 0 ∨ 255 < i) (w : World) :
    Calls Try.prog 72 #[nv N, .int .i64 i] w fun e w' => e = .returned (.int .u64 0) ∧ Below w.heap.size w w' := by
  rcases h with h | h
  · go_enter Try.func72, Try.ntmps72
    go_wp2_with fail
    go_ret
    exact ⟨rfl, by go_grown⟩
  · have h' : ¬ i < 0 := by omega
    go_enter Try.func72, Try.ntmps72
    go_wp2_with fail
    go_ret
    exact ⟨rfl, by go_grown⟩
theorem refBit_any (N : Int) (i : Int) (h0 : 0 ≤ N) (h1 : N < top256) (w : World) :
    Calls Try.prog 72 #[nv N, .int .i64 i] w fun e w' => e = .returned (.int .u64 (win N i % 2)) ∧ Below w.heap.size w w' := by
  by_cases c : 0 ≤ i ∧ i ≤ 255
  · obtain ⟨n, rfl⟩ := Int.eq_ofNat_of_zero_le c.1
    have := refBit_in N n (n / 64) (n % 64) (by omega) (by omega) (by omega) w
    have e : win N (n : Int) % 2 = N / 2 ^ n % 2 := by
      unfold win; rw [if_pos (by omega)]; simp only [Int.toNat_natCast]; generalize N / 2 ^ n = x; omega
    rw [e]; exact this
  · have e : win N i % 2 = 0 := by
      unfold win
      split
      · rename_i hi
        have big : N / 2 ^ i.toNat = 0 := by
          refine Int.ediv_eq_zero_of_lt h0 ?_
          have e1 : top256 = 2 ^ 256 := by decide
          have p : (2 : Nat) ^ 256 ≤ 2 ^ i.toNat := Nat.pow_le_pow_right (by omega) (by omega)
          have p' : ((2 ^ 256 : Nat) : Int) ≤ ((2 ^ i.toNat : Nat) : Int) := Int.ofNat_le.2 p
          have q : ((2 ^ i.toNat : Nat) : Int) = 2 ^ i.toNat := by push_cast; rfl
          have q2 : ((2 ^ 256 : Nat) : Int) = top256 := by decide
          omega
        rw [big]; rfl
      · rename_i hi
        obtain ⟨n, hn⟩ : ∃ n, (-i).toNat = n + 1 := ⟨(-i).toNat - 1, by omega⟩
        rw [hn, Int.pow_succ, ← Int.mul_assoc]
        generalize N * 2 ^ n = x
        omega
    rw [e]
    exact refBit_out N i (by omega) w
end Go.Proofs.Ytpigofooblmdhaa
