/- Words of 32 bits: turned, and made of four bytes. -/
import Derived.Test.YtfglpcfacjedmaaDoorB2
set_option linter.all false
namespace Go.Proofs.YtfglpcfacjedmaaDoor
open Go.RowKit Go.Sort
/-- A word turned to the right. -/
def rot (x n : Int) : Int := bits .or .u32 (x * 2 ^ (32 - n).toNat % 4294967296) (x / 2 ^ n.toNat)
theorem or_comm32 (a b : Int) : bits .or .u32 a b = bits .or .u32 b a := by
  show IntKind.u32.wrap ((BitVec.ofInt 32 a ||| BitVec.ofInt 32 b).toNat : Int) = IntKind.u32.wrap ((BitVec.ofInt 32 b ||| BitVec.ofInt 32 a).toNat : Int)
  rw [BitVec.or_comm]
set_option maxHeartbeats 1000000 in
theorem rotl_any (x s k : Int) (hs : 0 ≤ s) (hs2 : s < 32) (hk : bits .and .u64 (IntKind.u64.wrap k) 31 = s) (w : World) : Calls Tryd.prog 85 #[.int .u32 x, .int .i64 k] w fun e w' => e = .returned (.int .u32 (bits .or .u32 (x * 2 ^ s.toNat % 4294967296) (x / 2 ^ (32 - s).toNat))) ∧ w' = w := by
  go_enter Tryd.func85, Tryd.ntmps85
  go_wp2
  go_ret
  exact ⟨rfl, rfl⟩
/-- The amounts by which words are turned. -/
def amt (n : Int) : Bool := decide (0 < n ∧ n < 32 ∧ bits .and .u64 (IntKind.u64.wrap (-n)) 31 = 32 - n ∧ IntKind.i64.wrap (-n) = -n)
set_option maxHeartbeats 1000000 in
theorem turned_s (x n : Int) (hn : amt n = true) (w : World) : Calls Tryd.prog 83 #[.int .u32 x, .int .i64 n] w fun e w' => e = .returned (.int .u32 (rot x n)) ∧ w' = w := by
  have ⟨n0, n1, hb, hw⟩ := of_decide_eq_true hn
  have R := fun W => rotl_any x (32 - n) (-n) (by omega) (by omega) hb W
  rw [show (32 : Int) - (32 - n) = n by omega] at R
  have d : bits .or .u32 (x * 2 ^ (32 - n).toNat % 4294967296) (x / 2 ^ n.toNat) = rot x n := rfl
  rw [d] at R
  clear hb hn d
  go_enter Tryd.func83, Tryd.ntmps83
  go_wp2_with (go_at_call 85; refine (R _).mono ?_; rintro e w1 ⟨rfl, rfl⟩)
  go_ret
  exact ⟨rfl, rfl⟩
theorem turned_any (x n : Int) (hn : amt n = true) (w : World) : Calls Tryd.prog 83 #[.int .u32 x, .int .i64 n] w fun e w' => e = .returned (.int .u32 (rot x n)) ∧ Below w.heap.size w w' :=
  (turned_s x n hn w).mono fun e w' h => ⟨h.1, by rw [h.2]; exact Below.refl _ _⟩
set_option maxHeartbeats 1000000 in
theorem rturn_any (x n : Int) (hn : amt n = true) (w : World) : Calls Tryd.prog 79 #[.int .u32 x, .int .u64 n] w fun e w' => e = .returned (.int .u32 (rot x n)) ∧ Below w.heap.size w w' := by
  have ⟨n0, n1, hb, hw⟩ := of_decide_eq_true hn
  clear hb hn hw
  go_enter Tryd.func79, Tryd.ntmps79
  go_wp2
  go_ret
  refine ⟨?_, Below.refl _ _⟩
  unfold rot
  rw [or_comm32]
  rfl
/-- Four bytes as a word. -/
def bw (b0 b1 b2 b3 : Int) : Int := bits .or .u32 (bits .or .u32 (bits .or .u32 (b0 * 16777216 % 4294967296) (b1 * 65536 % 4294967296)) (b2 * 256 % 4294967296)) b3
theorem bt_of (s : ByteArray) (k : Nat) (h : k < s.size) : ((s[k]'h).toNat : Int) = bt s k := by
  unfold bt
  have e : s.data[k]? = some (s.data[k]'h) := Array.getElem?_eq_getElem h
  rw [e]
  rfl
theorem bt_m (s : ByteArray) (k : Nat) : bt s k % 4294967296 = bt s k := by have := bt_bd s k; omega
set_option maxHeartbeats 1000000 in
theorem word_any (s : ByteArray) (hs : s.size = 4) (w : World) : Calls Tryd.prog 84 #[.string s] w fun e w' => e = .returned (.int .u32 (bw (bt s 0) (bt s 1) (bt s 2) (bt s 3))) ∧ Below w.heap.size w w' := by
  go_enter Tryd.func84, Tryd.ntmps84
  go_wp2
  refine wp_region_quiet_below (by kernel_rfl) (by kernel_rfl) ?_
  repeat (go_big_quiet_step (fail))
  refine wpQuiet_nil ?_
  intro w1 hw'
  obtain ⟨⟨dq, osq⟩, hw''⟩ := hw'
  have hb := below_of hw''
  clear hw''
  go_wp2
  go_ret
  refine ⟨?_, hb⟩
  simp [bw, bt_of, bt_m]
theorem amt_2 : amt 2 = true := by decide
theorem amt_6 : amt 6 = true := by decide
theorem amt_7 : amt 7 = true := by decide
theorem amt_11 : amt 11 = true := by decide
theorem amt_13 : amt 13 = true := by decide
theorem amt_17 : amt 17 = true := by decide
theorem amt_18 : amt 18 = true := by decide
theorem amt_19 : amt 19 = true := by decide
theorem amt_22 : amt 22 = true := by decide
theorem amt_25 : amt 25 = true := by decide
end Go.Proofs.YtfglpcfacjedmaaDoor
