/- How many bytes there are, read. -/
import Derived.Test.YtajdfjpcobaioaaGreatDoorD1
set_option linter.all false
set_option maxRecDepth 100000
namespace Go.Proofs.YtajdfjpcobaioaaGreatDoor
open Go.RowKit Go.Sort
theorem idx0 (s : ByteArray) (hs : 0 < s.size) (W : World) : (Instr.index 9 (.string s) (.int .i64 0)).run Tryz.prog W = .ok (.int .u8 (bt s 0)) W := idxS s 0 hs W
theorem emp_no (s : ByteArray) (h : 0 < s.size) : (s.toList == []) = false := by
  have e := ByteArray.toList_eq s
  have l := len_list s
  rw [e]
  cases h2 : s.data.toList with
  | nil => rw [h2] at l; simp at l; omega
  | cons a b => rfl
theorem or_low8 (x d : Int) (x0 : 0 ≤ x) (x1 : x < 256) (hd : 0 ≤ d ∧ d < 256) : bits .or .i64 (x * 256) d = x * 256 + d := by
  obtain ⟨a, rfl⟩ := Int.eq_ofNat_of_zero_le x0
  obtain ⟨b, rfl⟩ := Int.eq_ofNat_of_zero_le hd.1
  have ha : a < 256 := by omega
  have hb : b < 256 := by omega
  have h1 : (BitVec.ofInt 64 ((a * 256 : Nat) : Int)).toNat = a * 256 := by rw [BitVec.ofInt_natCast, BitVec.toNat_ofNat]; exact Nat.mod_eq_of_lt (by omega)
  have h2 : (BitVec.ofInt 64 (b : Int)).toNat = b := by rw [BitVec.ofInt_natCast, BitVec.toNat_ofNat]; exact Nat.mod_eq_of_lt (by omega)
  have e : a * 256 ||| b = a * 256 + b := by
    have := Nat.shiftLeft_add_eq_or_of_lt (i := 8) (b := b) (by omega) a
    rw [Nat.shiftLeft_eq] at this
    exact this.symm
  show IntKind.i64.wrap ((BitVec.ofInt 64 ((a : Int) * 256) ||| BitVec.ofInt 64 (b : Int)).toNat : Int) = _
  rw [show (a : Int) * 256 = ((a * 256 : Nat) : Int) by omega, BitVec.toNat_or, h1, h2, e, IntKind.wrap_i64]
  omega
/-- The number of k bytes behind the first. -/
def lv (s : ByteArray) : Nat → Int
  | 0 => 0
  | k + 1 => lv s k * 256 + bt s (k + 1)
theorem lv_bd (s : ByteArray) (k : Nat) (h : k ≤ 2) : 0 ≤ lv s k ∧ lv s k < 65536 := by
  have a := bt_bd s 1
  have b := bt_bd s 2
  match k, h with
  | 0, _ => simp [lv]
  | 1, _ => simp [lv]; omega
  | 2, _ => simp [lv]; omega
theorem lv_or (s : ByteArray) (k : Nat) (h : k < 2) : bits .or .i64 (lv s k * 256) (bt s (k + 1)) = lv s (k + 1) := by
  have a := bt_bd s 1
  have b := bt_bd s 2
  match k, h with
  | 0, _ => exact or_low8 0 (bt s 1) (by omega) (by omega) a
  | 1, _ => exact or_low8 (lv s 1) (bt s 2) (by simp [lv]; omega) (by simp [lv]; omega) b
theorem lv_bit (s : ByteArray) (k : Nat) (h : k < 2) : 0 ≤ lv s k ∧ lv s k < 256 := by
  have a := bt_bd s 1
  match k, h with
  | 0, _ => simp [lv]
  | 1, _ => simp [lv]; omega
end Go.Proofs.YtajdfjpcobaioaaGreatDoor
