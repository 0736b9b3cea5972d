/- What Read tells, in one word. -/
import Derived.Test.YtajdfjpcobaioaaGreatDoorD4
set_option linter.all false
set_option maxRecDepth 100000
namespace Go.Proofs.YtajdfjpcobaioaaGreatDoor
open Go.RowKit Go.Sort
theorem ext_to (s : ByteArray) (a b c : Nat) (hb : a + b ≤ a + c) (hc : a + c ≤ s.size) : (s.extract a s.size).extract b c = s.extract (a + b) (a + c) := by
  apply ba_ext
  rw [ext_list, ext_list, ext_list, List.drop_take, List.take_take, List.drop_drop]
  congr 1
  omega
theorem ext_sz (s : ByteArray) (a b : Nat) (h : b ≤ s.size) : (s.extract a b).size = b - a := by
  rw [ByteArray.size_extract]; omega
/-- How many bytes stand ahead. -/
def rdH (s : ByteArray) : Nat := if bt s 1 < 128 then 2 else if bt s 1 = 129 then 3 else 4
/-- How many there are. -/
def rdN (s : ByteArray) : Nat := (if bt s 1 < 128 then bt s 1 else if bt s 1 = 129 then bt s 2 else bt s 2 * 256 + bt s 3).toNat
/-- Read's error. -/
def rdE (s : ByteArray) : Int := if s.size < 2 then 11 else if bt s 1 = 128 ∨ 130 < bt s 1 then 10 else if s.size < rdH s then 11 else if (lenL (rdN s)).length < rdH s - 1 then 10 else if s.size < rdH s + rdN s then 11 else 0
def rdR (s : ByteArray) : Value := if rdE s = 0 then .tuple #[tlv (bt s 0) (s.extract (rdH s) (rdH s + rdN s)), .string (s.extract (rdH s + rdN s) s.size), .int .i64 0] else .tuple #[tlv 0 ⟨#[]⟩, .string ⟨#[]⟩, .int .i64 (rdE s)]
theorem lv_1 (s : ByteArray) : lv s 1 = bt s 1 := by simp [lv]
theorem lv_2 (s : ByteArray) : lv s 2 = bt s 1 * 256 + bt s 2 := by simp [lv]
/- There and back. -/
theorem lenL_bd (n : Nat) (h : n < 65536) : ∀ x ∈ lenL n, 0 ≤ x ∧ x < 256 := by
  intro x hx
  unfold lenL at hx
  split at hx
  · simp at hx; omega
  · split at hx <;> simp at hx <;> omega
end Go.Proofs.YtajdfjpcobaioaaGreatDoor
