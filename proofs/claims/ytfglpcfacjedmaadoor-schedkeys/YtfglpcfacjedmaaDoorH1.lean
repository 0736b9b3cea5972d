/- hkdf's small functions: byteOf, counted; what they answer. -/
import Derived.Test.YtfglpcfacjedmaaDoorC6
set_option linter.all false
set_option maxRecDepth 100000
namespace Go.Proofs.YtfglpcfacjedmaaDoor
open Go.RowKit Go.Sort
/-- A number's lowest byte as a text. -/
def by1 (n : Int) : ByteArray := mkS [n % 256]
theorem by1_size (n : Int) : (by1 n).size = 1 := by unfold by1; rw [mkS_size]; rfl
theorem byteOf_any (n : Int) (w : World) : Calls Tryd.prog 62 #[.int .i64 n] w fun e w' => e = .returned (.string (by1 n)) ∧ Below w.heap.size w w' := by
  have cv := convC (w.alloc (.cells #[.int .u8 (n % 256)] 5)) w.heap.size 1 1 [n % 256] rfl (news_new w [.int .u8 (n % 256)] 5)
  unfold by1
  generalize mkS [n % 256] = S at *
  go_enter Tryd.func62, Tryd.ntmps62
  go_wp2_with fail
  go_ret
  exact ⟨rfl, by go_grown⟩
/-- A text with a byte ahead that tells its length. -/
def ctS (s : ByteArray) : ByteArray := by1 s.size ++ s
theorem ctS_size (s : ByteArray) : (ctS s).size = 1 + s.size := by unfold ctS; rw [ByteArray.size_append, by1_size]
theorem counted_any (s : ByteArray) (hs : s.size ≤ 100000) (w : World) : Calls Tryd.prog 63 #[.string s] w fun e w' => e = .returned (.string (ctS s)) ∧ Below w.heap.size w w' := by
  have C := fun W => byteOf_any (s.size : Int) W
  have z := by1_size (s.size : Int)
  unfold ctS
  generalize by1 (s.size : Int) = b at *
  go_enter Tryd.func63, Tryd.ntmps63
  go_wp2_with (go_at_call 62; refine (C _).mono ?_; rintro e w1 ⟨rfl, hb⟩)
  go_ret
  exact ⟨rfl, hb⟩
end Go.Proofs.YtfglpcfacjedmaaDoor
