/- Lengths as they stand ahead; whether a tag can be written; Write. -/
import Derived.Test.YtjdpeedghpblgaaGreatDoorB3
set_option linter.all false
set_option maxRecDepth 100000
namespace Go.Proofs.YtjdpeedghpblgaaGreatDoor
open Go.RowKit Go.Sort
theorem Bel.drew {w W : World} (h : Below w.heap.size w W) : Below w.heap.size w W.drew := ⟨h.os, h.tape, h.output, h.size, h.block⟩
def lenL (n : Int) : List Int := if n < 128 then [n] else if n < 256 then [129, n] else [130, n / 256, n % 256]
theorem len_1 (n : Int) (h0 : 0 ≤ n) (h1 : n < 128) (w : World) : Calls Tryz.prog 106 #[.int .i64 n] w fun e w' => e = .returned (.string (mkS [n])) ∧ w' = w.alloc (.cells #[.int .u8 n] 5) := by
  have cv := convC (w.alloc (.cells #[.int .u8 n] 5)) w.heap.size 1 1 [n] rfl (news_new w [.int .u8 n] 5)
  have e : n % 256 = n := by omega
  generalize mkS [n] = S at *
  go_enter Tryz.func106, Tryz.ntmps106
  go_wp2_with fail
  go_ret
  exact ⟨rfl, rfl⟩
theorem len_2 (n : Int) (h0 : 128 ≤ n) (h1 : n < 256) (w : World) : Calls Tryz.prog 106 #[.int .i64 n] w fun e w' => e = .returned (.string (mkS [129, n])) ∧ w' = w.alloc (.cells #[.int .u8 129, .int .u8 n] 5) := by
  have cv := convC (w.alloc (.cells #[.int .u8 129, .int .u8 n] 5)) w.heap.size 2 2 [129, n] rfl (news_new w [.int .u8 129, .int .u8 n] 5)
  have e : n % 256 = n := by omega
  generalize mkS [129, n] = S at *
  go_enter Tryz.func106, Tryz.ntmps106
  go_wp2_with fail
  go_ret
  exact ⟨rfl, rfl⟩
theorem len_3 (n : Int) (h0 : 256 ≤ n) (h1 : n < 65536) (w : World) : Calls Tryz.prog 106 #[.int .i64 n] w fun e w' => e = .returned (.string (mkS [130, n / 256, n % 256])) ∧ w' = w.alloc (.cells #[.int .u8 130, .int .u8 (n / 256), .int .u8 (n % 256)] 5) := by
  have cv := convC (w.alloc (.cells #[.int .u8 130, .int .u8 (n / 256), .int .u8 (n % 256)] 5)) w.heap.size 3 3 [130, n / 256, n % 256] rfl (news_new w [.int .u8 130, .int .u8 (n / 256), .int .u8 (n % 256)] 5)
  have e : n / 256 % 256 = n / 256 := by omega
  generalize mkS [130, n / 256, n % 256] = S at *
  go_enter Tryz.func106, Tryz.ntmps106
  go_wp2_with fail
  go_ret
  exact ⟨rfl, rfl⟩
theorem length_al (n : Int) (h0 : 0 ≤ n) (h1 : n < 65536) : ∃ o : Obj, ∀ w : World, Calls Tryz.prog 106 #[.int .i64 n] w fun e w' => e = .returned (.string (mkS (lenL n))) ∧ w' = w.alloc o := by
  unfold lenL
  by_cases a : n < 128
  · rw [if_pos a]; exact ⟨_, len_1 n h0 a⟩
  · rw [if_neg a]
    by_cases b : n < 256
    · rw [if_pos b]; exact ⟨_, len_2 n (by omega) b⟩
    · rw [if_neg b]; exact ⟨_, len_3 n (by omega) h1⟩
theorem lenL_le (n : Int) : (lenL n).length ≤ 3 := by unfold lenL; split <;> (try split) <;> simp
def tagB (t : Int) : Bool := decide (0 ≤ t) && decide (t < 256)
theorem isTag_any (t : Int) (w : World) : Calls Tryz.prog 104 #[.int .i64 t] w fun e w' => e = .returned (.bool (tagB t)) ∧ w' = w := by
  unfold tagB
  by_cases a : 0 ≤ t <;> by_cases b : t < 256 <;>
  · go_enter Tryz.func104, Tryz.ntmps104
    go_wp2_with fail
    go_ret
    simp [a, b]
def wrE (t : Int) (n : Nat) : Int := if tagB t then (if 65535 < (n : Int) then 12 else 0) else 13
theorem refused_any (t : Int) (b : ByteArray) (hb : b.size ≤ maxLen) (w : World) : Calls Tryz.prog 103 #[.agg #[.int .i64 t, .string b]] w fun e w' => e = .returned (.int .i64 (wrE t b.size)) ∧ Below w.heap.size w w' := by
  have C := fun W => isTag_any t W
  unfold wrE
  generalize tagB t = z at *
  cases z <;> by_cases a : 65535 < (b.size : Int) <;>
  · go_enter Tryz.func103, Tryz.ntmps103
    go_wp2_with (go_at_call 104; refine (C _).mono ?_; rintro e w1 ⟨rfl, rfl⟩)
    go_ret
    refine ⟨by simp [a], by go_grown⟩
end Go.Proofs.YtjdpeedghpblgaaGreatDoor
