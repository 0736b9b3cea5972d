/- What math/bits.Len64 answers. -/
import Derived.Laws.MathBits
import Derived.Test.YtgekafmojedlkaaJ2
set_option linter.all false
namespace Go.Proofs.Ytgekafmojedlkaa
open Go.RowKit
theorem len_leaf (x y : Int) (b n : Nat) (h0 : 0 ≤ x) (hy : y = x / 2 ^ b) (hy1 : y < 256) (hb : b ≤ 56) (hne : y ≠ 0 ∨ b = 0) (hn : n = bitLen y.toNat) : wrap64 ((b : Int) + wrap64 (n : Int)) = (bitLen x.toNat : Int) := by
  have h2 : (0 : Int) < 2 ^ b := Int.pow_pos (by omega)
  have y0 : 0 ≤ y := by rw [hy]; exact Int.ediv_nonneg h0 (Int.le_of_lt h2)
  have l := bitLen_le8 y.toNat (by omega)
  have e : y.toNat = x.toNat / 2 ^ b := by
    obtain ⟨X, rfl⟩ := Int.eq_ofNat_of_zero_le h0
    have : ((X : Int) / 2 ^ b) = ((X / 2 ^ b : Nat) : Int) := by simp
    rw [hy, this, Int.toNat_natCast, Int.toNat_natCast]
  have s : bitLen x.toNat = b + bitLen y.toNat := by
    rcases hne with h | h
    · rw [e]; exact bitLen_shift x.toNat b (by omega)
    · subst h; rw [e]; simp
  rw [s, hn]
  generalize bitLen y.toNat = m at *
  clear s e h2 hy hne hn
  simp only [wrap64]
  omega
set_option maxHeartbeats 4000000 in
set_option maxRecDepth 100000 in
theorem len64_any (x : Int) (h0 : 0 ≤ x) (h1 : x < 18446744073709551616) (w : World) :
    Calls Try.prog 92 #[.int .u64 x] w fun e w' => e = .returned (.int .i64 (bitLen x.toNat)) ∧ w' = w := by
  go_enter Try.func92, Try.ntmps92
  go_wp2
  all_goals go_ret
  all_goals refine ⟨congrArg Ending.returned (congrArg (Value.int IntKind.i64) ?_), rfl⟩
  all_goals rw [len8tab_get]
  all_goals first
    | exact len_leaf x (x / 4294967296 / 65536 / 256) 56 _ h0 (by omega) (by omega) (by omega) (by omega) rfl
    | exact len_leaf x (x / 4294967296 / 65536) 48 _ h0 (by omega) (by omega) (by omega) (by omega) rfl
    | exact len_leaf x (x / 4294967296 / 256) 40 _ h0 (by omega) (by omega) (by omega) (by omega) rfl
    | exact len_leaf x (x / 4294967296) 32 _ h0 (by omega) (by omega) (by omega) (by omega) rfl
    | exact len_leaf x (x / 65536 / 256) 24 _ h0 (by omega) (by omega) (by omega) (by omega) rfl
    | exact len_leaf x (x / 65536) 16 _ h0 (by omega) (by omega) (by omega) (by omega) rfl
    | exact len_leaf x (x / 256) 8 _ h0 (by omega) (by omega) (by omega) (by omega) rfl
    | (have L := len_leaf x x 0 _ h0 (by simp) (by omega) (by omega) (by omega) rfl; rw [show ((0 : Nat) : Int) = 0 from rfl, Int.zero_add] at L; exact L)
end Go.Proofs.Ytgekafmojedlkaa
