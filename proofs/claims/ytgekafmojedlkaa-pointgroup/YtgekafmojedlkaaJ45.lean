/- What num's and the reference's Parse, FromBig and FromLittle answer, for any text, in one word each. -/
import Derived.Test.YtgekafmojedlkaaJ44
import Derived.Test.YtgekafmojedlkaaJ9
import Derived.Test.YtgekafmojedlkaaJ20
set_option linter.all false
set_option maxRecDepth 100000
namespace Go.Proofs.Ytgekafmojedlkaa
open Go.RowKit Go.Sort
theorem nv_nil : nv 0 = .agg #[.int .u64 0, .int .u64 0, .int .u64 0, .int .u64 0] := by
  have h : ∀ k, lim 0 k = 0 := fun k => by simp [lim]
  simp only [nv, h]
/-- The number of 32 bytes, the lowest first. -/
def flN (s : ByteArray) : Int := if s.size = 32 then pn 8 (fun i => bt s (31 - i)) 32 else 0
/-- The number of 32 bytes, the highest first. -/
def fbN (s : ByteArray) : Int := if s.size = 32 then pn 8 (bt s) 32 else 0
theorem lenE_yes {n : Nat} {m : Int} (h : (n : Int) = m) : lenE n m = 0 := by unfold lenE; rw [if_neg (by omega), if_neg (by omega)]
theorem refFromLittle_u (s : ByteArray) (hs : s.size ≤ maxLen) (w : World) :
    Calls Try.prog 43 #[.string s] w fun e w' => e = .returned (.tuple #[nv (flN s), .int .i64 (lenE s.size 32)]) ∧ Below w.heap.size w w' := by
  unfold flN
  by_cases h : s.size = 32
  · rw [if_pos h, lenE_yes (by omega)]
    exact refFromLittle_yes s h w
  · rw [if_neg h, nv_nil]
    exact refFromLittle_no s hs h w
theorem fromBig_u (s : ByteArray) (hs : s.size ≤ maxLen) (w : World) :
    Calls Try.prog 42 #[.string s] w fun e w' => e = .returned (.tuple #[nv (fbN s), .int .i64 (lenE s.size 32)]) ∧ Below w.heap.size w w' := by
  unfold fbN
  by_cases h : s.size = 32
  · rw [if_pos h, lenE_yes (by omega)]
    exact fromBig_yes s h w
  · rw [if_neg h, nv_nil]
    exact fromBig_no s hs h w
theorem refFromBig_u (s : ByteArray) (hs : (s.size : Int) ≤ 281474976710656) (w : World) :
    Calls Try.prog 23 #[.string s] w fun e w' => e = .returned (.tuple #[nv (fbN s), .int .i64 (lenE s.size 32)]) ∧ Below w.heap.size w w' := by
  unfold fbN
  by_cases h : s.size = 32
  · rw [if_pos h, lenE_yes (by omega)]
    exact refFromBig_yes s h w
  · rw [if_neg h, nv_nil]
    exact refFromBig_no s hs h w
end Go.Proofs.Ytgekafmojedlkaa
