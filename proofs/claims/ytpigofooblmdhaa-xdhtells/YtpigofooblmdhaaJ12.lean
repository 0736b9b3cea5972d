/- What num's and the reference's Parse, FromBig and FromLittle answer, for any text, in one word each. -/
import Derived.Test.YtpigofooblmdhaaJ11
set_option linter.all false
set_option maxRecDepth 100000
namespace Go.Proofs.Ytpigofooblmdhaa
open Go.RowKit Go.Sort
theorem nv_nil : nv 0 = .agg #[.int .u64 0, .int .u64 0, .int .u64 0, .int .u64 0] := by
  have h : ∀ k, lim 0 k = 0 := fun k => by simp [lim]
  simp only [nv, h]
set_option maxHeartbeats 1000000 in
theorem fromLittle_no (s : ByteArray) (hs : s.size ≤ maxLen) (hn : s.size ≠ 32) (w : World) :
    Calls Try.prog 12 #[.string s] w fun e w' => e = .returned (.tuple #[.agg #[.int .u64 0, .int .u64 0, .int .u64 0, .int .u64 0], .int .i64 (lenE s.size 32)]) ∧ Below w.heap.size w w' := by
  have LE := fun W => lengthError_any s 32 hs W
  have ne : ¬ lenE (s.size : Int) 32 = 0 := by unfold lenE; split <;> (try split) <;> omega
  generalize lenE (s.size : Int) 32 = E at *
  go_enter Try.func12, Try.ntmps12
  go_wp2_with (go_at_call 48; refine (LE _).mono ?_; rintro e w1 ⟨rfl, rfl⟩)
  refine bodyPost_ret (v := .tuple #[.agg #[.int .u64 0, .int .u64 0, .int .u64 0, .int .u64 0], .int .i64 E]) (by simp [results, Try.results12, go_sem]) rfl ⟨rfl, ?_⟩
  go_grown
def flN (s : ByteArray) : Int := if s.size = 32 then pn 8 (fun i => bt s (31 - i)) 32 else 0
def fbN (s : ByteArray) : Int := if s.size = 32 then pn 8 (bt s) 32 else 0
def alldD (s : ByteArray) (k : Nat) : Decidable (alld s k) := Nat.decidableBallLT k (fun i _ => dgo (bt s i) = true)
def paN (s : ByteArray) : Int := @ite Int (s.size = 64 ∧ alld s 64) (@instDecidableAnd _ _ (Nat.decEq _ _) (alldD s 64)) (pn 4 (dg s) 64) 0
def paE (s : ByteArray) : Int := if s.size = 64 then (@ite Int (alld s 64) (alldD s 64) 0 10) else lenE s.size 64
theorem lenE_yes {n : Nat} {m : Int} (h : (n : Int) = m) : lenE n m = 0 := by unfold lenE; rw [if_neg (by omega), if_neg (by omega)]
theorem fromLittle_yes (s : ByteArray) (hs : s.size = 32) (w : World) :
    Calls Try.prog 12 #[.string s] w fun e w' => e = .returned (.tuple #[nv (pn 8 (fun i => bt s (31 - i)) 32), .int .i64 0]) ∧ Below w.heap.size w w' := by
  refine fromLittle_ok s hs _ (fun W => ?_) w
  have := fromBig_yes (mkS (tnL s)) (by rw [mkS_size]; simp [tnL]) W
  have e : pn 8 (bt (mkS (tnL s))) 32 = pn 8 (fun i => bt s (31 - i)) 32 := pn_congr 8 _ _ 32 fun i hi => by
    have b := bt_bd s (31 - i)
    rw [mkS_bt _ i _ (tnL_at _ i hi) b.1 b.2]
  rw [e] at this
  exact this
theorem fromLittle_u (s : ByteArray) (hs : s.size ≤ maxLen) (w : World) :
    Calls Try.prog 12 #[.string s] w fun e w' => e = .returned (.tuple #[nv (flN s), .int .i64 (lenE s.size 32)]) ∧ Below w.heap.size w w' := by
  unfold flN
  by_cases h : s.size = 32
  · rw [if_pos h, lenE_yes (by omega)]
    exact fromLittle_yes s h w
  · rw [if_neg h, nv_nil]
    exact fromLittle_no s hs h w
theorem refFromLittle_u (s : ByteArray) (hs : s.size ≤ maxLen) (w : World) :
    Calls Try.prog 13 #[.string s] w fun e w' => e = .returned (.tuple #[nv (flN s), .int .i64 (lenE s.size 32)]) ∧ Below w.heap.size w w' := by
  unfold flN
  by_cases h : s.size = 32
  · rw [if_pos h, lenE_yes (by omega)]
    exact refFromLittle_yes s h w
  · rw [if_neg h, nv_nil]
    exact refFromLittle_no s hs h w
theorem fromBig_u (s : ByteArray) (hs : s.size ≤ maxLen) (w : World) :
    Calls Try.prog 10 #[.string s] w fun e w' => e = .returned (.tuple #[nv (fbN s), .int .i64 (lenE s.size 32)]) ∧ Below w.heap.size w w' := by
  unfold fbN
  by_cases h : s.size = 32
  · rw [if_pos h, lenE_yes (by omega)]
    exact fromBig_yes s h w
  · rw [if_neg h, nv_nil]
    exact fromBig_no s hs h w
theorem refFromBig_u (s : ByteArray) (hs : (s.size : Int) ≤ 281474976710656) (w : World) :
    Calls Try.prog 11 #[.string s] w fun e w' => e = .returned (.tuple #[nv (fbN s), .int .i64 (lenE s.size 32)]) ∧ Below w.heap.size w w' := by
  unfold fbN
  by_cases h : s.size = 32
  · rw [if_pos h, lenE_yes (by omega)]
    exact refFromBig_yes s h w
  · rw [if_neg h, nv_nil]
    exact refFromBig_no s hs h w
theorem parse_u (s : ByteArray) (hs : s.size ≤ maxLen) (w : World) :
    Calls Try.prog 8 #[.string s] w fun e w' => e = .returned (.tuple #[nv (paN s), .int .i64 (paE s)]) ∧ Below w.heap.size w w' := by
  unfold paN paE
  by_cases h : s.size = 64
  · refine (parse_64 s h w).mono ?_
    rintro e w' ⟨⟨hall, rfl⟩ | ⟨hn, rfl⟩, hb⟩
    · refine ⟨?_, hb⟩
      rw [if_pos ⟨h, hall⟩, if_pos h, if_pos hall, show (64 : Nat) = 4 * 16 from rfl, nv_pb 4 16 (dg s) (by omega) (by omega) (dg_4 s)]
    · refine ⟨?_, hb⟩
      rw [if_neg (fun c => hn c.2), if_pos h, if_neg hn, nv_nil]
  · rw [if_neg (fun c => h c.1), if_neg h, nv_nil]
    exact parse_no s hs h w
theorem refParse_u (s : ByteArray) (hs : s.size ≤ maxLen) (w : World) :
    Calls Try.prog 9 #[.string s] w fun e w' => e = .returned (.tuple #[nv (paN s), .int .i64 (paE s)]) ∧ Below w.heap.size w w' := by
  unfold paN paE
  by_cases h : s.size = 64
  · refine (refParse_64 s h w).mono ?_
    rintro e w' ⟨⟨hall, rfl⟩ | ⟨hn, rfl⟩, hb⟩
    · refine ⟨?_, hb⟩
      rw [if_pos ⟨h, hall⟩, if_pos h, if_pos hall]
    · refine ⟨?_, hb⟩
      rw [if_neg (fun c => hn c.2), if_pos h, if_neg hn, nv_nil]
  · rw [if_neg (fun c => h c.1), if_neg h, nv_nil]
    exact refParse_no s hs h w
end Go.Proofs.Ytpigofooblmdhaa
