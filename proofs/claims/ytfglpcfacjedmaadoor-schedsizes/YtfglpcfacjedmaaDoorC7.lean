/- Hashes: the pure functions, and what New, Fit, left and end answer. -/
import Derived.Test.YtfglpcfacjedmaaDoorC5
import Derived.Test.YtfglpcfacjedmaaDoorC6
import Derived.Test.YtfglpcfacjedmaaDoorP1
set_option linter.all false
set_option maxRecDepth 100000
namespace Go.Proofs.YtfglpcfacjedmaaDoor
open Go.RowKit Go.Sort
/-- The words behind k rounds. -/
def rs (B : Nat → Int) (y : Nat → Int) : Nat → Nat → Int
  | 0 => y
  | k + 1 => rd (kk k) (sW B k) (rs B y k)
/-- What a block makes of eight words. -/
def mixF (y : Nat → Int) (x : ByteArray) : Nat → Int := fun j => (y j + rs (bt x) y 64 j) % 4294967296
/-- What a text's whole blocks make. -/
def madeF (h : Nat → Int) (s : ByteArray) : Nat → Int := (upB s (s.size / 64)).foldl mixF h
theorem mixed_any (y : Nat → Int) (x : ByteArray) (w : World) (hT : Tab w) :
    Calls Tryd.prog 74 #[w8 y, .agg (swL (bt x)).toArray] w fun e w' => e = .returned (w8 (mixF y x)) ∧ Below w.heap.size w w' :=
  mixed_core y (swL (bt x)) kkL (sW (bt x)) kk (rs (bt x) y) (swL_len _) (swL_at _) kkL_len kkL_at (fun _ => rfl) (fun _ _ => rfl) w hT (fun W hW => (hT.bel hW).kr)
theorem made_any (h : Nat → Int) (s : ByteArray) (hs : s.size ≤ 281474976710656) (w : World) (hT : Tab w) :
    Calls Tryd.prog 57 #[w8 h, .string s] w fun e w' => e = .returned (w8 (madeF h s)) ∧ Below w.heap.size w w' :=
  made_core h s hs (fun x => (swL (bt x.1)).toArray) (fun y x => mixF y x.1) w hT (fun x W => spread_any x.1 x.2 W) (fun x y W hW => mixed_any y x.1 W hW) _
    (fun ys hys => by unfold madeF; rw [← hys, List.foldl_map])
/-- What is behind a text's whole blocks. -/
def lefB (s : ByteArray) : ByteArray := s.extract (s.size - s.size % 64) s.size
theorem lefB_size (s : ByteArray) : (lefB s).size = s.size % 64 := by unfold lefB; rw [ByteArray.size_extract]; omega
set_option maxHeartbeats 1000000 in
theorem left_any (s : ByteArray) (hs : s.size ≤ 281474976710656) (w : World) : Calls Tryd.prog 59 #[.string s] w fun e w' => e = .returned (.string (lefB s)) ∧ Below w.heap.size w w' := by
  obtain ⟨q, hq, hq2⟩ : ∃ q : Nat, (s.size : Int) - (s.size : Int) % 64 = (q : Int) ∧ q = s.size - s.size % 64 := ⟨s.size - s.size % 64, by omega, rfl⟩
  have q1 : (q : Int) ≤ (s.size : Int) := by omega
  have q0 : (0 : Int) ≤ (q : Int) := by omega
  have e : lefB s = s.extract q s.size := by rw [hq2]; rfl
  rw [e]
  clear e hq2
  go_enter Tryd.func59, Tryd.ntmps59
  go_wp2
  go_ret
  exact ⟨rfl, Below.refl _ _⟩
/-- A hash as the translation holds it. -/
def hv (h : Nat → Int) (L : ByteArray) (n : Int) : Value := .agg #[.int .u32 (h 0), .int .u32 (h 1), .int .u32 (h 2), .int .u32 (h 3), .int .u32 (h 4), .int .u32 (h 5), .int .u32 (h 6), .int .u32 (h 7), .string L, .int .u64 n]
/-- A hash's ten cells. -/
def hx (h : Nat → Int) (L : ByteArray) (n : Int) : Nat → Value
  | 8 => .string L
  | 9 => .int .u64 n
  | j => .int .u32 (h j)
theorem hx_at (h : Nat → Int) (L : ByteArray) (n : Int) (j : Nat) (hj : j < 10) : (#[.int .u32 (h 0), .int .u32 (h 1), .int .u32 (h 2), .int .u32 (h 3), .int .u32 (h 4), .int .u32 (h 5), .int .u32 (h 6), .int .u32 (h 7), .string L, .int .u64 n] : Array Value)[j]? = some (hx h L n j) := by
  have : j = 0 ∨ j = 1 ∨ j = 2 ∨ j = 3 ∨ j = 4 ∨ j = 5 ∨ j = 6 ∨ j = 7 ∨ j = 8 ∨ j = 9 := by omega
  rcases this with rfl | rfl | rfl | rfl | rfl | rfl | rfl | rfl | rfl | rfl <;> rfl
set_option maxHeartbeats 1000000 in
theorem new_any (w : World) (hT : Tab w) : Calls Tryd.prog 42 #[] w fun e w' => e = .returned (hv bgn ⟨#[]⟩ 0) ∧ Below w.heap.size w w' := by
  have c := fun o => (hT.al o).1
  unfold hv
  generalize bgn = g at *
  go_enter Tryd.func42, Tryd.ntmps42
  go_wp2
  refine bodyPost_ret (v := .agg #[.int .u32 (g 0), .int .u32 (g 1), .int .u32 (g 2), .int .u32 (g 3), .int .u32 (g 4), .int .u32 (g 5), .int .u32 (g 6), .int .u32 (g 7), .string ⟨#[]⟩, .int .u64 0]) (by simp [results, Tryd.results42, go_sem]) rfl ⟨rfl, ?_⟩
  go_grown
/-- How many zeros stand behind the mark. -/
def zc (L : ByteArray) : Nat := (119 - L.size % 64) % 64
/-- How many bits there were, as two words. -/
def cw (n : Int) (j : Nat) : Int := if j = 0 then n * 8 % 18446744073709551616 / 4294967296 else n * 8 % 18446744073709551616 % 4294967296
/-- What stands behind a text in its last blocks. -/
def endS (L : ByteArray) (n : Int) : ByteArray := (⟨#[128]⟩ ++ ⟨(List.replicate (zc L) (0 : UInt8)).toArray⟩ : ByteArray) ++ mkS (hfL (cw n) 2)
theorem rep_size (z : Nat) : (⟨(List.replicate z (0 : UInt8)).toArray⟩ : ByteArray).size = z := by
  show (List.replicate z (0 : UInt8)).toArray.size = z
  simp
set_option maxHeartbeats 2000000 in
theorem end_core (h : Nat → Int) (L R S T : ByteArray) (n c a b : Int) (z : Nat) (hL : L.size ≤ maxLen) (hz : z < 64) (hz2 : (128 - (L.size : Int) % 64 - 1 - 8) % 64 = (z : Int))
    (hc : IntKind.u64.wrap (8 * n) = c) (c0 : 0 ≤ c) (c1 : c < 18446744073709551616)
    (ha : c / 4294967296 = a) (hb : c % 4294967296 = b) (hR : R.size < 64) (hS : S.size = 8)
    (C40 : ∀ W, Calls Tryd.prog 38 #[.string ⟨#[0]⟩, .int .i64 z] W fun e w' => e = .returned (.string R) ∧ Below W.heap.size W w')
    (C34 : ∀ bk W, Arr W bk 2 (fun j => .int .u32 (if j = 0 then a else b)) → Calls Tryd.prog 61 #[.slice (some ⟨bk, 0, none⟩) 2 2] W fun e w' => e = .returned (.string S) ∧ Below W.heap.size W w')
    (hT : T = (⟨#[128]⟩ ++ R : ByteArray) ++ S) (w : World) :
    Calls Tryd.prog 60 #[hv h L n] w fun e w' => e = .returned (.string T) ∧ Below w.heap.size w w' := by
  unfold maxLen at hL
  unfold hv
  go_enter Tryd.func60, Tryd.ntmps60
  go_wp2_with fail
  refine (C40 _).mono ?_
  rintro e w1 ⟨rfl, hb1⟩
  have hB : Below w.heap.size w w1 := Bel.call (by go_grown) hb1
  clear hb1 C40
  go_wp2_with fail
  refine (C34 _ _ (Arr.new _ _ _ _ rfl _ 2 ?_)).mono ?_
  · intro j hj
    have : j = 0 ∨ j = 1 := by omega
    rcases this with rfl | rfl <;> rfl
  rintro e w2 ⟨rfl, hb2⟩
  have hB2 := Bel.call (Bel.al hB _) hb2
  clear hb2 C34
  go_wp2_with fail
  go_ret
  refine ⟨?_, hB2⟩
  rw [hT]
  rfl
theorem end_any (h : Nat → Int) (L : ByteArray) (n : Int) (hL : L.size ≤ maxLen) (w : World) :
    Calls Tryd.prog 60 #[hv h L n] w fun e w' => e = .returned (.string (endS L n)) ∧ Below w.heap.size w w' := by
  have wr : IntKind.u64.wrap (8 * n) = n * 8 % 18446744073709551616 := by rw [IntKind.wrap_u64]; omega
  refine end_core h L _ _ _ n _ _ _ (zc L) hL (by unfold zc; omega) ?_ wr (by omega) (by omega) rfl rfl ?_ ?_ (fun W => repeat_any (zc L) W (by unfold zc; omega)) (fun bk W hA => ?_) rfl w
  · unfold zc; omega
  · rw [rep_size]; unfold zc; omega
  · rw [mkS_size, hfL_len]
  · exact high_core (cw n) 2 bk (by omega) (by omega) _ rfl W hA
end Go.Proofs.YtfglpcfacjedmaaDoor
