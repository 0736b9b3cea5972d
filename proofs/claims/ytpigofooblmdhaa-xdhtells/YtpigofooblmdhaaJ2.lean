/- Texts joined: B0, B1, N8, N7, N9, N10, M1, M2, N3, N4, N5, B2, N11, K7, F0. -/
import Derived.WalkKit
import Derived.WalkSpells
import Derived.WalkLawsBesides
import Derived.Handy
import Derived.Laws.Externs
import Derived.Laws.MathBits
import Derived.Laws.BitsAllLaws
import Derived.Lib.QuietBelow
import Derived.BigQuiet
import Derived.Deep.RegionHeld3
import Derived.RangeFuncFrom
import Derived.RangeFuncNested
import Derived.RangeFuncBound
import Derived.RangeFuncCalls
import Derived.RangeFuncLeaves
import Derived.Shelf.Abstract
import Derived.Shelf.RegionOpen
import Derived.OwnWalkIn
import Derived.TacticsInMore
import Derived.LoopNIn
import Derived.LoopIn
import Derived.ProofKit
import Derived.OpenShut
import Derived.ShutString
import Derived.ChangeOld
import Derived.Below
import Derived.Laws.IdiomArrays
import Derived.Test.YtpigofooblmdhaaRows
set_option linter.all false
namespace Go.Proofs.Ytpigofooblmdhaa
open Go.RowKit
def lim (N : Int) (k : Nat) : Int := N / (18446744073709551616 ^ k) % 18446744073709551616
theorem lim0 (N : Int) : lim N 0 = N % 18446744073709551616 := by simp [lim]
theorem lim1 (N : Int) : lim N 1 = N / 18446744073709551616 % 18446744073709551616 := by simp [lim]
theorem lim2 (N : Int) : lim N 2 = N / 340282366920938463463374607431768211456 % 18446744073709551616 := by simp [lim]
theorem lim3 (N : Int) : lim N 3 = N / 6277101735386680763835789423207666416102355444464034512896 % 18446744073709551616 := by simp [lim]
theorem lim4 (N : Int) : lim N 4 = N / 115792089237316195423570985008687907853269984665640564039457584007913129639936 % 18446744073709551616 := by simp [lim]
theorem lim_nn (N : Int) (k : Nat) : 0 ≤ lim N k := by unfold lim; omega
theorem lim_lt (N : Int) (k : Nat) : lim N k < 18446744073709551616 := by unfold lim; omega
def V4 (a b c d : Int) : Int := a + 18446744073709551616 * b + 340282366920938463463374607431768211456 * c + 6277101735386680763835789423207666416102355444464034512896 * d
theorem lims_of {N s0 s1 s2 s3 q : Int} (h0 : 0 ≤ s0) (h0' : s0 < 18446744073709551616) (h1 : 0 ≤ s1) (h1' : s1 < 18446744073709551616) (h2 : 0 ≤ s2) (h2' : s2 < 18446744073709551616) (h3 : 0 ≤ s3) (h3' : s3 < 18446744073709551616)
    (h : N = V4 s0 s1 s2 s3 + 115792089237316195423570985008687907853269984665640564039457584007913129639936 * q) : lim N 0 = s0 ∧ lim N 1 = s1 ∧ lim N 2 = s2 ∧ lim N 3 = s3 := by
  rw [lim0, lim1, lim2, lim3]
  unfold V4 at h
  omega
theorem V4_lim (N : Int) (h0 : 0 ≤ N) (h1 : N < 115792089237316195423570985008687907853269984665640564039457584007913129639936) : V4 (lim N 0) (lim N 1) (lim N 2) (lim N 3) = N := by
  rw [lim0, lim1, lim2, lim3]; unfold V4; omega
theorem V4_bd {a b c d : Int} (h0 : 0 ≤ a) (h0' : a < 18446744073709551616) (h1 : 0 ≤ b) (h1' : b < 18446744073709551616) (h2 : 0 ≤ c) (h2' : c < 18446744073709551616) (h3 : 0 ≤ d) (h3' : d < 18446744073709551616) :
    0 ≤ V4 a b c d ∧ V4 a b c d < 115792089237316195423570985008687907853269984665640564039457584007913129639936 := by unfold V4; omega
abbrev nv (N : Int) : Value := .agg #[.int .u64 (lim N 0), .int .u64 (lim N 1), .int .u64 (lim N 2), .int .u64 (lim N 3)]
def top256 : Int := 115792089237316195423570985008687907853269984665640564039457584007913129639936
theorem run45 (x y c : Int) (hx : 0 ≤ x) (hy : 0 ≤ y) (hc0 : 0 ≤ c) (hc : c ≤ 1) (w : World) :
    (callFunc 84 #[.int .u64 x, .int .u64 y, .int .u64 c]).run Try.prog w =
      .ok (.value (.tuple #[.int .u64 ((x + y + c) % 18446744073709551616), .int .u64 ((x + y + c) / 18446744073709551616)])) w := by
  rw [run_callFunc_extern (fn := Try.f84) (by kernel_rfl) (by kernel_rfl) (by kernel_rfl) (by kernel_rfl) (e := add64Entry) (by kernel_rfl), run_add64 x y c hx hy hc0 hc]
  rfl
theorem ex45 (x y c : Int) (hx : 0 ≤ x) (hx1 : x < 18446744073709551616) (hy : 0 ≤ y) (hy1 : y < 18446744073709551616) (hc0 : 0 ≤ c) (hc : c ≤ 1) :
    ∃ s d : Int, 0 ≤ s ∧ s < 18446744073709551616 ∧ 0 ≤ d ∧ d ≤ 1 ∧ x + y + c = s + 18446744073709551616 * d ∧ ∀ w, (callFunc 84 #[.int .u64 x, .int .u64 y, .int .u64 c]).run Try.prog w = .ok (.value (.tuple #[.int .u64 s, .int .u64 d])) w :=
  ⟨_, _, by omega, by omega, by omega, by omega, by omega, fun w => run45 x y c hx hy hc0 hc w⟩
def sub64E : Array Value → Sem Value := fun args => do
  let (x, y, b) ← Extern.MathBitsCarry.three "Sub64" args
  pure (Extern.MathBitsCarry.pair ((x + Extern.MathBitsCarry.m64 - y - b) % Extern.MathBitsCarry.m64) (if x < y + b then 1 else 0))
theorem run_sub64E (x y b : Nat) (hb : b ≤ 1) (w : World) :
    (sub64E #[.int .u64 x, .int .u64 y, .int .u64 b]).run Try.prog w =
      .ok (.tuple #[.int .u64 (((x + 18446744073709551616 - y - b) % 18446744073709551616 : Nat) : Int), .int .u64 ((if x < y + b then 1 else 0 : Nat) : Int)]) w := by
  have : b = 0 ∨ b = 1 := by omega
  rcases this with rfl | rfl <;> rfl
theorem ex47 (x y c : Int) (hx : 0 ≤ x) (hx1 : x < 18446744073709551616) (hy : 0 ≤ y) (hy1 : y < 18446744073709551616) (hc0 : 0 ≤ c) (hc : c ≤ 1) :
    ∃ s d : Int, 0 ≤ s ∧ s < 18446744073709551616 ∧ 0 ≤ d ∧ d ≤ 1 ∧ x - y - c = s - 18446744073709551616 * d ∧ ∀ w, (callFunc 94 #[.int .u64 x, .int .u64 y, .int .u64 c]).run Try.prog w = .ok (.value (.tuple #[.int .u64 s, .int .u64 d])) w := by
  obtain ⟨X, rfl⟩ := Int.eq_ofNat_of_zero_le hx
  obtain ⟨Y, rfl⟩ := Int.eq_ofNat_of_zero_le hy
  obtain ⟨C, rfl⟩ := Int.eq_ofNat_of_zero_le hc0
  refine ⟨(((X + 18446744073709551616 - Y - C) % 18446744073709551616 : Nat) : Int), ((if X < Y + C then 1 else 0 : Nat) : Int), by omega, by omega, by omega, ?_, ?_, fun w => ?_⟩
  · split <;> simp
  · split <;> omega
  · rw [run_callFunc_extern (fn := Try.f94) (by kernel_rfl) (by kernel_rfl) (by kernel_rfl) (by kernel_rfl) (e := sub64E) (by kernel_rfl), run_sub64E X Y C (by omega)]
    rfl
theorem idx24_0 (v0 v1 v2 v3 : Int) (w : World) : (Instr.index 24 (.agg #[.int .u64 v0, .int .u64 v1, .int .u64 v2, .int .u64 v3]) (.int .i64 0)).run Try.prog w = .ok (.int .u64 v0) w := by kernel_rfl
theorem idx24_1 (v0 v1 v2 v3 : Int) (w : World) : (Instr.index 24 (.agg #[.int .u64 v0, .int .u64 v1, .int .u64 v2, .int .u64 v3]) (.int .i64 1)).run Try.prog w = .ok (.int .u64 v1) w := by kernel_rfl
theorem idx24_2 (v0 v1 v2 v3 : Int) (w : World) : (Instr.index 24 (.agg #[.int .u64 v0, .int .u64 v1, .int .u64 v2, .int .u64 v3]) (.int .i64 2)).run Try.prog w = .ok (.int .u64 v2) w := by kernel_rfl
theorem idx24_3 (v0 v1 v2 v3 : Int) (w : World) : (Instr.index 24 (.agg #[.int .u64 v0, .int .u64 v1, .int .u64 v2, .int .u64 v3]) (.int .i64 3)).run Try.prog w = .ok (.int .u64 v3) w := by kernel_rfl
end Go.Proofs.Ytpigofooblmdhaa
namespace Go.Proofs.Ytpigofooblmdhaa
open Go.RowKit
def Arr (w : World) (b n : Nat) (f : Nat → Value) : Prop := ∀ j, j < n → w.cell? ⟨b, j, none⟩ = some (f j) ∧ w.frozen? ⟨b, j, none⟩ = false
theorem Arr.c {w : World} {b n : Nat} {f : Nat → Value} (h : Arr w b n f) (j : Nat) (hj : j < n) : w.cell? ⟨b, j, none⟩ = some (f j) := (h j hj).1
theorem Arr.z {w : World} {b n : Nat} {f : Nat → Value} (h : Arr w b n f) (j : Nat) (hj : j < n) : w.frozen? ⟨b, j, none⟩ = false := (h j hj).2
theorem Arr.below {w w' : World} {b n B : Nat} {f : Nat → Value} (h : Arr w b n f) (hb : Below B w w') (hlt : b < B) : Arr w' b n f := fun j hj =>
  ⟨(hb.cell (p := ⟨b, j, none⟩) hlt).trans (h j hj).1, (hb.frozen (p := ⟨b, j, none⟩) hlt).trans (h j hj).2⟩
theorem Arr.set {w : World} {b n : Nat} {f : Nat → Value} (h : Arr w b n f) (k : Nat) (hk : k < n) (v : Value) : Arr (w.setCell ⟨b, k, none⟩ v) b n (fun j => if j = k then v else f j) := fun j hj => by
  refine ⟨?_, by rw [World.frozen?_setCell]; exact (h j hj).2⟩
  by_cases e : j = k
  · subst e; show _ = some (if j = j then v else f j); rw [if_pos rfl]; exact World.cell?_setCell_same _ _ _ (h j hj).1
  · show _ = some (if j = k then v else f j); rw [if_neg e, World.cell?_setCell_other _ _ _ _ (by intro hh; injection hh with _ h2; exact e h2.symm)]; exact (h j hj).1
theorem Arr.other {w : World} {b n : Nat} {f : Nat → Value} (h : Arr w b n f) {b' k : Nat} (hne : b' ≠ b) (v : Value) : Arr (w.setCell ⟨b', k, none⟩ v) b n f := fun j hj =>
  ⟨by rw [World.cell?_setCell_other _ _ _ _ (by intro hh; injection hh with h1 _; exact hne h1)]; exact (h j hj).1, by rw [World.frozen?_setCell]; exact (h j hj).2⟩
theorem Arr.alloc {w : World} {b n : Nat} {f : Nat → Value} (h : Arr w b n f) (hlt : b < w.heap.size) (o : Obj) : Arr (w.alloc o) b n f := fun j hj =>
  ⟨(World.cell?_alloc_past (w := w) o b j hlt).trans (h j hj).1, (World.frozen?_alloc_past (w := w) o b j hlt).trans (h j hj).2⟩
theorem Arr.drew {w : World} {b n : Nat} {f : Nat → Value} (h : Arr w b n f) : Arr w.drew b n f := h
theorem Arr.new (w : World) (c : Array Value) (T : TypeId) (b : Nat) (hb : b = w.heap.size) (f : Nat → Value) (n : Nat) (hf : ∀ j, j < n → c[j]? = some (f j)) : Arr (w.alloc (.cells c T)) b n f := fun j hj =>
  ⟨(World.cell?_alloc_at (w := w) c T b j hb).trans (hf j hj), World.frozen?_alloc_at (w := w) c T b j hb⟩
theorem Arr.congr {w : World} {b n : Nat} {f g : Nat → Value} (h : Arr w b n f) (e : ∀ j, j < n → f j = g j) : Arr w b n g := fun j hj => ⟨(h j hj).1.trans (by rw [e j hj]), (h j hj).2⟩
theorem size_set (w : World) (a : Addr) (v : Value) : (w.setCell a v).heap.size = w.heap.size := by simp [World.setCell]
end Go.Proofs.Ytpigofooblmdhaa
namespace Go.Proofs.Ytpigofooblmdhaa
open Go.RowKit
theorem len_leaf (x y : Int) (b n : Nat) (h0 : 0 ≤ x) (hy : y = x / 2 ^ b) (hy1 : y < 256) (hb : b ≤ 56) (hne : y ≠ 0 ∨ b = 0) (hn : n = bitLen y.toNat) : wrap64 ((b : Int) + wrap64 (n : Int)) = (bitLen x.toNat : Int) := by
  have h2 : (0 : Int) < 2 ^ b := Int.pow_pos (by omega)
  have y0 : 0 ≤ y := by rw [hy]; exact Int.ediv_nonneg h0 (Int.le_of_lt h2)
  have l := bitLen_le8 y.toNat (by omega)
  have e : y.toNat = x.toNat / 2 ^ b := by
    obtain ⟨X, rfl⟩ := Int.eq_ofNat_of_zero_le h0
    have : ((X : Int) / 2 ^ b) = ((X / 2 ^ b : Nat) : Int) := by simp
    rw [hy, this, Int.toNat_natCast, Int.toNat_natCast]
  have s : bitLen x.toNat = b + bitLen y.toNat := by
    rcases hne with h | h
    · rw [e]; exact bitLen_shift x.toNat b (by omega)
    · subst h; rw [e]; simp
  rw [s, hn]
  generalize bitLen y.toNat = m at *
  clear s e h2 hy hne hn
  simp only [wrap64]
  omega
set_option maxHeartbeats 4000000 in
set_option maxRecDepth 100000 in
theorem len64_any (x : Int) (h0 : 0 ≤ x) (h1 : x < 18446744073709551616) (w : World) :
    Calls Try.prog 91 #[.int .u64 x] w fun e w' => e = .returned (.int .i64 (bitLen x.toNat)) ∧ w' = w := by
  go_enter Try.func91, Try.ntmps91
  go_wp2
  all_goals go_ret
  all_goals refine ⟨congrArg Ending.returned (congrArg (Value.int IntKind.i64) ?_), rfl⟩
  all_goals rw [len8tab_get]
  all_goals first
    | exact len_leaf x (x / 4294967296 / 65536 / 256) 56 _ h0 (by omega) (by omega) (by omega) (by omega) rfl
    | exact len_leaf x (x / 4294967296 / 65536) 48 _ h0 (by omega) (by omega) (by omega) (by omega) rfl
    | exact len_leaf x (x / 4294967296 / 256) 40 _ h0 (by omega) (by omega) (by omega) (by omega) rfl
    | exact len_leaf x (x / 4294967296) 32 _ h0 (by omega) (by omega) (by omega) (by omega) rfl
    | exact len_leaf x (x / 65536 / 256) 24 _ h0 (by omega) (by omega) (by omega) (by omega) rfl
    | exact len_leaf x (x / 65536) 16 _ h0 (by omega) (by omega) (by omega) (by omega) rfl
    | exact len_leaf x (x / 256) 8 _ h0 (by omega) (by omega) (by omega) (by omega) rfl
    | (have L := len_leaf x x 0 _ h0 (by simp) (by omega) (by omega) (by omega) rfl; rw [show ((0 : Nat) : Int) = 0 from rfl, Int.zero_add] at L; exact L)
end Go.Proofs.Ytpigofooblmdhaa
namespace Go.Proofs.Ytpigofooblmdhaa
open Go.RowKit
attribute [local go_sem] idx24_0 idx24_1 idx24_2 idx24_3
def sg (x y : Int) : Int := if x < y then -1 else if y < x then 1 else 0
set_option maxHeartbeats 1000000 in
theorem compare_any (x y : Int) (w : World) : Calls Try.prog 95 #[.int .u64 x, .int .u64 y] w fun e w' => e = .returned (.int .i64 (sg x y)) ∧ w' = w := by
  unfold sg
  by_cases h : x < y
  · rw [if_pos h]
    go_enter Try.func95, Try.ntmps95
    go_wp2
    go_returns
    exact ⟨rfl, rfl⟩
  · rw [if_neg h]
    by_cases h2 : y < x
    · rw [if_pos h2]
      go_enter Try.func95, Try.ntmps95
      go_wp2
      go_returns
      exact ⟨rfl, rfl⟩
    · rw [if_neg h2]
      go_enter Try.func95, Try.ntmps95
      go_wp2
      go_returns
      exact ⟨rfl, rfl⟩
end Go.Proofs.Ytpigofooblmdhaa
namespace Go.Proofs.Ytpigofooblmdhaa
open Go.RowKit
attribute [local go_sem] idx24_0 idx24_1 idx24_2 idx24_3
def cm (A B : Int) (k : Nat) : Int := sg (A % 18446744073709551616 ^ k) (B % 18446744073709551616 ^ k)
theorem sg_zero {x y : Int} (h : sg x y = 0) : x = y := by
  unfold sg at h
  by_cases h1 : x < y
  · rw [if_pos h1] at h; omega
  · rw [if_neg h1] at h
    by_cases h2 : y < x
    · rw [if_pos h2] at h; omega
    · omega
theorem sg_same {x y x' y' : Int} (h1 : x < y ↔ x' < y') (h2 : y < x ↔ y' < x') : sg x y = sg x' y' := by
  unfold sg; simp only [h1, h2]
theorem mod_split (A P : Int) (hP : 0 < P) : A % (P * 18446744073709551616) = A % P + P * (A / P % 18446744073709551616) := by
  have e1 := Int.mul_ediv_add_emod A P
  have e2 := Int.mul_ediv_add_emod (A / P) 18446744073709551616
  have h0 := Int.emod_nonneg A (Int.ne_of_gt hP)
  have h1 := Int.emod_lt_of_pos A hP
  have g0 : 0 ≤ A / P % 18446744073709551616 := by omega
  have g1 : A / P % 18446744073709551616 < 18446744073709551616 := by omega
  have e : A = (A % P + P * (A / P % 18446744073709551616)) + P * 18446744073709551616 * (A / P / 18446744073709551616) := by
    generalize A / P % 18446744073709551616 = u at *
    generalize A / P / 18446744073709551616 = v at *
    generalize A / P = q at *
    generalize A % P = r at *
    subst e2; grind
  generalize A / P % 18446744073709551616 = u at *
  generalize A / P / 18446744073709551616 = v at *
  generalize A % P = r at *
  rw [e, Int.add_mul_emod_self_left]
  refine Int.emod_eq_of_lt (Int.add_nonneg h0 (Int.mul_nonneg (Int.le_of_lt hP) g0)) ?_
  have h2 : P * (u + 1) ≤ P * 18446744073709551616 := Int.mul_le_mul_of_nonneg_left (by omega) (Int.le_of_lt hP)
  have h3 : P * (u + 1) = P * u + P := by grind
  omega
theorem lt_parts {P a b u v : Int} (hP : 0 < P) (ha : 0 ≤ a) (ha' : a < P) (hb : 0 ≤ b) (hb' : b < P) (h : u ≠ v) : a + P * u < b + P * v ↔ u < v := by
  constructor
  · intro h1
    by_cases c : u < v
    · exact c
    · have h2 : P * (v + 1) ≤ P * u := Int.mul_le_mul_of_nonneg_left (by omega) (Int.le_of_lt hP)
      have h3 : P * (v + 1) = P * v + P := by grind
      omega
  · intro c
    have h2 : P * (u + 1) ≤ P * v := Int.mul_le_mul_of_nonneg_left (by omega) (Int.le_of_lt hP)
    have h3 : P * (u + 1) = P * u + P := by grind
    omega
theorem cm_step0 (A B : Int) (k : Nat) (h : sg (lim A k) (lim B k) = 0) : cm A B (k + 1) = cm A B k := by
  have e := sg_zero h
  unfold lim at e
  unfold cm
  have hp : (0 : Int) < 18446744073709551616 ^ k := Int.pow_pos (by omega)
  rw [Int.pow_succ, mod_split A _ hp, mod_split B _ hp, e]
  apply sg_same <;> omega
theorem cm_step1 (A B : Int) (k : Nat) (h : ¬ sg (lim A k) (lim B k) = 0) : cm A B (k + 1) = sg (lim A k) (lim B k) := by
  have e : lim A k ≠ lim B k := fun e => h (by rw [e]; unfold sg; simp)
  unfold lim at e ⊢
  unfold cm
  have hp : (0 : Int) < 18446744073709551616 ^ k := Int.pow_pos (by omega)
  rw [Int.pow_succ, mod_split A _ hp, mod_split B _ hp]
  have a0 := Int.emod_nonneg A (Int.ne_of_gt hp)
  have a1 := Int.emod_lt_of_pos A hp
  have b0 := Int.emod_nonneg B (Int.ne_of_gt hp)
  have b1 := Int.emod_lt_of_pos B hp
  exact sg_same (lt_parts hp a0 a1 b0 b1 e) (lt_parts hp b0 b1 a0 a1 (Ne.symm e))
theorem bne_t {x : Int} (h : (x != 0) = true) : ¬ x = 0 := by simpa using h
theorem bne_f {x : Int} (h : (x != 0) = false) : x = 0 := by simpa using h
theorem cm_zero (A B : Int) : cm A B 0 = 0 := by unfold cm sg; simp [Int.emod_one]
theorem cm_four (A B : Int) (hA : 0 ≤ A) (hA' : A < top256) (hB : 0 ≤ B) (hB' : B < top256) : cm A B 4 = sg A B := by
  unfold cm
  have e : (18446744073709551616 : Int) ^ 4 = top256 := by decide
  rw [e, Int.emod_eq_of_lt hA hA', Int.emod_eq_of_lt hB hB']
set_option maxHeartbeats 4000000 in
theorem cmp_raw (A B : Int) (w : World) :
    Calls Try.prog 63 #[nv A, nv B] w fun e w' => e = .returned (.int .i64 (cm A B 4)) ∧ Below w.heap.size w w' := by
  go_enter Try.func63, Try.ntmps63
  go_wp2
  go_loop [5, 10] (fun s i => ∃ k : Nat, k ≤ 4 ∧ i = .int .i64 k ∧ s = .int .i64 (cm A B k)) (fun _ i => 4 - (intOf i).toNat)
  case atStart => exact ⟨0, by omega, rfl, by rw [cm_zero]⟩
  case round =>
    obtain ⟨k, hk, rfl, rfl⟩ := hrel
    have hk5 : k = 0 ∨ k = 1 ∨ k = 2 ∨ k = 3 ∨ k = 4 := by omega
    rcases hk5 with h | h | h | h | h
    rotate_right
    · subst h
      clear hk
      go_wp2
      go_returns
      exact ⟨rfl, by go_grown⟩
    all_goals
      subst h
      clear hk
    all_goals go_wp2_with (go_at_call 95; refine (compare_any _ _ _).mono ?_; rintro e w' ⟨rfl, rfl⟩)
    all_goals first
      | exact ⟨⟨1, by omega, rfl, congrArg (Value.int IntKind.i64) (cm_step1 A B 0 (bne_t (by assumption))).symm⟩, by simp [intOf]⟩
      | exact ⟨⟨1, by omega, rfl, congrArg (Value.int IntKind.i64) (cm_step0 A B 0 (bne_f (by assumption))).symm⟩, by simp [intOf]⟩
      | exact ⟨⟨2, by omega, rfl, congrArg (Value.int IntKind.i64) (cm_step1 A B 1 (bne_t (by assumption))).symm⟩, by simp [intOf]⟩
      | exact ⟨⟨2, by omega, rfl, congrArg (Value.int IntKind.i64) (cm_step0 A B 1 (bne_f (by assumption))).symm⟩, by simp [intOf]⟩
      | exact ⟨⟨3, by omega, rfl, congrArg (Value.int IntKind.i64) (cm_step1 A B 2 (bne_t (by assumption))).symm⟩, by simp [intOf]⟩
      | exact ⟨⟨3, by omega, rfl, congrArg (Value.int IntKind.i64) (cm_step0 A B 2 (bne_f (by assumption))).symm⟩, by simp [intOf]⟩
      | exact ⟨⟨4, by omega, rfl, congrArg (Value.int IntKind.i64) (cm_step1 A B 3 (bne_t (by assumption))).symm⟩, by simp [intOf]⟩
      | exact ⟨⟨4, by omega, rfl, congrArg (Value.int IntKind.i64) (cm_step0 A B 3 (bne_f (by assumption))).symm⟩, by simp [intOf]⟩
theorem cmp_any (A B : Int) (hA : 0 ≤ A) (hA' : A < top256) (hB : 0 ≤ B) (hB' : B < top256) (w : World) :
    Calls Try.prog 63 #[nv A, nv B] w fun e w' => e = .returned (.int .i64 (sg A B)) ∧ Below w.heap.size w w' := by
  rw [← cm_four A B hA hA' hB hB']
  exact cmp_raw A B w
end Go.Proofs.Ytpigofooblmdhaa
namespace Go.Proofs.Ytpigofooblmdhaa
open Go.RowKit
attribute [local go_sem] idx24_0 idx24_1 idx24_2 idx24_3
def ln (N : Int) (k : Nat) : Int := bitLen (N % 18446744073709551616 ^ k).toNat
theorem ln_step0 (N : Int) (k : Nat) (h : lim N k = 0) : ln N (k + 1) = ln N k := by
  unfold lim at h
  unfold ln
  have hp : (0 : Int) < 18446744073709551616 ^ k := Int.pow_pos (by omega)
  rw [Int.pow_succ, mod_split N _ hp, h, Int.mul_zero, Int.add_zero]
theorem ln_step1 (N : Int) (k : Nat) (h : ¬ lim N k = 0) : ln N (k + 1) = 64 * k + (bitLen (lim N k).toNat : Int) := by
  unfold ln
  have hp : (0 : Int) < 18446744073709551616 ^ k := Int.pow_pos (by omega)
  have l0 := lim_nn N k
  have e : lim N k = N / 18446744073709551616 ^ k % 18446744073709551616 := rfl
  rw [Int.pow_succ, mod_split N _ hp, ← e]
  have a0 := Int.emod_nonneg N (Int.ne_of_gt hp)
  have a1 := Int.emod_lt_of_pos N hp
  have e2 : (18446744073709551616 : Int) ^ k = ((2 ^ (64 * k) : Nat) : Int) := by
    rw [Nat.pow_mul]; simp
  rw [e2] at a0 a1 ⊢
  clear e e2 hp
  generalize (N % ((2 ^ (64 * k) : Nat) : Int)) = a at *
  generalize lim N k = u at *
  obtain ⟨U, rfl⟩ := Int.eq_ofNat_of_zero_le l0
  obtain ⟨a', rfl⟩ := Int.eq_ofNat_of_zero_le a0
  have hU : U ≠ 0 := by omega
  have ha : a' < 2 ^ (64 * k) := by exact_mod_cast a1
  have e3 : ((a' : Int) + ((2 ^ (64 * k) : Nat) : Int) * (U : Int)) = ((a' + 2 ^ (64 * k) * U : Nat) : Int) := by push_cast; rfl
  rw [e3, Int.toNat_natCast, Int.toNat_natCast]
  have e4 : (a' + 2 ^ (64 * k) * U) / 2 ^ (64 * k) = U := by
    rw [Nat.add_mul_div_left _ _ (Nat.two_pow_pos _), Nat.div_eq_of_lt ha, Nat.zero_add]
  have := bitLen_shift (a' + 2 ^ (64 * k) * U) (64 * k) (by rw [e4]; exact hU)
  rw [e4] at this
  rw [this]; push_cast; rfl
theorem ln_zero (N : Int) : ln N 0 = 0 := by unfold ln; simp [Int.emod_one, bitLen]
theorem ln_four (N : Int) (hA : 0 ≤ N) (hA' : N < top256) : ln N 4 = bitLen N.toNat := by
  unfold ln
  have e : (18446744073709551616 : Int) ^ 4 = top256 := by decide
  rw [e, Int.emod_eq_of_lt hA hA']
theorem ln64_le (x : Int) (h1 : x < 18446744073709551616) : bitLen x.toNat ≤ 64 := by
  unfold bitLen
  split
  · omega
  · rename_i h0
    have := (Nat.log2_lt h0).2 (show x.toNat < 2 ^ 64 by omega)
    omega
set_option maxHeartbeats 4000000 in
theorem len_raw (N : Int) (w : World) :
    Calls Try.prog 59 #[nv N] w fun e w' => e = .returned (.int .i64 (ln N 4)) ∧ Below w.heap.size w w' := by
  have b0 := ln64_le (lim N 0) (lim_lt N 0)
  have b1 := ln64_le (lim N 1) (lim_lt N 1)
  have b2 := ln64_le (lim N 2) (lim_lt N 2)
  have b3 := ln64_le (lim N 3) (lim_lt N 3)
  go_enter Try.func59, Try.ntmps59
  go_wp2
  go_loop [3, 7] (fun s i => ∃ k : Nat, k ≤ 4 ∧ i = .int .i64 k ∧ s = .int .i64 (ln N k)) (fun _ i => 4 - (intOf i).toNat)
  case atStart => exact ⟨0, by omega, rfl, by rw [ln_zero]⟩
  case round =>
    obtain ⟨k, hk, rfl, rfl⟩ := hrel
    have hk5 : k = 0 ∨ k = 1 ∨ k = 2 ∨ k = 3 ∨ k = 4 := by omega
    rcases hk5 with h | h | h | h | h
    rotate_right
    · subst h
      clear hk
      go_wp2
      go_returns
      exact ⟨rfl, by go_grown⟩
    all_goals
      subst h
      clear hk
    all_goals go_wp2_with (go_at_call 91; refine (len64_any _ (lim_nn _ _) (lim_lt _ _) _).mono ?_; rintro e w' ⟨rfl, rfl⟩)
    all_goals first
      | exact ⟨⟨1, by omega, rfl, congrArg (Value.int IntKind.i64) (by rw [ln_step1 N 0 (bne_t (by assumption))]; omega)⟩, by simp [intOf]⟩
      | exact ⟨⟨1, by omega, rfl, congrArg (Value.int IntKind.i64) (ln_step0 N 0 (bne_f (by assumption))).symm⟩, by simp [intOf]⟩
      | exact ⟨⟨2, by omega, rfl, congrArg (Value.int IntKind.i64) (by rw [ln_step1 N 1 (bne_t (by assumption))]; omega)⟩, by simp [intOf]⟩
      | exact ⟨⟨2, by omega, rfl, congrArg (Value.int IntKind.i64) (ln_step0 N 1 (bne_f (by assumption))).symm⟩, by simp [intOf]⟩
      | exact ⟨⟨3, by omega, rfl, congrArg (Value.int IntKind.i64) (by rw [ln_step1 N 2 (bne_t (by assumption))]; omega)⟩, by simp [intOf]⟩
      | exact ⟨⟨3, by omega, rfl, congrArg (Value.int IntKind.i64) (ln_step0 N 2 (bne_f (by assumption))).symm⟩, by simp [intOf]⟩
      | exact ⟨⟨4, by omega, rfl, congrArg (Value.int IntKind.i64) (by rw [ln_step1 N 3 (bne_t (by assumption))]; omega)⟩, by simp [intOf]⟩
      | exact ⟨⟨4, by omega, rfl, congrArg (Value.int IntKind.i64) (ln_step0 N 3 (bne_f (by assumption))).symm⟩, by simp [intOf]⟩
      | skip
    go_ways
theorem len_any (N : Int) (hN : 0 ≤ N) (hN' : N < top256) (w : World) :
    Calls Try.prog 59 #[nv N] w fun e w' => e = .returned (.int .i64 (bitLen N.toNat)) ∧ Below w.heap.size w w' := by
  rw [← ln_four N hN hN']
  exact len_raw N w
end Go.Proofs.Ytpigofooblmdhaa
namespace Go.Proofs.Ytpigofooblmdhaa
open Go.RowKit
def prt (N : Int) (k : Int) : Int := if 0 ≤ k ∧ k < 4 then lim N k.toNat else 0
def win (N : Int) (k : Int) : Int := if 0 ≤ k then N / 2 ^ k.toNat % 18446744073709551616 else N * 2 ^ (-k).toNat % 18446744073709551616
theorem prt_bd (N k : Int) : 0 ≤ prt N k ∧ prt N k < 18446744073709551616 := by
  unfold prt; split
  · exact ⟨lim_nn _ _, lim_lt _ _⟩
  · omega
theorem win_bd (N k : Int) : 0 ≤ win N k ∧ win N k < 18446744073709551616 := by
  unfold win; split <;> omega
theorem wraps_u64_64 (n : Int) (h₀ : 0 ≤ n) (h₁ : n < 2 ^ 64) : IntKind.u64.wrap n = n := by rw [IntKind.wrap_u64]; omega
theorem mul_mod_right' (p T S : Int) (hT : 0 < T) (hS : 0 < S) : p * S % (T * S) = p % T * S := by
  have e : p * S = p % T * S + T * S * (p / T) := by
    have := Int.mul_ediv_add_emod p T
    calc p * S = (T * (p / T) + p % T) * S := by rw [this]
      _ = p % T * S + T * S * (p / T) := by grind
  rw [e, Int.add_mul_emod_self_left]
  have h0 := Int.emod_nonneg p (Int.ne_of_gt hT)
  have h1 := Int.emod_lt_of_pos p hT
  exact Int.emod_eq_of_lt (Int.mul_nonneg h0 (Int.le_of_lt hS)) (Int.mul_lt_mul_of_pos_right h1 hS)
theorem pow_split (r : Nat) (h : r ≤ 64) : (2 : Int) ^ r * 2 ^ (64 - r) = 18446744073709551616 := by
  rw [← Int.pow_add]
  have : r + (64 - r) = 64 := by omega
  rw [this]; rfl
theorem or_join (p0 p1 : Int) (r : Nat) (hr : r ≤ 63) (h0 : 0 ≤ p0) (h0' : p0 < 18446744073709551616) (h1 : 0 ≤ p1) :
    bits .or .u64 (p0 / 2 ^ r) (IntKind.u64.wrap (p1 * 2 ^ (64 - r))) = p0 / 2 ^ r + p1 % 2 ^ r * 2 ^ (64 - r) := by
  have hT : (0 : Int) < 2 ^ r := Int.pow_pos (by omega)
  have hS : (0 : Int) < 2 ^ (64 - r) := Int.pow_pos (by omega)
  have hTS := pow_split r (by omega)
  have hw : IntKind.u64.wrap (p1 * 2 ^ (64 - r)) = p1 % 2 ^ r * 2 ^ (64 - r) := by
    rw [IntKind.wrap_u64, ← hTS, mul_mod_right' _ _ _ hT hS]
  rw [hw]
  have hc : ∀ a b, bits .or .u64 a b = bits .or .u64 b a := fun a b => by simp only [bits, BitVec.or_comm]
  have hm0 := Int.emod_nonneg p1 (Int.ne_of_gt hT)
  have hm1 := Int.emod_lt_of_pos p1 hT
  have hd0 : 0 ≤ p0 / 2 ^ r := Int.ediv_nonneg h0 (Int.le_of_lt hT)
  have hd1 : p0 / 2 ^ r < 2 ^ (64 - r) := Int.ediv_lt_of_lt_mul hT (by rw [Int.mul_comm, hTS]; exact h0')
  have hd2 : p0 / 2 ^ r < 2 ^ 64 := by
    have : p0 / 2 ^ r ≤ p0 := Int.ediv_le_self _ h0
    omega
  have hx0 : 0 ≤ p1 % 2 ^ r * 2 ^ (64 - r) := Int.mul_nonneg hm0 (Int.le_of_lt hS)
  have hx1 : p1 % 2 ^ r * 2 ^ (64 - r) < 2 ^ 64 := by
    have := Int.mul_lt_mul_of_pos_right hm1 hS
    rw [hTS] at this
    exact this
  rw [hc, bits_join .u64 64 (by decide) wraps_u64_64 (64 - r) _ _ hx0 (Int.mul_emod_left _ _) hx1 hd0 hd1 hd2, Int.add_comm]
theorem win_core (p0 M1 : Int) (r : Nat) (hr : r ≤ 63) (h0 : 0 ≤ p0) (h0' : p0 < 18446744073709551616) :
    (p0 + 18446744073709551616 * M1) / 2 ^ r % 18446744073709551616 = p0 / 2 ^ r + M1 % 2 ^ r * 2 ^ (64 - r) := by
  have hT : (0 : Int) < 2 ^ r := Int.pow_pos (by omega)
  have hS : (0 : Int) < 2 ^ (64 - r) := Int.pow_pos (by omega)
  have hTS := pow_split r (by omega)
  generalize (2 : Int) ^ r = T at *
  generalize (2 : Int) ^ (64 - r) = S at *
  have hm0 := Int.emod_nonneg M1 (Int.ne_of_gt hT)
  have hm1 := Int.emod_lt_of_pos M1 hT
  have hd0 : 0 ≤ p0 / T := Int.ediv_nonneg h0 (Int.le_of_lt hT)
  have hd1 : p0 / T < S := Int.ediv_lt_of_lt_mul hT (by rw [Int.mul_comm, hTS]; exact h0')
  have e1 : p0 + 18446744073709551616 * M1 = p0 + T * (S * M1) := by rw [← hTS]; grind
  have e2 : M1 = T * (M1 / T) + M1 % T := (Int.mul_ediv_add_emod M1 T).symm
  have e3 : p0 / T + S * M1 = (p0 / T + M1 % T * S) + T * S * (M1 / T) := by
    generalize M1 / T = q at *
    generalize M1 % T = m at *
    subst e2; grind
  rw [e1, Int.add_mul_ediv_left _ _ (Int.ne_of_gt hT), e3, ← hTS, Int.add_mul_emod_self_left]
  refine Int.emod_eq_of_lt (Int.add_nonneg hd0 (Int.mul_nonneg hm0 (Int.le_of_lt hS))) ?_
  have h2 : (M1 % T + 1) * S ≤ T * S := Int.mul_le_mul_of_nonneg_right (by omega) (Int.le_of_lt hS)
  have h3 : (M1 % T + 1) * S = M1 % T * S + S := by grind
  omega
theorem mod_mod_pow (M : Int) (r : Nat) (hr : r ≤ 63) : M % 18446744073709551616 % 2 ^ r = M % 2 ^ r := by
  have hTS := pow_split r (by omega)
  exact Int.emod_emod_of_dvd M ⟨2 ^ (64 - r), hTS.symm⟩
theorem div_pow_add (N : Int) (a r : Nat) : N / 2 ^ (a + r) = N / 2 ^ a / 2 ^ r := by
  rw [Int.pow_add, Int.ediv_ediv_of_nonneg (Int.le_of_lt (Int.pow_pos (by omega)))]
theorem win_eq (N k : Int) (hN : 0 ≤ N) (hN' : N < top256) :
    bits .or .u64 (prt N (k / 64) / 2 ^ (k % 64).toNat) (IntKind.u64.wrap (prt N (k / 64 + 1) * 2 ^ (64 - k % 64).toNat)) = win N k := by
  unfold top256 at hN'
  obtain ⟨r, hr⟩ : ∃ r : Nat, k % 64 = r := ⟨(k % 64).toNat, by omega⟩
  obtain ⟨q, hq⟩ : ∃ q, k / 64 = q := ⟨_, rfl⟩
  have hk : k = 64 * q + r := by omega
  have hr63 : r ≤ 63 := by omega
  have e1 : (k % 64).toNat = r := by omega
  have e2 : (64 - k % 64).toNat = 64 - r := by omega
  rw [e1, e2, hq, or_join _ _ r hr63 (prt_bd _ _).1 (prt_bd _ _).2 (prt_bd _ _).1]
  have hT : (0 : Int) < 2 ^ r := Int.pow_pos (by omega)
  by_cases c0 : q ≤ -2
  · have p0 : prt N q = 0 := by unfold prt; rw [if_neg (by omega)]
    have p1 : prt N (q + 1) = 0 := by unfold prt; rw [if_neg (by omega)]
    rw [p0, p1, Int.zero_ediv, Int.zero_emod, Int.zero_mul]
    unfold win
    rw [if_neg (by omega)]
    have e : (-k).toNat = 64 + ((-k).toNat - 64) := by omega
    rw [e, Int.pow_add, ← Int.mul_assoc, Int.mul_right_comm]
    have : (2 : Int) ^ 64 = 18446744073709551616 := rfl
    rw [this, Int.mul_emod_left]; rfl
  by_cases c1 : q = -1
  · have p0 : prt N q = 0 := by unfold prt; rw [if_neg (by omega)]
    have p1 : prt N (q + 1) = N % 18446744073709551616 := by
      unfold prt; rw [if_pos (by omega)]; subst c1; exact lim0 N
    rw [p0, p1, Int.zero_ediv, mod_mod_pow _ _ hr63]
    unfold win
    rw [if_neg (by omega)]
    have e : (-k).toNat = 64 - r := by omega
    have hS : (0 : Int) < 2 ^ (64 - r) := Int.pow_pos (by omega)
    rw [e, ← pow_split r (by omega), mul_mod_right' _ _ _ hT hS]; omega
  have hk0 : 0 ≤ k := by omega
  unfold win
  rw [if_pos hk0]
  by_cases c2 : 4 ≤ q
  · have p0 : prt N q = 0 := by unfold prt; rw [if_neg (by omega)]
    have p1 : prt N (q + 1) = 0 := by unfold prt; rw [if_neg (by omega)]
    rw [p0, p1, Int.zero_ediv, Int.zero_emod, Int.zero_mul]
    have e : k.toNat = 256 + (k.toNat - 256) := by omega
    have e256 : (2 : Int) ^ 256 = 115792089237316195423570985008687907853269984665640564039457584007913129639936 := by decide
    have z : N / 115792089237316195423570985008687907853269984665640564039457584007913129639936 = 0 := by omega
    rw [e, div_pow_add, e256, z, Int.zero_ediv]; rfl
  have hq4 : q = 0 ∨ q = 1 ∨ q = 2 ∨ q = 3 := by omega
  rcases hq4 with h | h | h | h
  · subst h
    have e : k.toNat = r := by omega
    have p0 : prt N 0 = N % 18446744073709551616 := lim0 N
    have p1 : prt N (0 + 1) = N / 18446744073709551616 % 18446744073709551616 := lim1 N
    have eM : N = N % 18446744073709551616 + 18446744073709551616 * (N / 18446744073709551616) := by omega
    rw [e, p0, p1, mod_mod_pow _ _ hr63]
    have := win_core (N % 18446744073709551616) (N / 18446744073709551616) r hr63 (by omega) (by omega)
    rw [← eM] at this
    exact this.symm
  · subst h
    have e : k.toNat = 64 + r := by omega
    have e64 : (2 : Int) ^ 64 = 18446744073709551616 := rfl
    have p0 : prt N 1 = N / 18446744073709551616 % 18446744073709551616 := lim1 N
    have p1 : prt N (1 + 1) = N / 18446744073709551616 / 18446744073709551616 % 18446744073709551616 := by
      have h : prt N (1 + 1) = lim N 2 := rfl
      rw [h, lim2]; omega
    rw [e, div_pow_add, e64, p0, p1, mod_mod_pow _ _ hr63]
    have eM : N / 18446744073709551616 = N / 18446744073709551616 % 18446744073709551616 + 18446744073709551616 * (N / 18446744073709551616 / 18446744073709551616) := by omega
    have := win_core (N / 18446744073709551616 % 18446744073709551616) (N / 18446744073709551616 / 18446744073709551616) r hr63 (by omega) (by omega)
    rw [← eM] at this
    exact this.symm
  · subst h
    have e : k.toNat = 128 + r := by omega
    have e64 : (2 : Int) ^ 128 = 340282366920938463463374607431768211456 := rfl
    have p0 : prt N 2 = N / 340282366920938463463374607431768211456 % 18446744073709551616 := lim2 N
    have p1 : prt N (2 + 1) = N / 340282366920938463463374607431768211456 / 18446744073709551616 % 18446744073709551616 := by
      have h : prt N (2 + 1) = lim N 3 := rfl
      rw [h, lim3]; omega
    rw [e, div_pow_add, e64, p0, p1, mod_mod_pow _ _ hr63]
    have eM : N / 340282366920938463463374607431768211456 = N / 340282366920938463463374607431768211456 % 18446744073709551616 + 18446744073709551616 * (N / 340282366920938463463374607431768211456 / 18446744073709551616) := by omega
    have := win_core (N / 340282366920938463463374607431768211456 % 18446744073709551616) (N / 340282366920938463463374607431768211456 / 18446744073709551616) r hr63 (by omega) (by omega)
    rw [← eM] at this
    exact this.symm
  · subst h
    have e : k.toNat = 192 + r := by omega
    have e64 : (2 : Int) ^ 192 = 6277101735386680763835789423207666416102355444464034512896 := rfl
    have p0 : prt N 3 = N / 6277101735386680763835789423207666416102355444464034512896 % 18446744073709551616 := lim3 N
    have p1 : prt N (3 + 1) = 0 := rfl
    rw [e, div_pow_add, e64, p0, p1, Int.zero_emod]
    have eM : N / 6277101735386680763835789423207666416102355444464034512896 = N / 6277101735386680763835789423207666416102355444464034512896 % 18446744073709551616 + 18446744073709551616 * 0 := by omega
    have := win_core (N / 6277101735386680763835789423207666416102355444464034512896 % 18446744073709551616) 0 r hr63 (by omega) (by omega)
    rw [← eM, Int.zero_emod] at this
    exact this.symm
theorem win_raised (N : Int) (k s : Nat) : win N (64 * k - s) = lim (N * 2 ^ s) k := by
  have e : (18446744073709551616 : Int) = 2 ^ 64 := rfl
  unfold win lim
  split
  · have h1 : ((64 * (k : Int) - s)).toNat = 64 * k - s := by omega
    have h2 : 64 * k = s + (64 * k - s) := by omega
    have h3 : (18446744073709551616 : Int) ^ k = 2 ^ (s + (64 * k - s)) := by rw [← h2, e, ← Int.pow_mul]
    rw [h1, h3, div_pow_add, Int.mul_ediv_cancel _ (Int.ne_of_gt (Int.pow_pos (by omega)))]
  · have h1 : (-(64 * (k : Int) - s)).toNat = s - 64 * k := by omega
    have h2 : s = (s - 64 * k) + 64 * k := by omega
    have h3 : (18446744073709551616 : Int) ^ k = 2 ^ (64 * k) := by rw [e, ← Int.pow_mul]
    have h4 : N * 2 ^ s = N * 2 ^ (s - 64 * k) * 2 ^ (64 * k) := by
      rw [Int.mul_assoc, ← Int.pow_add, ← h2]
    rw [h1, h3, h4, Int.mul_ediv_cancel _ (Int.ne_of_gt (Int.pow_pos (by omega)))]
theorem win_lowered (N : Int) (k s : Nat) : win N (64 * k + s) = lim (N / 2 ^ s) k := by
  have e : (18446744073709551616 : Int) = 2 ^ 64 := rfl
  unfold win lim
  rw [if_pos (by omega)]
  have h1 : ((64 * (k : Int) + s)).toNat = s + 64 * k := by omega
  have h3 : (18446744073709551616 : Int) ^ k = 2 ^ (64 * k) := by rw [e, ← Int.pow_mul]
  rw [h1, h3, div_pow_add]
end Go.Proofs.Ytpigofooblmdhaa
namespace Go.Proofs.Ytpigofooblmdhaa
open Go.RowKit
def HL (U u y y1 q r : Int) : Prop := q * y1 + r = U ∧ 0 ≤ r ∧ r < 4294967296 ∧ q ≤ 4294967297 ∧ (U * 4294967296 + u) / y ≤ q
theorem dig_nn {U u y : Int} (hU : 0 ≤ U) (hu : 0 ≤ u) (hy : 0 < y) : 0 ≤ (U * 4294967296 + u) / y := Int.ediv_nonneg (by omega) (by omega)
theorem dig_lt {U u y : Int} (hUy : U < y) (hu' : u < 4294967296) (hy : 0 < y) : (U * 4294967296 + u) / y < 4294967296 :=
  Int.ediv_lt_of_lt_mul hy (by omega)
theorem hl_start {U u y y1 y0 : Int} (hU : 0 ≤ U) (hUy : U < y) (hu' : u < 4294967296) (ey : y = y1 * 4294967296 + y0) (hy1 : 2147483648 ≤ y1) (hy1' : y1 < 4294967296) (hy0 : 0 ≤ y0) (hy0' : y0 < 4294967296) :
    HL U u y y1 (U / y1) (U - U / y1 * y1) ∧ 0 ≤ U / y1 * y1 ∧ U / y1 * y1 ≤ U := by
  have e := Int.mul_ediv_add_emod U y1
  have m0 := Int.emod_nonneg U (by omega : y1 ≠ 0)
  have m1 := Int.emod_lt_of_pos U (by omega : 0 < y1)
  have q0 : 0 ≤ U / y1 := Int.ediv_nonneg hU (by omega)
  rw [Int.mul_comm] at e
  have hy : 0 < y := by omega
  have dl := dig_lt hUy hu' hy
  generalize U / y1 = q at *
  generalize U % y1 = r at *
  have p0 : 0 ≤ q * y1 := Int.mul_nonneg q0 (by omega)
  refine ⟨⟨by omega, by omega, by omega, ?_, ?_⟩, p0, by omega⟩
  · skip
    by_cases c : q ≤ 4294967297
    · exact c
    · have h2 : 4294967298 * y1 ≤ q * y1 := Int.mul_le_mul_of_nonneg_right (by omega) (by omega)
      omega
  · skip
    by_cases c : 4294967296 ≤ q
    · omega
    · have : (U * 4294967296 + u) / y < q + 1 := Int.ediv_lt_of_lt_mul hy (by
        have h1 : (q + 1) * y = (q * y1 + y1) * 4294967296 + (q + 1) * y0 := by rw [ey]; grind
        have h2 : 0 ≤ (q + 1) * y0 := Int.mul_nonneg (by omega) hy0
        have h3 : U + 1 ≤ q * y1 + y1 := by omega
        have h4 : (U + 1) * 4294967296 ≤ (q * y1 + y1) * 4294967296 := Int.mul_le_mul_of_nonneg_right h3 (by omega)
        omega)
      omega
theorem hl_over {U u y y1 y0 q r : Int} (H : HL U u y y1 q r) (hU : 0 ≤ U) (hUy : U < y) (hu : 0 ≤ u) (hu' : u < 4294967296) (ey : y = y1 * 4294967296 + y0) (hy : 0 < y)
    (t : 4294967296 ≤ q ∨ 4294967296 * r + u < q * y0) : (U * 4294967296 + u) / y ≤ q - 1 ∧ 1 ≤ q := by
  obtain ⟨e, r0, r1, q1, d⟩ := H
  have dn := dig_nn hU hu hy
  have dl := dig_lt hUy hu' hy
  have : (U * 4294967296 + u) / y < q := by
    rcases t with t | t
    · omega
    · refine Int.ediv_lt_of_lt_mul hy ?_
      have h1 : q * y = q * y1 * 4294967296 + q * y0 := by rw [ey]; grind
      rw [h1]
      omega
  omega
theorem hl_step {U u y y1 y0 q r : Int} (H : HL U u y y1 q r) (hU : 0 ≤ U) (hUy : U < y) (hu : 0 ≤ u) (hu' : u < 4294967296) (ey : y = y1 * 4294967296 + y0) (hy : 0 < y) (hy1 : 0 ≤ y1)
    (t : 4294967296 ≤ q ∨ 4294967296 * r + u < q * y0) (hr : r + y1 < 4294967296) : HL U u y y1 (q - 1) (r + y1) := by
  have o := hl_over H hU hUy hu hu' ey hy t
  obtain ⟨e, r0, r1, q1, d⟩ := H
  have h1 : (q - 1) * y1 = q * y1 - y1 := by grind
  exact ⟨by omega, by omega, by omega, by omega, by omega⟩
theorem hl_break {U u y y1 y0 q r : Int} (H : HL U u y y1 q r) (hU : 0 ≤ U) (hUy : U < y) (hu : 0 ≤ u) (hu' : u < 4294967296) (ey : y = y1 * 4294967296 + y0) (hy : 0 < y) (hy0 : 0 ≤ y0) (hy0' : y0 < 4294967296)
    (t : 4294967296 ≤ q ∨ 4294967296 * r + u < q * y0) (hr : 4294967296 ≤ r + y1) : q - 1 = (U * 4294967296 + u) / y := by
  have o := hl_over H hU hUy hu hu' ey hy t
  obtain ⟨e, r0, r1, q1, d⟩ := H
  have : q - 1 ≤ (U * 4294967296 + u) / y := by
    refine (Int.le_ediv_iff_mul_le hy).2 ?_
    have h1 : (q - 1) * y = (q * y1 - y1) * 4294967296 + (q - 1) * y0 := by rw [ey]; grind
    have h2 : (q - 1) * y0 ≤ 4294967296 * 4294967295 := Int.mul_le_mul (by omega) (by omega) hy0 (by omega)
    rw [h1]
    omega
  omega
theorem hl_exit {U u y y1 y0 q r : Int} (H : HL U u y y1 q r) (ey : y = y1 * 4294967296 + y0) (hy : 0 < y)
    (t : q * y0 ≤ 4294967296 * r + u) : q = (U * 4294967296 + u) / y := by
  obtain ⟨e, r0, r1, q1, d⟩ := H
  have : q ≤ (U * 4294967296 + u) / y := by
    refine (Int.le_ediv_iff_mul_le hy).2 ?_
    have h1 : q * y = q * y1 * 4294967296 + q * y0 := by rw [ey]; grind
    rw [h1]
    omega
  omega
theorem left_wrap {U u y Q : Int} (hU : 0 ≤ U) (hu : 0 ≤ u) (hy : 0 < y) (hy' : y < 18446744073709551616) (hQ : Q = (U * 4294967296 + u) / y) :
    IntKind.u64.wrap (IntKind.u64.wrap (IntKind.u64.wrap (U * 4294967296) + u) - IntKind.u64.wrap (Q * y)) = (U * 4294967296 + u) % y := by
  have e := Int.mul_ediv_add_emod (U * 4294967296 + u) y
  have m0 := Int.emod_nonneg (U * 4294967296 + u) (by omega : y ≠ 0)
  have m1 := Int.emod_lt_of_pos (U * 4294967296 + u) hy
  rw [← hQ, Int.mul_comm] at e
  simp only [IntKind.wrap_u64]
  generalize Q * y = p at *
  generalize (U * 4294967296 + u) % y = m at *
  omega
theorem two_digits {hi lo y u1 u0 U2 : Int} (hy : 0 < y) (el : lo = u1 * 4294967296 + u0) (hU2 : U2 = (hi * 4294967296 + u1) % y) :
    (hi * 18446744073709551616 + lo) / y = (hi * 4294967296 + u1) / y * 4294967296 + (U2 * 4294967296 + u0) / y ∧ (hi * 18446744073709551616 + lo) % y = (U2 * 4294967296 + u0) % y := by
  have e := Int.mul_ediv_add_emod (hi * 4294967296 + u1) y
  rw [← hU2] at e
  have h : hi * 18446744073709551616 + lo = (U2 * 4294967296 + u0) + y * ((hi * 4294967296 + u1) / y * 4294967296) := by
    generalize (hi * 4294967296 + u1) / y = q at *
    subst el
    have : y * (q * 4294967296) = y * q * 4294967296 := by grind
    omega
  rw [h, Int.add_mul_ediv_left _ _ (Int.ne_of_gt hy), Int.add_mul_emod_self_left]
  exact ⟨by omega, rfl⟩
end Go.Proofs.Ytpigofooblmdhaa
namespace Go.Proofs.Ytpigofooblmdhaa
open Go.RowKit
theorem mul_hi_bd (x y : Int) (hx : 0 ≤ x) (hx1 : x < 18446744073709551616) (hy : 0 ≤ y) (hy1 : y < 18446744073709551616) : 0 ≤ x * y ∧ x * y ≤ 340282366920938463426481119284349108225 := by
  refine ⟨Int.mul_nonneg hx hy, ?_⟩
  have := Int.mul_le_mul (show x ≤ 18446744073709551615 by omega) (show y ≤ 18446744073709551615 by omega) hy (by omega : (0 : Int) ≤ 18446744073709551615)
  simpa using this
set_option maxHeartbeats 1000000 in
theorem mul64_any (x y : Int) (hx : 0 ≤ x) (hx1 : x < 18446744073709551616) (hy : 0 ≤ y) (hy1 : y < 18446744073709551616) (w : World) :
    Calls Try.prog 86 #[.int .u64 x, .int .u64 y] w fun e w' => e = .returned (.tuple #[.int .u64 (x * y / 18446744073709551616), .int .u64 (x * y % 18446744073709551616)]) ∧ w' = w := by
  have m := mul64_arith x y hx hx1 hy hy1
  have ax := and_low32 x hx hx1
  have ay := and_low32 y hy hy1
  have HX : Hid (bits .and .u64 x 4294967295 = x % 4294967296) := ax
  have HY : Hid (bits .and .u64 y 4294967295 = y % 4294967296) := ay
  have HM := (show Hid _ from m)
  clear ax ay m
  go_enter Try.func86, Try.ntmps86
  go_wp2
  go_returns
  refine ⟨?_, rfl⟩
  have ax := HX.out
  have ay := HY.out
  have m := HM.out
  rw [ax, ay]
  simp only [IntKind.wrap_u64]
  rw [and_low32 _ (by omega) (by omega), m]
  rfl
theorem ex49 (x y : Int) (hx : 0 ≤ x) (hx1 : x < 18446744073709551616) (hy : 0 ≤ y) (hy1 : y < 18446744073709551616) :
    ∃ hi lo : Int, 0 ≤ hi ∧ hi < 18446744073709551615 ∧ 0 ≤ lo ∧ lo < 18446744073709551616 ∧ x * y = lo + 18446744073709551616 * hi ∧
      ∀ w, Calls Try.prog 86 #[.int .u64 x, .int .u64 y] w fun e w' => e = .returned (.tuple #[.int .u64 hi, .int .u64 lo]) ∧ w' = w := by
  have := mul_hi_bd x y hx hx1 hy hy1
  exact ⟨_, _, by omega, by omega, by omega, by omega, by omega, fun w => mul64_any x y hx hx1 hy hy1 w⟩
theorem mulStep (x y s c : Int) (hx : 0 ≤ x) (hx1 : x < 18446744073709551616) (hy : 0 ≤ y) (hy1 : y < 18446744073709551616) (hs : 0 ≤ s) (hs1 : s < 18446744073709551616) (hc : 0 ≤ c) (hc1 : c < 18446744073709551616) :
    ∃ lo hi : Int, 0 ≤ lo ∧ lo < 18446744073709551616 ∧ 0 ≤ hi ∧ hi < 18446744073709551616 ∧ x * y + s + c = lo + 18446744073709551616 * hi ∧
      ∀ (b : Nat) (w : World), w.cell? ⟨b, 0, none⟩ = some (.int .u64 c) → w.frozen? ⟨b, 0, none⟩ = false →
        Calls Try.prog 85 #[.int .u64 x, .int .u64 y, .int .u64 s, .pointer (some ⟨b, 0, none⟩)] w fun e w' => e = .returned (.int .u64 lo) ∧ w' = w.setCell ⟨b, 0, none⟩ (.int .u64 hi) := by
  have hp := mul_hi_bd x y hx hx1 hy hy1
  obtain ⟨h, l, hh, hh', hl, hl', e, M⟩ := ex49 x y hx hx1 hy hy1
  obtain ⟨l1, c1, hl1, hl1', hc1, hc1', e1, A1⟩ := ex45 l s 0 hl hl' hs hs1 (by omega) (by omega)
  obtain ⟨l2, c2, hl2, hl2', hc2, hc2', e2, A2⟩ := ex45 l1 c 0 hl1 hl1' hc (by omega) (by omega) (by omega)
  have hno : h + c1 + c2 < 18446744073709551616 := by omega
  refine ⟨l2, h + c1 + c2, by omega, by omega, by omega, by omega, by omega, fun b w hcell hfz => ?_⟩
  clear e e1 e2 hp hx hx1 hy hy1 hs hs1
  have b1 : h + c1 ≤ 18446744073709551615 := by omega
  have b2 : h + c1 + c2 ≤ 18446744073709551615 := by omega
  go_enter Try.func85, Try.ntmps85
  go_wp2_with (go_at_call 86; refine (M _).mono ?_; rintro e w' ⟨rfl, rfl⟩)
  go_returns
  refine ⟨rfl, ?_⟩
  rfl
end Go.Proofs.Ytpigofooblmdhaa
namespace Go.Proofs.Ytpigofooblmdhaa
open Go.RowKit Go.Sort
attribute [local go_sem] idx24_0 idx24_1 idx24_2 idx24_3
set_option maxHeartbeats 1000000 in
theorem part_in (N : Int) (k : Nat) (hk : k < 4) (w : World) :
    Calls Try.prog 107 #[nv N, .int .i64 k] w fun e w' => e = .returned (.int .u64 (lim N k)) ∧ Below w.heap.size w w' := by
  have h : k = 0 ∨ k = 1 ∨ k = 2 ∨ k = 3 := by omega
  rcases h with h | h | h | h
  all_goals
    subst h
    clear hk
    go_enter Try.func107, Try.ntmps107
    go_wp2
    go_returns
    exact ⟨rfl, by go_grown⟩
set_option maxHeartbeats 1000000 in
theorem part_out (N : Int) (k : Int) (hk : k < 0 ∨ 4 ≤ k) (w : World) :
    Calls Try.prog 107 #[nv N, .int .i64 k] w fun e w' => e = .returned (.int .u64 0) ∧ Below w.heap.size w w' := by
  rcases hk with h | h
  · go_enter Try.func107, Try.ntmps107
    go_wp2
    go_returns
    exact ⟨rfl, by go_grown⟩
  · have h' : ¬ k < 0 := by omega
    go_enter Try.func107, Try.ntmps107
    go_wp2
    go_returns
    exact ⟨rfl, by go_grown⟩
theorem part_any (N : Int) (k : Int) (w : World) :
    Calls Try.prog 107 #[nv N, .int .i64 k] w fun e w' => e = .returned (.int .u64 (prt N k)) ∧ Below w.heap.size w w' := by
  by_cases h : 0 ≤ k ∧ k < 4
  · have e : k = ((k.toNat : Nat) : Int) := by omega
    have := part_in N k.toNat (by omega) w
    rw [← e] at this
    unfold prt; rw [if_pos h]; exact this
  · unfold prt; rw [if_neg h]; exact part_out N k (by omega) w
theorem i64_and63 (n : Int) : bits .and .i64 n 63 = n % 64 := by
  have h63 : (BitVec.ofInt 64 63).toNat = 2 ^ 6 - 1 := by decide
  have key : (BitVec.ofInt 64 n &&& BitVec.ofInt 64 63).toNat = (n % ((2 ^ 64 : Nat) : Int)).toNat % 2 ^ 6 := by
    rw [BitVec.toNat_and, BitVec.toNat_ofInt, h63, Nat.and_two_pow_sub_one_eq_mod]
  show IntKind.i64.wrap ((BitVec.ofInt 64 n &&& BitVec.ofInt 64 63).toNat : Nat) = n % 64
  rw [key, IntKind.wrap_i64]
  omega
theorem u64_mod64 (n : Int) : IntKind.u64.wrap (n % 64) = n % 64 := by rw [IntKind.wrap_u64]; omega
theorem new4 (w : World) (a b c d : Value) (T : TypeId) (ds : Nat) (os : Array Obj) :
    (grow (redrawn (w.alloc (.cells #[a, b, c, d] T)) ds) os).cell? ⟨w.heap.size, 0, none⟩ = some a ∧
    (grow (redrawn (w.alloc (.cells #[a, b, c, d] T)) ds) os).cell? ⟨w.heap.size, 1, none⟩ = some b ∧
    (grow (redrawn (w.alloc (.cells #[a, b, c, d] T)) ds) os).cell? ⟨w.heap.size, 2, none⟩ = some c ∧
    (grow (redrawn (w.alloc (.cells #[a, b, c, d] T)) ds) os).cell? ⟨w.heap.size, 3, none⟩ = some d :=
  ⟨cell_regrown (by simp [go_sem]) _ _, cell_regrown (by simp [go_sem]) _ _, cell_regrown (by simp [go_sem]) _ _, cell_regrown (by simp [go_sem]) _ _⟩
set_option maxHeartbeats 1000000 in
theorem window_raw (N : Int) (k r : Int) (hr : r = k % 64) (hk : -9223372036854775808 ≤ k) (hk' : k ≤ 9223372036854775807) (w : World) :
    Calls Try.prog 81 #[nv N, .int .i64 k] w fun e w' => e = .returned (.int .u64 (bits .or .u64 (prt N (k / 64) / 2 ^ r.toNat) (IntKind.u64.wrap (prt N (k / 64 + 1) * 2 ^ (64 - r).toNat)))) ∧ Below w.heap.size w w' := by
  have a63 := i64_and63 k
  rw [← hr] at a63
  have u63 : IntKind.u64.wrap r = r := by rw [hr]; exact u64_mod64 k
  have r0 : 0 ≤ r := by omega
  have r1 : r ≤ 63 := by omega
  clear hr
  have n0 := fun ds os => (new4 w (.int .u64 (lim N 0)) (.int .u64 (lim N 1)) (.int .u64 (lim N 2)) (.int .u64 (lim N 3)) 24 ds os).1
  have n1 := fun ds os => (new4 w (.int .u64 (lim N 0)) (.int .u64 (lim N 1)) (.int .u64 (lim N 2)) (.int .u64 (lim N 3)) 24 ds os).2.1
  have n2 := fun ds os => (new4 w (.int .u64 (lim N 0)) (.int .u64 (lim N 1)) (.int .u64 (lim N 2)) (.int .u64 (lim N 3)) 24 ds os).2.2.1
  have n3 := fun ds os => (new4 w (.int .u64 (lim N 0)) (.int .u64 (lim N 1)) (.int .u64 (lim N 2)) (.int .u64 (lim N 3)) 24 ds os).2.2.2
  go_enter Try.func81, Try.ntmps81
  go_wp2
  refine wp_region_quiet_below (by kernel_rfl) (by kernel_rfl) ?_
  repeat (go_big_quiet_step (exact Calls.regrown_of (part_any _ _ _)))
  refine wpQuiet_nil ?_
  intro _ hw'
  obtain ⟨⟨dq, osq⟩, hw''⟩ := hw'
  subst hw''
  clear n0 n1 n2 n3
  go_wp2
  go_returns
  exact ⟨rfl, (((Below.refl _ _).alloc (Nat.le_refl _) _).trans ((below_regrown _ _ _).mono (by simp)))⟩
theorem window_any (N : Int) (k : Int) (hN : 0 ≤ N) (hN' : N < top256) (hk : -9223372036854775808 ≤ k) (hk' : k ≤ 9223372036854775807) (w : World) :
    Calls Try.prog 81 #[nv N, .int .i64 k] w fun e w' => e = .returned (.int .u64 (win N k)) ∧ Below w.heap.size w w' := by
  rw [← win_eq N k hN hN']
  exact window_raw N k _ rfl hk hk' w
theorem u64_and1 (z : Int) (h0 : 0 ≤ z) (h1 : z < 18446744073709551616) : bits .and .u64 z 1 = z % 2 := by
  have := bits_mask .u64 64 (by decide) wraps_u64_64 1 (by decide) z h0 h1
  simpa using this
set_option maxHeartbeats 1000000 in
theorem bit_any (N : Int) (k : Int) (hN : 0 ≤ N) (hN' : N < top256) (hk : -9223372036854775808 ≤ k) (hk' : k ≤ 9223372036854775807) (w : World) :
    Calls Try.prog 102 #[nv N, .int .i64 k] w fun e w' => e = .returned (.int .u64 (win N k % 2)) ∧ Below w.heap.size w w' := by
  have b := win_bd N k
  have a1 := u64_and1 (win N k) b.1 b.2
  have c := fun W => window_any N k hN hN' hk hk' W
  clear b hN hN'
  go_enter Try.func102, Try.ntmps102
  go_wp2_with (go_at_call 81; refine (c _).mono ?_; rintro e w' ⟨rfl, hb⟩)
  go_returns
  exact ⟨rfl, ((Below.refl _ _).alloc (Nat.le_refl _) _).trans (hb.mono (by simp))⟩
end Go.Proofs.Ytpigofooblmdhaa
namespace Go.Proofs.Ytpigofooblmdhaa
open Go.RowKit
attribute [local go_sem] idx24_0 idx24_1 idx24_2 idx24_3
set_option maxHeartbeats 4000000 in
theorem halves_any (v0 v1 v2 v3 v4 v5 v6 v7 : Int) (w : World) :
    Calls Try.prog 87 #[.agg #[.int .u64 v0, .int .u64 v1, .int .u64 v2, .int .u64 v3, .int .u64 v4, .int .u64 v5, .int .u64 v6, .int .u64 v7]] w fun e w' => e = .returned (.tuple #[.agg #[.int .u64 v0, .int .u64 v1, .int .u64 v2, .int .u64 v3], .agg #[.int .u64 v4, .int .u64 v5, .int .u64 v6, .int .u64 v7]]) ∧ Below w.heap.size w w' := by
  go_enter Try.func87, Try.ntmps87
  go_wp2
  go_region_held3 (fun w' => w'.cell? ⟨w.heap.size, 0, none⟩ = some (.int .u64 v0) ∧ w'.cell? ⟨w.heap.size, 1, none⟩ = some (.int .u64 v1) ∧ w'.cell? ⟨w.heap.size, 2, none⟩ = some (.int .u64 v2) ∧ w'.cell? ⟨w.heap.size, 3, none⟩ = some (.int .u64 v3) ∧ w'.cell? ⟨w.heap.size, 4, none⟩ = some (.int .u64 v4) ∧ w'.cell? ⟨w.heap.size, 5, none⟩ = some (.int .u64 v5) ∧ w'.cell? ⟨w.heap.size, 6, none⟩ = some (.int .u64 v6) ∧ w'.cell? ⟨w.heap.size, 7, none⟩ = some (.int .u64 v7)) (go_keep) (fail)
  go_wp2
  go_returns
  exact ⟨rfl, by go_grown⟩
end Go.Proofs.Ytpigofooblmdhaa
namespace Go.Proofs.Ytpigofooblmdhaa
open Go.RowKit
theorem eq24g (d : Nat) (he : ∀ (a b : Int) (w : World), (Op.equalIn d 22 (.int .u64 a) (.int .u64 b)).run Try.prog w = .ok (a == b) w) (a0 a1 a2 a3 b0 b1 b2 b3 : Int) (w : World) : (Op.equalIn (d + 1) 24 (.agg #[.int .u64 a0, .int .u64 a1, .int .u64 a2, .int .u64 a3]) (.agg #[.int .u64 b0, .int .u64 b1, .int .u64 b2, .int .u64 b3])).run Try.prog w = .ok (a0 == b0 && (a1 == b1 && (a2 == b2 && a3 == b3))) w := by
  have p0 : ∀ (v0 v1 v2 v3 : Int) (w : World), (part 22 #[.int .u64 v0, .int .u64 v1, .int .u64 v2, .int .u64 v3] 0).run Try.prog w = .ok (.int .u64 v0) w := fun _ _ _ _ _ => by kernel_rfl
  have p1 : ∀ (v0 v1 v2 v3 : Int) (w : World), (part 22 #[.int .u64 v0, .int .u64 v1, .int .u64 v2, .int .u64 v3] 1).run Try.prog w = .ok (.int .u64 v1) w := fun _ _ _ _ _ => by kernel_rfl
  have p2 : ∀ (v0 v1 v2 v3 : Int) (w : World), (part 22 #[.int .u64 v0, .int .u64 v1, .int .u64 v2, .int .u64 v3] 2).run Try.prog w = .ok (.int .u64 v2) w := fun _ _ _ _ _ => by kernel_rfl
  have p3 : ∀ (v0 v1 v2 v3 : Int) (w : World), (part 22 #[.int .u64 v0, .int .u64 v1, .int .u64 v2, .int .u64 v3] 3).run Try.prog w = .ok (.int .u64 v3) w := fun _ _ _ _ _ => by kernel_rfl
  have hs : ∀ w, (Go.sizeOf 22).run Try.prog w = .ok 1 w := fun _ => by kernel_rfl
  simp only [Op.equalIn, Sem.run_bind, run_underlying Try.underlying24, Result.andThen_ok, hs]
  cases h0 : (a0 == b0) <;> cases h1 : (a1 == b1) <;> cases h2 : (a2 == b2) <;> cases h3 : (a3 == b3) <;> simp [Std.Legacy.Range.forIn_eq_forIn_range', List.range', he, p0, p1, p2, p3, h0, h1, h2, h3, Sem.run_bind, Sem.run_ite]
theorem eq24 (a0 a1 a2 a3 b0 b1 b2 b3 : Int) (w : World) : (Op.equalIn 10000 24 (.agg #[.int .u64 a0, .int .u64 a1, .int .u64 a2, .int .u64 a3]) (.agg #[.int .u64 b0, .int .u64 b1, .int .u64 b2, .int .u64 b3])).run Try.prog w = .ok (a0 == b0 && (a1 == b1 && (a2 == b2 && a3 == b3))) w :=
  eq24g 9999 (fun a b w => run_equalIn_int w 9998 22 .u64 .u64 a b Try.underlying22) a0 a1 a2 a3 b0 b1 b2 b3 w
end Go.Proofs.Ytpigofooblmdhaa
namespace Go.Proofs.Ytpigofooblmdhaa
open Go.RowKit
abbrev wv (N : Int) : Value := .agg #[.int .u64 (lim N 0), .int .u64 (lim N 1), .int .u64 (lim N 2), .int .u64 (lim N 3), .int .u64 (lim N 4), .int .u64 (lim N 5), .int .u64 (lim N 6), .int .u64 (lim N 7)]
set_option maxHeartbeats 4000000 in
theorem raised_any (N : Int) (s : Nat) (hN : 0 ≤ N) (hN' : N < top256) (hs : s ≤ 255) (w : World) :
    Calls Try.prog 88 #[nv N, .int .i64 s] w fun e w' => e = .returned (wv (N * 2 ^ s)) ∧ Below w.heap.size w w' := by
  go_enter Try.func88, Try.ntmps88
  go_wp2
  go_loopw [7] (fun i wr => ∃ k : Nat, k ≤ 8 ∧ i = .int .i64 k ∧ Below w.heap.size w wr ∧ w.heap.size + 1 + 1 < wr.heap.size ∧
      Arr wr w.heap.size 4 (fun j => .int .u64 (lim N j)) ∧ Arr wr (w.heap.size + 1) 8 (fun _ => .int .u64 0) ∧
      Arr wr (w.heap.size + 1 + 1) 8 (fun j => .int .u64 (if j < k then lim (N * 2 ^ s) j else 0)))
    (fun i _ => 8 - (intOf i).toNat)
  case atStart =>
    refine ⟨0, by omega, rfl, by go_grown, by simp, ?_, ?_, ?_⟩
    · refine ((Arr.new _ _ _ _ rfl _ 4 ?_).alloc (by simp) _).alloc (by simp; omega) _
      intro j hj
      have : j = 0 ∨ j = 1 ∨ j = 2 ∨ j = 3 := by omega
      rcases this with rfl | rfl | rfl | rfl <;> rfl
    · refine (Arr.new _ _ _ _ (by simp) _ 8 ?_).alloc (by simp) _
      intro j hj
      have : j = 0 ∨ j = 1 ∨ j = 2 ∨ j = 3 ∨ j = 4 ∨ j = 5 ∨ j = 6 ∨ j = 7 := by omega
      rcases this with rfl | rfl | rfl | rfl | rfl | rfl | rfl | rfl <;> rfl
    · refine Arr.new _ _ _ _ (by simp) _ 8 ?_
      intro j hj
      have : j = 0 ∨ j = 1 ∨ j = 2 ∨ j = 3 ∨ j = 4 ∨ j = 5 ∨ j = 6 ∨ j = 7 := by omega
      rcases this with rfl | rfl | rfl | rfl | rfl | rfl | rfl | rfl <;> rfl
  case round =>
    obtain ⟨k, hk, rfl, hB, hz, A0, A1, A2⟩ := hrel
    have c0 := A0.c
    by_cases hlt : k < 8
    · have k0 : (0 : Int) ≤ (k : Int) := by omega
      have k8 : (k : Int) < 8 := by omega
      have W := fun u => window_any N (64 * (k : Int) - (s : Int)) hN hN' (by omega) (by omega) u
      rw [win_raised] at W
      go_wp2_with (go_at_call 81; refine (W _).mono ?_; rintro e w1 ⟨rfl, hb⟩; have A0' := A0.below hb (by omega); have A1' := A1.below hb (by omega); have A2' := A2.below hb hz; have z2 := A2'.z; have c2 := A2'.c)
      refine ⟨⟨k + 1, by omega, by go_num, (hB.trans (hb.mono hB.size)).setCell (by show _ ≤ w.heap.size + 1 + 1; omega) _, by rw [size_set]; have := hb.size; omega, A0'.other (by omega) _, A1'.other (by omega) _, ?_⟩, by simp [intOf]; omega⟩
      refine (A2'.set k hlt _).congr ?_
      intro j hj
      by_cases e : j = k
      · subst e; simp
      · simp only [if_neg e]
        by_cases e2 : j < k
        · rw [if_pos e2, if_pos (by omega)]
        · rw [if_neg e2, if_neg (by omega)]
    · have k8 : k = 8 := by omega
      subst k8
      have c2 := A2.c
      have c1 := A1.c
      have z1 := A1.z
      clear c0 A0 A1 A2 hk
      go_wp2
      refine bodyPost_ret (v := wv (N * 2 ^ s)) (by simp [results, Try.results88, go_sem, c1]) rfl ⟨rfl, ?_⟩
      repeat (refine Below.setCell ?_ (by show _ ≤ w.heap.size + 1; omega) _)
      exact hB
set_option maxHeartbeats 4000000 in
theorem lowered_any (N : Int) (s : Nat) (hN : 0 ≤ N) (hN' : N < top256) (hs : s ≤ 255) (w : World) :
    Calls Try.prog 90 #[nv N, .int .i64 s] w fun e w' => e = .returned (nv (N / 2 ^ s)) ∧ Below w.heap.size w w' := by
  go_enter Try.func90, Try.ntmps90
  go_wp2
  go_loopw [7] (fun i wr => ∃ k : Nat, k ≤ 4 ∧ i = .int .i64 k ∧ Below w.heap.size w wr ∧ w.heap.size + 1 + 1 < wr.heap.size ∧
      Arr wr w.heap.size 4 (fun j => .int .u64 (lim N j)) ∧ Arr wr (w.heap.size + 1) 4 (fun _ => .int .u64 0) ∧
      Arr wr (w.heap.size + 1 + 1) 4 (fun j => .int .u64 (if j < k then lim (N / 2 ^ s) j else 0)))
    (fun i _ => 4 - (intOf i).toNat)
  case atStart =>
    refine ⟨0, by omega, rfl, by go_grown, by simp, ?_, ?_, ?_⟩
    · refine ((Arr.new _ _ _ _ rfl _ 4 ?_).alloc (by simp) _).alloc (by simp; omega) _
      intro j hj
      have : j = 0 ∨ j = 1 ∨ j = 2 ∨ j = 3 := by omega
      rcases this with rfl | rfl | rfl | rfl <;> rfl
    · refine (Arr.new _ _ _ _ (by simp) _ 4 ?_).alloc (by simp) _
      intro j hj
      have : j = 0 ∨ j = 1 ∨ j = 2 ∨ j = 3 := by omega
      rcases this with rfl | rfl | rfl | rfl <;> rfl
    · refine Arr.new _ _ _ _ (by simp) _ 4 ?_
      intro j hj
      have : j = 0 ∨ j = 1 ∨ j = 2 ∨ j = 3 := by omega
      rcases this with rfl | rfl | rfl | rfl <;> rfl
  case round =>
    obtain ⟨k, hk, rfl, hB, hz, A0, A1, A2⟩ := hrel
    have c0 := A0.c
    by_cases hlt : k < 4
    · have k0 : (0 : Int) ≤ (k : Int) := by omega
      have k8 : (k : Int) < 4 := by omega
      have W := fun u => window_any N (64 * (k : Int) + (s : Int)) hN hN' (by omega) (by omega) u
      rw [win_lowered] at W
      go_wp2_with (go_at_call 81; refine (W _).mono ?_; rintro e w1 ⟨rfl, hb⟩; have A0' := A0.below hb (by omega); have A1' := A1.below hb (by omega); have A2' := A2.below hb hz; have z2 := A2'.z; have c2 := A2'.c)
      refine ⟨⟨k + 1, by omega, by go_num, (hB.trans (hb.mono hB.size)).setCell (by show _ ≤ w.heap.size + 1 + 1; omega) _, by rw [size_set]; have := hb.size; omega, A0'.other (by omega) _, A1'.other (by omega) _, ?_⟩, by simp [intOf]; omega⟩
      refine (A2'.set k hlt _).congr ?_
      intro j hj
      by_cases e : j = k
      · subst e; simp
      · simp only [if_neg e]
        by_cases e2 : j < k
        · rw [if_pos e2, if_pos (by omega)]
        · rw [if_neg e2, if_neg (by omega)]
    · have k8 : k = 4 := by omega
      subst k8
      have c2 := A2.c
      have c1 := A1.c
      have z1 := A1.z
      clear c0 A0 A1 A2 hk
      go_wp2
      refine bodyPost_ret (v := nv (N / 2 ^ s)) (by simp [results, Try.results90, go_sem, c1]) rfl ⟨rfl, ?_⟩
      repeat (refine Below.setCell ?_ (by show _ ≤ w.heap.size + 1; omega) _)
      exact hB
end Go.Proofs.Ytpigofooblmdhaa
namespace Go.Proofs.Ytpigofooblmdhaa
open Go.RowKit Go.Shelf
attribute [local go_sem] Oper.semAt_some
def bitB (E : Int) (k : Nat) : Bool := decide (E / 2 ^ k % 2 = 1)
def bv (b : Bool) : Value := .int .u64 (if b then 1 else 0)
def upto (E : Int) (L k : Nat) : List Bool := (List.range k).map fun j => bitB E (L - 1 - j)
theorem upto_succ (E : Int) (L k : Nat) : upto E L (k + 1) = upto E L k ++ [bitB E (L - 1 - k)] := by simp [upto, List.range_succ]
theorem upto_len (E : Int) (L k : Nat) : (upto E L k).length = k := by simp [upto]
theorem bitV (E : Int) (k : Nat) : Value.int .u64 (win E (k : Int) % 2) = bv (bitB E k) := by
  unfold win bv bitB
  rw [if_pos (by omega)]
  simp only [Int.toNat_natCast]
  generalize E / 2 ^ k = x
  congr 1
  have : x % 18446744073709551616 % 2 = x % 2 := by omega
  rw [this]
  by_cases h : x % 2 = 1
  · simp [h]
  · have : x % 2 = 0 := by omega
    simp [this]
theorem bit_bv (E : Int) (k : Nat) (hN : 0 ≤ E) (hN' : E < top256) (hk : (k : Int) ≤ 9223372036854775807) (w : World) :
    Calls Try.prog 102 #[nv E, .int .i64 k] w fun e w' => e = .returned (bv (bitB E k)) ∧ Below w.heap.size w w' := by
  rw [← bitV]
  exact bit_any E k hN hN' (by omega) hk w
theorem Arr.lt {w : World} {b n : Nat} {f : Nat → Value} (h : Arr w b (n + 1) f) : b < w.heap.size := block_lt_of_cell (h 0 (by omega)).1
def KB (b : Nat) (W W' : World) : Prop := ∀ f, Arr W b 4 f → Arr W' b 4 f
theorem KB.t {b : Nat} {A B C : World} (h1 : KB b A B) (h2 : KB b B C) : KB b A C := fun f h => h2 f (h1 f h)
theorem KB.b {b : Nat} (W : World) (l : Nat) (o o' : Obj) (hl : W.heap[l]? = some o) (hc : o.isCells = false) : KB b W (W.putObj l o') := fun f h j hj =>
  ⟨cell_kept (h j hj).1 (grownBy_putObj' W l o') (fun r e => by cases e; exact ⟨o, hl, hc⟩), (frozen_kept (h j hj).1 (grownBy_putObj' W l o') (fun r e => by cases e; exact ⟨o, hl, hc⟩)).trans (h j hj).2⟩
theorem gby {W w1 : World} (hb : Below W.heap.size W w1) : W.grownBy w1 none := ⟨hb.os, hb.tape, hb.output, hb.size, fun k hk _ => hb.block k hk⟩
theorem upto_pre (E : Int) (L k : Nat) (h : k ≤ L) : upto E L k <+: upto E L L := by
  refine ⟨((List.range' k (L - k)).map fun j => bitB E (L - 1 - j)), ?_⟩
  unfold upto
  rw [← List.map_append]
  congr 1
  have h2 := @List.range'_append_1 0 k (L - k)
  rw [Nat.zero_add] at h2
  rw [List.range_eq_range', List.range_eq_range', h2]
  congr 1; omega
set_option maxHeartbeats 2000000 in
theorem bits1_in (E : Int) (L : Nat) (n l Bn : Nat) (hn : 1 ≤ n) (J Jx : List Bool → World → Prop) (hL : L ≤ 256) {B : Nat} (hJ : AbidesFrom B J)
    (CL : ∀ W, Calls Try.prog 59 #[nv E] W fun e w' => e = .returned (.int .i64 (L : Int)) ∧ Below W.heap.size W w')
    (CB : ∀ (k : Nat) W, k < 256 → Calls Try.prog 102 #[nv E, .int .i64 k] W fun e w' => e = .returned (bv (bitB E k)) ∧ Below W.heap.size W w')
    (hY : ∀ pre x W, J pre W → pre.length < 257 → YieldAt Fence.wide (n - 1) Try.prog l #[bv x] W fun e W' =>
      (e = .returned (.bool true) ∧ J (pre ++ [x]) W' ∧ KB Bn W W') ∨ (e = .returned (.bool false) ∧ Jx (pre ++ [x]) W'))
    (W : World) (hA : Arr W Bn 4 (fun j => .int .u64 (lim E j))) (h0 : J [] W) :
    CallsIn Fence.wide n Try.prog 101 #[.func (.yield l) #[] #[], .pointer (some ⟨Bn, 0, none⟩)] W fun e W' => (∃ v, e = .returned v) ∧
      ((∃ ys, ys = upto E L L ∧ J ys W') ∨ (∃ pre, pre <+: upto E L L ∧ Jx pre W')) := by
  have ca := hA.c
  refine callsIn_of_wp Try.func101 rfl trivial ?_ rfl
  simp only [Try.ntmps101, List.size_toArray, List.length_cons, List.length_nil, Nat.reduceAdd, Nat.reduceSub, Array.replicate_succ, Array.replicate_zero, List.push_toArray, List.append_toArray, List.nil_append, List.cons_append]
  gi_wp2_with (refine ⟨trivial, ?_⟩; gi_at_call 59; refine (callsIn_wide.2 (CL _)).mono ?_; rintro e w1 ⟨rfl, hb1⟩)
  have hA1 := hA.below hb1 hA.lt
  have h01 := hJ _ _ _ none h0 (gby hb1) (fun r e => by cases e)
  clear hA ca h0 hb1 CL
  gi_loopw [3] (fun i wr => ∃ k : Nat, k ≤ L ∧ i = .int .i64 ((L : Int) - 1 - (k : Int)) ∧ J (upto E L k) wr ∧ Arr wr Bn 4 (fun j => .int .u64 (lim E j))) (fun i _ => (intOf i + 1).toNat)
  case atStart => exact ⟨0, by omega, by go_num, h01, hA1⟩
  case round =>
    clear h01 hA1
    obtain ⟨k, hk, rfl, hJs, hA⟩ := hrel
    have ca := hA.c
    by_cases hlt : k < L
    · obtain ⟨m, hm⟩ : ∃ m : Nat, (L : Int) - 1 - (k : Int) = (m : Int) := ⟨L - 1 - k, by omega⟩
      have em : m = L - 1 - k := by omega
      have HM : Hid (m = L - 1 - k) := em
      have HK : Hid (L = m + 1 + k) := (by omega : L = m + 1 + k)
      rw [hm]
      have m0 : (0 : Int) ≤ (m : Int) := by omega
      have m1 : (m : Int) ≤ 255 := by omega
      have cb := fun W => CB m W (by omega)
      have hk3 : (upto E L k).length < 257 := by rw [upto_len]; omega
      have hpre := upto_pre E L (k + 1) hlt
      rw [upto_succ, ← em] at hpre
      have hus := upto_succ E L k
      rw [← em] at hus
      have HU : Hid (upto E L (k + 1) = upto E L k ++ [bitB E m]) := hus
      clear em hm hus
      gi_wp2_with (refine ⟨trivial, ?_⟩; gi_at_call 102; refine (callsIn_wide.2 (cb _)).mono ?_; rintro e w2 ⟨rfl, hb2⟩; obtain ⟨fn, tmps, assign, body, hy, hR⟩ := hY (upto E L k) (bitB E m) w2 (hJ _ _ _ none hJs (gby hb2) (fun r e => by cases e)) hk3)
      refine hR.mono ?_
      rintro e W3 (⟨rfl, hJ3, hb3⟩ | ⟨rfl, hJx3⟩)
      · have hA3 := hb3 _ (hA.below hb2 hA.lt)
        gi_wp2
        go_roundw
        case rel => exact ⟨k + 1, by omega, by have := HK.out; go_num, by rw [HU.out]; exact hJ3, hA3⟩
        case measure => first | (simp [intOf]; done) | (simp [intOf]; omega)
      · gi_wp2
        refine bodyPost_ret (results_none rfl _ _ _) rfl ?_
        exact ⟨⟨_, rfl⟩, .inr ⟨_, hpre, hJx3⟩⟩
    · have e : k = L := by omega
      subst e
      gi_wp2
      go_end0
      exact ⟨⟨_, rfl⟩, .inl ⟨_, rfl, hJs⟩⟩
theorem bits_seq (E : Int) (L n Bn : Nat) (hn : 1 ≤ n) (hL : L ≤ 256) (w0 : World)
    (CL : ∀ W, Calls Try.prog 59 #[nv E] W fun e w' => e = .returned (.int .i64 (L : Int)) ∧ Below W.heap.size W w')
    (CB : ∀ (k : Nat) W, k < 256 → Calls Try.prog 102 #[nv E, .int .i64 k] W fun e w' => e = .returned (bv (bitB E k)) ∧ Below W.heap.size W w')
    (hA : Arr w0 Bn 4 (fun j => .int .u64 (lim E j))) :
    SeqStopsK Fence.wide n Try.prog 101 #[.pointer (some ⟨Bn, 0, none⟩)] (fun b : Bool => #[bv b]) (KB Bn) (fun ys => ys = upto E L L) (fun pre => pre <+: upto E L L) 257 w0 :=
  fun l J Jx W hW hJ _ hY h0 =>
    bits1_in E L n l Bn hn J Jx hL hJ CL CB hY W (hA.below hW hA.lt) h0
set_option maxHeartbeats 1000000 in
theorem bits_any (E : Int) (w : World) : Calls Try.prog 70 #[nv E] w fun e w' => e = .returned (.func (.func 101) #[] #[.pointer (some ⟨w.heap.size, 0, none⟩)]) ∧ w' = w.alloc (.cells #[.int .u64 (lim E 0), .int .u64 (lim E 1), .int .u64 (lim E 2), .int .u64 (lim E 3)] 24) := by
  go_enter Try.func70, Try.ntmps70
  go_wp2
  go_ret
  exact ⟨rfl, rfl⟩
end Go.Proofs.Ytpigofooblmdhaa
namespace Go.Proofs.Ytpigofooblmdhaa
open Go.ChangeShapes Go.WideShapes Go.ChangeAt Go.RowKit
open Go.ChangeMaps (open_string shut_string)
theorem own : ownKnob Try.prog.godebug = none := by kernel_rfl
theorem laidOut : laidOutB Try.prog = true := by kernel_rfl
theorem cells22 : Try.prog.cellsOf 22 = 1 := by kernel_rfl
theorem cells24 : Try.prog.cellsOf 24 = 4 := by kernel_rfl
theorem list4 {α : Type} (l : List α) (h : (⟨l⟩ : Array α).size = 4) : ∃ a b c d, l = [a, b, c, d] := by
  match l, h with
  | [a, b, c, d], _ => exact ⟨a, b, c, d, rfl⟩
set_option maxRecDepth 100000 in
theorem open24 {H : Type} {enc : TypeId × Value → H} {W : World} {base : Nat} {v : Value} {d : DataW H} {p : List MemPlace}
    (hv : Value.okWide Try.prog W .any base 24 v) (h : DataW.Trod enc Try.prog W 0 (fun _ => true) true 24 v d p) : ∃ N : Int, 0 ≤ N ∧ N < top256 ∧ v = nv N := by
  obtain ⟨cs, rfl, hsz, _⟩ : ∃ cs, v = .agg cs ∧ cs.size = Try.prog.cellsOf 24 ∧ Row.okWide Try.prog W .any base 24 cs := by
    simpa [Value.okWide, Try.underlying24] using hv
  rw [cells24] at hsz
  obtain ⟨l⟩ := cs
  obtain ⟨c0, c1, c2, c3, rfl⟩ := list4 l hsz
  obtain ⟨fuel, hf⟩ := h
  obtain ⟨y0, y1, y2, y3, m, hx, hy0, hy1, hy2, hy3⟩ := trod_array4 Try.underlying24 cells22 hf
  obtain ⟨x0, e0, rfl, w0⟩ := DataW.trod_int Try.underlying22 hy0
  obtain ⟨x1, e1, rfl, w1⟩ := DataW.trod_int Try.underlying22 hy1
  obtain ⟨x2, e2, rfl, w2⟩ := DataW.trod_int Try.underlying22 hy2
  obtain ⟨x3, e3, rfl, w3⟩ := DataW.trod_int Try.underlying22 hy3
  simp at e0 e1 e2 e3
  subst e0 e1 e2 e3
  have b0 := bounds_u64 w0
  have b1 := bounds_u64 w1
  have b2 := bounds_u64 w2
  have b3 := bounds_u64 w3
  have bd := V4_bd b0.1 (by omega) b1.1 (by omega) b2.1 (by omega) b3.1 (show x3 < 18446744073709551616 by omega)
  refine ⟨V4 x0 x1 x2 x3, bd.1, bd.2, ?_⟩
  obtain ⟨k0, k1, k2, k3⟩ := lims_of (N := V4 x0 x1 x2 x3) (q := 0) b0.1 (by omega) b1.1 (by omega) b2.1 (by omega) b3.1 (by omega) (by omega)
  simp only [nv, k0, k1, k2, k3]
end Go.Proofs.Ytpigofooblmdhaa
