/- Texts joined: N10, K7. -/
import Derived.RangeFuncFrom
import Derived.RangeFuncNested
import Derived.RangeFuncBound
import Derived.RangeFuncCalls
import Derived.RangeFuncLeaves
import Derived.Shelf.Abstract
import Derived.Shelf.RegionOpen
import Derived.WalkKit
import Derived.OwnWalkIn
import Derived.TacticsInMore
import Derived.LoopNIn
import Derived.LoopIn
import Derived.Test.YtgekafmojedlkaaJ4
import Derived.Test.YtgekafmojedlkaaJ2
/- What num.Len answers. -/
set_option linter.all false
namespace Go.Proofs.Ytgekafmojedlkaa
open Go.RowKit
attribute [local go_sem] idx24_0 idx24_1 idx24_2 idx24_3
/-- How many bits the lower k parts have. -/
def ln (N : Int) (k : Nat) : Int := bitLen (N % 18446744073709551616 ^ k).toNat
theorem ln_step0 (N : Int) (k : Nat) (h : lim N k = 0) : ln N (k + 1) = ln N k := by
  unfold lim at h
  unfold ln
  have hp : (0 : Int) < 18446744073709551616 ^ k := Int.pow_pos (by omega)
  rw [Int.pow_succ, mod_split N _ hp, h, Int.mul_zero, Int.add_zero]
theorem ln_step1 (N : Int) (k : Nat) (h : ¬ lim N k = 0) : ln N (k + 1) = 64 * k + (bitLen (lim N k).toNat : Int) := by
  unfold ln
  have hp : (0 : Int) < 18446744073709551616 ^ k := Int.pow_pos (by omega)
  have l0 := lim_nn N k
  have e : lim N k = N / 18446744073709551616 ^ k % 18446744073709551616 := rfl
  rw [Int.pow_succ, mod_split N _ hp, ← e]
  have a0 := Int.emod_nonneg N (Int.ne_of_gt hp)
  have a1 := Int.emod_lt_of_pos N hp
  have e2 : (18446744073709551616 : Int) ^ k = ((2 ^ (64 * k) : Nat) : Int) := by
    rw [Nat.pow_mul]; simp
  rw [e2] at a0 a1 ⊢
  clear e e2 hp
  generalize (N % ((2 ^ (64 * k) : Nat) : Int)) = a at *
  generalize lim N k = u at *
  obtain ⟨U, rfl⟩ := Int.eq_ofNat_of_zero_le l0
  obtain ⟨a', rfl⟩ := Int.eq_ofNat_of_zero_le a0
  have hU : U ≠ 0 := by omega
  have ha : a' < 2 ^ (64 * k) := by exact_mod_cast a1
  have e3 : ((a' : Int) + ((2 ^ (64 * k) : Nat) : Int) * (U : Int)) = ((a' + 2 ^ (64 * k) * U : Nat) : Int) := by push_cast; rfl
  rw [e3, Int.toNat_natCast, Int.toNat_natCast]
  have e4 : (a' + 2 ^ (64 * k) * U) / 2 ^ (64 * k) = U := by
    rw [Nat.add_mul_div_left _ _ (Nat.two_pow_pos _), Nat.div_eq_of_lt ha, Nat.zero_add]
  have := bitLen_shift (a' + 2 ^ (64 * k) * U) (64 * k) (by rw [e4]; exact hU)
  rw [e4] at this
  rw [this]; push_cast; rfl
theorem ln_zero (N : Int) : ln N 0 = 0 := by unfold ln; simp [Int.emod_one, bitLen]
theorem ln_four (N : Int) (hA : 0 ≤ N) (hA' : N < top256) : ln N 4 = bitLen N.toNat := by
  unfold ln
  have e : (18446744073709551616 : Int) ^ 4 = top256 := by decide
  rw [e, Int.emod_eq_of_lt hA hA']
theorem ln64_le (x : Int) (h1 : x < 18446744073709551616) : bitLen x.toNat ≤ 64 := by
  unfold bitLen
  split
  · omega
  · rename_i h0
    have := (Nat.log2_lt h0).2 (show x.toNat < 2 ^ 64 by omega)
    omega

set_option maxHeartbeats 4000000 in
theorem len_raw (N : Int) (w : World) :
    Calls Try.prog 77 #[nv N] w fun e w' => e = .returned (.int .i64 (ln N 4)) ∧ Below w.heap.size w w' := by
  have b0 := ln64_le (lim N 0) (lim_lt N 0)
  have b1 := ln64_le (lim N 1) (lim_lt N 1)
  have b2 := ln64_le (lim N 2) (lim_lt N 2)
  have b3 := ln64_le (lim N 3) (lim_lt N 3)
  go_enter Try.func77, Try.ntmps77
  go_wp2
  go_loop [3, 7] (fun s i => ∃ k : Nat, k ≤ 4 ∧ i = .int .i64 k ∧ s = .int .i64 (ln N k)) (fun _ i => 4 - (intOf i).toNat)
  case atStart => exact ⟨0, by omega, rfl, by rw [ln_zero]⟩
  case round =>
    obtain ⟨k, hk, rfl, rfl⟩ := hrel
    have hk5 : k = 0 ∨ k = 1 ∨ k = 2 ∨ k = 3 ∨ k = 4 := by omega
    rcases hk5 with h | h | h | h | h
    rotate_right
    · subst h
      clear hk
      go_wp2
      go_returns
      exact ⟨rfl, by go_grown⟩
    all_goals
      subst h
      clear hk
    all_goals go_wp2_with (go_at_call 92; refine (len64_any _ (lim_nn _ _) (lim_lt _ _) _).mono ?_; rintro e w' ⟨rfl, rfl⟩)
    all_goals first
      | exact ⟨⟨1, by omega, rfl, congrArg (Value.int IntKind.i64) (by rw [ln_step1 N 0 (bne_t (by assumption))]; omega)⟩, by simp [intOf]⟩
      | exact ⟨⟨1, by omega, rfl, congrArg (Value.int IntKind.i64) (ln_step0 N 0 (bne_f (by assumption))).symm⟩, by simp [intOf]⟩
      | exact ⟨⟨2, by omega, rfl, congrArg (Value.int IntKind.i64) (by rw [ln_step1 N 1 (bne_t (by assumption))]; omega)⟩, by simp [intOf]⟩
      | exact ⟨⟨2, by omega, rfl, congrArg (Value.int IntKind.i64) (ln_step0 N 1 (bne_f (by assumption))).symm⟩, by simp [intOf]⟩
      | exact ⟨⟨3, by omega, rfl, congrArg (Value.int IntKind.i64) (by rw [ln_step1 N 2 (bne_t (by assumption))]; omega)⟩, by simp [intOf]⟩
      | exact ⟨⟨3, by omega, rfl, congrArg (Value.int IntKind.i64) (ln_step0 N 2 (bne_f (by assumption))).symm⟩, by simp [intOf]⟩
      | exact ⟨⟨4, by omega, rfl, congrArg (Value.int IntKind.i64) (by rw [ln_step1 N 3 (bne_t (by assumption))]; omega)⟩, by simp [intOf]⟩
      | exact ⟨⟨4, by omega, rfl, congrArg (Value.int IntKind.i64) (ln_step0 N 3 (bne_f (by assumption))).symm⟩, by simp [intOf]⟩
      | skip
    go_ways
theorem len_any (N : Int) (hN : 0 ≤ N) (hN' : N < top256) (w : World) :
    Calls Try.prog 77 #[nv N] w fun e w' => e = .returned (.int .i64 (bitLen N.toNat)) ∧ Below w.heap.size w w' := by
  rw [← ln_four N hN hN']
  exact len_raw N w
end Go.Proofs.Ytgekafmojedlkaa
/- mod.bits hands out a number's bits, the highest first. -/
set_option linter.all false
namespace Go.Proofs.Ytgekafmojedlkaa
open Go.RowKit Go.Shelf
attribute [local go_sem] Oper.semAt_some
/-- Bit k of a number. -/
def bitB (E : Int) (k : Nat) : Bool := decide (E / 2 ^ k % 2 = 1)
/-- A bit as the translation holds it. -/
def bv (b : Bool) : Value := .int .u64 (if b then 1 else 0)
/-- The bits that have come when k rounds are over, of L. -/
def upto (E : Int) (L k : Nat) : List Bool := (List.range k).map fun j => bitB E (L - 1 - j)
theorem upto_succ (E : Int) (L k : Nat) : upto E L (k + 1) = upto E L k ++ [bitB E (L - 1 - k)] := by simp [upto, List.range_succ]
theorem upto_len (E : Int) (L k : Nat) : (upto E L k).length = k := by simp [upto]
theorem bitV (E : Int) (k : Nat) : Value.int .u64 (win E (k : Int) % 2) = bv (bitB E k) := by
  unfold win bv bitB
  rw [if_pos (by omega)]
  simp only [Int.toNat_natCast]
  generalize E / 2 ^ k = x
  congr 1
  have : x % 18446744073709551616 % 2 = x % 2 := by omega
  rw [this]
  by_cases h : x % 2 = 1
  · simp [h]
  · have : x % 2 = 0 := by omega
    simp [this]
theorem bit_bv (E : Int) (k : Nat) (hN : 0 ≤ E) (hN' : E < top256) (hk : (k : Int) ≤ 9223372036854775807) (w : World) :
    Calls Try.prog 78 #[nv E, .int .i64 k] w fun e w' => e = .returned (bv (bitB E k)) ∧ Below w.heap.size w w' := by
  rw [← bitV]
  exact bit_any E k hN hN' (by omega) hk w
/-- What a round that goes on keeps: block b's four cells. -/
def KB (b : Nat) (W W' : World) : Prop := ∀ f, Arr W b 4 f → Arr W' b 4 f
theorem KB.t {b : Nat} {A B C : World} (h1 : KB b A B) (h2 : KB b B C) : KB b A C := fun f h => h2 f (h1 f h)
theorem KB.b {b : Nat} (W : World) (l : Nat) (o o' : Obj) (hl : W.heap[l]? = some o) (hc : o.isCells = false) : KB b W (W.putObj l o') := fun f h j hj =>
  ⟨cell_kept (h j hj).1 (grownBy_putObj' W l o') (fun r e => by cases e; exact ⟨o, hl, hc⟩), (frozen_kept (h j hj).1 (grownBy_putObj' W l o') (fun r e => by cases e; exact ⟨o, hl, hc⟩)).trans (h j hj).2⟩
theorem gby {W w1 : World} (hb : Below W.heap.size W w1) : W.grownBy w1 none := ⟨hb.os, hb.tape, hb.output, hb.size, fun k hk _ => hb.block k hk⟩
theorem upto_pre (E : Int) (L k : Nat) (h : k ≤ L) : upto E L k <+: upto E L L := by
  refine ⟨((List.range' k (L - k)).map fun j => bitB E (L - 1 - j)), ?_⟩
  unfold upto
  rw [← List.map_append]
  congr 1
  have h2 := @List.range'_append_1 0 k (L - k)
  rw [Nat.zero_add] at h2
  rw [List.range_eq_range', List.range_eq_range', h2]
  congr 1; omega
end Go.Proofs.Ytgekafmojedlkaa
