/- mod.bits hands out a number's bits, the highest first. -/
import Derived.RangeFuncFrom
import Derived.RangeFuncNested
import Derived.RangeFuncBound
import Derived.RangeFuncCalls
import Derived.RangeFuncLeaves
import Derived.Shelf.Abstract
import Derived.Shelf.RegionOpen
import Derived.WalkKit
import Derived.OwnWalkIn
import Derived.TacticsInMore
import Derived.LoopNIn
import Derived.LoopIn
import Derived.Test.YtpigofooblmdhaaN4
import Derived.Test.YtpigofooblmdhaaN10
import Derived.Test.YtpigofooblmdhaaB1
set_option linter.all false
namespace Go.Proofs.Ytpigofooblmdhaa
open Go.RowKit Go.Shelf
attribute [local go_sem] Oper.semAt_some
/-- Bit k of a number. -/
def bitB (E : Int) (k : Nat) : Bool := decide (E / 2 ^ k % 2 = 1)
/-- A bit as the translation holds it. -/
def bv (b : Bool) : Value := .int .u64 (if b then 1 else 0)
/-- The bits that have come when k rounds are over, of L. -/
def upto (E : Int) (L k : Nat) : List Bool := (List.range k).map fun j => bitB E (L - 1 - j)
theorem upto_succ (E : Int) (L k : Nat) : upto E L (k + 1) = upto E L k ++ [bitB E (L - 1 - k)] := by simp [upto, List.range_succ]
theorem upto_len (E : Int) (L k : Nat) : (upto E L k).length = k := by simp [upto]
theorem bitV (E : Int) (k : Nat) : Value.int .u64 (win E (k : Int) % 2) = bv (bitB E k) := by
  unfold win bv bitB
  rw [if_pos (by omega)]
  simp only [Int.toNat_natCast]
  generalize E / 2 ^ k = x
  congr 1
  have : x % 18446744073709551616 % 2 = x % 2 := by omega
  rw [this]
  by_cases h : x % 2 = 1
  · simp [h]
  · have : x % 2 = 0 := by omega
    simp [this]
theorem bit_bv (E : Int) (k : Nat) (hN : 0 ≤ E) (hN' : E < top256) (hk : (k : Int) ≤ 9223372036854775807) (w : World) :
    Calls Try.prog 102 #[nv E, .int .i64 k] w fun e w' => e = .returned (bv (bitB E k)) ∧ Below w.heap.size w w' := by
  rw [← bitV]
  exact bit_any E k hN hN' (by omega) hk w
theorem Arr.lt {w : World} {b n : Nat} {f : Nat → Value} (h : Arr w b (n + 1) f) : b < w.heap.size := block_lt_of_cell (h 0 (by omega)).1
/-- What a round that goes on keeps: block b's four cells. -/
def KB (b : Nat) (W W' : World) : Prop := ∀ f, Arr W b 4 f → Arr W' b 4 f
theorem KB.t {b : Nat} {A B C : World} (h1 : KB b A B) (h2 : KB b B C) : KB b A C := fun f h => h2 f (h1 f h)
theorem KB.b {b : Nat} (W : World) (l : Nat) (o o' : Obj) (hl : W.heap[l]? = some o) (hc : o.isCells = false) : KB b W (W.putObj l o') := fun f h j hj =>
  ⟨cell_kept (h j hj).1 (grownBy_putObj' W l o') (fun r e => by cases e; exact ⟨o, hl, hc⟩), (frozen_kept (h j hj).1 (grownBy_putObj' W l o') (fun r e => by cases e; exact ⟨o, hl, hc⟩)).trans (h j hj).2⟩
theorem gby {W w1 : World} (hb : Below W.heap.size W w1) : W.grownBy w1 none := ⟨hb.os, hb.tape, hb.output, hb.size, fun k hk _ => hb.block k hk⟩
theorem upto_pre (E : Int) (L k : Nat) (h : k ≤ L) : upto E L k <+: upto E L L := by
  refine ⟨((List.range' k (L - k)).map fun j => bitB E (L - 1 - j)), ?_⟩
  unfold upto
  rw [← List.map_append]
  congr 1
  have h2 := @List.range'_append_1 0 k (L - k)
  rw [Nat.zero_add] at h2
  rw [List.range_eq_range', List.range_eq_range', h2]
  congr 1; omega
set_option maxHeartbeats 2000000 in
theorem bits1_in (E : Int) (L : Nat) (n l Bn : Nat) (hn : 1 ≤ n) (J Jx : List Bool → World → Prop) (hL : L ≤ 256) {B : Nat} (hJ : AbidesFrom B J)
    (CL : ∀ W, Calls Try.prog 59 #[nv E] W fun e w' => e = .returned (.int .i64 (L : Int)) ∧ Below W.heap.size W w')
    (CB : ∀ (k : Nat) W, k < 256 → Calls Try.prog 102 #[nv E, .int .i64 k] W fun e w' => e = .returned (bv (bitB E k)) ∧ Below W.heap.size W w')
    (hY : ∀ pre x W, J pre W → pre.length < 257 → YieldAt Fence.wide (n - 1) Try.prog l #[bv x] W fun e W' =>
      (e = .returned (.bool true) ∧ J (pre ++ [x]) W' ∧ KB Bn W W') ∨ (e = .returned (.bool false) ∧ Jx (pre ++ [x]) W'))
    (W : World) (hA : Arr W Bn 4 (fun j => .int .u64 (lim E j))) (h0 : J [] W) :
    CallsIn Fence.wide n Try.prog 101 #[.func (.yield l) #[] #[], .pointer (some ⟨Bn, 0, none⟩)] W fun e W' => (∃ v, e = .returned v) ∧
      ((∃ ys, ys = upto E L L ∧ J ys W') ∨ (∃ pre, pre <+: upto E L L ∧ Jx pre W')) := by
  have ca := hA.c
  refine callsIn_of_wp Try.func101 rfl trivial ?_ rfl
  simp only [Try.ntmps101, List.size_toArray, List.length_cons, List.length_nil, Nat.reduceAdd, Nat.reduceSub, Array.replicate_succ, Array.replicate_zero, List.push_toArray, List.append_toArray, List.nil_append, List.cons_append]
  gi_wp2_with (refine ⟨trivial, ?_⟩; gi_at_call 59; refine (callsIn_wide.2 (CL _)).mono ?_; rintro e w1 ⟨rfl, hb1⟩)
  have hA1 := hA.below hb1 hA.lt
  have h01 := hJ _ _ _ none h0 (gby hb1) (fun r e => by cases e)
  clear hA ca h0 hb1 CL
  gi_loopw [3] (fun i wr => ∃ k : Nat, k ≤ L ∧ i = .int .i64 ((L : Int) - 1 - (k : Int)) ∧ J (upto E L k) wr ∧ Arr wr Bn 4 (fun j => .int .u64 (lim E j))) (fun i _ => (intOf i + 1).toNat)
  case atStart => exact ⟨0, by omega, by go_num, h01, hA1⟩
  case round =>
    clear h01 hA1
    obtain ⟨k, hk, rfl, hJs, hA⟩ := hrel
    have ca := hA.c
    by_cases hlt : k < L
    · obtain ⟨m, hm⟩ : ∃ m : Nat, (L : Int) - 1 - (k : Int) = (m : Int) := ⟨L - 1 - k, by omega⟩
      have em : m = L - 1 - k := by omega
      have HM : Hid (m = L - 1 - k) := em
      have HK : Hid (L = m + 1 + k) := (by omega : L = m + 1 + k)
      rw [hm]
      have m0 : (0 : Int) ≤ (m : Int) := by omega
      have m1 : (m : Int) ≤ 255 := by omega
      have cb := fun W => CB m W (by omega)
      have hk3 : (upto E L k).length < 257 := by rw [upto_len]; omega
      have hpre := upto_pre E L (k + 1) hlt
      rw [upto_succ, ← em] at hpre
      have hus := upto_succ E L k
      rw [← em] at hus
      have HU : Hid (upto E L (k + 1) = upto E L k ++ [bitB E m]) := hus
      clear em hm hus
      gi_wp2_with (refine ⟨trivial, ?_⟩; gi_at_call 102; refine (callsIn_wide.2 (cb _)).mono ?_; rintro e w2 ⟨rfl, hb2⟩; obtain ⟨fn, tmps, assign, body, hy, hR⟩ := hY (upto E L k) (bitB E m) w2 (hJ _ _ _ none hJs (gby hb2) (fun r e => by cases e)) hk3)
      refine hR.mono ?_
      rintro e W3 (⟨rfl, hJ3, hb3⟩ | ⟨rfl, hJx3⟩)
      · have hA3 := hb3 _ (hA.below hb2 hA.lt)
        gi_wp2
        go_roundw
        case rel => exact ⟨k + 1, by omega, by have := HK.out; go_num, by rw [HU.out]; exact hJ3, hA3⟩
        case measure => first | (simp [intOf]; done) | (simp [intOf]; omega)
      · gi_wp2
        refine bodyPost_ret (results_none rfl _ _ _) rfl ?_
        exact ⟨⟨_, rfl⟩, .inr ⟨_, hpre, hJx3⟩⟩
    · have e : k = L := by omega
      subst e
      gi_wp2
      go_end0
      exact ⟨⟨_, rfl⟩, .inl ⟨_, rfl, hJs⟩⟩
theorem bits_seq (E : Int) (L n Bn : Nat) (hn : 1 ≤ n) (hL : L ≤ 256) (w0 : World)
    (CL : ∀ W, Calls Try.prog 59 #[nv E] W fun e w' => e = .returned (.int .i64 (L : Int)) ∧ Below W.heap.size W w')
    (CB : ∀ (k : Nat) W, k < 256 → Calls Try.prog 102 #[nv E, .int .i64 k] W fun e w' => e = .returned (bv (bitB E k)) ∧ Below W.heap.size W w')
    (hA : Arr w0 Bn 4 (fun j => .int .u64 (lim E j))) :
    SeqStopsK Fence.wide n Try.prog 101 #[.pointer (some ⟨Bn, 0, none⟩)] (fun b : Bool => #[bv b]) (KB Bn) (fun ys => ys = upto E L L) (fun pre => pre <+: upto E L L) 257 w0 :=
  fun l J Jx W hW hJ _ hY h0 =>
    bits1_in E L n l Bn hn J Jx hL hJ CL CB hY W (hA.below hW hA.lt) h0
set_option maxHeartbeats 1000000 in
theorem bits_any (E : Int) (w : World) : Calls Try.prog 70 #[nv E] w fun e w' => e = .returned (.func (.func 101) #[] #[.pointer (some ⟨w.heap.size, 0, none⟩)]) ∧ w' = w.alloc (.cells #[.int .u64 (lim E 0), .int .u64 (lim E 1), .int .u64 (lim E 2), .int .u64 (lim E 3)] 24) := by
  go_enter Try.func70, Try.ntmps70
  go_wp2
  go_ret
  exact ⟨rfl, rfl⟩
end Go.Proofs.Ytpigofooblmdhaa
