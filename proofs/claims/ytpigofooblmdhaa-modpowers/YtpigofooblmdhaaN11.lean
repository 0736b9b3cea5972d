/- What num.raised and num.lowered answer. -/
import Derived.Test.YtpigofooblmdhaaB1
import Derived.Test.YtpigofooblmdhaaN4
set_option linter.all false
namespace Go.Proofs.Ytpigofooblmdhaa
open Go.RowKit
abbrev wv (N : Int) : Value := .agg #[.int .u64 (lim N 0), .int .u64 (lim N 1), .int .u64 (lim N 2), .int .u64 (lim N 3), .int .u64 (lim N 4), .int .u64 (lim N 5), .int .u64 (lim N 6), .int .u64 (lim N 7)]
set_option maxHeartbeats 4000000 in
theorem raised_any (N : Int) (s : Nat) (hN : 0 ≤ N) (hN' : N < top256) (hs : s ≤ 255) (w : World) :
    Calls Try.prog 88 #[nv N, .int .i64 s] w fun e w' => e = .returned (wv (N * 2 ^ s)) ∧ Below w.heap.size w w' := by
  go_enter Try.func88, Try.ntmps88
  go_wp2
  go_loopw [7] (fun i wr => ∃ k : Nat, k ≤ 8 ∧ i = .int .i64 k ∧ Below w.heap.size w wr ∧ w.heap.size + 1 + 1 < wr.heap.size ∧
      Arr wr w.heap.size 4 (fun j => .int .u64 (lim N j)) ∧ Arr wr (w.heap.size + 1) 8 (fun _ => .int .u64 0) ∧
      Arr wr (w.heap.size + 1 + 1) 8 (fun j => .int .u64 (if j < k then lim (N * 2 ^ s) j else 0)))
    (fun i _ => 8 - (intOf i).toNat)
  case atStart =>
    refine ⟨0, by omega, rfl, by go_grown, by simp, ?_, ?_, ?_⟩
    · refine ((Arr.new _ _ _ _ rfl _ 4 ?_).alloc (by simp) _).alloc (by simp; omega) _
      intro j hj
      have : j = 0 ∨ j = 1 ∨ j = 2 ∨ j = 3 := by omega
      rcases this with rfl | rfl | rfl | rfl <;> rfl
    · refine (Arr.new _ _ _ _ (by simp) _ 8 ?_).alloc (by simp) _
      intro j hj
      have : j = 0 ∨ j = 1 ∨ j = 2 ∨ j = 3 ∨ j = 4 ∨ j = 5 ∨ j = 6 ∨ j = 7 := by omega
      rcases this with rfl | rfl | rfl | rfl | rfl | rfl | rfl | rfl <;> rfl
    · refine Arr.new _ _ _ _ (by simp) _ 8 ?_
      intro j hj
      have : j = 0 ∨ j = 1 ∨ j = 2 ∨ j = 3 ∨ j = 4 ∨ j = 5 ∨ j = 6 ∨ j = 7 := by omega
      rcases this with rfl | rfl | rfl | rfl | rfl | rfl | rfl | rfl <;> rfl
  case round =>
    obtain ⟨k, hk, rfl, hB, hz, A0, A1, A2⟩ := hrel
    have c0 := A0.c
    by_cases hlt : k < 8
    · have k0 : (0 : Int) ≤ (k : Int) := by omega
      have k8 : (k : Int) < 8 := by omega
      have W := fun u => window_any N (64 * (k : Int) - (s : Int)) hN hN' (by omega) (by omega) u
      rw [win_raised] at W
      go_wp2_with (go_at_call 81; refine (W _).mono ?_; rintro e w1 ⟨rfl, hb⟩; have A0' := A0.below hb (by omega); have A1' := A1.below hb (by omega); have A2' := A2.below hb hz; have z2 := A2'.z; have c2 := A2'.c)
      refine ⟨⟨k + 1, by omega, by go_num, (hB.trans (hb.mono hB.size)).setCell (by show _ ≤ w.heap.size + 1 + 1; omega) _, by rw [size_set]; have := hb.size; omega, A0'.other (by omega) _, A1'.other (by omega) _, ?_⟩, by simp [intOf]; omega⟩
      refine (A2'.set k hlt _).congr ?_
      intro j hj
      by_cases e : j = k
      · subst e; simp
      · simp only [if_neg e]
        by_cases e2 : j < k
        · rw [if_pos e2, if_pos (by omega)]
        · rw [if_neg e2, if_neg (by omega)]
    · have k8 : k = 8 := by omega
      subst k8
      have c2 := A2.c
      have c1 := A1.c
      have z1 := A1.z
      clear c0 A0 A1 A2 hk
      go_wp2
      refine bodyPost_ret (v := wv (N * 2 ^ s)) (by simp [results, Try.results88, go_sem, c1]) rfl ⟨rfl, ?_⟩
      repeat (refine Below.setCell ?_ (by show _ ≤ w.heap.size + 1; omega) _)
      exact hB
set_option maxHeartbeats 4000000 in
theorem lowered_any (N : Int) (s : Nat) (hN : 0 ≤ N) (hN' : N < top256) (hs : s ≤ 255) (w : World) :
    Calls Try.prog 90 #[nv N, .int .i64 s] w fun e w' => e = .returned (nv (N / 2 ^ s)) ∧ Below w.heap.size w w' := by
  go_enter Try.func90, Try.ntmps90
  go_wp2
  go_loopw [7] (fun i wr => ∃ k : Nat, k ≤ 4 ∧ i = .int .i64 k ∧ Below w.heap.size w wr ∧ w.heap.size + 1 + 1 < wr.heap.size ∧
      Arr wr w.heap.size 4 (fun j => .int .u64 (lim N j)) ∧ Arr wr (w.heap.size + 1) 4 (fun _ => .int .u64 0) ∧
      Arr wr (w.heap.size + 1 + 1) 4 (fun j => .int .u64 (if j < k then lim (N / 2 ^ s) j else 0)))
    (fun i _ => 4 - (intOf i).toNat)
  case atStart =>
    refine ⟨0, by omega, rfl, by go_grown, by simp, ?_, ?_, ?_⟩
    · refine ((Arr.new _ _ _ _ rfl _ 4 ?_).alloc (by simp) _).alloc (by simp; omega) _
      intro j hj
      have : j = 0 ∨ j = 1 ∨ j = 2 ∨ j = 3 := by omega
      rcases this with rfl | rfl | rfl | rfl <;> rfl
    · refine (Arr.new _ _ _ _ (by simp) _ 4 ?_).alloc (by simp) _
      intro j hj
      have : j = 0 ∨ j = 1 ∨ j = 2 ∨ j = 3 := by omega
      rcases this with rfl | rfl | rfl | rfl <;> rfl
    · refine Arr.new _ _ _ _ (by simp) _ 4 ?_
      intro j hj
      have : j = 0 ∨ j = 1 ∨ j = 2 ∨ j = 3 := by omega
      rcases this with rfl | rfl | rfl | rfl <;> rfl
  case round =>
    obtain ⟨k, hk, rfl, hB, hz, A0, A1, A2⟩ := hrel
    have c0 := A0.c
    by_cases hlt : k < 4
    · have k0 : (0 : Int) ≤ (k : Int) := by omega
      have k8 : (k : Int) < 4 := by omega
      have W := fun u => window_any N (64 * (k : Int) + (s : Int)) hN hN' (by omega) (by omega) u
      rw [win_lowered] at W
      go_wp2_with (go_at_call 81; refine (W _).mono ?_; rintro e w1 ⟨rfl, hb⟩; have A0' := A0.below hb (by omega); have A1' := A1.below hb (by omega); have A2' := A2.below hb hz; have z2 := A2'.z; have c2 := A2'.c)
      refine ⟨⟨k + 1, by omega, by go_num, (hB.trans (hb.mono hB.size)).setCell (by show _ ≤ w.heap.size + 1 + 1; omega) _, by rw [size_set]; have := hb.size; omega, A0'.other (by omega) _, A1'.other (by omega) _, ?_⟩, by simp [intOf]; omega⟩
      refine (A2'.set k hlt _).congr ?_
      intro j hj
      by_cases e : j = k
      · subst e; simp
      · simp only [if_neg e]
        by_cases e2 : j < k
        · rw [if_pos e2, if_pos (by omega)]
        · rw [if_neg e2, if_neg (by omega)]
    · have k8 : k = 4 := by omega
      subst k8
      have c2 := A2.c
      have c1 := A1.c
      have z1 := A1.z
      clear c0 A0 A1 A2 hk
      go_wp2
      refine bodyPost_ret (v := nv (N / 2 ^ s)) (by simp [results, Try.results90, go_sem, c1]) rfl ⟨rfl, ?_⟩
      repeat (refine Below.setCell ?_ (by show _ ≤ w.heap.size + 1; omega) _)
      exact hB
end Go.Proofs.Ytpigofooblmdhaa
