/- What mod.Rem, mod.below and mod.Mul answer, for any numbers. -/
import Derived.Test.YtgekafmojedlkaaJ20
import Derived.Test.YtgekafmojedlkaaJ2
import Derived.Test.YtgekafmojedlkaaJ8
set_option linter.all false
namespace Go.Proofs.Ytgekafmojedlkaa
open Go.RowKit
/-- What is left of a whole number modulo another; of a modulus 0: 0. -/
def md (x m : Int) : Int := if m = 0 then 0 else x % m
theorem md0 (x : Int) : md x 0 = 0 := by simp [md]
theorem md_pos {m : Int} (x : Int) (h : 0 < m) : md x m = x % m := by unfold md; rw [if_neg (by omega)]
theorem md_nn (x m : Int) (h : 0 ≤ m) : 0 ≤ md x m := by
  unfold md; split
  · omega
  · exact Int.emod_nonneg _ (by omega)
theorem md_lt (x m : Int) (h : 0 < m) : md x m < m := by rw [md_pos x h]; exact Int.emod_lt_of_pos _ h
theorem md_top (x m : Int) (h : 0 ≤ m) (h' : m < top256) : md x m < top256 := by
  by_cases c : m = 0
  · subst c; rw [md0]; decide
  · exact Int.lt_trans (md_lt x m (by omega)) h'
theorem nv_zero : nv 0 = .agg #[.int .u64 0, .int .u64 0, .int .u64 0, .int .u64 0] := by
  have h : ∀ k, lim 0 k = 0 := fun k => by simp [lim]
  simp only [nv, h]
theorem size_call {w w1 : World} (h : Below w.heap.size w w1) : w.heap.size ≤ w1.heap.size := h.size

set_option maxHeartbeats 1000000 in
theorem rem_core (lo hi M Q P R er : Int) (w : World)
    (D : ∀ W, Calls Try.prog 95 #[nv lo, nv hi, nv M] W fun e w' => e = .returned (.tuple #[nv Q, nv P, nv R, .int .i64 er]) ∧ Below W.heap.size W w') :
    Calls Try.prog 81 #[nv lo, nv hi, nv M] w fun e w' => e = .returned (nv R) ∧ Below w.heap.size w w' := by
  go_enter Try.func81, Try.ntmps81
  go_wp2_with fail
  refine (D _).mono ?_
  rintro e w1 ⟨rfl, hb1⟩
  have A6 := (Arr.mk4 (f := fun j => .int .u64 0) (b := w.heap.size + 1 + 1 + 1) (by simp [go_sem]) (by simp [go_sem]) (by simp [go_sem]) (by simp [go_sem]) (by simp [go_sem]) (by simp [go_sem]) (by simp [go_sem]) (by simp [go_sem]) ).below hb1 (by go_size)
  have s1 : w.heap.size + 1 + 1 + 1 < w1.heap.size := by have := hb1.size; simp at this; omega
  have hB1 : Below w.heap.size w w1 := Below.trans (by go_grown) (hb1.mono (by go_size))
  have c6 : ∀ o1 o2 o3 j, j < 4 → (((w1.alloc o1).alloc o2).alloc o3).cell? ⟨w.heap.size + 1 + 1 + 1, j, none⟩ = some (.int .u64 0) := fun o1 o2 o3 j hj => (((A6.alloc (by omega) o1).alloc (by go_size) o2).alloc (by go_size) o3).c j hj
  have z6 : ∀ o1 o2 o3 j, j < 4 → (((w1.alloc o1).alloc o2).alloc o3).frozen? ⟨w.heap.size + 1 + 1 + 1, j, none⟩ = false := fun o1 o2 o3 j hj => (((A6.alloc (by omega) o1).alloc (by go_size) o2).alloc (by go_size) o3).z j hj
  clear hb1 A6 D
  go_wp2_with fail
  refine bodyPost_ret (v := nv R) (by simp [results, Try.results81, go_sem, c6]) rfl ⟨rfl, ?_⟩
  go_grown
theorem rem_any (lo hi M : Int) (hl : 0 ≤ lo) (hl' : lo < top256) (hh : 0 ≤ hi) (hh' : hi < top256) (hM : 0 ≤ M) (hM' : M < top256) (w : World) :
    Calls Try.prog 81 #[nv lo, nv hi, nv M] w fun e w' => e = .returned (nv (md (lo + hi * top256) M)) ∧ Below w.heap.size w w' := by
  by_cases c : M = 0
  · subst c
    rw [md0]
    refine rem_core lo hi 0 0 0 0 13 w fun W => ?_
    have := div_none lo hi W
    rw [← nv_zero] at this
    exact this
  · rw [md_pos _ (by omega)]
    exact rem_core lo hi M _ _ _ 0 w fun W => div_any lo hi M hl hl' hh hh' (by omega) hM' W

set_option maxHeartbeats 1000000 in
theorem below_lt (A M : Int) (w : World)
    (C : ∀ W, Calls Try.prog 45 #[nv A, nv M] W fun e w' => e = .returned (.int .i64 (-1)) ∧ Below W.heap.size W w') :
    Calls Try.prog 71 #[nv A, nv M] w fun e w' => e = .returned (nv A) ∧ Below w.heap.size w w' := by
  go_enter Try.func71, Try.ntmps71
  go_wp2_with fail
  refine (C _).mono ?_
  rintro e w1 ⟨rfl, hb1⟩
  have A2 := (Arr.mk4 (f := fun j => .int .u64 (lim A j)) (b := w.heap.size) (by simp [go_sem]) (by simp [go_sem]) (by simp [go_sem]) (by simp [go_sem]) (by simp [go_sem]) (by simp [go_sem]) (by simp [go_sem]) (by simp [go_sem]) ).below hb1 (by go_size)
  have A4 := (Arr.mk4 (f := fun j => .int .u64 0) (b := w.heap.size + 1 + 1) (by simp [go_sem]) (by simp [go_sem]) (by simp [go_sem]) (by simp [go_sem]) (by simp [go_sem]) (by simp [go_sem]) (by simp [go_sem]) (by simp [go_sem]) ).below hb1 (by go_size)
  have hB1 : Below w.heap.size w w1 := Below.trans (by go_grown) (hb1.mono (by go_size))
  have c2 := A2.c
  have c4 := A4.c
  have z4 := A4.z
  clear hb1 A2 A4 C
  go_wp2_with fail
  refine bodyPost_ret (v := nv A) (by simp [results, Try.results71, go_sem, c4]) rfl ⟨rfl, ?_⟩
  go_grown

set_option maxHeartbeats 1000000 in
theorem below_ge (A M R x : Int) (hx : ¬ x < 0) (w : World)
    (C : ∀ W, Calls Try.prog 45 #[nv A, nv M] W fun e w' => e = .returned (.int .i64 x) ∧ Below W.heap.size W w')
    (D : ∀ W, Calls Try.prog 81 #[nv A, .agg #[.int .u64 0, .int .u64 0, .int .u64 0, .int .u64 0], nv M] W fun e w' => e = .returned (nv R) ∧ Below W.heap.size W w') :
    Calls Try.prog 71 #[nv A, nv M] w fun e w' => e = .returned (nv R) ∧ Below w.heap.size w w' := by
  go_enter Try.func71, Try.ntmps71
  go_wp2_with fail
  refine (C _).mono ?_
  rintro e w1 ⟨rfl, hb1⟩
  have A2 := (Arr.mk4 (f := fun j => .int .u64 (lim A j)) (b := w.heap.size) (by simp [go_sem]) (by simp [go_sem]) (by simp [go_sem]) (by simp [go_sem]) (by simp [go_sem]) (by simp [go_sem]) (by simp [go_sem]) (by simp [go_sem]) ).below hb1 (by go_size)
  have A3 := (Arr.mk4 (f := fun j => .int .u64 (lim M j)) (b := w.heap.size + 1) (by simp [go_sem]) (by simp [go_sem]) (by simp [go_sem]) (by simp [go_sem]) (by simp [go_sem]) (by simp [go_sem]) (by simp [go_sem]) (by simp [go_sem]) ).below hb1 (by go_size)
  have A4 := (Arr.mk4 (f := fun j => .int .u64 0) (b := w.heap.size + 1 + 1) (by simp [go_sem]) (by simp [go_sem]) (by simp [go_sem]) (by simp [go_sem]) (by simp [go_sem]) (by simp [go_sem]) (by simp [go_sem]) (by simp [go_sem]) ).below hb1 (by go_size)
  have s1 : w.heap.size + 1 + 1 < w1.heap.size := by have := hb1.size; simp at this; omega
  have hB1 : Below w.heap.size w w1 := Below.trans (by go_grown) (hb1.mono (by go_size))
  have c2 := A2.c
  have c3 := A3.c
  clear hb1 A2 A3 C
  go_wp2_with fail
  refine (D _).mono ?_
  rintro e w2 ⟨rfl, hb2⟩
  have A4' := A4.below hb2 (by omega)
  have hB2 : Below w.heap.size w w2 := hB1.trans (hb2.mono hB1.size)
  have c4 := A4'.c
  have z4 := A4'.z
  clear hb2 A4 A4' D c2 c3
  go_wp2_with fail
  refine bodyPost_ret (v := nv R) (by simp [results, Try.results71, go_sem, c4]) rfl ⟨rfl, ?_⟩
  go_grown
theorem sg_lt {a b : Int} (h : a < b) : sg a b = -1 := by unfold sg; rw [if_pos h]
theorem sg_ge {a b : Int} (h : b ≤ a) : ¬ sg a b < 0 := by unfold sg; rw [if_neg (by omega)]; split <;> omega
theorem below_any (A M : Int) (hA : 0 ≤ A) (hA' : A < top256) (hM : 0 ≤ M) (hM' : M < top256) (w : World) :
    Calls Try.prog 71 #[nv A, nv M] w fun e w' => e = .returned (nv (md A M)) ∧ Below w.heap.size w w' := by
  by_cases c : A < M
  · have e : md A M = A := by rw [md_pos A (by omega)]; exact Int.emod_eq_of_lt hA c
    rw [e]
    refine below_lt A M w fun W => ?_
    have := cmp_any A M hA hA' hM hM' W
    rw [sg_lt c] at this
    exact this
  · refine below_ge A M (md A M) (sg A M) (sg_ge (by omega)) w (fun W => cmp_any A M hA hA' hM hM' W) fun W => ?_
    have := rem_any A 0 M hA hA' (by omega) (by decide) hM hM' W
    rw [nv_zero, Int.zero_mul, Int.add_zero] at this
    exact this

set_option maxHeartbeats 1000000 in
theorem mmul_core (A B M L H R : Int) (w : World)
    (C : ∀ W, Calls Try.prog 80 #[nv A, nv B] W fun e w' => e = .returned (.tuple #[nv L, nv H]) ∧ Below W.heap.size W w')
    (D : ∀ W, Calls Try.prog 81 #[nv L, nv H, nv M] W fun e w' => e = .returned (nv R) ∧ Below W.heap.size W w') :
    Calls Try.prog 64 #[nv A, nv B, nv M] w fun e w' => e = .returned (nv R) ∧ Below w.heap.size w w' := by
  go_enter Try.func64, Try.ntmps64
  go_wp2_with fail
  refine (C _).mono ?_
  rintro e w1 ⟨rfl, hb1⟩
  have A5 := (Arr.mk4 (f := fun j => .int .u64 (lim M j)) (b := w.heap.size + 1 + 1) (by simp [go_sem]) (by simp [go_sem]) (by simp [go_sem]) (by simp [go_sem]) (by simp [go_sem]) (by simp [go_sem]) (by simp [go_sem]) (by simp [go_sem]) ).below hb1 (by go_size)
  have A6 := (Arr.mk4 (f := fun j => .int .u64 0) (b := w.heap.size + 1 + 1 + 1) (by simp [go_sem]) (by simp [go_sem]) (by simp [go_sem]) (by simp [go_sem]) (by simp [go_sem]) (by simp [go_sem]) (by simp [go_sem]) (by simp [go_sem]) ).below hb1 (by go_size)
  have s1 : w.heap.size + 1 + 1 + 1 < w1.heap.size := by have := hb1.size; simp at this; omega
  have hB1 : Below w.heap.size w w1 := Below.trans (by go_grown) (hb1.mono (by go_size))
  have c5 : ∀ o1 o2 j, j < 4 → ((w1.alloc o1).alloc o2).cell? ⟨w.heap.size + 1 + 1, j, none⟩ = some (.int .u64 (lim M j)) := fun o1 o2 j hj => ((A5.alloc (by omega) o1).alloc (by go_size) o2).c j hj
  clear hb1 A5 C
  go_wp2_with fail
  refine (D _).mono ?_
  rintro e w2 ⟨rfl, hb2⟩
  have A6' := ((A6.alloc (by omega) _).alloc (by go_size) _).below hb2 (by go_size)
  have hB2 : Below w.heap.size w w2 := ((hB1.alloc (by go_size) _).alloc (by go_size) _).trans (hb2.mono (by go_size))
  have c6 := A6'.c
  have z6 := A6'.z
  clear hb2 A6 A6' D c5
  go_wp2_with fail
  refine bodyPost_ret (v := nv R) (by simp [results, Try.results64, go_sem, c6]) rfl ⟨rfl, ?_⟩
  go_grown
theorem mmul_any (A B M : Int) (hA : 0 ≤ A) (hA' : A < top256) (hB : 0 ≤ B) (hB' : B < top256) (hM : 0 ≤ M) (hM' : M < top256) (w : World) :
    Calls Try.prog 64 #[nv A, nv B, nv M] w fun e w' => e = .returned (nv (md (A * B) M)) ∧ Below w.heap.size w w' := by
  have p0 : 0 ≤ A * B := Int.mul_nonneg hA hB
  have tp : (0 : Int) < top256 := by decide
  have p1 : A * B / top256 < top256 := Int.ediv_lt_of_lt_mul tp (by
    have h1 : A * B ≤ A * top256 := Int.mul_le_mul_of_nonneg_left (by omega) hA
    have h2 : A * top256 < top256 * top256 := Int.mul_lt_mul_of_pos_right hA' tp
    omega)
  have e : A * B = A * B % top256 + A * B / top256 * top256 := by have := Int.emod_add_mul_ediv (A * B) top256; rw [Int.mul_comm top256] at this; omega
  refine mmul_core A B M (A * B) (A * B / top256) (md (A * B) M) w (fun W => mul_any A B hA hA' hB hB' W) fun W => ?_
  have := rem_any (A * B % top256) (A * B / top256) M (Int.emod_nonneg _ (by omega)) (Int.emod_lt_of_pos _ tp) (Int.ediv_nonneg p0 (by omega)) p1 hM hM' W
  rw [← e] at this
  have en : nv (A * B % top256) = nv (A * B) := by simp only [nv, lim_mod _ 0 (by omega), lim_mod _ 1 (by omega), lim_mod _ 2 (by omega), lim_mod _ 3 (by omega)]
  rw [en] at this
  exact this
end Go.Proofs.Ytgekafmojedlkaa
