/- PROVED: the function pendulumlaw01.NumDivides answers true for every input, and each argument reads behind the call as it read before; no condition. -/
import Derived.Test.YtfgeilnaiijldaaR4
import Derived.Test.YtfgeilnaiijldaaR5
import Derived.Test.YtfgeilnaiijldaaN20
import Derived.Test.YtfgeilnaiijldaaF0
set_option linter.all false
namespace Go.Proofs.Ytfgeilnaiijldaa
open Go.ChangeShapes Go.WideShapes Go.ChangeAt Go.RowKit
open Go.ChangeMaps (open_string shut_string)
section
attribute [local go_sem] eq24
set_option maxHeartbeats 1000000 in
theorem refDiv_none (lo hi : Int) (w : World) :
    Calls Try.prog 34 #[nv lo, nv hi, .agg #[.int .u64 0, .int .u64 0, .int .u64 0, .int .u64 0]] w fun e w' => e = .returned (.tuple #[.agg #[.int .u64 0, .int .u64 0, .int .u64 0, .int .u64 0], .agg #[.int .u64 0, .int .u64 0, .int .u64 0, .int .u64 0], .agg #[.int .u64 0, .int .u64 0, .int .u64 0, .int .u64 0], .int .i64 13]) ∧ Below w.heap.size w w' := by
  go_enter Try.func34, Try.ntmps34
  go_wp2
  refine bodyPost_ret (v := .tuple #[.agg #[.int .u64 0, .int .u64 0, .int .u64 0, .int .u64 0], .agg #[.int .u64 0, .int .u64 0, .int .u64 0, .int .u64 0], .agg #[.int .u64 0, .int .u64 0, .int .u64 0, .int .u64 0], .int .i64 13]) (by simp [results, Try.results34, go_sem]) rfl ⟨rfl, ?_⟩
  go_grown
set_option maxHeartbeats 4000000 in
theorem divides_core (lo hi M Q P R er : Int) (w : World)
    (CD : ∀ W, Calls Try.prog 33 #[nv lo, nv hi, nv M] W fun e w' => e = .returned (.tuple #[nv Q, nv P, nv R, .int .i64 er]) ∧ Below W.heap.size W w')
    (CR : ∀ W, Calls Try.prog 34 #[nv lo, nv hi, nv M] W fun e w' => e = .returned (.tuple #[nv Q, nv P, nv R, .int .i64 er]) ∧ Below W.heap.size W w') :
    Calls Try.prog 5 #[nv lo, nv hi, nv M] w fun e w' => e = .returned (.bool true) ∧ Below w.heap.size w w' := by
  go_enter Try.func5, Try.ntmps5
  go_wp2_with fail
  refine (CD _).mono ?_
  rintro e w1 ⟨rfl, hb1⟩
  have L3 := (Arr.mk4 (f := fun j => .int .u64 (lim lo j)) (b := w.heap.size) (by simp [go_sem]) (by simp [go_sem]) (by simp [go_sem]) (by simp [go_sem]) (by simp [go_sem]) (by simp [go_sem]) (by simp [go_sem]) (by simp [go_sem]) ).below hb1 (by go_size)
  have L4 := (Arr.mk4 (f := fun j => .int .u64 (lim hi j)) (b := w.heap.size + 1) (by simp [go_sem]) (by simp [go_sem]) (by simp [go_sem]) (by simp [go_sem]) (by simp [go_sem]) (by simp [go_sem]) (by simp [go_sem]) (by simp [go_sem]) ).below hb1 (by go_size)
  have L5 := (Arr.mk4 (f := fun j => .int .u64 (lim M j)) (b := w.heap.size + 1 + 1) (by simp [go_sem]) (by simp [go_sem]) (by simp [go_sem]) (by simp [go_sem]) (by simp [go_sem]) (by simp [go_sem]) (by simp [go_sem]) (by simp [go_sem]) ).below hb1 (by go_size)
  have s1 : w.heap.size + 1 + 1 < w1.heap.size := by have := hb1.size; simp at this; omega
  have hB1 : Below w.heap.size w w1 := Below.trans (by go_grown) (hb1.mono (by go_size))
  have r3 : ∀ o0 o1 o2 j, j < 4 → (((w1.alloc o0).alloc o1).alloc o2).cell? ⟨w.heap.size, j, none⟩ = some (.int .u64 (lim lo j)) := fun o0 o1 o2 j hj => (((L3.alloc (by go_size) o0).alloc (by go_size) o1).alloc (by go_size) o2).c j hj
  have r4 : ∀ o0 o1 o2 j, j < 4 → (((w1.alloc o0).alloc o1).alloc o2).cell? ⟨w.heap.size + 1, j, none⟩ = some (.int .u64 (lim hi j)) := fun o0 o1 o2 j hj => (((L4.alloc (by go_size) o0).alloc (by go_size) o1).alloc (by go_size) o2).c j hj
  have r5 : ∀ o0 o1 o2 j, j < 4 → (((w1.alloc o0).alloc o1).alloc o2).cell? ⟨w.heap.size + 1 + 1, j, none⟩ = some (.int .u64 (lim M j)) := fun o0 o1 o2 j hj => (((L5.alloc (by go_size) o0).alloc (by go_size) o1).alloc (by go_size) o2).c j hj
  clear hb1 L3 L4 L5 CD
  go_wp2_with fail
  refine (CR _).mono ?_
  rintro e w2 ⟨rfl, hb2⟩
  have L7 := (Arr.mk4 (f := fun j => .int .u64 (lim Q j)) (b := w1.heap.size) (by simp [go_sem]) (by simp [go_sem]) (by simp [go_sem]) (by simp [go_sem]) (by simp [go_sem]) (by simp [go_sem]) (by simp [go_sem]) (by simp [go_sem]) ).below hb2 (by go_size)
  have L8 := (Arr.mk4 (f := fun j => .int .u64 (lim P j)) (b := w1.heap.size + 1) (by simp [go_sem]) (by simp [go_sem]) (by simp [go_sem]) (by simp [go_sem]) (by simp [go_sem]) (by simp [go_sem]) (by simp [go_sem]) (by simp [go_sem]) ).below hb2 (by go_size)
  have L9 := (Arr.mk4 (f := fun j => .int .u64 (lim R j)) (b := w1.heap.size + 1 + 1) (by simp [go_sem]) (by simp [go_sem]) (by simp [go_sem]) (by simp [go_sem]) (by simp [go_sem]) (by simp [go_sem]) (by simp [go_sem]) (by simp [go_sem]) ).below hb2 (by go_size)
  have s2 : w1.heap.size + 1 + 1 < w2.heap.size := by have := hb2.size; simp at this; omega
  have hB2 : Below w.heap.size w w2 := (((hB1.alloc (by go_size) _).alloc (by go_size) _).alloc (by go_size) _).trans (hb2.mono (by go_size))
  have r7 : ∀ o0 o1 o2 j, j < 4 → (((w2.alloc o0).alloc o1).alloc o2).cell? ⟨w1.heap.size, j, none⟩ = some (.int .u64 (lim Q j)) := fun o0 o1 o2 j hj => (((L7.alloc (by go_size) o0).alloc (by go_size) o1).alloc (by go_size) o2).c j hj
  have r8 : ∀ o0 o1 o2 j, j < 4 → (((w2.alloc o0).alloc o1).alloc o2).cell? ⟨w1.heap.size + 1, j, none⟩ = some (.int .u64 (lim P j)) := fun o0 o1 o2 j hj => (((L8.alloc (by go_size) o0).alloc (by go_size) o1).alloc (by go_size) o2).c j hj
  have r9 : ∀ o0 o1 o2 j, j < 4 → (((w2.alloc o0).alloc o1).alloc o2).cell? ⟨w1.heap.size + 1 + 1, j, none⟩ = some (.int .u64 (lim R j)) := fun o0 o1 o2 j hj => (((L9.alloc (by go_size) o0).alloc (by go_size) o1).alloc (by go_size) o2).c j hj
  clear hb2 L7 L8 L9 CR r3 r4 r5 hB1
  go_wp2_with fail
  refine (awake_any _).mono ?_
  rintro e w3 ⟨rfl, hb3⟩
  have hB3 : Below w.heap.size w w3 := (((hB2.alloc (by go_size) _).alloc (by go_size) _).alloc (by go_size) _).trans (hb3.mono (by go_size))
  clear hb3 r7 r8 r9 hB2
  go_wp2_with fail
  go_ret
  exact ⟨rfl, hB3⟩
end
theorem bit_lo (lo hi : Int) (m : Nat) (h : m < 256) : (lo + hi * top256) / 2 ^ m % 2 = lo / 2 ^ m % 2 := by
  obtain ⟨d, hd⟩ : ∃ d, 256 = m + 1 + d := ⟨255 - m, by omega⟩
  have e : top256 = 2 ^ d * 2 * 2 ^ m := by rw [top_pow, hd, Int.pow_add, Int.pow_succ]; grind
  rw [e, ← Int.mul_assoc, Int.add_mul_ediv_right _ _ (Int.ne_of_gt (Int.pow_pos (by omega))), ← Int.mul_assoc]
  generalize hi * 2 ^ d = x
  generalize lo / 2 ^ m = y
  omega
theorem bit_hi (lo hi : Int) (m : Nat) (h0 : 0 ≤ lo) (h1 : lo < top256) : (lo + hi * top256) / 2 ^ (m + 256) % 2 = hi / 2 ^ m % 2 := by
  have tp : (0 : Int) < top256 := by decide
  rw [Int.pow_add, Int.mul_comm (2 ^ m) (2 ^ 256), ← top_pow, ← Int.ediv_ediv_of_nonneg (Int.le_of_lt tp), Int.add_mul_ediv_right _ _ (Int.ne_of_gt tp), Int.ediv_eq_zero_of_lt h0 h1, Int.zero_add]
theorem refDiv_any (lo hi M : Int) (hl : 0 ≤ lo) (hl' : lo < top256) (hh : 0 ≤ hi) (hh' : hi < top256) (hM : 0 < M) (hM' : M < top256) (w : World) :
    Calls Try.prog 34 #[nv lo, nv hi, nv M] w fun e w' => e = .returned (.tuple #[nv ((lo + hi * top256) / M), nv ((lo + hi * top256) / M / top256), nv ((lo + hi * top256) % M), .int .i64 0]) ∧ Below w.heap.size w w' := by
  have tp : (0 : Int) < top256 := by decide
  have F0 : 0 ≤ lo + hi * top256 := Int.add_nonneg hl (Int.mul_nonneg hh (Int.le_of_lt tp))
  have F1 : lo + hi * top256 < top256 * top256 := by
    have a : hi * top256 ≤ (top256 - 1) * top256 := Int.mul_le_mul_of_nonneg_right (by omega) (Int.le_of_lt tp)
    have b : (top256 - 1) * top256 = top256 * top256 - top256 := by rw [Int.sub_mul, Int.one_mul]
    omega
  have hz : (lim M 0 == 0 && (lim M 1 == 0 && (lim M 2 == 0 && lim M 3 == 0))) = false := by
    have v := V4_lim M (Int.le_of_lt hM) hM'
    unfold V4 at v
    by_cases c0 : lim M 0 = 0
    · by_cases c1 : lim M 1 = 0
      · by_cases c2 : lim M 2 = 0
        · by_cases c3 : lim M 3 = 0
          · rw [c0, c1, c2, c3] at v; omega
          · simp [c3]
        · simp [c2]
      · simp [c1]
    · simp [c0]
  refine refDiv_raw lo hi M (lo + hi * top256) w F0 F1 hz hM hM' ?_ ?_
  · intro m W hm
    rw [bit_lo lo hi m hm]
    exact refBit_in lo m (m / 64) (m % 64) (by omega) (by omega) (by omega) W
  · intro m W h1 h2
    obtain ⟨n, rfl⟩ : ∃ n, m = n + 256 := ⟨m - 256, by omega⟩
    rw [bit_hi lo hi n hl hl', show ((n + 256 : Nat) : Int) - 256 = (n : Int) by omega]
    exact refBit_in hi n (n / 64) (n % 64) (by omega) (by omega) (by omega) W
theorem nv_nil : nv 0 = .agg #[.int .u64 0, .int .u64 0, .int .u64 0, .int .u64 0] := by
  have h : ∀ k, lim 0 k = 0 := fun k => by simp [lim]
  simp only [nv, h]
theorem divides_any (lo hi M : Int) (hl : 0 ≤ lo) (hl' : lo < top256) (hh : 0 ≤ hi) (hh' : hi < top256) (hM : 0 ≤ M) (hM' : M < top256) (w : World) :
    Calls Try.prog 5 #[nv lo, nv hi, nv M] w fun e w' => e = .returned (.bool true) ∧ Below w.heap.size w w' := by
  by_cases c : M = 0
  · subst c
    refine divides_core lo hi 0 0 0 0 13 w (fun W => ?_) (fun W => ?_)
    · have := div_none lo hi W
      rw [← nv_nil] at this
      exact this
    · have := refDiv_none lo hi W
      rw [← nv_nil] at this
      exact this
  · exact divides_core lo hi M _ _ _ 0 w (fun W => div_any lo hi M hl hl' hh hh' (by omega) hM' W) (fun W => refDiv_any lo hi M hl hl' hh hh' (by omega) hM' W)
set_option maxRecDepth 100000 in
theorem lifted5 (os : Os) (started : os.Started) (H : Type) (enc : TypeId × Value → H) :
    ReturnsInHanded {} Try.checked os 5 .any (Rows.numDividesSpec.pre6 enc Try.prog Try.f5 Rows.numDividesRow.domain false) (Rows.numDividesSpec.post enc Try.prog Try.f5 false true false false) := by
  refine returnsInHanded_of_change (C := Try.checked) own started (by kernel_rfl) Try.func5
    (ChangeSpec.witness6 (enc := enc) (C := Try.checked) false ⟨#[], #[.agg #[.int .u64 0, .int .u64 0, .int .u64 0, .int .u64 0], .agg #[.int .u64 0, .int .u64 0, .int .u64 0, .int .u64 0], .agg #[.int .u64 0, .int .u64 0, .int .u64 0, .int .u64 0]], []⟩ 8 (by kernel_rfl) (by kernel_rfl) (by kernel_rfl) (by kernel_rfl)) ?_
  intro W base args ds gs before hval0 hW hcnd _
  have hval : ∀ (j : Nat) t v, Try.f5.params[j]? = some t → args[j]? = some v → Value.okWide Try.prog W .any base t v := hval0
  have hW' := hW
  obtain ⟨p, q, hA0, hV, rfl, hfz, hnd⟩ := hW
  have hA : DataW.TrodAll enc Try.prog W 0 (fun _ => true) true Try.f5.params.toList args.toList ds p := hA0
  rw [Try.params5] at hA hval
  obtain ⟨v0, vs0, d0, ds0, p0, q0, hargs, rfl, rfl, h0, r0⟩ := trodAll_cons hA
  obtain ⟨v1, vs1, d1, ds1, p1, q1, rfl, rfl, rfl, h1, r1⟩ := trodAll_cons r0
  obtain ⟨v2, vs2, d2, ds2, p2, q2, rfl, rfl, rfl, h2, r2⟩ := trodAll_cons r1
  obtain ⟨rfl, rfl, rfl⟩ := trodAll_nil r2
  obtain rfl : args = #[v0, v1, v2] := by cases args; simp_all
  obtain ⟨rfl, rfl⟩ := trodVars_none hV
  have k0 := h0
  have k1 := h1
  have k2 := h2
  have lt0 : ∀ x ∈ p0, x.block < W.heap.size := by obtain ⟨m, hm⟩ := k0; exact DataW.trod_lt m _ _ _ hm
  have lt1 : ∀ x ∈ p1, x.block < W.heap.size := by obtain ⟨m, hm⟩ := k1; exact DataW.trod_lt m _ _ _ hm
  have lt2 : ∀ x ∈ p2, x.block < W.heap.size := by obtain ⟨m, hm⟩ := k2; exact DataW.trod_lt m _ _ _ hm
  obtain ⟨N0, n0, n0', rfl⟩ := open24 (hval 0 24 v0 rfl rfl) h0
  obtain ⟨N1, n1, n1', rfl⟩ := open24 (hval 1 24 v1 rfl rfl) h1
  obtain ⟨N2, n2, n2', rfl⟩ := open24 (hval 2 24 v2 rfl rfl) h2
  clear hA0 hval0
  refine (divides_any N0 N1 N2 n0 n0' n1 n1' n2 n2' W).mono fun e W' ⟨he, bel⟩ => ?_
  subst he
  exact ⟨_, rfl, _, _, _, [], _, [], hW', trodAll_mk1 (shut_bool Try.underlying4 _), (trodAll_cons_mk (Below.trod laidOut (by kernel_rfl) (of_decide_eq_true (by kernel_rfl)) k0 bel lt0) (trodAll_cons_mk (Below.trod laidOut (by kernel_rfl) (of_decide_eq_true (by kernel_rfl)) k1 bel lt1) (trodAll_cons_mk (Below.trod laidOut (by kernel_rfl) (of_decide_eq_true (by kernel_rfl)) k2 bel lt2) trodAll_mk0))), rfl, bel.frame _, fun h => by cases h⟩
theorem numDivides_holds : Rows.NumDividesSaid :=
  OpenClaim.holds_of_wide 5 Try.f5 rfl rfl rfl rfl rfl rfl rfl ⟨rfl, rfl, rfl, rfl, rfl⟩ rfl rfl rfl rfl rfl (by kernel_rfl) Try.func5 (by kernel_rfl)
    (of_decide_eq_true (by kernel_rfl)) (by unfold Func.isWrapper; rw [if_neg (of_decide_eq_false (by kernel_rfl))]; exact ⟨rfl, rfl⟩)
    (fun os started H enc _ => lifted5 os started H enc)
#print axioms numDivides_holds
end Go.Proofs.Ytfgeilnaiijldaa
