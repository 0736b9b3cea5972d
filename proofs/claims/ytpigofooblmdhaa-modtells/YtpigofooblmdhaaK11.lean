/- The chapter's examples, which each statement plays at its end, come out. -/
import Derived.Test.YtpigofooblmdhaaK10
import Derived.Test.YtpigofooblmdhaaK8
import Derived.Lib.QuietBelow
import Derived.BigQuiet
set_option linter.all false
namespace Go.Proofs.Ytpigofooblmdhaa
open Go.RowKit Go.Sort
/-- A small number as the translation holds it. -/
abbrev sm (x : Int) : Value := .agg #[.int .u64 x, .int .u64 0, .int .u64 0, .int .u64 0]
theorem nv_sm (x : Int) (h0 : 0 ≤ x) (h1 : x < 18446744073709551616) : nv x = sm x := by
  have e0 : lim x 0 = x := by rw [lim0]; omega
  have e1 : lim x 1 = 0 := by rw [lim1]; omega
  have e2 : lim x 2 = 0 := by rw [lim2]; omega
  have e3 : lim x 3 = 0 := by rw [lim3]; omega
  simp only [nv, e0, e1, e2, e3]
set_option maxHeartbeats 1000000 in
theorem n39 (x : Int) (w : World) : Calls Try.prog 67 #[.int .u64 x] w fun e w' => e = .returned (sm x) ∧ Below w.heap.size w w' := by
  go_enter Try.func67, Try.ntmps67
  go_wp2
  refine bodyPost_ret (v := sm x) (by simp [results, Try.results67, go_sem]) rfl ⟨rfl, ?_⟩
  go_grown
theorem ex_inv29 (w : World) : Calls Try.prog 36 #[sm 2, sm 9] w fun e w' => e = .returned (.tuple #[sm 5, .bool true]) ∧ Below w.heap.size w w' := by
  have := inv_any 2 9 (by omega) (by decide) (by omega) (by decide) w
  rw [nv_sm 2 (by omega) (by omega), nv_sm 9 (by omega) (by omega)] at this
  refine this.mono ?_
  rintro e w' ⟨⟨x, ok, ⟨x0, h1, h2, h3⟩, rfl⟩, hb⟩
  have ok1 : ok = true := h3.2 ⟨by omega, by decide⟩
  subst ok1
  obtain ⟨a, ⟨t, ht⟩⟩ := h1 rfl
  have : x = 5 := by omega
  subst this
  exact ⟨by rw [nv_sm 5 (by omega) (by omega)], hb⟩
theorem ex_inv39 (w : World) : Calls Try.prog 36 #[sm 3, sm 9] w fun e w' => e = .returned (.tuple #[sm 0, .bool false]) ∧ Below w.heap.size w w' := by
  have := inv_any 3 9 (by omega) (by decide) (by omega) (by decide) w
  rw [nv_sm 3 (by omega) (by omega), nv_sm 9 (by omega) (by omega)] at this
  refine this.mono ?_
  rintro e w' ⟨⟨x, ok, ⟨x0, h1, h2, h3⟩, rfl⟩, hb⟩
  have ok1 : ok = false := by
    cases ok with
    | false => rfl
    | true => exact absurd (h3.1 rfl).2 (by decide)
  subst ok1
  have := h2 rfl
  subst this
  exact ⟨by rw [nv_sm 0 (by omega) (by omega)], hb⟩
theorem ex_mul (w : World) : Calls Try.prog 33 #[sm 5, sm 7, sm 9] w fun e w' => e = .returned (sm 8) ∧ Below w.heap.size w w' := by
  have := mmul_any 5 7 9 (by omega) (by decide) (by omega) (by decide) (by omega) (by decide) w
  rw [show md (5 * 7) 9 = 8 by decide, nv_sm 5 (by omega) (by omega), nv_sm 7 (by omega) (by omega), nv_sm 9 (by omega) (by omega), nv_sm 8 (by omega) (by omega)] at this
  exact this
theorem ex_sub (w : World) : Calls Try.prog 31 #[sm 2, sm 5, sm 9] w fun e w' => e = .returned (sm 6) ∧ Below w.heap.size w w' := by
  have := msub_any 2 5 9 (by omega) (by decide) (by omega) (by decide) (by omega) (by decide) w
  rw [show md (2 - 5) 9 = 6 by decide, nv_sm 2 (by omega) (by omega), nv_sm 5 (by omega) (by omega), nv_sm 9 (by omega) (by omega), nv_sm 6 (by omega) (by omega)] at this
  exact this
theorem ex_pow (w : World) : Calls Try.prog 38 #[sm 2, sm 10, sm 1000] w fun e w' => e = .returned (sm 24) ∧ Below w.heap.size w w' := by
  have := pow_any 2 10 1000 (by omega) (by decide) (by omega) (by decide) (by omega) (by decide) w
  rw [show md (2 ^ (10 : Int).toNat) 1000 = 24 by decide, nv_sm 2 (by omega) (by omega), nv_sm 10 (by omega) (by omega), nv_sm 1000 (by omega) (by omega), nv_sm 24 (by omega) (by omega)] at this
  exact this
attribute [local go_sem] eq24
set_option maxHeartbeats 4000000 in
theorem awake_any (w : World) : Calls Try.prog 35 #[] w fun e w' => e = .returned (.bool true) ∧ Below w.heap.size w w' := by
  go_enter Try.func35, Try.ntmps35
  go_wp2_with fail
  refine (n39 _ _).mono ?_
  rintro e wa ⟨rfl, ha⟩
  go_wp2_with fail
  refine (n39 _ _).mono ?_
  rintro e wb ⟨rfl, hb⟩
  go_wp2_with fail
  refine (ex_inv29 _).mono ?_
  rintro e w1 ⟨rfl, h1⟩
  have hB1 := Bel.call (Bel.call ha hb) h1
  clear ha hb h1
  go_wp2_with fail
  refine (n39 _ _).mono ?_
  rintro e wc ⟨rfl, hc⟩
  have A2 := (Arr.mk4 (f := fun j => .int .u64 (if j = 0 then 5 else 0)) (b := w1.heap.size) (by simp [go_sem]) (by simp [go_sem]) (by simp [go_sem]) (by simp [go_sem]) (by simp [go_sem]) (by simp [go_sem]) (by simp [go_sem]) (by simp [go_sem]) ).below hc (by go_size)
  have hBc := Bel.call (Bel.al hB1 _) hc
  clear hc hB1
  go_wp2_with fail
  refine (n39 _ _).mono ?_
  rintro e wd ⟨rfl, hd⟩
  have A2' := A2.below hd A2.lt
  have hBd := Bel.call hBc hd
  clear hd hBc A2
  go_wp2_with fail
  refine (ex_inv39 _).mono ?_
  rintro e w2 ⟨rfl, h2⟩
  have A2 := A2'.below h2 A2'.lt
  have hB2 := Bel.call hBd h2
  clear h2 hBd A2'
  go_wp2_with fail
  have A3 := A2.alloc A2.lt (.cells #[.int .u64 0, .int .u64 0, .int .u64 0, .int .u64 0] 24)
  have n0 := fun ds os => cell_regrown (A3.c 0 (by omega)) ds os
  have n1 := fun ds os => cell_regrown (A3.c 1 (by omega)) ds os
  have n2 := fun ds os => cell_regrown (A3.c 2 (by omega)) ds os
  have n3 := fun ds os => cell_regrown (A3.c 3 (by omega)) ds os
  simp only [if_true, Nat.one_ne_zero, if_false] at n0 n1 n2 n3
  refine wp_region_quiet_below (by kernel_rfl) (by kernel_rfl) ?_
  repeat (go_big_quiet_step (first | (go_at_call 67; exact Calls.regrown_of (n39 _ _)) | (go_at_call 33; exact Calls.regrown_of (ex_mul _)) | (go_at_call 31; exact Calls.regrown_of (ex_sub _)) | (go_at_call 38; exact Calls.regrown_of (ex_pow _))))
  refine wpQuiet_nil ?_
  intro _ hw'
  obtain ⟨⟨dq, osq⟩, hw''⟩ := hw'
  subst hw''
  clear n0 n1 n2 n3
  go_wp2
  go_ret
  exact ⟨rfl, Bel.call (Bel.al hB2 _) (below_regrown _ _ _)⟩
end Go.Proofs.Ytpigofooblmdhaa
