/- PROVED: the function pendulumlaw02.ModRing answers true for every input, and each argument reads behind the call as it read before; no condition. -/
import Derived.Test.YtcipmgommoflgaaL5
import Derived.Test.YtcipmgommoflgaaF0
set_option linter.all false
namespace Go.Proofs.Ytcipmgommoflgaa
open Go.ChangeShapes Go.WideShapes Go.ChangeAt Go.RowKit
open Go.Sort (grow)
open Go.ChangeMaps (open_string shut_string)
section
attribute [local go_sem] eq24
set_option maxHeartbeats 4000000 in
theorem ring_none (A B C : Int) (iA : In A) (iB : In B) (iM : In 0) (Z1 : md (A + B) 0 = 0) (Z2 : md (A * B) 0 = 0) (w : World) :
    Calls Try.prog 5 #[nv A, nv B, nv C, nv 0] w fun e w' => e = .returned (.bool true) ∧ Below w.heap.size w w' := by
  have hz : (lim 0 0 == 0 && (lim 0 1 == 0 && (lim 0 2 == 0 && lim 0 3 == 0))) = true := by decide
  go_enter Try.func5, Try.ntmps5
  go_wp2_with fail
  have RA := R4.of (w := (((w.alloc (.cells #[.int .u64 (lim A 0), .int .u64 (lim A 1), .int .u64 (lim A 2), .int .u64 (lim A 3)] 24)).alloc (.cells #[.int .u64 (lim B 0), .int .u64 (lim B 1), .int .u64 (lim B 2), .int .u64 (lim B 3)] 24)).alloc (.cells #[.int .u64 (lim C 0), .int .u64 (lim C 1), .int .u64 (lim C 2), .int .u64 (lim C 3)] 24)).alloc (.cells #[.int .u64 (lim 0 0), .int .u64 (lim 0 1), .int .u64 (lim 0 2), .int .u64 (lim 0 3)] 24)) (b := w.heap.size) (f := fun j => .int .u64 (lim A j)) (by simp [go_sem]) (by simp [go_sem]) (by simp [go_sem]) (by simp [go_sem])
  have RB := R4.of (w := (((w.alloc (.cells #[.int .u64 (lim A 0), .int .u64 (lim A 1), .int .u64 (lim A 2), .int .u64 (lim A 3)] 24)).alloc (.cells #[.int .u64 (lim B 0), .int .u64 (lim B 1), .int .u64 (lim B 2), .int .u64 (lim B 3)] 24)).alloc (.cells #[.int .u64 (lim C 0), .int .u64 (lim C 1), .int .u64 (lim C 2), .int .u64 (lim C 3)] 24)).alloc (.cells #[.int .u64 (lim 0 0), .int .u64 (lim 0 1), .int .u64 (lim 0 2), .int .u64 (lim 0 3)] 24)) (b := w.heap.size + 1) (f := fun j => .int .u64 (lim B j)) (by simp [go_sem]) (by simp [go_sem]) (by simp [go_sem]) (by simp [go_sem])
  have RM := R4.of (w := (((w.alloc (.cells #[.int .u64 (lim A 0), .int .u64 (lim A 1), .int .u64 (lim A 2), .int .u64 (lim A 3)] 24)).alloc (.cells #[.int .u64 (lim B 0), .int .u64 (lim B 1), .int .u64 (lim B 2), .int .u64 (lim B 3)] 24)).alloc (.cells #[.int .u64 (lim C 0), .int .u64 (lim C 1), .int .u64 (lim C 2), .int .u64 (lim C 3)] 24)).alloc (.cells #[.int .u64 (lim 0 0), .int .u64 (lim 0 1), .int .u64 (lim 0 2), .int .u64 (lim 0 3)] 24)) (b := w.heap.size + 1 + 1 + 1) (f := fun j => .int .u64 (lim 0 j)) (by simp [go_sem]) (by simp [go_sem]) (by simp [go_sem]) (by simp [go_sem])
  have ra0 := fun ds os => cell_regrown (RA 0 (by omega)) ds os
  have ra1 := fun ds os => cell_regrown (RA 1 (by omega)) ds os
  have ra2 := fun ds os => cell_regrown (RA 2 (by omega)) ds os
  have ra3 := fun ds os => cell_regrown (RA 3 (by omega)) ds os
  have rb0 := fun ds os => cell_regrown (RB 0 (by omega)) ds os
  have rb1 := fun ds os => cell_regrown (RB 1 (by omega)) ds os
  have rb2 := fun ds os => cell_regrown (RB 2 (by omega)) ds os
  have rb3 := fun ds os => cell_regrown (RB 3 (by omega)) ds os
  have rm0 := fun ds os => cell_regrown (RM 0 (by omega)) ds os
  have rm1 := fun ds os => cell_regrown (RM 1 (by omega)) ds os
  have rm2 := fun ds os => cell_regrown (RM 2 (by omega)) ds os
  have rm3 := fun ds os => cell_regrown (RM 3 (by omega)) ds os
  refine wp_region_quiet_below (by kernel_rfl) (by kernel_rfl) ?_
  repeat (go_big_quiet_step (first | (go_at_call 16; exact Calls.regrown_of (k16 iA iB iM _)) | (go_at_call 20; exact Calls.regrown_of (k20 iA iB iM _)) | (go_at_call 22; exact Calls.regrown_of (awake_any _))))
  refine wpQuiet_nil ?_
  intro _ hw'
  obtain ⟨⟨dq, osq⟩, hw''⟩ := hw'
  subst hw''
  clear ra0 ra1 ra2 ra3 rb0 rb1 rb2 rb3 rm0 rm1 rm2 rm3
  go_wp2
  go_ret
  exact ⟨rfl, Bel.call (by go_grown) (below_regrown _ _ _)⟩
end
theorem ring_any (A B C M : Int) (iA : In A) (iB : In B) (iC : In C) (iM : In M) (w : World) :
    Calls Try.prog 5 #[nv A, nv B, nv C, nv M] w fun e w' => e = .returned (.bool true) ∧ Below w.heap.size w w' := by
  by_cases c : M = 0
  · subst c
    exact ring_none A B C iA iB iM (md0 _) (md0 _) w
  · have M0 : 0 < M := by have := iM.1; omega
    refine ring_some A B C M iA iB iC iM M0 ?_ ?_ ?_ ?_ ?_ ?_ w
    · simp only [md_pos _ M0]
      rw [Int.add_emod ((A + B) % M), Int.emod_emod, ← Int.add_emod, Int.add_emod A ((B + C) % M), Int.emod_emod, ← Int.add_emod, Int.add_assoc]
    · simp only [md_pos _ M0]
      rw [Int.mul_emod (A * B % M), Int.emod_emod, ← Int.mul_emod, Int.mul_emod A (B * C % M), Int.emod_emod, ← Int.mul_emod, Int.mul_assoc]
    · simp only [md_pos _ M0]
      rw [Int.mul_emod C ((A + B) % M), Int.emod_emod, ← Int.mul_emod, ← Int.add_emod, Int.mul_add]
    · simp only [md_pos _ M0]
      rw [Int.sub_emod ((A + B) % M), Int.emod_emod, ← Int.sub_emod, Int.add_sub_cancel]
    · rw [Int.add_comm]
    · rw [Int.mul_comm]
set_option maxRecDepth 100000 in
theorem lifted5 (os : Os) (started : os.Started) (H : Type) (enc : TypeId × Value → H) :
    ReturnsInHanded {} Try.checked os 5 .any (Rows.modRingSpec.pre6 enc Try.prog Try.f5 Rows.modRingRow.domain false) (Rows.modRingSpec.post enc Try.prog Try.f5 false true false false) := by
  refine returnsInHanded_of_change (C := Try.checked) own started (by kernel_rfl) Try.func5
    (ChangeSpec.witness6 (enc := enc) (C := Try.checked) false ⟨#[], #[.agg #[.int .u64 0, .int .u64 0, .int .u64 0, .int .u64 0], .agg #[.int .u64 0, .int .u64 0, .int .u64 0, .int .u64 0], .agg #[.int .u64 0, .int .u64 0, .int .u64 0, .int .u64 0], .agg #[.int .u64 0, .int .u64 0, .int .u64 0, .int .u64 0]], []⟩ 8 (by kernel_rfl) (by kernel_rfl) (by kernel_rfl) (by kernel_rfl)) ?_
  intro W base args ds gs before hval0 hW hcnd _
  have hval : ∀ (j : Nat) t v, Try.f5.params[j]? = some t → args[j]? = some v → Value.okWide Try.prog W .any base t v := hval0
  have hW' := hW
  obtain ⟨p, q, hA0, hV, rfl, hfz, hnd⟩ := hW
  have hA : DataW.TrodAll enc Try.prog W 0 (fun _ => true) true Try.f5.params.toList args.toList ds p := hA0
  rw [Try.params5] at hA hval
  obtain ⟨v0, vs0, d0, ds0, p0, q0, hargs, rfl, rfl, h0, r0⟩ := trodAll_cons hA
  obtain ⟨v1, vs1, d1, ds1, p1, q1, rfl, rfl, rfl, h1, r1⟩ := trodAll_cons r0
  obtain ⟨v2, vs2, d2, ds2, p2, q2, rfl, rfl, rfl, h2, r2⟩ := trodAll_cons r1
  obtain ⟨v3, vs3, d3, ds3, p3, q3, rfl, rfl, rfl, h3, r3⟩ := trodAll_cons r2
  obtain ⟨rfl, rfl, rfl⟩ := trodAll_nil r3
  obtain rfl : args = #[v0, v1, v2, v3] := by cases args; simp_all
  obtain ⟨rfl, rfl⟩ := trodVars_none hV
  have k0 := h0
  have k1 := h1
  have k2 := h2
  have k3 := h3
  have lt0 : ∀ x ∈ p0, x.block < W.heap.size := by obtain ⟨m, hm⟩ := k0; exact DataW.trod_lt m _ _ _ hm
  have lt1 : ∀ x ∈ p1, x.block < W.heap.size := by obtain ⟨m, hm⟩ := k1; exact DataW.trod_lt m _ _ _ hm
  have lt2 : ∀ x ∈ p2, x.block < W.heap.size := by obtain ⟨m, hm⟩ := k2; exact DataW.trod_lt m _ _ _ hm
  have lt3 : ∀ x ∈ p3, x.block < W.heap.size := by obtain ⟨m, hm⟩ := k3; exact DataW.trod_lt m _ _ _ hm
  obtain ⟨N0, n0, n0', rfl⟩ := open24 (hval 0 24 v0 rfl rfl) h0
  obtain ⟨N1, n1, n1', rfl⟩ := open24 (hval 1 24 v1 rfl rfl) h1
  obtain ⟨N2, n2, n2', rfl⟩ := open24 (hval 2 24 v2 rfl rfl) h2
  obtain ⟨N3, n3, n3', rfl⟩ := open24 (hval 3 24 v3 rfl rfl) h3
  clear hA0 hval0
  refine (ring_any N0 N1 N2 N3 ⟨n0, n0'⟩ ⟨n1, n1'⟩ ⟨n2, n2'⟩ ⟨n3, n3'⟩ W).mono fun e W' ⟨he, bel⟩ => ?_
  subst he
  exact ⟨_, rfl, _, _, _, [], _, [], hW', trodAll_mk1 (shut_bool Try.underlying4 _), (trodAll_cons_mk (Below.trod laidOut (by kernel_rfl) (of_decide_eq_true (by kernel_rfl)) k0 bel lt0) (trodAll_cons_mk (Below.trod laidOut (by kernel_rfl) (of_decide_eq_true (by kernel_rfl)) k1 bel lt1) (trodAll_cons_mk (Below.trod laidOut (by kernel_rfl) (of_decide_eq_true (by kernel_rfl)) k2 bel lt2) (trodAll_cons_mk (Below.trod laidOut (by kernel_rfl) (of_decide_eq_true (by kernel_rfl)) k3 bel lt3) trodAll_mk0)))), rfl, bel.frame _, fun h => by cases h⟩
theorem modRing_holds : Rows.ModRingSaid :=
  OpenClaim.holds_of_wide 5 Try.f5 rfl rfl rfl rfl rfl rfl rfl ⟨rfl, rfl, rfl, rfl, rfl⟩ rfl rfl rfl rfl rfl (by kernel_rfl) Try.func5 (by kernel_rfl)
    (of_decide_eq_true (by kernel_rfl)) (by unfold Func.isWrapper; rw [if_neg (of_decide_eq_false (by kernel_rfl))]; exact ⟨rfl, rfl⟩)
    (fun os started H enc _ => lifted5 os started H enc)
#print axioms modRing_holds
end Go.Proofs.Ytcipmgommoflgaa
