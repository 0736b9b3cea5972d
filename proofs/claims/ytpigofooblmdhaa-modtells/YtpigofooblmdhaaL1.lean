/- PROVED: the function pendulumlaw02.ModTells answers true for every input, and each argument reads behind the call as it read before; no condition. -/
import Derived.Test.YtpigofooblmdhaaA6
import Derived.Test.YtpigofooblmdhaaK11
set_option linter.all false
set_option maxRecDepth 100000
namespace Go.Proofs.Ytpigofooblmdhaa
open Go.ChangeShapes Go.WideShapes Go.ChangeAt Go.RowKit
open Go.Sort (grow)
open Go.ChangeMaps (open_string shut_string)
/-- A number below 2^256. -/
def In (N : Int) : Prop := 0 ≤ N ∧ N < top256
section
attribute [local go_sem] eq24
set_option maxHeartbeats 8000000 in
theorem tells_any (A B M : Int) (iA : In A) (iB : In B) (iM : In M) (w : World) :
    Calls Try.prog 4 #[nv A, nv B, nv M] w fun e w' => e = .returned (.bool true) ∧ Below w.heap.size w w' := by
  have a27 := fun W => rem_any A B M iA.1 iA.2 iB.1 iB.2 iM.1 iM.2 W
  have a28 := fun W => refRem_any A B M iA.1 iA.2 iB.1 iB.2 iM.1 iM.2 W
  have a29 := fun W => madd_any A B M iA.1 iA.2 iB.1 iB.2 iM.1 iM.2 W
  have a30 := fun W => ref2Add_any A B M iA.1 iA.2 iB.1 iB.2 iM.1 iM.2 W
  have a31 := fun W => msub_any A B M iA.1 iA.2 iB.1 iB.2 iM.1 iM.2 W
  have a32 := fun W => ref2Sub_any A B M iA.1 iA.2 iB.1 iB.2 iM.1 iM.2 W
  have a33 := fun W => mmul_any A B M iA.1 iA.2 iB.1 iB.2 iM.1 iM.2 W
  have a34 := fun W => refMul_any A B M iA.1 iA.2 iB.1 iB.2 iM.1 iM.2 W
  generalize md (A + B * top256) M = V1 at *
  generalize md (A + B) M = V2 at *
  generalize md (A - B) M = V3 at *
  generalize md (A * B) M = V4' at *
  clear iA iB iM
  go_enter Try.func4, Try.ntmps4
  go_wp2_with fail
  have Ra := R4.of (w := ((w.alloc (.cells #[.int .u64 (lim A 0), .int .u64 (lim A 1), .int .u64 (lim A 2), .int .u64 (lim A 3)] 24)).alloc (.cells #[.int .u64 (lim B 0), .int .u64 (lim B 1), .int .u64 (lim B 2), .int .u64 (lim B 3)] 24)).alloc (.cells #[.int .u64 (lim M 0), .int .u64 (lim M 1), .int .u64 (lim M 2), .int .u64 (lim M 3)] 24)) (b := w.heap.size) (f := fun j => .int .u64 (lim A j)) (by simp [go_sem]) (by simp [go_sem]) (by simp [go_sem]) (by simp [go_sem])
  have ra0 := fun ds os => cell_regrown (Ra 0 (by omega)) ds os
  have ra1 := fun ds os => cell_regrown (Ra 1 (by omega)) ds os
  have ra2 := fun ds os => cell_regrown (Ra 2 (by omega)) ds os
  have ra3 := fun ds os => cell_regrown (Ra 3 (by omega)) ds os
  have Rb := R4.of (w := ((w.alloc (.cells #[.int .u64 (lim A 0), .int .u64 (lim A 1), .int .u64 (lim A 2), .int .u64 (lim A 3)] 24)).alloc (.cells #[.int .u64 (lim B 0), .int .u64 (lim B 1), .int .u64 (lim B 2), .int .u64 (lim B 3)] 24)).alloc (.cells #[.int .u64 (lim M 0), .int .u64 (lim M 1), .int .u64 (lim M 2), .int .u64 (lim M 3)] 24)) (b := w.heap.size + 1) (f := fun j => .int .u64 (lim B j)) (by simp [go_sem]) (by simp [go_sem]) (by simp [go_sem]) (by simp [go_sem])
  have rb0 := fun ds os => cell_regrown (Rb 0 (by omega)) ds os
  have rb1 := fun ds os => cell_regrown (Rb 1 (by omega)) ds os
  have rb2 := fun ds os => cell_regrown (Rb 2 (by omega)) ds os
  have rb3 := fun ds os => cell_regrown (Rb 3 (by omega)) ds os
  have Rm := R4.of (w := ((w.alloc (.cells #[.int .u64 (lim A 0), .int .u64 (lim A 1), .int .u64 (lim A 2), .int .u64 (lim A 3)] 24)).alloc (.cells #[.int .u64 (lim B 0), .int .u64 (lim B 1), .int .u64 (lim B 2), .int .u64 (lim B 3)] 24)).alloc (.cells #[.int .u64 (lim M 0), .int .u64 (lim M 1), .int .u64 (lim M 2), .int .u64 (lim M 3)] 24)) (b := w.heap.size + 1 + 1) (f := fun j => .int .u64 (lim M j)) (by simp [go_sem]) (by simp [go_sem]) (by simp [go_sem]) (by simp [go_sem])
  have rm0 := fun ds os => cell_regrown (Rm 0 (by omega)) ds os
  have rm1 := fun ds os => cell_regrown (Rm 1 (by omega)) ds os
  have rm2 := fun ds os => cell_regrown (Rm 2 (by omega)) ds os
  have rm3 := fun ds os => cell_regrown (Rm 3 (by omega)) ds os
  refine wp_region_quiet_below (by kernel_rfl) (by kernel_rfl) ?_
  repeat (go_big_quiet_step (first | (go_at_call 21; exact Calls.regrown_of (k21 _)) | (go_at_call 22; exact Calls.regrown_of (k22 _)) | (go_at_call 23; exact Calls.regrown_of (k23 _)) | (go_at_call 24; exact Calls.regrown_of (k24 _)) | (go_at_call 25; exact Calls.regrown_of (k25 _)) | (go_at_call 26; exact Calls.regrown_of (k26 _)) | (go_at_call 27; exact Calls.regrown_of (a27 _)) | (go_at_call 28; exact Calls.regrown_of (a28 _)) | (go_at_call 29; exact Calls.regrown_of (a29 _)) | (go_at_call 30; exact Calls.regrown_of (a30 _)) | (go_at_call 31; exact Calls.regrown_of (a31 _)) | (go_at_call 32; exact Calls.regrown_of (a32 _)) | (go_at_call 33; exact Calls.regrown_of (a33 _)) | (go_at_call 34; exact Calls.regrown_of (a34 _)) | (go_at_call 35; exact Calls.regrown_of (awake_any _))))
  refine wpQuiet_nil ?_
  intro _ hw'
  obtain ⟨⟨dq, osq⟩, hw''⟩ := hw'
  subst hw''
  clear ra0 ra1 ra2 ra3 rb0 rb1 rb2 rb3 rm0 rm1 rm2 rm3
  go_wp2
  go_ret
  exact ⟨rfl, Bel.call (by go_grown) (below_regrown _ _ _)⟩
end
set_option maxRecDepth 100000 in
theorem lifted4 (os : Os) (started : os.Started) (H : Type) (enc : TypeId × Value → H) :
    ReturnsInHanded {} Try.checked os 4 .any (Rows.modTellsSpec.pre6 enc Try.prog Try.f4 Rows.modTellsRow.domain false) (Rows.modTellsSpec.post enc Try.prog Try.f4 false true false false) := by
  refine returnsInHanded_of_change (C := Try.checked) own started (by kernel_rfl) Try.func4
    (ChangeSpec.witness6 (enc := enc) (C := Try.checked) false ⟨#[], #[.agg #[.int .u64 0, .int .u64 0, .int .u64 0, .int .u64 0], .agg #[.int .u64 0, .int .u64 0, .int .u64 0, .int .u64 0], .agg #[.int .u64 0, .int .u64 0, .int .u64 0, .int .u64 0]], []⟩ 8 (by kernel_rfl) (by kernel_rfl) (by kernel_rfl) (by kernel_rfl)) ?_
  intro W base args ds gs before hval0 hW hcnd _
  have hval : ∀ (j : Nat) t v, Try.f4.params[j]? = some t → args[j]? = some v → Value.okWide Try.prog W .any base t v := hval0
  have hW' := hW
  obtain ⟨p, q, hA0, hV, rfl, hfz, hnd⟩ := hW
  have hA : DataW.TrodAll enc Try.prog W 0 (fun _ => true) true Try.f4.params.toList args.toList ds p := hA0
  rw [Try.params4] at hA hval
  obtain ⟨v0, vs0, d0, ds0, p0, q0, hargs, rfl, rfl, h0, r0⟩ := trodAll_cons hA
  obtain ⟨v1, vs1, d1, ds1, p1, q1, rfl, rfl, rfl, h1, r1⟩ := trodAll_cons r0
  obtain ⟨v2, vs2, d2, ds2, p2, q2, rfl, rfl, rfl, h2, r2⟩ := trodAll_cons r1
  obtain ⟨rfl, rfl, rfl⟩ := trodAll_nil r2
  obtain rfl : args = #[v0, v1, v2] := by cases args; simp_all
  obtain ⟨rfl, rfl⟩ := trodVars_none hV
  have k0 := h0
  have k1 := h1
  have k2 := h2
  have lt0 : ∀ x ∈ p0, x.block < W.heap.size := by obtain ⟨m, hm⟩ := k0; exact DataW.trod_lt m _ _ _ hm
  have lt1 : ∀ x ∈ p1, x.block < W.heap.size := by obtain ⟨m, hm⟩ := k1; exact DataW.trod_lt m _ _ _ hm
  have lt2 : ∀ x ∈ p2, x.block < W.heap.size := by obtain ⟨m, hm⟩ := k2; exact DataW.trod_lt m _ _ _ hm
  obtain ⟨N0, n0, n0', rfl⟩ := open24 (hval 0 24 v0 rfl rfl) h0
  obtain ⟨N1, n1, n1', rfl⟩ := open24 (hval 1 24 v1 rfl rfl) h1
  obtain ⟨N2, n2, n2', rfl⟩ := open24 (hval 2 24 v2 rfl rfl) h2
  clear hA0 hval0
  refine (tells_any N0 N1 N2 ⟨n0, n0'⟩ ⟨n1, n1'⟩ ⟨n2, n2'⟩ W).mono fun e W' ⟨he, bel⟩ => ?_
  subst he
  exact ⟨_, rfl, _, _, _, [], _, [], hW', trodAll_mk1 (shut_bool Try.underlying4 _), (trodAll_cons_mk (Below.trod laidOut (by kernel_rfl) (of_decide_eq_true (by kernel_rfl)) k0 bel lt0) (trodAll_cons_mk (Below.trod laidOut (by kernel_rfl) (of_decide_eq_true (by kernel_rfl)) k1 bel lt1) (trodAll_cons_mk (Below.trod laidOut (by kernel_rfl) (of_decide_eq_true (by kernel_rfl)) k2 bel lt2) trodAll_mk0))), rfl, bel.frame _, fun h => by cases h⟩
theorem modTells_holds : Rows.ModTellsSaid :=
  OpenClaim.holds_of_wide 4 Try.f4 rfl rfl rfl rfl rfl rfl rfl ⟨rfl, rfl, rfl, rfl, rfl⟩ rfl rfl rfl rfl rfl (by kernel_rfl) Try.func4 (by kernel_rfl)
    (of_decide_eq_true (by kernel_rfl)) (by unfold Func.isWrapper; rw [if_neg (of_decide_eq_false (by kernel_rfl))]; exact ⟨rfl, rfl⟩)
    (fun os started H enc _ => lifted4 os started H enc)
#print axioms modTells_holds
end Go.Proofs.Ytpigofooblmdhaa
