/- PROVED: the function pendulumlaw04.PointAdds answers true for every input, and each argument reads behind the call as it read before; no condition. -/
import Derived.Test.YtgekafmojedlkaaGreatJ52
import Derived.Test.YtgekafmojedlkaaGreatJ53
import Derived.Test.YtgekafmojedlkaaGreatJ41
import Derived.Test.YtgekafmojedlkaaGreatJ2
set_option linter.all false
set_option maxRecDepth 100000
namespace Go.Proofs.YtgekafmojedlkaaGreat
open Go.ChangeShapes Go.WideShapes Go.ChangeAt Go.RowKit Go.Sort
open Go.Sort (grow)
open Go.ChangeMaps (open_string shut_string)
section
variable [NeZero pN]
theorem adds_any (X1 Y1 X2 Y2 J K : Int) (i1 i2 : Bool) (h1 : Inn X1) (g1 : Inn Y1) (h2 : Inn X2) (g2 : Inn Y2) (hJ : Inn J) (hK : Inn K) (w : World) :
    Calls Tryz.prog 3 #[pv X1 Y1 i1, pv X2 Y2 i2, nv J, nv K] w fun e w' => e = .returned (.bool true) ∧ Below w.heap.size w w' := by
  rcases on_or X1 Y1 i1 h1 g1 with f | ⟨P, hP, eP, _, _⟩
  · exact adds_no1 X1 Y1 X2 Y2 J K i1 i2 w (ron_f h1 g1 f) awake4
  · rw [eP]
    rcases on_or X2 Y2 i2 h2 g2 with f | ⟨Q, hQ, eQ, _, _⟩
    · exact adds_no2 (ptx P) (pty P) X2 Y2 J K (pti P) i2 w (ron_t P hP) (ron_f h2 g2 f) awake4
    · rw [eQ]
      exact adds_yes (ptx P) (pty P) (ptx Q) (pty Q) _ _ _ _ _ _ J K (pti P) (pti Q) _ _ _ w (ron_t P hP) (ron_t Q hQ) (add_pt P Q hP hQ) (rsum_pt P Q hP hQ) (mul_pt K hK P hP) (rmul_pt K hK P hP) (both_pt J K hJ hK P hP) (rboth_pt J K hJ hK P hP) awake4
end
set_option maxRecDepth 100000 in
theorem lifted3 (os : Os) (started : os.Started) (H : Type) (enc : TypeId × Value → H) :
    ReturnsInHanded {} Tryz.checked os 3 .any (Rows.pointAddsSpec.pre6 enc Tryz.prog Tryz.f3 Rows.pointAddsRow.domain false) (Rows.pointAddsSpec.post enc Tryz.prog Tryz.f3 false true false false) := by
  refine returnsInHanded_of_change (C := Tryz.checked) own started (by kernel_rfl) Tryz.func3
    (ChangeSpec.witness6 (enc := enc) (C := Tryz.checked) false ⟨#[], #[.agg #[.int .u64 0, .int .u64 0, .int .u64 0, .int .u64 0, .int .u64 0, .int .u64 0, .int .u64 0, .int .u64 0, .bool false], .agg #[.int .u64 0, .int .u64 0, .int .u64 0, .int .u64 0, .int .u64 0, .int .u64 0, .int .u64 0, .int .u64 0, .bool false], .agg #[.int .u64 0, .int .u64 0, .int .u64 0, .int .u64 0], .agg #[.int .u64 0, .int .u64 0, .int .u64 0, .int .u64 0]], []⟩ 8 (by kernel_rfl) (by kernel_rfl) (by kernel_rfl) (by kernel_rfl)) ?_
  intro W base args ds gs before hval0 hW hcnd _
  have hval : ∀ (j : Nat) t v, Tryz.f3.params[j]? = some t → args[j]? = some v → Value.okWide Tryz.prog W .any base t v := hval0
  have hW' := hW
  obtain ⟨p, q, hA0, hV, rfl, hfz, hnd⟩ := hW
  have hA : DataW.TrodAll enc Tryz.prog W 0 (fun _ => true) true Tryz.f3.params.toList args.toList ds p := hA0
  rw [Tryz.params3] at hA hval
  obtain ⟨v0, vs0, d0, ds0, p0, q0, hargs, rfl, rfl, h0, r0⟩ := trodAll_cons hA
  obtain ⟨v1, vs1, d1, ds1, p1, q1, rfl, rfl, rfl, h1, r1⟩ := trodAll_cons r0
  obtain ⟨v2, vs2, d2, ds2, p2, q2, rfl, rfl, rfl, h2, r2⟩ := trodAll_cons r1
  obtain ⟨v3, vs3, d3, ds3, p3, q3, rfl, rfl, rfl, h3, r3⟩ := trodAll_cons r2
  obtain ⟨rfl, rfl, rfl⟩ := trodAll_nil r3
  obtain rfl : args = #[v0, v1, v2, v3] := by cases args; simp_all
  obtain ⟨rfl, rfl⟩ := trodVars_none hV
  have k0 := h0
  have k1 := h1
  have k2 := h2
  have k3 := h3
  have lt0 : ∀ x ∈ p0, x.block < W.heap.size := by obtain ⟨m, hm⟩ := k0; exact DataW.trod_lt m _ _ _ hm
  have lt1 : ∀ x ∈ p1, x.block < W.heap.size := by obtain ⟨m, hm⟩ := k1; exact DataW.trod_lt m _ _ _ hm
  have lt2 : ∀ x ∈ p2, x.block < W.heap.size := by obtain ⟨m, hm⟩ := k2; exact DataW.trod_lt m _ _ _ hm
  have lt3 : ∀ x ∈ p3, x.block < W.heap.size := by obtain ⟨m, hm⟩ := k3; exact DataW.trod_lt m _ _ _ hm
  obtain ⟨X0, Y0, i0, a0, a0', b0, b0', rfl⟩ := open26 (hval 0 26 v0 rfl rfl) h0
  obtain ⟨X1, Y1, i1, a1, a1', b1, b1', rfl⟩ := open26 (hval 1 26 v1 rfl rfl) h1
  obtain ⟨N2, n2, n2', rfl⟩ := open24 (hval 2 24 v2 rfl rfl) h2
  obtain ⟨N3, n3, n3', rfl⟩ := open24 (hval 3 24 v3 rfl rfl) h3
  clear hA0 hval0
  have nz : NeZero pN := ⟨by decide⟩
  refine (adds_any X0 Y0 X1 Y1 N2 N3 i0 i1 ⟨a0, a0'⟩ ⟨b0, b0'⟩ ⟨a1, a1'⟩ ⟨b1, b1'⟩ ⟨n2, n2'⟩ ⟨n3, n3'⟩ W).mono fun e W' ⟨he, bel⟩ => ?_
  subst he
  exact ⟨_, rfl, _, _, _, [], _, [], hW', trodAll_mk1 (shut_bool Tryz.underlying4 _), (trodAll_cons_mk (Below.trod laidOut (by kernel_rfl) (of_decide_eq_true (by kernel_rfl)) k0 bel lt0) (trodAll_cons_mk (Below.trod laidOut (by kernel_rfl) (of_decide_eq_true (by kernel_rfl)) k1 bel lt1) (trodAll_cons_mk (Below.trod laidOut (by kernel_rfl) (of_decide_eq_true (by kernel_rfl)) k2 bel lt2) (trodAll_cons_mk (Below.trod laidOut (by kernel_rfl) (of_decide_eq_true (by kernel_rfl)) k3 bel lt3) trodAll_mk0)))), rfl, bel.frame _, fun h => by cases h⟩
theorem pointAdds_holds : Rows.PointAddsSaid :=
  OpenClaim.holds_of_wide 3 Tryz.f3 rfl rfl rfl rfl rfl rfl rfl ⟨rfl, rfl, rfl, rfl, rfl⟩ rfl rfl rfl rfl rfl (by kernel_rfl) Tryz.func3 (by kernel_rfl)
    (of_decide_eq_true (by kernel_rfl)) (by unfold Func.isWrapper; rw [if_neg (of_decide_eq_false (by kernel_rfl))]; exact ⟨rfl, rfl⟩)
    (fun os started H enc _ => lifted3 os started H enc)
#print axioms pointAdds_holds
end Go.Proofs.YtgekafmojedlkaaGreat
