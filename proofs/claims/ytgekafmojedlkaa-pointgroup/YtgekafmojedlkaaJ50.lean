/- PROVED: the function pendulumlaw04.PointGroup answers true for every input, and each argument reads behind the call as it read before; no condition. -/
import Derived.Test.YtgekafmojedlkaaJ48
import Derived.Test.YtgekafmojedlkaaJ49
import Derived.Test.YtgekafmojedlkaaJ2
set_option linter.all false
set_option maxRecDepth 100000
namespace Go.Proofs.Ytgekafmojedlkaa
open Go.ChangeShapes Go.WideShapes Go.ChangeAt Go.RowKit Go.Sort
open Go.Sort (grow)
open Go.ChangeMaps (open_string shut_string)
section
variable [NeZero pN]
theorem group_any (X1 Y1 X2 Y2 X3 Y3 : Int) (i1 i2 i3 : Bool) (h1 : Inn X1) (g1 : Inn Y1) (h2 : Inn X2) (g2 : Inn Y2) (h3 : Inn X3) (g3 : Inn Y3) (w : World) :
    Calls Try.prog 4 #[pv X1 Y1 i1, pv X2 Y2 i2, pv X3 Y3 i3] w fun e w' => e = .returned (.bool true) ∧ Below w.heap.size w w' := by
  rcases on_or X1 Y1 i1 h1 g1 with f | ⟨P, hP, eP, _, _⟩
  · exact group_no1 X1 Y1 X2 Y2 X3 Y3 i1 i2 i3 w (ron_f h1 g1 f) awake4
  · rcases on_or X2 Y2 i2 h2 g2 with f | ⟨Q, hQ, eQ, _, _⟩
    · rw [eP]
      exact group_no2 (ptx P) (pty P) X2 Y2 X3 Y3 (pti P) i2 i3 w (ron_t P hP) (ron_f h2 g2 f) awake4
    · rcases on_or X3 Y3 i3 h3 g3 with f | ⟨R, hR, eR, _, _⟩
      · rw [eP, eQ]
        exact group_no3 (ptx P) (pty P) (ptx Q) (pty Q) X3 Y3 (pti P) (pti Q) i3 w (ron_t P hP) (ron_t Q hQ) (ron_f h3 g3 f) awake4
      · rw [eP, eQ, eR]
        have hS := p256.on hP hQ
        have hT := p256.on hQ hR
        have c1 := fun W => add_pt Q P hQ hP W
        rw [p256.comm hQ hP] at c1
        have c2 := fun W => add_pt P (ad am Q R) hP hT W
        rw [← p256.assoc hP hQ hR] at c2
        have c3 := fun W => add_pt P (ngP P) hP (ng_on hP) W
        rw [p256.ng hP, pv_none] at c3
        have c4 := fun W => add_pt P none hP trivial W
        rw [p256.zr hP, pv_none] at c4
        exact group_yes (ptx P) (pty P) (ptx Q) (pty Q) (ptx R) (pty R) (ptx (ad am P Q)) (pty (ad am P Q)) (ptx (ad am (ad am P Q) R)) (pty (ad am (ad am P Q) R)) (ptx (ad am Q R)) (pty (ad am Q R)) (ptx (ngP P)) (pty (ngP P)) (pti P) (pti Q) (pti R) (pti (ad am P Q)) (pti (ad am (ad am P Q) R)) (pti (ad am Q R)) (pti (ngP P)) w
          (ron_t P hP) (ron_t Q hQ) (ron_t R hR) (add_pt P Q hP hQ) (ron_t _ hS) c1 (add_pt _ R hS hR) (add_pt Q R hQ hR) c2 (neg_pt P) c3 c4 awake4
end
set_option maxRecDepth 100000 in
theorem lifted4 (os : Os) (started : os.Started) (H : Type) (enc : TypeId × Value → H) :
    ReturnsInHanded {} Try.checked os 4 .any (Rows.pointGroupSpec.pre6 enc Try.prog Try.f4 Rows.pointGroupRow.domain false) (Rows.pointGroupSpec.post enc Try.prog Try.f4 false true false false) := by
  refine returnsInHanded_of_change (C := Try.checked) own started (by kernel_rfl) Try.func4
    (ChangeSpec.witness6 (enc := enc) (C := Try.checked) false ⟨#[], #[.agg #[.int .u64 0, .int .u64 0, .int .u64 0, .int .u64 0, .int .u64 0, .int .u64 0, .int .u64 0, .int .u64 0, .bool false], .agg #[.int .u64 0, .int .u64 0, .int .u64 0, .int .u64 0, .int .u64 0, .int .u64 0, .int .u64 0, .int .u64 0, .bool false], .agg #[.int .u64 0, .int .u64 0, .int .u64 0, .int .u64 0, .int .u64 0, .int .u64 0, .int .u64 0, .int .u64 0, .bool false]], []⟩ 8 (by kernel_rfl) (by kernel_rfl) (by kernel_rfl) (by kernel_rfl)) ?_
  intro W base args ds gs before hval0 hW hcnd _
  have hval : ∀ (j : Nat) t v, Try.f4.params[j]? = some t → args[j]? = some v → Value.okWide Try.prog W .any base t v := hval0
  have hW' := hW
  obtain ⟨p, q, hA0, hV, rfl, hfz, hnd⟩ := hW
  have hA : DataW.TrodAll enc Try.prog W 0 (fun _ => true) true Try.f4.params.toList args.toList ds p := hA0
  rw [Try.params4] at hA hval
  obtain ⟨v0, vs0, d0, ds0, p0, q0, hargs, rfl, rfl, h0, r0⟩ := trodAll_cons hA
  obtain ⟨v1, vs1, d1, ds1, p1, q1, rfl, rfl, rfl, h1, r1⟩ := trodAll_cons r0
  obtain ⟨v2, vs2, d2, ds2, p2, q2, rfl, rfl, rfl, h2, r2⟩ := trodAll_cons r1
  obtain ⟨rfl, rfl, rfl⟩ := trodAll_nil r2
  obtain rfl : args = #[v0, v1, v2] := by cases args; simp_all
  obtain ⟨rfl, rfl⟩ := trodVars_none hV
  have k0 := h0
  have k1 := h1
  have k2 := h2
  have lt0 : ∀ x ∈ p0, x.block < W.heap.size := by obtain ⟨m, hm⟩ := k0; exact DataW.trod_lt m _ _ _ hm
  have lt1 : ∀ x ∈ p1, x.block < W.heap.size := by obtain ⟨m, hm⟩ := k1; exact DataW.trod_lt m _ _ _ hm
  have lt2 : ∀ x ∈ p2, x.block < W.heap.size := by obtain ⟨m, hm⟩ := k2; exact DataW.trod_lt m _ _ _ hm
  obtain ⟨X0, Y0, i0, a0, a0', b0, b0', rfl⟩ := open26 (hval 0 26 v0 rfl rfl) h0
  obtain ⟨X1, Y1, i1, a1, a1', b1, b1', rfl⟩ := open26 (hval 1 26 v1 rfl rfl) h1
  obtain ⟨X2, Y2, i2, a2, a2', b2, b2', rfl⟩ := open26 (hval 2 26 v2 rfl rfl) h2
  clear hA0 hval0
  have nz : NeZero pN := ⟨by decide⟩
  refine (group_any X0 Y0 X1 Y1 X2 Y2 i0 i1 i2 ⟨a0, a0'⟩ ⟨b0, b0'⟩ ⟨a1, a1'⟩ ⟨b1, b1'⟩ ⟨a2, a2'⟩ ⟨b2, b2'⟩ W).mono fun e W' ⟨he, bel⟩ => ?_
  subst he
  exact ⟨_, rfl, _, _, _, [], _, [], hW', trodAll_mk1 (shut_bool Try.underlying4 _), (trodAll_cons_mk (Below.trod laidOut (by kernel_rfl) (of_decide_eq_true (by kernel_rfl)) k0 bel lt0) (trodAll_cons_mk (Below.trod laidOut (by kernel_rfl) (of_decide_eq_true (by kernel_rfl)) k1 bel lt1) (trodAll_cons_mk (Below.trod laidOut (by kernel_rfl) (of_decide_eq_true (by kernel_rfl)) k2 bel lt2) trodAll_mk0))), rfl, bel.frame _, fun h => by cases h⟩
theorem pointGroup_holds : Rows.PointGroupSaid :=
  OpenClaim.holds_of_wide 4 Try.f4 rfl rfl rfl rfl rfl rfl rfl ⟨rfl, rfl, rfl, rfl, rfl⟩ rfl rfl rfl rfl rfl (by kernel_rfl) Try.func4 (by kernel_rfl)
    (of_decide_eq_true (by kernel_rfl)) (by unfold Func.isWrapper; rw [if_neg (of_decide_eq_false (by kernel_rfl))]; exact ⟨rfl, rfl⟩)
    (fun os started H enc _ => lifted4 os started H enc)
#print axioms pointGroup_holds
end Go.Proofs.Ytgekafmojedlkaa
