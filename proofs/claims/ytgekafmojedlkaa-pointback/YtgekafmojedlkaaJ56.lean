/- PROVED: the function pendulumlaw04.PointBack answers true for every input, and each argument reads behind the call as it read before; no condition. -/
import Derived.Test.YtgekafmojedlkaaJ48
import Derived.Test.YtgekafmojedlkaaJ55
import Derived.Test.YtgekafmojedlkaaJ2
set_option linter.all false
set_option maxRecDepth 100000
namespace Go.Proofs.Ytgekafmojedlkaa
open Go.ChangeShapes Go.WideShapes Go.ChangeAt Go.RowKit Go.Sort
open Go.Sort (grow)
open Go.ChangeMaps (open_string shut_string)
section
variable [NeZero pN]
theorem back_any (X1 Y1 : Int) (i1 : Bool) (h1 : Inn X1) (g1 : Inn Y1) (s : ByteArray) (hs : s.size ≤ maxLen) (w : World) :
    Calls Try.prog 6 #[pv X1 Y1 i1, .string s] w fun e w' => e = .returned (.bool true) ∧ Below w.heap.size w w' := by
  obtain ⟨X, Y, er, d1, _, hd⟩ := dec_both s hs
  have o2 := ron_pt X1 Y1 i1 h1 g1
  have z1 := dec_0 ⟨#[]⟩ (by decide) (emp_yes _ rfl)
  rw [← pv_zero] at z1
  by_cases he : er = 0
  · obtain ⟨iX, iY, ho, es⟩ := hd he
    subst he
    have e1 := fun W => enc_pt X Y iX iY W
    rw [es] at e1
    have o1 := ron_pt X Y false iX iY
    rw [ho] at o1
    cases f : onB X1 Y1 i1
    · rw [f] at o2
      exact back_ok_off X1 Y1 X Y 0 0 0 i1 false false s s w d1 e1 o1 o2 awake4
    · rw [f] at o2
      cases i1
      · exact back_ok_some X1 Y1 X Y 0 0 0 false false false s _ w d1 e1 o1 o2 awake4 (enc_pt X1 Y1 h1 g1) (dec_enc X1 Y1 h1 g1 f)
      · exact back_ok_none X1 Y1 X Y 0 0 0 true false false s _ w d1 e1 o1 o2 awake4 (enc_none X1 Y1) z1
  · cases f : onB X1 Y1 i1
    · rw [f] at o2
      exact back_no_off X1 Y1 X Y 0 0 er i1 false false s s he w d1 o2 awake4
    · rw [f] at o2
      cases i1
      · exact back_no_some X1 Y1 X Y 0 0 er false false false s _ he w d1 o2 awake4 (enc_pt X1 Y1 h1 g1) (dec_enc X1 Y1 h1 g1 f)
      · exact back_no_none X1 Y1 X Y 0 0 er true false false s _ he w d1 o2 awake4 (enc_none X1 Y1) z1
end
set_option maxRecDepth 100000 in
theorem lifted6 (os : Os) (started : os.Started) (H : Type) (enc : TypeId × Value → H) :
    ReturnsInHanded {} Try.checked os 6 .any (Rows.pointBackSpec.pre6 enc Try.prog Try.f6 Rows.pointBackRow.domain false) (Rows.pointBackSpec.post enc Try.prog Try.f6 false true false false) := by
  refine returnsInHanded_of_change (C := Try.checked) own started (by kernel_rfl) Try.func6
    (ChangeSpec.witness6 (enc := enc) (C := Try.checked) false ⟨#[], #[.agg #[.int .u64 0, .int .u64 0, .int .u64 0, .int .u64 0, .int .u64 0, .int .u64 0, .int .u64 0, .int .u64 0, .bool false], .string ⟨#[]⟩], []⟩ 8 (by kernel_rfl) (by kernel_rfl) (by kernel_rfl) (by kernel_rfl)) ?_
  intro W base args ds gs before hval0 hW hcnd _
  have hval : ∀ (j : Nat) t v, Try.f6.params[j]? = some t → args[j]? = some v → Value.okWide Try.prog W .any base t v := hval0
  have hW' := hW
  obtain ⟨p, q, hA0, hV, rfl, hfz, hnd⟩ := hW
  have hA : DataW.TrodAll enc Try.prog W 0 (fun _ => true) true Try.f6.params.toList args.toList ds p := hA0
  rw [Try.params6] at hA hval
  obtain ⟨v0, vs0, d0, ds0, p0, q0, hargs, rfl, rfl, h0, r0⟩ := trodAll_cons hA
  obtain ⟨v1, vs1, d1, ds1, p1, q1, rfl, rfl, rfl, h1, r1⟩ := trodAll_cons r0
  obtain ⟨rfl, rfl, rfl⟩ := trodAll_nil r1
  obtain rfl : args = #[v0, v1] := by cases args; simp_all
  obtain ⟨rfl, rfl⟩ := trodVars_none hV
  have k0 := h0
  have k1 := h1
  have lt0 : ∀ x ∈ p0, x.block < W.heap.size := by obtain ⟨m, hm⟩ := k0; exact DataW.trod_lt m _ _ _ hm
  have lt1 : ∀ x ∈ p1, x.block < W.heap.size := by obtain ⟨m, hm⟩ := k1; exact DataW.trod_lt m _ _ _ hm
  obtain ⟨X0, Y0, i0, a0, a0', b0, b0', rfl⟩ := open26 (hval 0 26 v0 rfl rfl) h0
  obtain ⟨S1, rfl, rfl, rfl, hs1⟩ := open_string Try.underlying9 (hval 1 9 v1 rfl rfl) h1
  clear hA0 hval0
  have nz : NeZero pN := ⟨by decide⟩
  refine (back_any X0 Y0 i0 ⟨a0, a0'⟩ ⟨b0, b0'⟩ S1 hs1 W).mono fun e W' ⟨he, bel⟩ => ?_
  subst he
  exact ⟨_, rfl, _, _, _, [], _, [], hW', trodAll_mk1 (shut_bool Try.underlying4 _), (trodAll_cons_mk (Below.trod laidOut (by kernel_rfl) (of_decide_eq_true (by kernel_rfl)) k0 bel lt0) (trodAll_cons_mk (Below.trod laidOut (by kernel_rfl) (of_decide_eq_true (by kernel_rfl)) k1 bel lt1) trodAll_mk0)), rfl, bel.frame _, fun h => by cases h⟩
theorem pointBack_holds : Rows.PointBackSaid :=
  OpenClaim.holds_of_wide 6 Try.f6 rfl rfl rfl rfl rfl rfl rfl ⟨rfl, rfl, rfl, rfl, rfl⟩ rfl rfl rfl rfl rfl (by kernel_rfl) Try.func6 (by kernel_rfl)
    (of_decide_eq_true (by kernel_rfl)) (by unfold Func.isWrapper; rw [if_neg (of_decide_eq_false (by kernel_rfl))]; exact ⟨rfl, rfl⟩)
    (fun os started H enc _ => lifted6 os started H enc)
#print axioms pointBack_holds
end Go.Proofs.Ytgekafmojedlkaa
