/- PROVED: the function pendulumlaw04.PointReads answers true for every input, and each argument reads behind the call as it read before; no condition. -/
import Derived.Test.YtgekafmojedlkaaJ48
import Derived.Test.YtgekafmojedlkaaJ53
import Derived.Test.YtgekafmojedlkaaJ2
set_option linter.all false
set_option maxRecDepth 100000
namespace Go.Proofs.Ytgekafmojedlkaa
open Go.ChangeShapes Go.WideShapes Go.ChangeAt Go.RowKit Go.Sort
open Go.Sort (grow)
open Go.ChangeMaps (open_string shut_string)
section
variable [NeZero pN]
theorem mk4_4 : mkS [4] = ⟨#[4]⟩ := by decide +kernel
theorem reads_any (X1 Y1 : Int) (i1 : Bool) (h1 : Inn X1) (g1 : Inn Y1) (s : ByteArray) (hs : s.size ≤ maxLen) (w : World) :
    Calls Try.prog 3 #[pv X1 Y1 i1, .string s] w fun e w' => e = .returned (.bool true) ∧ Below w.heap.size w w' := by
  obtain ⟨X, Y, er, d1, d2, _⟩ := dec_both s hs
  have o1 := on_pt X1 Y1 i1 h1 g1
  have o2 := ron_pt X1 Y1 i1 h1 g1
  rcases on_or X1 Y1 i1 h1 g1 with f | ⟨P, hP, eP, p, f⟩
  · rw [f] at o1 o2
    exact reads_no X1 Y1 X Y gx gy 0 0 er i1 false false false s s w d1 d2 base_any rbase_any o1 o2 awake4
  · rw [f] at o1 o2
    have n1 := neg_pt P
    have n2 := rneg_pt P
    rw [← eP] at n1 n2
    cases i1
    · have e2 := fun W => renc_core X1 Y1 _ _ (big32 X1) (big32 Y1) W (refBig_any X1) (refBig_any Y1)
      rw [← mk4_4] at e2
      exact reads_yes X1 Y1 X Y gx gy (ptx (ngP P)) (pty (ngP P)) er false false false (pti (ngP P)) s _ w d1 d2 base_any rbase_any o1 o2 awake4 (enc_pt X1 Y1 h1 g1) e2 n1 n2
    · exact reads_yes X1 Y1 X Y gx gy (ptx (ngP P)) (pty (ngP P)) er true false false (pti (ngP P)) s _ w d1 d2 base_any rbase_any o1 o2 awake4 (enc_none X1 Y1) (renc_none X1 Y1) n1 n2
end
set_option maxRecDepth 100000 in
theorem lifted3 (os : Os) (started : os.Started) (H : Type) (enc : TypeId × Value → H) :
    ReturnsInHanded {} Try.checked os 3 .any (Rows.pointReadsSpec.pre6 enc Try.prog Try.f3 Rows.pointReadsRow.domain false) (Rows.pointReadsSpec.post enc Try.prog Try.f3 false true false false) := by
  refine returnsInHanded_of_change (C := Try.checked) own started (by kernel_rfl) Try.func3
    (ChangeSpec.witness6 (enc := enc) (C := Try.checked) false ⟨#[], #[.agg #[.int .u64 0, .int .u64 0, .int .u64 0, .int .u64 0, .int .u64 0, .int .u64 0, .int .u64 0, .int .u64 0, .bool false], .string ⟨#[]⟩], []⟩ 8 (by kernel_rfl) (by kernel_rfl) (by kernel_rfl) (by kernel_rfl)) ?_
  intro W base args ds gs before hval0 hW hcnd _
  have hval : ∀ (j : Nat) t v, Try.f3.params[j]? = some t → args[j]? = some v → Value.okWide Try.prog W .any base t v := hval0
  have hW' := hW
  obtain ⟨p, q, hA0, hV, rfl, hfz, hnd⟩ := hW
  have hA : DataW.TrodAll enc Try.prog W 0 (fun _ => true) true Try.f3.params.toList args.toList ds p := hA0
  rw [Try.params3] at hA hval
  obtain ⟨v0, vs0, d0, ds0, p0, q0, hargs, rfl, rfl, h0, r0⟩ := trodAll_cons hA
  obtain ⟨v1, vs1, d1, ds1, p1, q1, rfl, rfl, rfl, h1, r1⟩ := trodAll_cons r0
  obtain ⟨rfl, rfl, rfl⟩ := trodAll_nil r1
  obtain rfl : args = #[v0, v1] := by cases args; simp_all
  obtain ⟨rfl, rfl⟩ := trodVars_none hV
  have k0 := h0
  have k1 := h1
  have lt0 : ∀ x ∈ p0, x.block < W.heap.size := by obtain ⟨m, hm⟩ := k0; exact DataW.trod_lt m _ _ _ hm
  have lt1 : ∀ x ∈ p1, x.block < W.heap.size := by obtain ⟨m, hm⟩ := k1; exact DataW.trod_lt m _ _ _ hm
  obtain ⟨X0, Y0, i0, a0, a0', b0, b0', rfl⟩ := open26 (hval 0 26 v0 rfl rfl) h0
  obtain ⟨S1, rfl, rfl, rfl, hs1⟩ := open_string Try.underlying9 (hval 1 9 v1 rfl rfl) h1
  clear hA0 hval0
  have nz : NeZero pN := ⟨by decide⟩
  refine (reads_any X0 Y0 i0 ⟨a0, a0'⟩ ⟨b0, b0'⟩ S1 hs1 W).mono fun e W' ⟨he, bel⟩ => ?_
  subst he
  exact ⟨_, rfl, _, _, _, [], _, [], hW', trodAll_mk1 (shut_bool Try.underlying4 _), (trodAll_cons_mk (Below.trod laidOut (by kernel_rfl) (of_decide_eq_true (by kernel_rfl)) k0 bel lt0) (trodAll_cons_mk (Below.trod laidOut (by kernel_rfl) (of_decide_eq_true (by kernel_rfl)) k1 bel lt1) trodAll_mk0)), rfl, bel.frame _, fun h => by cases h⟩
theorem pointReads_holds : Rows.PointReadsSaid :=
  OpenClaim.holds_of_wide 3 Try.f3 rfl rfl rfl rfl rfl rfl rfl ⟨rfl, rfl, rfl, rfl, rfl⟩ rfl rfl rfl rfl rfl (by kernel_rfl) Try.func3 (by kernel_rfl)
    (of_decide_eq_true (by kernel_rfl)) (by unfold Func.isWrapper; rw [if_neg (of_decide_eq_false (by kernel_rfl))]; exact ⟨rfl, rfl⟩)
    (fun os started H enc _ => lifted3 os started H enc)
#print axioms pointReads_holds
end Go.Proofs.Ytgekafmojedlkaa
