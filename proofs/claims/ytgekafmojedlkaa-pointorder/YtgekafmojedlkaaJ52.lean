/- PROVED: the function pendulumlaw04.PointOrder answers true for every input, and each argument reads behind the call as it read before; no condition. -/
import Derived.Test.YtgekafmojedlkaaJ48
import Derived.Test.YtgekafmojedlkaaJ51
import Derived.Test.YtgekafmojedlkaaJ2
import Derived.Test.YtgekafmojedlkaaJ12
set_option linter.all false
set_option maxRecDepth 100000
namespace Go.Proofs.Ytgekafmojedlkaa
open Go.ChangeShapes Go.WideShapes Go.ChangeAt Go.RowKit Go.Sort
open Go.Sort (grow)
open Go.ChangeMaps (open_string shut_string)
section
variable [NeZero pN]
theorem nv_n : nv (nN : Int) = .agg #[.int .u64 17562291160714782033, .int .u64 13611842547513532036, .int .u64 18446744073709551615, .int .u64 18446744069414584320] := by
  have h : lim (nN : Int) 0 = 17562291160714782033 ∧ lim (nN : Int) 1 = 13611842547513532036 ∧ lim (nN : Int) 2 = 18446744073709551615 ∧ lim (nN : Int) 3 = 18446744069414584320 := by decide +kernel
  rw [nv, h.1, h.2.1, h.2.2.1, h.2.2.2]
theorem inn_n : Inn (nN : Int) := ⟨by decide +kernel, by decide +kernel⟩
theorem order_any (X1 Y1 J K : Int) (i1 : Bool) (h1 : Inn X1) (g1 : Inn Y1) (hJ : Inn J) (hK : Inn K) (w : World) :
    Calls Try.prog 5 #[pv X1 Y1 i1, nv J, nv K] w fun e w' => e = .returned (.bool true) ∧ Below w.heap.size w w' := by
  rcases on_or X1 Y1 i1 h1 g1 with f | ⟨P, hP, eP, _, _⟩
  · exact order_no X1 Y1 J K i1 w (ron_f h1 g1 f) awake4
  · rw [eP]
    have cn := fun W => mul_pt (nN : Int) inn_n P hP W
    rw [show (nN : Int).toNat = nN from rfl, n_none P hP, pv_none, nv_n] at cn
    have c2 := fun W => mul_pt 2 inn_2 P hP W
    rw [mu_two P hP 1 (2 : Int).toNat rfl, p256.mu_one hP, nv_2] at c2
    have c0 := fun W => mul_pt 0 (inn_lit 0 (by decide) (by decide)) P hP W
    have e0 : mu am (0 : Int).toNat P = none := rfl
    rw [e0, pv_none, nv_zero] at c0
    by_cases c : J + K < top256
    · have ca := fun W => refAdd_raw J K W
      rw [cy_four J K hJ.1 hJ.2 hK.1 hK.2, lim4_0 (by have := hJ.1; have := hK.1; omega) c] at ca
      have iS : Inn (J + K) := ⟨by have := hJ.1; have := hK.1; omega, c⟩
      have cs := fun W => add_pt (mu am J.toNat P) (mu am K.toNat P) (p256.mu_on hP _) (p256.mu_on hP _) W
      rw [← p256.mu_add hP, ← Int.toNat_add hJ.1 hK.1] at cs
      exact order_yes (ptx P) (pty P) (ptx (mu am (J + K).toNat P)) (pty (mu am (J + K).toNat P)) (ptx (mu am J.toNat P)) (pty (mu am J.toNat P)) (ptx (mu am K.toNat P)) (pty (mu am K.toNat P)) (ptx (ad am P P)) (pty (ad am P P)) J K (J + K)
        (pti P) (pti (mu am (J + K).toNat P)) (pti (mu am J.toNat P)) (pti (mu am K.toNat P)) (pti (ad am P P)) w (ron_t P hP) ca k26 cn c2 (add_pt P P hP hP) c0 awake4 (mul_pt _ iS P hP) (mul_pt J hJ P hP) (mul_pt K hK P hP) cs
    · have ca := fun W => refAdd_raw J K W
      rw [cy_four J K hJ.1 hJ.2 hK.1 hK.2, lim4_1 (by omega) (by have := hJ.2; have := hK.2; omega)] at ca
      exact order_top (ptx P) (pty P) 0 0 0 0 0 0 (ptx (ad am P P)) (pty (ad am P P)) J K (J + K) (pti P) false false false (pti (ad am P P)) w (ron_t P hP) ca k26 cn c2 (add_pt P P hP hP) c0 awake4
end
set_option maxRecDepth 100000 in
theorem lifted5 (os : Os) (started : os.Started) (H : Type) (enc : TypeId × Value → H) :
    ReturnsInHanded {} Try.checked os 5 .any (Rows.pointOrderSpec.pre6 enc Try.prog Try.f5 Rows.pointOrderRow.domain false) (Rows.pointOrderSpec.post enc Try.prog Try.f5 false true false false) := by
  refine returnsInHanded_of_change (C := Try.checked) own started (by kernel_rfl) Try.func5
    (ChangeSpec.witness6 (enc := enc) (C := Try.checked) false ⟨#[], #[.agg #[.int .u64 0, .int .u64 0, .int .u64 0, .int .u64 0, .int .u64 0, .int .u64 0, .int .u64 0, .int .u64 0, .bool false], .agg #[.int .u64 0, .int .u64 0, .int .u64 0, .int .u64 0], .agg #[.int .u64 0, .int .u64 0, .int .u64 0, .int .u64 0]], []⟩ 8 (by kernel_rfl) (by kernel_rfl) (by kernel_rfl) (by kernel_rfl)) ?_
  intro W base args ds gs before hval0 hW hcnd _
  have hval : ∀ (j : Nat) t v, Try.f5.params[j]? = some t → args[j]? = some v → Value.okWide Try.prog W .any base t v := hval0
  have hW' := hW
  obtain ⟨p, q, hA0, hV, rfl, hfz, hnd⟩ := hW
  have hA : DataW.TrodAll enc Try.prog W 0 (fun _ => true) true Try.f5.params.toList args.toList ds p := hA0
  rw [Try.params5] at hA hval
  obtain ⟨v0, vs0, d0, ds0, p0, q0, hargs, rfl, rfl, h0, r0⟩ := trodAll_cons hA
  obtain ⟨v1, vs1, d1, ds1, p1, q1, rfl, rfl, rfl, h1, r1⟩ := trodAll_cons r0
  obtain ⟨v2, vs2, d2, ds2, p2, q2, rfl, rfl, rfl, h2, r2⟩ := trodAll_cons r1
  obtain ⟨rfl, rfl, rfl⟩ := trodAll_nil r2
  obtain rfl : args = #[v0, v1, v2] := by cases args; simp_all
  obtain ⟨rfl, rfl⟩ := trodVars_none hV
  have k0 := h0
  have k1 := h1
  have k2 := h2
  have lt0 : ∀ x ∈ p0, x.block < W.heap.size := by obtain ⟨m, hm⟩ := k0; exact DataW.trod_lt m _ _ _ hm
  have lt1 : ∀ x ∈ p1, x.block < W.heap.size := by obtain ⟨m, hm⟩ := k1; exact DataW.trod_lt m _ _ _ hm
  have lt2 : ∀ x ∈ p2, x.block < W.heap.size := by obtain ⟨m, hm⟩ := k2; exact DataW.trod_lt m _ _ _ hm
  obtain ⟨X0, Y0, i0, a0, a0', b0, b0', rfl⟩ := open26 (hval 0 26 v0 rfl rfl) h0
  obtain ⟨N1, n1, n1', rfl⟩ := open24 (hval 1 24 v1 rfl rfl) h1
  obtain ⟨N2, n2, n2', rfl⟩ := open24 (hval 2 24 v2 rfl rfl) h2
  clear hA0 hval0
  have nz : NeZero pN := ⟨by decide⟩
  refine (order_any X0 Y0 N1 N2 i0 ⟨a0, a0'⟩ ⟨b0, b0'⟩ ⟨n1, n1'⟩ ⟨n2, n2'⟩ W).mono fun e W' ⟨he, bel⟩ => ?_
  subst he
  exact ⟨_, rfl, _, _, _, [], _, [], hW', trodAll_mk1 (shut_bool Try.underlying4 _), (trodAll_cons_mk (Below.trod laidOut (by kernel_rfl) (of_decide_eq_true (by kernel_rfl)) k0 bel lt0) (trodAll_cons_mk (Below.trod laidOut (by kernel_rfl) (of_decide_eq_true (by kernel_rfl)) k1 bel lt1) (trodAll_cons_mk (Below.trod laidOut (by kernel_rfl) (of_decide_eq_true (by kernel_rfl)) k2 bel lt2) trodAll_mk0))), rfl, bel.frame _, fun h => by cases h⟩
theorem pointOrder_holds : Rows.PointOrderSaid :=
  OpenClaim.holds_of_wide 5 Try.f5 rfl rfl rfl rfl rfl rfl rfl ⟨rfl, rfl, rfl, rfl, rfl⟩ rfl rfl rfl rfl rfl (by kernel_rfl) Try.func5 (by kernel_rfl)
    (of_decide_eq_true (by kernel_rfl)) (by unfold Func.isWrapper; rw [if_neg (of_decide_eq_false (by kernel_rfl))]; exact ⟨rfl, rfl⟩)
    (fun os started H enc _ => lifted5 os started H enc)
#print axioms pointOrder_holds
end Go.Proofs.Ytgekafmojedlkaa
