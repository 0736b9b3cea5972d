/- PROVED: the function pendulumlaw01.NumWhole answers true for every input, and each argument reads behind the call as it read before; no condition. -/
import Derived.Test.YtfgeilnaiijldaaW7
import Derived.Test.YtfgeilnaiijldaaF0
set_option linter.all false
namespace Go.Proofs.Ytfgeilnaiijldaa
open Go.ChangeShapes Go.WideShapes Go.ChangeAt Go.RowKit
open Go.ChangeMaps (open_string shut_string)
section
attribute [local go_sem] eq24
set_option maxHeartbeats 1000000 in
theorem whole_none (lo hi M : Int) (w : World) (hz : (lim M 0 == 0 && (lim M 1 == 0 && (lim M 2 == 0 && lim M 3 == 0))) = true)
    (AW : ∀ W, Calls Try.prog 20 #[] W fun e w' => e = .returned (.bool true) ∧ Below W.heap.size W w') :
    Calls Try.prog 7 #[nv lo, nv hi, nv M] w fun e w' => e = .returned (.bool true) ∧ Below w.heap.size w w' := by
  go_enter Try.func7, Try.ntmps7
  go_wp2_with fail
  refine (AW _).mono ?_
  rintro e w1 ⟨rfl, hb1⟩
  go_wp2_with fail
  go_ret
  exact ⟨rfl, Below.trans (by go_grown) (hb1.mono (by go_size))⟩
end
theorem whole_any (lo hi M : Int) (hl : 0 ≤ lo) (hl' : lo < top256) (hh : 0 ≤ hi) (hh' : hi < top256) (hM : 0 ≤ M) (hM' : M < top256) (w : World) :
    Calls Try.prog 7 #[nv lo, nv hi, nv M] w fun e w' => e = .returned (.bool true) ∧ Below w.heap.size w w' := by
  by_cases hz : M = 0
  · subst hz
    exact whole_none lo hi 0 w (by decide) awake_any
  have hM0 : 0 < M := by omega
  have tp : (0 : Int) < top256 := by decide
  have hzf : (lim M 0 == 0 && (lim M 1 == 0 && (lim M 2 == 0 && lim M 3 == 0))) = false := by
    have v := V4_lim M hM hM'
    unfold V4 at v
    by_cases c0 : lim M 0 = 0
    · by_cases c1 : lim M 1 = 0
      · by_cases c2 : lim M 2 = 0
        · by_cases c3 : lim M 3 = 0
          · rw [c0, c1, c2, c3] at v; omega
          · simp [c3]
        · simp [c2]
      · simp [c1]
    · simp [c0]
  have CD := fun W => div_any lo hi M hl hl' hh hh' hM0 hM' W
  have eN := Int.mul_ediv_add_emod (lo + hi * top256) M
  have r0 := Int.emod_nonneg (lo + hi * top256) (Int.ne_of_gt hM0)
  have r1 := Int.emod_lt_of_pos (lo + hi * top256) hM0
  have Q0 : 0 ≤ (lo + hi * top256) / M := Int.ediv_nonneg (Int.add_nonneg hl (Int.mul_nonneg hh (Int.le_of_lt tp))) hM
  simp only [← nv_mod ((lo + hi * top256) / M)] at CD
  generalize (lo + hi * top256) % M = R at *
  generalize (lo + hi * top256) / M = Q at *
  have q0 : 0 ≤ Q % top256 := Int.emod_nonneg _ (Int.ne_of_gt tp)
  have q1 : Q % top256 < top256 := Int.emod_lt_of_pos _ tp
  have p0 : 0 ≤ Q / top256 := Int.ediv_nonneg Q0 (Int.le_of_lt tp)
  have eQ := Int.mul_ediv_add_emod Q top256
  generalize Q % top256 = qq at *
  generalize Q / top256 = pp at *
  have eM : M * Q = qq * M + pp * M * top256 := by rw [← eQ]; grind
  rw [eM] at eN
  have qM0 : 0 ≤ qq * M := Int.mul_nonneg q0 hM
  have pM0 : 0 ≤ pp * M := Int.mul_nonneg p0 hM
  have eA := Int.mul_ediv_add_emod (qq * M) top256
  have a0 : 0 ≤ qq * M % top256 := Int.emod_nonneg _ (Int.ne_of_gt tp)
  have a1 : qq * M % top256 < top256 := Int.emod_lt_of_pos _ tp
  have b0 : 0 ≤ qq * M / top256 := Int.ediv_nonneg qM0 (Int.le_of_lt tp)
  have M1 := fun W => mul_any qq M q0 q1 hM hM' W
  have hpp : pp < top256 := by
    have h1 : pp * 1 ≤ pp * M := Int.mul_le_mul_of_nonneg_left (by omega) p0
    unfold top256 at *
    generalize qq * M = u at *
    generalize pp * M = v at *
    omega
  have M2 := fun W => mul_any pp M p0 hpp hM hM' W
  simp only [← nv_mod (qq * M)] at M1
  generalize qq * M % top256 = A0 at *
  generalize qq * M / top256 = B0 at *
  generalize qq * M = qM at *
  have pM1 : pp * M < top256 := by unfold top256 at *; generalize pp * M = v at *; omega
  have ez : pp * M / top256 = 0 := Int.ediv_eq_zero_of_lt pM0 pM1
  rw [ez, nv0] at M2
  have AD1 := fun W => add_any A0 R a0 a1 r0 (Int.lt_trans r1 hM') W
  have es := Int.mul_ediv_add_emod (A0 + R) top256
  have eS : (A0 + R) % top256 = lo := by unfold top256 at *; generalize pp * M = v at *; omega
  have c0 : 0 ≤ lim (A0 + R) 4 := lim_nn _ _
  have ec : lim (A0 + R) 4 = (A0 + R) / top256 := by rw [lim4]; unfold top256 at *; omega
  simp only [← nv_mod (A0 + R), eS] at AD1
  have b1 : B0 < top256 := by unfold top256 at *; generalize pp * M = v at *; omega
  have AD2 := fun W => add_any B0 (pp * M) b0 b1 pM0 pM1 W
  have ehi : B0 + pp * M + lim (A0 + R) 4 = hi := by rw [ec]; unfold top256 at *; generalize pp * M = v at *; omega
  have eb : lim (B0 + pp * M) 4 = 0 := by rw [lim4]; unfold top256 at *; generalize pp * M = v at *; omega
  rw [eb] at AD2
  have AD3 := fun W => add_any (B0 + pp * M) (lim (A0 + R) 4) (by omega) (by omega) c0 (by rw [ec]; unfold top256 at *; omega) W
  rw [ehi, show lim hi 4 = 0 by rw [lim4]; unfold top256 at *; omega] at AD3
  simp only [nvS (lim (A0 + R) 4) c0 (lim_lt _ _)] at AD3
  have M3 := fun W => mul_any lo hi hl hl' hh hh' W
  have M4 := fun W => mul_any hi lo hh hh' hl hl' W
  rw [Int.mul_comm hi lo] at M4
  have CC := fun W => cmp_any R M r0 (Int.lt_trans r1 hM') hM hM' W
  rw [show sg R M = -1 by unfold sg; rw [if_pos r1]] at CC
  exact whole_core lo hi M qq pp R A0 B0 (pp * M) (B0 + pp * M) (lo * hi) (lo * hi / top256) (lim (A0 + R) 4) w hzf CD CC M1 M2 AD1 AD2 AD3 M3 M4 awake_any

set_option maxRecDepth 100000 in
theorem lifted7 (os : Os) (started : os.Started) (H : Type) (enc : TypeId × Value → H) :
    ReturnsInHanded {} Try.checked os 7 .any (Rows.numWholeSpec.pre6 enc Try.prog Try.f7 Rows.numWholeRow.domain false) (Rows.numWholeSpec.post enc Try.prog Try.f7 false true false false) := by
  refine returnsInHanded_of_change (C := Try.checked) own started (by kernel_rfl) Try.func7
    (ChangeSpec.witness6 (enc := enc) (C := Try.checked) false ⟨#[], #[.agg #[.int .u64 0, .int .u64 0, .int .u64 0, .int .u64 0], .agg #[.int .u64 0, .int .u64 0, .int .u64 0, .int .u64 0], .agg #[.int .u64 0, .int .u64 0, .int .u64 0, .int .u64 0]], []⟩ 8 (by kernel_rfl) (by kernel_rfl) (by kernel_rfl) (by kernel_rfl)) ?_
  intro W base args ds gs before hval0 hW hcnd _
  have hval : ∀ (j : Nat) t v, Try.f7.params[j]? = some t → args[j]? = some v → Value.okWide Try.prog W .any base t v := hval0
  have hW' := hW
  obtain ⟨p, q, hA0, hV, rfl, hfz, hnd⟩ := hW
  have hA : DataW.TrodAll enc Try.prog W 0 (fun _ => true) true Try.f7.params.toList args.toList ds p := hA0
  rw [Try.params7] at hA hval
  obtain ⟨v0, vs0, d0, ds0, p0, q0, hargs, rfl, rfl, h0, r0⟩ := trodAll_cons hA
  obtain ⟨v1, vs1, d1, ds1, p1, q1, rfl, rfl, rfl, h1, r1⟩ := trodAll_cons r0
  obtain ⟨v2, vs2, d2, ds2, p2, q2, rfl, rfl, rfl, h2, r2⟩ := trodAll_cons r1
  obtain ⟨rfl, rfl, rfl⟩ := trodAll_nil r2
  obtain rfl : args = #[v0, v1, v2] := by cases args; simp_all
  obtain ⟨rfl, rfl⟩ := trodVars_none hV
  have k0 := h0
  have k1 := h1
  have k2 := h2
  have lt0 : ∀ x ∈ p0, x.block < W.heap.size := by obtain ⟨m, hm⟩ := k0; exact DataW.trod_lt m _ _ _ hm
  have lt1 : ∀ x ∈ p1, x.block < W.heap.size := by obtain ⟨m, hm⟩ := k1; exact DataW.trod_lt m _ _ _ hm
  have lt2 : ∀ x ∈ p2, x.block < W.heap.size := by obtain ⟨m, hm⟩ := k2; exact DataW.trod_lt m _ _ _ hm
  obtain ⟨N0, n0, n0', rfl⟩ := open24 (hval 0 24 v0 rfl rfl) h0
  obtain ⟨N1, n1, n1', rfl⟩ := open24 (hval 1 24 v1 rfl rfl) h1
  obtain ⟨N2, n2, n2', rfl⟩ := open24 (hval 2 24 v2 rfl rfl) h2
  clear hA0 hval0
  refine (whole_any N0 N1 N2 n0 n0' n1 n1' n2 n2' W).mono fun e W' ⟨he, bel⟩ => ?_
  subst he
  exact ⟨_, rfl, _, _, _, [], _, [], hW', trodAll_mk1 (shut_bool Try.underlying4 _), (trodAll_cons_mk (Below.trod laidOut (by kernel_rfl) (of_decide_eq_true (by kernel_rfl)) k0 bel lt0) (trodAll_cons_mk (Below.trod laidOut (by kernel_rfl) (of_decide_eq_true (by kernel_rfl)) k1 bel lt1) (trodAll_cons_mk (Below.trod laidOut (by kernel_rfl) (of_decide_eq_true (by kernel_rfl)) k2 bel lt2) trodAll_mk0))), rfl, bel.frame _, fun h => by cases h⟩

theorem numWhole_holds : Rows.NumWholeSaid :=
  OpenClaim.holds_of_wide 7 Try.f7 rfl rfl rfl rfl rfl rfl rfl ⟨rfl, rfl, rfl, rfl, rfl⟩ rfl rfl rfl rfl rfl (by kernel_rfl) Try.func7 (by kernel_rfl)
    (of_decide_eq_true (by kernel_rfl)) (by unfold Func.isWrapper; rw [if_neg (of_decide_eq_false (by kernel_rfl))]; exact ⟨rfl, rfl⟩)
    (fun os started H enc _ => lifted7 os started H enc)
#print axioms numWhole_holds
end Go.Proofs.Ytfgeilnaiijldaa
