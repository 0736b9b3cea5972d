/- What mod.Add and mod.Sub answer, for any numbers. -/
import Derived.Test.YtpigofooblmdhaaJ21
set_option linter.all false
namespace Go.Proofs.Ytpigofooblmdhaa
open Go.RowKit
theorem nv_sub (N : Int) : nv (N - top256) = nv N := by
  rw [← nv_mod (N - top256), Int.sub_emod_right, nv_mod]
theorem nv_add (N : Int) : nv (N + top256) = nv N := by
  rw [← nv_mod (N + top256), Int.add_emod_right, nv_mod]
theorem lim4_0 {s : Int} (h0 : 0 ≤ s) (h : s < top256) : lim s 4 = 0 := by rw [lim4]; unfold top256 at h; omega
theorem lim4_1 {s : Int} (h0 : top256 ≤ s) (h : s < 2 * top256) : lim s 4 = 1 := by rw [lim4]; unfold top256 at h h0; omega
theorem madd_any (A B M : Int) (hA : 0 ≤ A) (hA' : A < top256) (hB : 0 ≤ B) (hB' : B < top256) (hM : 0 ≤ M) (hM' : M < top256) (w : World) :
    Calls Try.prog 29 #[nv A, nv B, nv M] w fun e w' => e = .returned (nv (md (A + B) M)) ∧ Below w.heap.size w w' := by
  have x0 := md_nn A M hM
  have x1 := md_top A M hM hM'
  have y0 := md_nn B M hM
  have y1 := md_top B M hM hM'
  refine madd_core A B M (md A M + md B M) (lim (md A M + md B M) 4) (md (A + B) M) (fun N => md N M) w ?_ (fun W => add_any _ _ x0 x1 y0 y1 W) ?_
  · rintro N W (rfl | rfl)
    · exact below_any _ M hA hA' hM hM' W
    · exact below_any _ M hB hB' hM hM' W
  · by_cases c : M = 0
    · subst c
      rw [md0, md0, md0]
      refine .inr ⟨.inr ⟨by decide, 0, by omega, fun W => ?_⟩, .int .u64 (bor 0 0), fun W => ?_⟩
      · have := cmp_any 0 0 (by omega) (by decide) (by omega) (by decide) W
        rw [show sg 0 0 = 0 by decide] at this
        exact this
      · have := sub_any 0 0 (by omega) (by decide) (by omega) (by decide) W
        rw [show (0 : Int) - 0 = 0 by omega] at this
        exact this
    · have M0 : 0 < M := by omega
      have x2 := md_lt A M M0
      have y2 := md_lt B M M0
      have e : md (A + B) M = (md A M + md B M) % M := by rw [md_pos _ M0, md_pos _ M0, md_pos _ M0, ← Int.add_emod]
      by_cases s0 : md A M + md B M < M
      · refine .inl ⟨lim4_0 (by omega) (by omega), fun W => ?_, ?_⟩
        · have := cmp_any _ M (show 0 ≤ md A M + md B M by omega) (by omega) hM hM' W
          rw [sg_lt s0] at this
          exact this
        · rw [e]; exact Int.emod_eq_of_lt (by omega) s0
      · have e2 : md (A + B) M = md A M + md B M - M := by
          rw [e, ← Int.sub_emod_right]; exact Int.emod_eq_of_lt (by omega) (by omega)
        rw [e2]
        by_cases s1 : md A M + md B M < top256
        · refine .inr ⟨.inr ⟨lim4_0 (by omega) s1, _, sg_ge (by omega), fun W => cmp_any _ M (by omega) s1 hM hM' W⟩, _, fun W => sub_any _ M (by omega) s1 hM hM' W⟩
        · refine .inr ⟨.inl (lim4_1 (by omega) (by omega)), .int .u64 (bor (md A M + md B M - top256) M), fun W => ?_⟩
          have := sub_any (md A M + md B M - top256) M (by omega) (by omega) hM hM' W
          rw [nv_sub, show md A M + md B M - top256 - M = md A M + md B M - M - top256 by omega, nv_sub] at this
          exact this
theorem msub_any (A B M : Int) (hA : 0 ≤ A) (hA' : A < top256) (hB : 0 ≤ B) (hB' : B < top256) (hM : 0 ≤ M) (hM' : M < top256) (w : World) :
    Calls Try.prog 31 #[nv A, nv B, nv M] w fun e w' => e = .returned (nv (md (A - B) M)) ∧ Below w.heap.size w w' := by
  have x0 := md_nn A M hM
  have x1 := md_top A M hM hM'
  have y0 := md_nn B M hM
  have y1 := md_top B M hM hM'
  refine msub_core A B M (md A M - md B M) (bor (md A M) (md B M)) (md (A - B) M) (fun N => md N M) w ?_ (fun W => sub_any _ _ x0 x1 y0 y1 W) ?_
  · rintro N W (rfl | rfl)
    · exact below_any _ M hA hA' hM hM' W
    · exact below_any _ M hB hB' hM hM' W
  · by_cases c : M = 0
    · subst c
      rw [md0, md0, md0]
      exact .inl ⟨by decide, by omega⟩
    · have M0 : 0 < M := by omega
      have x2 := md_lt A M M0
      have y2 := md_lt B M M0
      have e : md (A - B) M = (md A M - md B M) % M := by rw [md_pos _ M0, md_pos _ M0, md_pos _ M0, ← Int.sub_emod]
      by_cases s0 : md B M ≤ md A M
      · refine .inl ⟨by unfold bor; rw [if_neg (by omega)], ?_⟩
        rw [e]; exact Int.emod_eq_of_lt (by omega) (by omega)
      · have e2 : md (A - B) M = md A M - md B M + M := by
          rw [e, ← Int.add_emod_right]; exact Int.emod_eq_of_lt (by omega) (by omega)
        rw [e2]
        refine .inr ⟨by unfold bor; rw [if_pos (by omega)], .int .u64 (lim (md A M - md B M + top256 + M) 4), fun W => ?_⟩
        have := add_any (md A M - md B M + top256) M (by omega) (by omega) hM hM' W
        rw [nv_add, show md A M - md B M + top256 + M = md A M - md B M + M + top256 by omega, nv_add] at this
        rw [show md A M - md B M + top256 + M = md A M - md B M + M + top256 by omega]
        exact this
end Go.Proofs.Ytpigofooblmdhaa
