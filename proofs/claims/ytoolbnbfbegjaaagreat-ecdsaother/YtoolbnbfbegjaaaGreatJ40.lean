/- PROVED: the function pendulumlaw05.EcdsaOther answers true for every input, and each argument reads behind the call as it read before; no condition. -/
import Derived.Deep.Cut
import Derived.Test.YtoolbnbfbegjaaaGreatJ39
set_option linter.all false
set_option maxRecDepth 100000
namespace Go.Proofs.YtoolbnbfbegjaaaGreat
open Go.ChangeShapes Go.WideShapes Go.ChangeAt Go.RowKit Go.Sort
open Go.Sort (grow)
open Go.ChangeMaps (open_string shut_string)
section
variable [NeZero pN]
theorem low_other {R S : Int} (hR : R < nn) (h : 0 < S) (h1 : S < nn) : lowS R (nn - S) = lowS R S := by
  unfold lowS
  rw [ns_0 h h1, ns_0 (S := nn - S) (by omega) (by omega)]
  by_cases d : nn - S < S
  · rw [if_neg (by omega), if_pos (by omega)]
  · by_cases e : S < nn - S
    · rw [if_pos (by omega), if_neg (by omega)]; omega
    · rw [if_neg (by omega), if_neg (by omega)]; omega
theorem ckB_good {X Y : Int} {i : Bool} {s : ByteArray} {R S : Int} (hX : Inn X) (hY : Inn Y) (uR : unB R = true) (uS : unB S = true) (h : ckB X Y i s R S = 0) : s.size = 32 ∧ ∃ P, OnC am bm P ∧ P ≠ none ∧ pv X Y i = pvP P := by
  unfold ckB at h
  by_cases p : pubE X Y i = 0
  · rw [if_pos p] at h
    by_cases d : digE s = 0
    · have s32 : s.size = 32 := by
        unfold digE at d
        by_cases c : s.size = 32
        · exact c
        · rw [if_neg c] at d; exact absurd d (by decide)
      refine ⟨s32, ?_⟩
      unfold pubE at p
      by_cases c : (!i && onB X Y false) = true
      · simp only [Bool.and_eq_true, Bool.not_eq_true'] at c
        obtain ⟨rfl, o⟩ := c
        rcases on_or X Y false hX hY with f | ⟨P, hP, eP, pn, _⟩
        · rw [f] at o; exact absurd o (by decide)
        · refine ⟨P, hP, fun g => ?_, eP⟩
          obtain ⟨_, _, q⟩ := pn
          rw [g] at q
          exact absurd q (by decide)
      · rw [if_neg c] at p; exact absurd p (by decide)
    · rw [if_neg d] at h; exact absurd h d
  · rw [if_neg p] at h; exact absurd h p
theorem ckB_any {X Y : Int} {i : Bool} {s : ByteArray} {R S T : Int} (uS : unB S = true) (uT : unB T = true) : ckB X Y i s R T = ckB X Y i s R S := by
  have a : unE S = 0 := by simp [unE, uS]
  have b : unE T = 0 := by simp [unE, uT]
  unfold ckB
  rw [a, b]
theorem other_any (X Y R S : Int) (i : Bool) (d : ByteArray) (hX : Inn X) (hY : Inn Y) (hR : Inn R) (hS : Inn S) (hd : d.size ≤ maxLen) (w : World) :
    Calls Tryz.prog 6 #[pv X Y i, .string d, gv R S] w fun e w' => e = .returned (.bool true) ∧ Below w.heap.size w w' := by
  have s1 := sec_u S hS
  have s2 := sec_u R hR
  by_cases uS : unB S = true
  · rw [uS] at s1
    by_cases uR : unB R = true
    · rw [uR] at s2
      obtain ⟨S0, S1⟩ := (unB_iff hS).1 uS
      obtain ⟨R0, R1⟩ := (unB_iff hR).1 uR
      have hT : Inn (nn - S) := ⟨by omega, Int.lt_trans (show nn - S < nn by omega) (by decide)⟩
      have uT : unB (nn - S) = true := (unB_iff hT).2 ⟨by omega, by omega⟩
      have t := fun W => ref2Sub_any 0 S nn (by decide) (by decide) hS.1 hS.2 inn_nn.1 inn_nn.2 W
      rw [md_pos _ nn_pos, nv_nil] at t
      have t2 : (0 - S) % nn = nn - S := ns_0 S0 S1
      rw [t2] at t
      have l1 := low_u R S hR hS
      have l2 := low_u R (nn - S) hR hT
      rw [low_other R1 S0 S1] at l2
      by_cases c : ckB X Y i d R S = 0
      · obtain ⟨d32, P, hP, hne, eP⟩ := ckB_good hX hY uR uS c
        obtain ⟨I, _, _, iv⟩ := inv_ex S S0 S1
        obtain ⟨J, _, _, jv⟩ := inv_ex (nn - S) (by omega) (by omega)
        have c1 := check_ok P hP hne d hd d32 R S I hR hS uR uS iv
        have c2 := check_ok P hP hne d hd d32 R (nn - S) J hR hT uR uT jv
        rw [hld_other P hP S0 S1 (inn_fb d).1 hR.1 iv jv] at c2
        rw [eP]
        exact other_3 (ptx P) (pty P) R S (nn - S) R _ _ (pti P) d w s1 s2 n19 t c1 c2 l1 l2 awake5
      · have c1 := check_bad X Y R S i d hX hY hR hS c
        have c2 := check_bad X Y R (nn - S) i d hX hY hR hT (by rw [ckB_any uS uT]; exact c)
        rw [ckB_any uS uT] at c2
        exact other_3 X Y R S (nn - S) R _ _ i d w s1 s2 n19 t c1 c2 l1 l2 awake5
    · rw [un_false uR] at s2
      exact other_2 X Y R S R (lowS R S) i d w s1 s2 (low_u R S hR hS) (rlow_u R S hR hS) awake5
  · rw [un_false uS] at s1
    exact other_1 X Y R S R (lowS R S) i d w s1 (low_u R S hR hS) (rlow_u R S hR hS) awake5
end
set_option maxRecDepth 100000 in
theorem lifted6 (os : Os) (started : os.Started) (H : Type) (enc : TypeId × Value → H) :
    ReturnsInHanded {} Tryz.checked os 6 .any (Rows.ecdsaOtherSpec.pre6 enc Tryz.prog Tryz.f6 Rows.ecdsaOtherRow.domain false) (Rows.ecdsaOtherSpec.post enc Tryz.prog Tryz.f6 false true false false) := by
  refine returnsInHanded_of_change (C := Tryz.checked) own started (by kernel_rfl) Tryz.func6
    (ChangeSpec.witness6 (enc := enc) (C := Tryz.checked) false ⟨#[], #[.agg #[.int .u64 0, .int .u64 0, .int .u64 0, .int .u64 0, .int .u64 0, .int .u64 0, .int .u64 0, .int .u64 0, .bool false], .string ⟨#[]⟩, .agg #[.int .u64 0, .int .u64 0, .int .u64 0, .int .u64 0, .int .u64 0, .int .u64 0, .int .u64 0, .int .u64 0]], []⟩ 8 (by kernel_rfl) (by kernel_rfl) (by kernel_rfl) (by kernel_rfl)) ?_
  intro W base args ds gs before hval0 hW hcnd _
  have hval : ∀ (j : Nat) t v, Tryz.f6.params[j]? = some t → args[j]? = some v → Value.okWide Tryz.prog W .any base t v := hval0
  have hW' := hW
  obtain ⟨p, q, hA0, hV, rfl, hfz, hnd⟩ := hW
  have hA : DataW.TrodAll enc Tryz.prog W 0 (fun _ => true) true Tryz.f6.params.toList args.toList ds p := hA0
  rw [Tryz.params6] at hA hval
  obtain ⟨v0, vs0, d0, ds0, p0, q0, hargs, rfl, rfl, h0, r0⟩ := trodAll_cons hA
  obtain ⟨v1, vs1, d1, ds1, p1, q1, rfl, rfl, rfl, h1, r1⟩ := trodAll_cons r0
  obtain ⟨v2, vs2, d2, ds2, p2, q2, rfl, rfl, rfl, h2, r2⟩ := trodAll_cons r1
  obtain ⟨rfl, rfl, rfl⟩ := trodAll_nil r2
  obtain rfl : args = #[v0, v1, v2] := by cases args; simp_all
  obtain ⟨rfl, rfl⟩ := trodVars_none hV
  have k0 := h0
  have k1 := h1
  have k2 := h2
  have lt0 : ∀ x ∈ p0, x.block < W.heap.size := by obtain ⟨m, hm⟩ := k0; exact DataW.trod_lt m _ _ _ hm
  have lt1 : ∀ x ∈ p1, x.block < W.heap.size := by obtain ⟨m, hm⟩ := k1; exact DataW.trod_lt m _ _ _ hm
  have lt2 : ∀ x ∈ p2, x.block < W.heap.size := by obtain ⟨m, hm⟩ := k2; exact DataW.trod_lt m _ _ _ hm
  obtain ⟨X0, Y0, i0, a0, a0', b0, b0', rfl⟩ := open26 (hval 0 28 v0 rfl rfl) h0
  obtain ⟨S1, rfl, rfl, rfl, hs1⟩ := open_string Tryz.underlying9 (hval 1 9 v1 rfl rfl) h1
  obtain ⟨X2, Y2, a2, a2', b2, b2', rfl⟩ := openG (hval 2 26 v2 rfl rfl) h2
  clear hA0 hval0
  have nz : NeZero pN := ⟨by decide⟩
  refine (other_any X0 Y0 X2 Y2 i0 S1 ⟨a0, a0'⟩ ⟨b0, b0'⟩ ⟨a2, a2'⟩ ⟨b2, b2'⟩ hs1 W).mono fun e W' ⟨he, bel⟩ => ?_
  subst he
  exact ⟨_, rfl, _, _, _, [], _, [], hW', trodAll_mk1 (shut_bool Tryz.underlying4 _), (trodAll_cons_mk (Below.trod laidOut (by kernel_rfl) (of_decide_eq_true (by kernel_rfl)) k0 bel lt0) (trodAll_cons_mk (Below.trod laidOut (by kernel_rfl) (of_decide_eq_true (by kernel_rfl)) k1 bel lt1) (trodAll_cons_mk (Below.trod laidOut (by kernel_rfl) (of_decide_eq_true (by kernel_rfl)) k2 bel lt2) trodAll_mk0))), rfl, bel.frame _, fun h => by cases h⟩
theorem ecdsaOther_holds : Rows.EcdsaOtherSaid :=
  OpenClaim.holds_of_wide 6 Tryz.f6 rfl rfl rfl rfl rfl rfl rfl ⟨rfl, rfl, rfl, rfl, rfl⟩ rfl rfl rfl rfl rfl (by kernel_rfl) Tryz.func6 (by kernel_rfl)
    (of_decide_eq_true (by kernel_rfl)) (by unfold Func.isWrapper; rw [if_neg (of_decide_eq_false (by kernel_rfl))]; exact ⟨rfl, rfl⟩)
    (fun os started H enc _ => lifted6 os started H enc)
#print axioms ecdsaOther_holds
end Go.Proofs.YtoolbnbfbegjaaaGreat
