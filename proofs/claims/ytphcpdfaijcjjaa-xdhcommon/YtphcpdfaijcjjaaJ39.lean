/- PROVED: the function pendulumlaw03.XdhCommon answers true for every input, and each argument reads behind the call as it read before; no condition. -/
import Derived.Test.YtphcpdfaijcjjaaJ37
import Derived.Test.YtphcpdfaijcjjaaJ38
import Derived.Test.YtphcpdfaijcjjaaJ3
set_option linter.all false
set_option maxRecDepth 100000
namespace Go.Proofs.Ytphcpdfaijcjjaa
open Go.ChangeShapes Go.WideShapes Go.ChangeAt Go.RowKit Go.Sort
open Go.Sort (grow)
open Go.ChangeMaps (open_string shut_string)
section
variable [NeZero qN]
theorem sz_y {a : ByteArray} (h : a.size = 32) : (a.size : Int) = 32 ∧ ((a.size : Int) == 32) = true := by
  have e : (a.size : Int) = 32 := by omega
  exact ⟨e, by rw [e]; rfl⟩
theorem sz_n {a : ByteArray} (h : a.size ≠ 32) : ¬ (a.size : Int) = 32 ∧ ((a.size : Int) == 32) = false := by
  have e : ¬ (a.size : Int) = 32 := by omega
  exact ⟨e, by simp [e]⟩
theorem common_any (a b : ByteArray) (ha : a.size ≤ maxLen) (hb : b.size ≤ maxLen) (w : World) :
    Calls Try.prog 3 #[.string a, .string b] w fun e w' => e = .returned (.bool true) ∧ Below w.heap.size w w' := by
  have pa := fun W => pub_u a ha W
  have pb := fun W => pub_u b hb W
  by_cases ca : a.size = 32
  · rw [pubS a ca, pubE_y a ca] at pa
    by_cases cb : b.size = 32
    · rw [pubS b cb, pubE_y b cb] at pb
      have m32 : ∀ s : ByteArray, s.size = 32 → s.size ≤ maxLen := fun s h => by rw [h]; decide
      have s1 := fun W => shared_u a (mkS (ltL (pubN b))) ha (m32 _ (lit32 _)) W
      have s2 := fun W => shared_u b (mkS (ltL (pubN a))) hb (m32 _ (lit32 _)) W
      rw [shr_S a b ca, shr_E a b ca] at s1
      rw [shr_S b a cb, shr_E b a cb] at s2
      have e : xr (cl (flN b)) (pubN a) = xr (cl (flN a)) (pubN b) := sh_comm _ _
      rw [e] at s2
      have o1 := fun W => on_u (mkS (ltL (pubN a))) (m32 _ (lit32 _)) W
      have o2 := fun W => on_u (mkS (ltL (pubN b))) (m32 _ (lit32 _)) W
      rw [on_pub] at o1 o2
      exact common_yy a b _ _ _ 0 0 (sz_y ca).1 (sz_y ca).2 (sz_y cb).1 (sz_y cb).2 w pa pb s1 s2 o1 o2 awake3
    · have n := pubE_n b cb
      exact common_yn a b _ _ a 0 _ (sz_y ca).1 (sz_y ca).2 (sz_n cb).1 (sz_n cb).2 n (by simp [n]) w pa pb awake3
  · have n := pubE_n a ca
    by_cases cb : b.size = 32
    · rw [pubS b cb, pubE_y b cb] at pb
      exact common_ny a b _ _ a _ 0 (sz_n ca).1 (sz_n ca).2 n (by simp [n]) (sz_y cb).1 (sz_y cb).2 w pa pb awake3
    · have n' := pubE_n b cb
      exact common_nn a b _ _ a _ _ (sz_n ca).1 (sz_n ca).2 n (by simp [n]) (sz_n cb).1 (sz_n cb).2 n' (by simp [n']) w pa pb awake3
end
set_option maxRecDepth 100000 in
theorem lifted3 (os : Os) (started : os.Started) (H : Type) (enc : TypeId × Value → H) :
    ReturnsInHanded {} Try.checked os 3 .any (Rows.xdhCommonSpec.pre6 enc Try.prog Try.f3 Rows.xdhCommonRow.domain false) (Rows.xdhCommonSpec.post enc Try.prog Try.f3 false true false false) := by
  refine returnsInHanded_of_change (C := Try.checked) own started (by kernel_rfl) Try.func3
    (ChangeSpec.witness6 (enc := enc) (C := Try.checked) false ⟨#[], #[.string ⟨#[]⟩, .string ⟨#[]⟩], []⟩ 8 (by kernel_rfl) (by kernel_rfl) (by kernel_rfl) (by kernel_rfl)) ?_
  intro W base args ds gs before hval0 hW hcnd _
  have hval : ∀ (j : Nat) t v, Try.f3.params[j]? = some t → args[j]? = some v → Value.okWide Try.prog W .any base t v := hval0
  have hW' := hW
  obtain ⟨p, q, hA0, hV, rfl, hfz, hnd⟩ := hW
  have hA : DataW.TrodAll enc Try.prog W 0 (fun _ => true) true Try.f3.params.toList args.toList ds p := hA0
  rw [Try.params3] at hA hval
  obtain ⟨v0, vs0, d0, ds0, p0, q0, hargs, rfl, rfl, h0, r0⟩ := trodAll_cons hA
  obtain ⟨v1, vs1, d1, ds1, p1, q1, rfl, rfl, rfl, h1, r1⟩ := trodAll_cons r0
  obtain ⟨rfl, rfl, rfl⟩ := trodAll_nil r1
  obtain rfl : args = #[v0, v1] := by cases args; simp_all
  obtain ⟨rfl, rfl⟩ := trodVars_none hV
  have k0 := h0
  have k1 := h1
  have lt0 : ∀ x ∈ p0, x.block < W.heap.size := by obtain ⟨m, hm⟩ := k0; exact DataW.trod_lt m _ _ _ hm
  have lt1 : ∀ x ∈ p1, x.block < W.heap.size := by obtain ⟨m, hm⟩ := k1; exact DataW.trod_lt m _ _ _ hm
  obtain ⟨S0, rfl, rfl, rfl, hs0⟩ := open_string Try.underlying9 (hval 0 9 v0 rfl rfl) h0
  obtain ⟨S1, rfl, rfl, rfl, hs1⟩ := open_string Try.underlying9 (hval 1 9 v1 rfl rfl) h1
  clear hA0 hval0
  have nz : NeZero qN := ⟨by decide +kernel⟩
  refine (common_any S0 S1 hs0 hs1 W).mono fun e W' ⟨he, bel⟩ => ?_
  subst he
  exact ⟨_, rfl, _, _, _, [], _, [], hW', trodAll_mk1 (shut_bool Try.underlying4 _), (trodAll_cons_mk (Below.trod laidOut (by kernel_rfl) (of_decide_eq_true (by kernel_rfl)) k0 bel lt0) (trodAll_cons_mk (Below.trod laidOut (by kernel_rfl) (of_decide_eq_true (by kernel_rfl)) k1 bel lt1) trodAll_mk0)), rfl, bel.frame _, fun h => by cases h⟩
theorem xdhCommon_holds : Rows.XdhCommonSaid :=
  OpenClaim.holds_of_wide 3 Try.f3 rfl rfl rfl rfl rfl rfl rfl ⟨rfl, rfl, rfl, rfl, rfl⟩ rfl rfl rfl rfl rfl (by kernel_rfl) Try.func3 (by kernel_rfl)
    (of_decide_eq_true (by kernel_rfl)) (by unfold Func.isWrapper; rw [if_neg (of_decide_eq_false (by kernel_rfl))]; exact ⟨rfl, rfl⟩)
    (fun os started H enc _ => lifted3 os started H enc)
#print axioms xdhCommon_holds
end Go.Proofs.Ytphcpdfaijcjjaa
