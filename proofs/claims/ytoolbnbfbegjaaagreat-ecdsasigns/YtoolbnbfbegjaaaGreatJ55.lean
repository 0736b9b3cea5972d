/- PROVED: the function pendulumlaw05.EcdsaSigns answers true for every input, and each argument reads behind the call as it read before; no condition. -/
import Derived.Deep.Cut
import Derived.Test.YtoolbnbfbegjaaaGreatJ43
import Derived.Test.YtoolbnbfbegjaaaGreatJ54
set_option linter.all false
set_option maxRecDepth 100000
namespace Go.Proofs.YtoolbnbfbegjaaaGreat
open Go.ChangeShapes Go.WideShapes Go.ChangeAt Go.RowKit Go.Sort
open Go.Sort (grow)
open Go.ChangeMaps (open_string shut_string)
section
variable [NeZero pN]
theorem signs_any (D K R S : Int) (d : ByteArray) (hD : Inn D) (hK : Inn K) (hR : Inn R) (hS : Inn S) (hd : d.size ≤ maxLen) (hd' : (d.size : Int) ≤ 281474976710656) (w : World) :
    Calls Tryz.prog 3 #[nv D, nv K, .string d, gv R S] w fun e w' => e = .returned (.bool true) ∧ Below w.heap.size w w' := by
  obtain ⟨A, B, er, a, b⟩ := sgn_both D K d hD hK hd hd'
  by_cases u : unB D = true
  · exact signs_core D K R S _ _ 0 A B er R _ _ d w (pub_ok D hD u) (rpub_ok D hD u) a b (low_u R S hR hS) (rlow_u R S hR hS) awake5
  · have p := pub_bad D hD (un_false u)
    have q := rpub_bad D hD (un_false u)
    rw [← pv_z] at p q
    exact signs_core D K R S 0 0 13 A B er R _ false d w p q a b (low_u R S hR hS) (rlow_u R S hR hS) awake5
end
set_option maxRecDepth 100000 in
theorem lifted3 (os : Os) (started : os.Started) (H : Type) (enc : TypeId × Value → H) :
    ReturnsInHanded {} Tryz.checked os 3 .any (Rows.ecdsaSignsSpec.pre6 enc Tryz.prog Tryz.f3 Rows.ecdsaSignsRow.domain false) (Rows.ecdsaSignsSpec.post enc Tryz.prog Tryz.f3 false true false false) := by
  refine returnsInHanded_of_change_sized (C := Tryz.checked) own started (by kernel_rfl) Tryz.func3
    (ChangeSpec.witness6 (enc := enc) (C := Tryz.checked) false ⟨#[], #[.agg #[.int .u64 0, .int .u64 0, .int .u64 0, .int .u64 0], .agg #[.int .u64 0, .int .u64 0, .int .u64 0, .int .u64 0], .string ⟨#[]⟩, .agg #[.int .u64 0, .int .u64 0, .int .u64 0, .int .u64 0, .int .u64 0, .int .u64 0, .int .u64 0, .int .u64 0]], []⟩ 8 (by kernel_rfl) (by kernel_rfl) (by kernel_rfl) (by kernel_rfl)) ?_
  intro W base args ds gs before hval0 hW hcnd hsz0 _
  have hval : ∀ (j : Nat) t v, Tryz.f3.params[j]? = some t → args[j]? = some v → Value.okWide Tryz.prog W .any base t v := hval0
  have hW' := hW
  obtain ⟨p, q, hA0, hV, rfl, hfz, hnd⟩ := hW
  have hA : DataW.TrodAll enc Tryz.prog W 0 (fun _ => true) true Tryz.f3.params.toList args.toList ds p := hA0
  have hsz : (DataW.weightsEach Tryz.prog (Tryz.f3.params.toList ++ (Rows.ecdsaSignsSpec.plain.varTypes Tryz.prog)) (ds ++ gs)).all (· ≤ reachBytes) = true := hsz0
  rw [Tryz.params3] at hA hval hsz
  obtain ⟨v0, vs0, d0, ds0, p0, q0, hargs, rfl, rfl, h0, r0⟩ := trodAll_cons hA
  obtain ⟨v1, vs1, d1, ds1, p1, q1, rfl, rfl, rfl, h1, r1⟩ := trodAll_cons r0
  obtain ⟨v2, vs2, d2, ds2, p2, q2, rfl, rfl, rfl, h2, r2⟩ := trodAll_cons r1
  obtain ⟨v3, vs3, d3, ds3, p3, q3, rfl, rfl, rfl, h3, r3⟩ := trodAll_cons r2
  obtain ⟨rfl, rfl, rfl⟩ := trodAll_nil r3
  obtain rfl : args = #[v0, v1, v2, v3] := by cases args; simp_all
  obtain ⟨rfl, rfl⟩ := trodVars_none hV
  have k0 := h0
  have k1 := h1
  have k2 := h2
  have k3 := h3
  have lt0 : ∀ x ∈ p0, x.block < W.heap.size := by obtain ⟨m, hm⟩ := k0; exact DataW.trod_lt m _ _ _ hm
  have lt1 : ∀ x ∈ p1, x.block < W.heap.size := by obtain ⟨m, hm⟩ := k1; exact DataW.trod_lt m _ _ _ hm
  have lt2 : ∀ x ∈ p2, x.block < W.heap.size := by obtain ⟨m, hm⟩ := k2; exact DataW.trod_lt m _ _ _ hm
  have lt3 : ∀ x ∈ p3, x.block < W.heap.size := by obtain ⟨m, hm⟩ := k3; exact DataW.trod_lt m _ _ _ hm
  obtain ⟨N0, n0, n0', rfl⟩ := open24 (hval 0 24 v0 rfl rfl) h0
  obtain ⟨N1, n1, n1', rfl⟩ := open24 (hval 1 24 v1 rfl rfl) h1
  obtain ⟨S2, rfl, rfl, rfl, hs2⟩ := open_string Tryz.underlying9 (hval 2 9 v2 rfl rfl) h2
  obtain ⟨X3, Y3, a3, a3', b3, b3', rfl⟩ := openG (hval 3 26 v3 rfl rfl) h3
  have z2' := sized_string hsz (j := 2) (t := 9) rfl rfl
  have z2 : (S2.size : Int) ≤ 281474976710656 := by have h2 := reachBytes_lt; have h3 : S2.data.toList.length = S2.size := rfl; omega
  clear hA0 hval0 hsz hsz0
  have nz : NeZero pN := ⟨by decide⟩
  refine (signs_any N0 N1 X3 Y3 S2 ⟨n0, n0'⟩ ⟨n1, n1'⟩ ⟨a3, a3'⟩ ⟨b3, b3'⟩ hs2 z2 W).mono fun e W' ⟨he, bel⟩ => ?_
  subst he
  exact ⟨_, rfl, _, _, _, [], _, [], hW', trodAll_mk1 (shut_bool Tryz.underlying4 _), (trodAll_cons_mk (Below.trod laidOut (by kernel_rfl) (of_decide_eq_true (by kernel_rfl)) k0 bel lt0) (trodAll_cons_mk (Below.trod laidOut (by kernel_rfl) (of_decide_eq_true (by kernel_rfl)) k1 bel lt1) (trodAll_cons_mk (Below.trod laidOut (by kernel_rfl) (of_decide_eq_true (by kernel_rfl)) k2 bel lt2) (trodAll_cons_mk (Below.trod laidOut (by kernel_rfl) (of_decide_eq_true (by kernel_rfl)) k3 bel lt3) trodAll_mk0)))), rfl, bel.frame _, fun h => by cases h⟩
theorem ecdsaSigns_holds : Rows.EcdsaSignsSaid :=
  OpenClaim.holds_of_wide 3 Tryz.f3 rfl rfl rfl rfl rfl rfl rfl ⟨rfl, rfl, rfl, rfl, rfl⟩ rfl rfl rfl rfl rfl (by kernel_rfl) Tryz.func3 (by kernel_rfl)
    (of_decide_eq_true (by kernel_rfl)) (by unfold Func.isWrapper; rw [if_neg (of_decide_eq_false (by kernel_rfl))]; exact ⟨rfl, rfl⟩)
    (fun os started H enc _ => lifted3 os started H enc)
#print axioms ecdsaSigns_holds
end Go.Proofs.YtoolbnbfbegjaaaGreat
