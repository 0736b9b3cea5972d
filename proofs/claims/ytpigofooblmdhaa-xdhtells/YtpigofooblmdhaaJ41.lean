/- PROVED: the function pendulumlaw03.XdhTells answers true for every input, and each argument reads behind the call as it read before; no condition. -/
import Derived.Test.YtpigofooblmdhaaJ40
set_option linter.all false
set_option maxRecDepth 100000
namespace Go.Proofs.Ytpigofooblmdhaa
open Go.ChangeShapes Go.WideShapes Go.ChangeAt Go.RowKit
open Go.Sort (grow)
open Go.ChangeMaps (open_string shut_string)
section
attribute [local go_sem] eq24
set_option maxHeartbeats 4000000 in
theorem xtells_core (k u S T : ByteArray) (N E F G : Int) (w : World)
    (C40 : ∀ W, Calls Try.prog 40 #[.string k] W fun e w' => e = .returned (.tuple #[nv N, .int .i64 E]) ∧ Below W.heap.size W w')
    (C41 : ∀ W, Calls Try.prog 41 #[.string k] W fun e w' => e = .returned (.tuple #[nv N, .int .i64 E]) ∧ Below W.heap.size W w')
    (C42 : ∀ W, Calls Try.prog 42 #[.string k, .string u] W fun e w' => e = .returned (.tuple #[.string S, .int .i64 F]) ∧ Below W.heap.size W w')
    (C43 : ∀ W, Calls Try.prog 43 #[.string k, .string u] W fun e w' => e = .returned (.tuple #[.string S, .int .i64 F]) ∧ Below W.heap.size W w')
    (C44 : ∀ W, Calls Try.prog 44 #[.string k, .string u] W fun e w' => e = .returned (.tuple #[.string T, .int .i64 G]) ∧ Below W.heap.size W w')
    (C45 : ∀ W, Calls Try.prog 45 #[.string k, .string u] W fun e w' => e = .returned (.tuple #[.string T, .int .i64 G]) ∧ Below W.heap.size W w') :
    Calls Try.prog 6 #[.string k, .string u] w fun e w' => e = .returned (.bool true) ∧ Below w.heap.size w w' := by
  go_enter Try.func6, Try.ntmps6
  go_wp2_with fail
  refine (C40 _).mono ?_
  rintro e w1 ⟨rfl, hb⟩
  have hB := hb
  clear hb C40
  go_wp2_with fail
  refine (C41 _).mono ?_
  rintro e w2 ⟨rfl, hb⟩
  have Aa := (Arr.mk4 (w := w1.alloc (.cells #[.int .u64 (lim N 0), .int .u64 (lim N 1), .int .u64 (lim N 2), .int .u64 (lim N 3)] 24)) (f := fun j => .int .u64 (lim N j)) (b := w1.heap.size) (by simp [go_sem]) (by simp [go_sem]) (by simp [go_sem]) (by simp [go_sem]) (by simp [go_sem]) (by simp [go_sem]) (by simp [go_sem]) (by simp [go_sem])).below hb (by go_size)
  replace hB := Bel.call (Bel.al hB (.cells #[.int .u64 (lim N 0), .int .u64 (lim N 1), .int .u64 (lim N 2), .int .u64 (lim N 3)] 24)) hb
  clear hb C41
  go_wp2_with fail
  refine (C42 _).mono ?_
  rintro e w3 ⟨rfl, hb⟩
  have Ab := (Arr.mk4 (w := w2.alloc (.cells #[.int .u64 (lim N 0), .int .u64 (lim N 1), .int .u64 (lim N 2), .int .u64 (lim N 3)] 24)) (f := fun j => .int .u64 (lim N j)) (b := w2.heap.size) (by simp [go_sem]) (by simp [go_sem]) (by simp [go_sem]) (by simp [go_sem]) (by simp [go_sem]) (by simp [go_sem]) (by simp [go_sem]) (by simp [go_sem])).below hb (by go_size)
  replace Aa := Arr.to' (Arr.al' Aa (.cells #[.int .u64 (lim N 0), .int .u64 (lim N 1), .int .u64 (lim N 2), .int .u64 (lim N 3)] 24)) hb
  replace hB := Bel.call (Bel.al hB (.cells #[.int .u64 (lim N 0), .int .u64 (lim N 1), .int .u64 (lim N 2), .int .u64 (lim N 3)] 24)) hb
  clear hb C42
  go_wp2_with fail
  refine (C43 _).mono ?_
  rintro e w4 ⟨rfl, hb⟩
  replace Ab := Arr.to' Ab hb
  replace Aa := Arr.to' Aa hb
  replace hB := Bel.call hB hb
  clear hb C43
  go_wp2_with fail
  refine (C44 _).mono ?_
  rintro e w5 ⟨rfl, hb⟩
  replace Ab := Arr.to' Ab hb
  replace Aa := Arr.to' Aa hb
  replace hB := Bel.call hB hb
  clear hb C44
  go_wp2_with fail
  refine (C45 _).mono ?_
  rintro e w6 ⟨rfl, hb⟩
  replace Ab := Arr.to' Ab hb
  replace Aa := Arr.to' Aa hb
  replace hB := Bel.call hB hb
  clear hb C45
  have ca := Aa.c
  have cb := Ab.c
  go_wp2_with fail
  refine (awake3 _).mono ?_
  rintro e w7 ⟨rfl, hb⟩
  have hB' := Bel.call hB hb
  clear hb ca cb
  go_wp2_with fail
  go_returns
  exact ⟨rfl, hB'⟩
end
theorem xtells_any (k u : ByteArray) (hk : k.size ≤ maxLen) (hu : u.size ≤ maxLen) (w : World) :
    Calls Try.prog 6 #[.string k, .string u] w fun e w' => e = .returned (.bool true) ∧ Below w.heap.size w w' :=
  xtells_core k u _ _ _ _ _ _ w (clamp_u k hk) (rclamp_u k hk) (raw_u k u hk hu) (rraw_u k u hk hu) (shared_u k u hk hu) (rshared_u k u hk hu)
set_option maxRecDepth 100000 in
theorem lifted6 (os : Os) (started : os.Started) (H : Type) (enc : TypeId × Value → H) :
    ReturnsInHanded {} Try.checked os 6 .any (Rows.xdhTellsSpec.pre6 enc Try.prog Try.f6 Rows.xdhTellsRow.domain false) (Rows.xdhTellsSpec.post enc Try.prog Try.f6 false true false false) := by
  refine returnsInHanded_of_change (C := Try.checked) own started (by kernel_rfl) Try.func6
    (ChangeSpec.witness6 (enc := enc) (C := Try.checked) false ⟨#[], #[.string ⟨#[]⟩, .string ⟨#[]⟩], []⟩ 8 (by kernel_rfl) (by kernel_rfl) (by kernel_rfl) (by kernel_rfl)) ?_
  intro W base args ds gs before hval0 hW hcnd _
  have hval : ∀ (j : Nat) t v, Try.f6.params[j]? = some t → args[j]? = some v → Value.okWide Try.prog W .any base t v := hval0
  have hW' := hW
  obtain ⟨p, q, hA0, hV, rfl, hfz, hnd⟩ := hW
  have hA : DataW.TrodAll enc Try.prog W 0 (fun _ => true) true Try.f6.params.toList args.toList ds p := hA0
  rw [Try.params6] at hA hval
  obtain ⟨v0, vs0, d0, ds0, p0, q0, hargs, rfl, rfl, h0, r0⟩ := trodAll_cons hA
  obtain ⟨v1, vs1, d1, ds1, p1, q1, rfl, rfl, rfl, h1, r1⟩ := trodAll_cons r0
  obtain ⟨rfl, rfl, rfl⟩ := trodAll_nil r1
  obtain rfl : args = #[v0, v1] := by cases args; simp_all
  obtain ⟨rfl, rfl⟩ := trodVars_none hV
  have k0 := h0
  have k1 := h1
  have lt0 : ∀ x ∈ p0, x.block < W.heap.size := by obtain ⟨m, hm⟩ := k0; exact DataW.trod_lt m _ _ _ hm
  have lt1 : ∀ x ∈ p1, x.block < W.heap.size := by obtain ⟨m, hm⟩ := k1; exact DataW.trod_lt m _ _ _ hm
  obtain ⟨S0, rfl, rfl, rfl, hs0⟩ := open_string Try.underlying9 (hval 0 9 v0 rfl rfl) h0
  obtain ⟨S1, rfl, rfl, rfl, hs1⟩ := open_string Try.underlying9 (hval 1 9 v1 rfl rfl) h1
  clear hA0 hval0
  refine (xtells_any S0 S1 hs0 hs1 W).mono fun e W' ⟨he, bel⟩ => ?_
  subst he
  exact ⟨_, rfl, _, _, _, [], _, [], hW', trodAll_mk1 (shut_bool Try.underlying4 _), (trodAll_cons_mk (Below.trod laidOut (by kernel_rfl) (of_decide_eq_true (by kernel_rfl)) k0 bel lt0) (trodAll_cons_mk (Below.trod laidOut (by kernel_rfl) (of_decide_eq_true (by kernel_rfl)) k1 bel lt1) trodAll_mk0)), rfl, bel.frame _, fun h => by cases h⟩
theorem xdhTells_holds : Rows.XdhTellsSaid :=
  OpenClaim.holds_of_wide 6 Try.f6 rfl rfl rfl rfl rfl rfl rfl ⟨rfl, rfl, rfl, rfl, rfl⟩ rfl rfl rfl rfl rfl (by kernel_rfl) Try.func6 (by kernel_rfl)
    (of_decide_eq_true (by kernel_rfl)) (by unfold Func.isWrapper; rw [if_neg (of_decide_eq_false (by kernel_rfl))]; exact ⟨rfl, rfl⟩)
    (fun os started H enc _ => lifted6 os started H enc)
#print axioms xdhTells_holds
end Go.Proofs.Ytpigofooblmdhaa
