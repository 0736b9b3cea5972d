/- PROVED: the function pendulumlaw03.XdhTells answers true for every input, and each argument reads behind the call as it read before; no condition. -/
import Derived.Test.YtpigofooblmdhaaJ3
import Derived.Test.YtpigofooblmdhaaF0
/- What the reference's Raw and Shared of layer 3 answer. -/
set_option linter.all false
set_option maxRecDepth 100000
namespace Go.Proofs.Ytpigofooblmdhaa
open Go.RowKit Go.Sort
set_option maxHeartbeats 2000000 in
theorem rraw_k (k u : ByteArray) (K E : Int) (hE : ¬ E = 0) (w : World)
    (CK : ∀ W, Calls Try.prog 41 #[.string k] W fun e w' => e = .returned (.tuple #[nv K, .int .i64 E]) ∧ Below W.heap.size W w') :
    Calls Try.prog 43 #[.string k, .string u] w fun e w' => e = .returned (.tuple #[.string ⟨#[]⟩, .int .i64 E]) ∧ Below w.heap.size w w' := by
  go_enter Try.func43, Try.ntmps43
  go_wp2_with fail
  refine (CK _).mono ?_
  rintro e w1 ⟨rfl, hb1⟩
  have hB1 := hb1
  have hS1 := hB1.size
  clear hb1 CK
  go_wp2_with fail
  go_returns
  exact ⟨rfl, by go_grown⟩
set_option maxHeartbeats 2000000 in
theorem rraw_e (k u : ByteArray) (K U E : Int) (hE : ¬ E = 0) (w : World)
    (CK : ∀ W, Calls Try.prog 41 #[.string k] W fun e w' => e = .returned (.tuple #[nv K, .int .i64 0]) ∧ Below W.heap.size W w')
    (CU : ∀ W, Calls Try.prog 75 #[.string u] W fun e w' => e = .returned (.tuple #[nv U, .int .i64 E]) ∧ Below W.heap.size W w') :
    Calls Try.prog 43 #[.string k, .string u] w fun e w' => e = .returned (.tuple #[.string ⟨#[]⟩, .int .i64 E]) ∧ Below w.heap.size w w' := by
  go_enter Try.func43, Try.ntmps43
  go_wp2_with fail
  refine (CK _).mono ?_
  rintro e w1 ⟨rfl, hb1⟩
  have hB1 := hb1
  have hS1 := hB1.size
  clear hb1 CK
  go_wp2_with fail
  refine (CU _).mono ?_
  rintro e w2 ⟨rfl, hb2⟩
  have Ak := (Arr.mk4 (w := w1.alloc (.cells #[.int .u64 (lim K 0), .int .u64 (lim K 1), .int .u64 (lim K 2), .int .u64 (lim K 3)] 24)) (f := fun j => .int .u64 (lim K j)) (b := w1.heap.size) (by simp [go_sem]) (by simp [go_sem]) (by simp [go_sem]) (by simp [go_sem]) (by simp [go_sem]) (by simp [go_sem]) (by simp [go_sem]) (by simp [go_sem])).below hb2 (by go_size)
  have hB2 := Bel.call (Bel.al hB1 (.cells #[.int .u64 (lim K 0), .int .u64 (lim K 1), .int .u64 (lim K 2), .int .u64 (lim K 3)] 24)) hb2
  have hS2 := hB2.size
  have lk := Ak.lt
  have ck := Ak.c
  clear hb2 CU hB1
  go_wp2_with fail
  go_returns
  exact ⟨rfl, by go_grown⟩
theorem rraw_u (k u : ByteArray) (hk : k.size ≤ maxLen) (hu : u.size ≤ maxLen) (w : World) :
    Calls Try.prog 43 #[.string k, .string u] w fun e w' => e = .returned (.tuple #[.string (rawS k u), .int .i64 (rawE k u)]) ∧ Below w.heap.size w w' := by
  have ck := fun W => rclamp_u k hk W
  have cu := fun W => rcoord_u u hu W
  unfold rawS rawE
  by_cases h : k.size = 32
  · rw [if_pos h, lenE_yes (by omega)] at ck
    rw [if_pos h]
    by_cases g : u.size = 32
    · rw [if_pos g, lenE_yes (by omega)] at cu
      rw [if_pos ⟨h, g⟩, lenE_yes (by omega)]
      have iU := inn_mod (c5 (flN u))
      have i4 := inn4_sts (c5 (flN u) % pp) iU (upto (cl (flN k)) 255 255)
      refine rraw_core k u _ _ _ _ (xr (cl (flN k)) (c5 (flN u) % pp)) (bw pp 2 4) iU w ck cu (fun W => ?_) (fun W => ?_) (fun W => rmul _ _ i4.1 (inn_mod _) W) (fun W => refLittle_any _ W)
      · have := refSub_raw pp 2 W
        rw [nv_low 2 (by decide) (by decide)] at this
        exact this
      · have := refPow_any _ (pp - 2) pp i4.2.1.1 i4.2.1.2 inn_p2.1 inn_p2.2 inn_pp.1 inn_pp.2 W
        rw [md_pos _ pp_pos] at this
        exact this
    · rw [if_neg (fun c => g c.2)]
      exact rraw_e k u _ _ _ (lenE_nz g) w ck cu
  · rw [if_neg (fun c => h c.1), if_neg h]
    exact rraw_k k u _ _ (lenE_nz h) w ck
set_option maxHeartbeats 2000000 in
theorem rshared_e (k u S : ByteArray) (E : Int) (hE : ¬ E = 0) (w : World)
    (CR : ∀ W, Calls Try.prog 43 #[.string k, .string u] W fun e w' => e = .returned (.tuple #[.string S, .int .i64 E]) ∧ Below W.heap.size W w') :
    Calls Try.prog 45 #[.string k, .string u] w fun e w' => e = .returned (.tuple #[.string ⟨#[]⟩, .int .i64 E]) ∧ Below w.heap.size w w' := by
  go_enter Try.func45, Try.ntmps45
  go_wp2_with fail
  refine (CR _).mono ?_
  rintro e w1 ⟨rfl, hb1⟩
  have hB1 := hb1
  clear hb1 CR
  go_wp2_with fail
  go_returns
  exact ⟨rfl, by go_grown⟩
set_option maxHeartbeats 2000000 in
theorem rshared_0 (k u S T : ByteArray) (he : S.toList = T.toList) (w : World)
    (CR : ∀ W, Calls Try.prog 43 #[.string k, .string u] W fun e w' => e = .returned (.tuple #[.string S, .int .i64 0]) ∧ Below W.heap.size W w')
    (CZ : ∀ W, Calls Try.prog 19 #[.agg #[.int .u64 0, .int .u64 0, .int .u64 0, .int .u64 0]] W fun e w' => e = .returned (.string T) ∧ Below W.heap.size W w') :
    Calls Try.prog 45 #[.string k, .string u] w fun e w' => e = .returned (.tuple #[.string ⟨#[]⟩, .int .i64 15]) ∧ Below w.heap.size w w' := by
  go_enter Try.func45, Try.ntmps45
  go_wp2_with fail
  refine (CR _).mono ?_
  rintro e w1 ⟨rfl, hb1⟩
  have hB1 := hb1
  clear hb1 CR
  go_wp2_with fail
  refine (CZ _).mono ?_
  rintro e w2 ⟨rfl, hb2⟩
  have hB2 := Bel.call hB1 hb2
  clear hb2 CZ hB1
  go_wp2_with fail
  go_returns
  exact ⟨rfl, by go_grown⟩
set_option maxHeartbeats 2000000 in
theorem rshared_y (k u S T : ByteArray) (hne : ¬ S.toList = T.toList) (w : World)
    (CR : ∀ W, Calls Try.prog 43 #[.string k, .string u] W fun e w' => e = .returned (.tuple #[.string S, .int .i64 0]) ∧ Below W.heap.size W w')
    (CZ : ∀ W, Calls Try.prog 19 #[.agg #[.int .u64 0, .int .u64 0, .int .u64 0, .int .u64 0]] W fun e w' => e = .returned (.string T) ∧ Below W.heap.size W w') :
    Calls Try.prog 45 #[.string k, .string u] w fun e w' => e = .returned (.tuple #[.string S, .int .i64 0]) ∧ Below w.heap.size w w' := by
  go_enter Try.func45, Try.ntmps45
  go_wp2_with fail
  refine (CR _).mono ?_
  rintro e w1 ⟨rfl, hb1⟩
  have hB1 := hb1
  clear hb1 CR
  go_wp2_with fail
  have hne' : (S.toList == T.toList) = false := by simpa using hne
  refine (CZ _).mono ?_
  rintro e w2 ⟨rfl, hb2⟩
  have hB2 := Bel.call hB1 hb2
  clear hb2 CZ hB1
  go_wp2_with fail
  go_returns
  exact ⟨rfl, by go_grown⟩
theorem rshared_u (k u : ByteArray) (hk : k.size ≤ maxLen) (hu : u.size ≤ maxLen) (w : World) :
    Calls Try.prog 45 #[.string k, .string u] w fun e w' => e = .returned (.tuple #[.string (shS k u), .int .i64 (shE k u)]) ∧ Below w.heap.size w w' := by
  have cr := fun W => rraw_u k u hk hu W
  have cz : ∀ W, Calls Try.prog 19 #[.agg #[.int .u64 0, .int .u64 0, .int .u64 0, .int .u64 0]] W fun e w' => e = .returned (.string (mkS (ltL 0))) ∧ Below W.heap.size W w' := fun W => by
    have := refLittle_any 0 W
    rw [nv_zero] at this
    exact this
  unfold shS shE
  by_cases h : rawE k u = 0
  · rw [h] at cr
    by_cases g : (rawS k u).toList = (mkS (ltL 0)).toList
    · rw [if_neg (fun c => c.2 g), if_pos h, if_pos g]
      exact rshared_0 k u _ _ g w cr cz
    · rw [if_pos ⟨h, g⟩, if_pos h, if_neg g]
      exact rshared_y k u _ _ g w cr cz
  · rw [if_neg (fun c => h c.1), if_neg h]
    exact rshared_e k u _ _ h w cr
end Go.Proofs.Ytpigofooblmdhaa
set_option linter.all false
set_option maxRecDepth 100000
namespace Go.Proofs.Ytpigofooblmdhaa
open Go.ChangeShapes Go.WideShapes Go.ChangeAt Go.RowKit
open Go.Sort (grow)
open Go.ChangeMaps (open_string shut_string)
section
attribute [local go_sem] eq24
set_option maxHeartbeats 4000000 in
theorem xtells_core (k u S T : ByteArray) (N E F G : Int) (w : World)
    (C40 : ∀ W, Calls Try.prog 40 #[.string k] W fun e w' => e = .returned (.tuple #[nv N, .int .i64 E]) ∧ Below W.heap.size W w')
    (C41 : ∀ W, Calls Try.prog 41 #[.string k] W fun e w' => e = .returned (.tuple #[nv N, .int .i64 E]) ∧ Below W.heap.size W w')
    (C42 : ∀ W, Calls Try.prog 42 #[.string k, .string u] W fun e w' => e = .returned (.tuple #[.string S, .int .i64 F]) ∧ Below W.heap.size W w')
    (C43 : ∀ W, Calls Try.prog 43 #[.string k, .string u] W fun e w' => e = .returned (.tuple #[.string S, .int .i64 F]) ∧ Below W.heap.size W w')
    (C44 : ∀ W, Calls Try.prog 44 #[.string k, .string u] W fun e w' => e = .returned (.tuple #[.string T, .int .i64 G]) ∧ Below W.heap.size W w')
    (C45 : ∀ W, Calls Try.prog 45 #[.string k, .string u] W fun e w' => e = .returned (.tuple #[.string T, .int .i64 G]) ∧ Below W.heap.size W w') :
    Calls Try.prog 6 #[.string k, .string u] w fun e w' => e = .returned (.bool true) ∧ Below w.heap.size w w' := by
  go_enter Try.func6, Try.ntmps6
  go_wp2_with fail
  refine (C40 _).mono ?_
  rintro e w1 ⟨rfl, hb⟩
  have hB := hb
  clear hb C40
  go_wp2_with fail
  refine (C41 _).mono ?_
  rintro e w2 ⟨rfl, hb⟩
  have Aa := (Arr.mk4 (w := w1.alloc (.cells #[.int .u64 (lim N 0), .int .u64 (lim N 1), .int .u64 (lim N 2), .int .u64 (lim N 3)] 24)) (f := fun j => .int .u64 (lim N j)) (b := w1.heap.size) (by simp [go_sem]) (by simp [go_sem]) (by simp [go_sem]) (by simp [go_sem]) (by simp [go_sem]) (by simp [go_sem]) (by simp [go_sem]) (by simp [go_sem])).below hb (by go_size)
  have hB' := Bel.call (Bel.al hB (.cells #[.int .u64 (lim N 0), .int .u64 (lim N 1), .int .u64 (lim N 2), .int .u64 (lim N 3)] 24)) hb
  clear hb hB C41
  have hB := hB'
  clear hB'
  go_wp2_with fail
  refine (C42 _).mono ?_
  rintro e w3 ⟨rfl, hb⟩
  have Bb := (Arr.mk4 (w := w2.alloc (.cells #[.int .u64 (lim N 0), .int .u64 (lim N 1), .int .u64 (lim N 2), .int .u64 (lim N 3)] 24)) (f := fun j => .int .u64 (lim N j)) (b := w2.heap.size) (by simp [go_sem]) (by simp [go_sem]) (by simp [go_sem]) (by simp [go_sem]) (by simp [go_sem]) (by simp [go_sem]) (by simp [go_sem]) (by simp [go_sem])).below hb (by go_size)
  have Ba := Arr.to' (Arr.al' Aa (.cells #[.int .u64 (lim N 0), .int .u64 (lim N 1), .int .u64 (lim N 2), .int .u64 (lim N 3)] 24)) hb
  have hB' := Bel.call (Bel.al hB (.cells #[.int .u64 (lim N 0), .int .u64 (lim N 1), .int .u64 (lim N 2), .int .u64 (lim N 3)] 24)) hb
  clear hb hB Aa C42
  have Aa := Ba
  have Ab := Bb
  have hB := hB'
  clear Ba Bb hB'
  go_wp2_with fail
  refine (C43 _).mono ?_
  rintro e w4 ⟨rfl, hb⟩
  have Bb := Arr.to' Ab hb
  have Ba := Arr.to' Aa hb
  have hB' := Bel.call hB hb
  clear hb hB Aa Ab C43
  have Aa := Ba
  have Ab := Bb
  have hB := hB'
  clear Ba Bb hB'
  go_wp2_with fail
  refine (C44 _).mono ?_
  rintro e w5 ⟨rfl, hb⟩
  have Bb := Arr.to' Ab hb
  have Ba := Arr.to' Aa hb
  have hB' := Bel.call hB hb
  clear hb hB Aa Ab C44
  have Aa := Ba
  have Ab := Bb
  have hB := hB'
  clear Ba Bb hB'
  go_wp2_with fail
  refine (C45 _).mono ?_
  rintro e w6 ⟨rfl, hb⟩
  have Bb := Arr.to' Ab hb
  have Ba := Arr.to' Aa hb
  have hB' := Bel.call hB hb
  clear hb hB Aa Ab C45
  have Aa := Ba
  have Ab := Bb
  have hB := hB'
  clear Ba Bb hB'
  have ca := Aa.c
  have cb := Ab.c
  go_wp2_with fail
  refine (awake3 _).mono ?_
  rintro e w7 ⟨rfl, hb⟩
  have hB' := Bel.call hB hb
  clear hb ca cb
  go_wp2_with fail
  go_returns
  exact ⟨rfl, hB'⟩
end
theorem xtells_any (k u : ByteArray) (hk : k.size ≤ maxLen) (hu : u.size ≤ maxLen) (w : World) :
    Calls Try.prog 6 #[.string k, .string u] w fun e w' => e = .returned (.bool true) ∧ Below w.heap.size w w' :=
  xtells_core k u _ _ _ _ _ _ w (clamp_u k hk) (rclamp_u k hk) (raw_u k u hk hu) (rraw_u k u hk hu) (shared_u k u hk hu) (rshared_u k u hk hu)
set_option maxRecDepth 100000 in
theorem lifted6 (os : Os) (started : os.Started) (H : Type) (enc : TypeId × Value → H) :
    ReturnsInHanded {} Try.checked os 6 .any (Rows.xdhTellsSpec.pre6 enc Try.prog Try.f6 Rows.xdhTellsRow.domain false) (Rows.xdhTellsSpec.post enc Try.prog Try.f6 false true false false) := by
  refine returnsInHanded_of_change (C := Try.checked) own started (by kernel_rfl) Try.func6
    (ChangeSpec.witness6 (enc := enc) (C := Try.checked) false ⟨#[], #[.string ⟨#[]⟩, .string ⟨#[]⟩], []⟩ 8 (by kernel_rfl) (by kernel_rfl) (by kernel_rfl) (by kernel_rfl)) ?_
  intro W base args ds gs before hval0 hW hcnd _
  have hval : ∀ (j : Nat) t v, Try.f6.params[j]? = some t → args[j]? = some v → Value.okWide Try.prog W .any base t v := hval0
  have hW' := hW
  obtain ⟨p, q, hA0, hV, rfl, hfz, hnd⟩ := hW
  have hA : DataW.TrodAll enc Try.prog W 0 (fun _ => true) true Try.f6.params.toList args.toList ds p := hA0
  rw [Try.params6] at hA hval
  obtain ⟨v0, vs0, d0, ds0, p0, q0, hargs, rfl, rfl, h0, r0⟩ := trodAll_cons hA
  obtain ⟨v1, vs1, d1, ds1, p1, q1, rfl, rfl, rfl, h1, r1⟩ := trodAll_cons r0
  obtain ⟨rfl, rfl, rfl⟩ := trodAll_nil r1
  obtain rfl : args = #[v0, v1] := by cases args; simp_all
  obtain ⟨rfl, rfl⟩ := trodVars_none hV
  have k0 := h0
  have k1 := h1
  have lt0 : ∀ x ∈ p0, x.block < W.heap.size := by obtain ⟨m, hm⟩ := k0; exact DataW.trod_lt m _ _ _ hm
  have lt1 : ∀ x ∈ p1, x.block < W.heap.size := by obtain ⟨m, hm⟩ := k1; exact DataW.trod_lt m _ _ _ hm
  obtain ⟨S0, rfl, rfl, rfl, hs0⟩ := open_string Try.underlying9 (hval 0 9 v0 rfl rfl) h0
  obtain ⟨S1, rfl, rfl, rfl, hs1⟩ := open_string Try.underlying9 (hval 1 9 v1 rfl rfl) h1
  clear hA0 hval0
  refine (xtells_any S0 S1 hs0 hs1 W).mono fun e W' ⟨he, bel⟩ => ?_
  subst he
  exact ⟨_, rfl, _, _, _, [], _, [], hW', trodAll_mk1 (shut_bool Try.underlying4 _), (trodAll_cons_mk (Below.trod laidOut (by kernel_rfl) (of_decide_eq_true (by kernel_rfl)) k0 bel lt0) (trodAll_cons_mk (Below.trod laidOut (by kernel_rfl) (of_decide_eq_true (by kernel_rfl)) k1 bel lt1) trodAll_mk0)), rfl, bel.frame _, fun h => by cases h⟩
theorem xdhTells_holds : Rows.XdhTellsSaid :=
  OpenClaim.holds_of_wide 6 Try.f6 rfl rfl rfl rfl rfl rfl rfl ⟨rfl, rfl, rfl, rfl, rfl⟩ rfl rfl rfl rfl rfl (by kernel_rfl) Try.func6 (by kernel_rfl)
    (of_decide_eq_true (by kernel_rfl)) (by unfold Func.isWrapper; rw [if_neg (of_decide_eq_false (by kernel_rfl))]; exact ⟨rfl, rfl⟩)
    (fun os started H enc _ => lifted6 os started H enc)
#print axioms xdhTells_holds
end Go.Proofs.Ytpigofooblmdhaa
