/- PROVED: the function pendulumlaw01.NumReads answers true for every input, and each argument reads behind the call as it read before; no condition. -/
import Derived.SizedLaws
import Derived.Lib.QuietBelow
import Derived.BigQuiet
import Derived.Test.YtpigofooblmdhaaJ12
import Derived.Test.YtpigofooblmdhaaJ13
import Derived.Test.YtpigofooblmdhaaJ16
set_option linter.all false
set_option maxRecDepth 100000
namespace Go.Proofs.Ytpigofooblmdhaa
open Go.ChangeShapes Go.WideShapes Go.ChangeAt Go.RowKit
open Go.Sort (grow)
open Go.ChangeMaps (open_string shut_string)
theorem Arr.to' {w w' : World} {b n : Nat} {f : Nat → Value} (h : Arr w b (n + 1) f) (hb : Below w.heap.size w w') : Arr w' b (n + 1) f := h.below hb h.lt
theorem Arr.al' {w : World} {b n : Nat} {f : Nat → Value} (h : Arr w b (n + 1) f) (o : Obj) : Arr (w.alloc o) b (n + 1) f := h.alloc h.lt o
section
attribute [local go_sem] eq24
set_option maxHeartbeats 8000000 in
theorem reads_core (N P B L E F G : Int) (S T K O : ByteArray) (w : World)
    (C8 : ∀ W, Calls Try.prog 8 #[.string S] W fun e w' => e = .returned (.tuple #[nv P, .int .i64 E]) ∧ Below W.heap.size W w')
    (C9 : ∀ W, Calls Try.prog 9 #[.string S] W fun e w' => e = .returned (.tuple #[nv P, .int .i64 E]) ∧ Below W.heap.size W w')
    (C10 : ∀ W, Calls Try.prog 10 #[.string S] W fun e w' => e = .returned (.tuple #[nv B, .int .i64 F]) ∧ Below W.heap.size W w')
    (C11 : ∀ W, Calls Try.prog 11 #[.string S] W fun e w' => e = .returned (.tuple #[nv B, .int .i64 F]) ∧ Below W.heap.size W w')
    (C12 : ∀ W, Calls Try.prog 12 #[.string S] W fun e w' => e = .returned (.tuple #[nv L, .int .i64 G]) ∧ Below W.heap.size W w')
    (C13 : ∀ W, Calls Try.prog 13 #[.string S] W fun e w' => e = .returned (.tuple #[nv L, .int .i64 G]) ∧ Below W.heap.size W w')
    (C14 : ∀ W, Calls Try.prog 14 #[nv N] W fun e w' => e = .returned (.string T) ∧ Below W.heap.size W w')
    (C15 : ∀ W, Calls Try.prog 15 #[nv N] W fun e w' => e = .returned (.string T) ∧ Below W.heap.size W w')
    (C16 : ∀ W, Calls Try.prog 16 #[nv N] W fun e w' => e = .returned (.string K) ∧ Below W.heap.size W w')
    (C17 : ∀ W, Calls Try.prog 17 #[nv N] W fun e w' => e = .returned (.string K) ∧ Below W.heap.size W w')
    (C18 : ∀ W, Calls Try.prog 18 #[nv N] W fun e w' => e = .returned (.string O) ∧ Below W.heap.size W w')
    (C19 : ∀ W, Calls Try.prog 19 #[nv N] W fun e w' => e = .returned (.string O) ∧ Below W.heap.size W w') :
    Calls Try.prog 3 #[nv N, .string S] w fun e w' => e = .returned (.bool true) ∧ Below w.heap.size w w' := by
  go_enter Try.func3, Try.ntmps3
  go_wp2_with fail
  refine (C8 _).mono ?_
  rintro e w1 ⟨rfl, hb⟩
  have An := (Arr.mk4 (f := fun j => .int .u64 (lim (N) j)) (b := w.heap.size) (by simp [go_sem]) (by simp [go_sem]) (by simp [go_sem]) (by simp [go_sem]) (by simp [go_sem]) (by simp [go_sem]) (by simp [go_sem]) (by simp [go_sem])).below hb (by go_size)
  have hB : Below w.heap.size w w1 := Below.trans (by go_grown) (hb.mono (by go_size))
  clear hb C8
  go_wp2_with fail
  refine (C9 _).mono ?_
  rintro e w2 ⟨rfl, hb⟩
  have Aa := (Arr.mk4 (f := fun j => .int .u64 (lim (P) j)) (b := w1.heap.size) (by simp [go_sem]) (by simp [go_sem]) (by simp [go_sem]) (by simp [go_sem]) (by simp [go_sem]) (by simp [go_sem]) (by simp [go_sem]) (by simp [go_sem])).below hb (by go_size)
  replace An := Arr.to' (Arr.al' An _) hb
  replace hB := Bel.call (Bel.al hB _) hb
  clear hb C9
  go_wp2_with fail
  refine (C10 _).mono ?_
  rintro e w3 ⟨rfl, hb⟩
  have Ab := (Arr.mk4 (f := fun j => .int .u64 (lim (P) j)) (b := w2.heap.size) (by simp [go_sem]) (by simp [go_sem]) (by simp [go_sem]) (by simp [go_sem]) (by simp [go_sem]) (by simp [go_sem]) (by simp [go_sem]) (by simp [go_sem])).below hb (by go_size)
  replace Aa := Arr.to' (Arr.al' Aa _) hb
  replace An := Arr.to' (Arr.al' An _) hb
  replace hB := Bel.call (Bel.al hB _) hb
  clear hb C10
  go_wp2_with fail
  refine (C11 _).mono ?_
  rintro e w4 ⟨rfl, hb⟩
  have Ac := (Arr.mk4 (f := fun j => .int .u64 (lim (B) j)) (b := w3.heap.size) (by simp [go_sem]) (by simp [go_sem]) (by simp [go_sem]) (by simp [go_sem]) (by simp [go_sem]) (by simp [go_sem]) (by simp [go_sem]) (by simp [go_sem])).below hb (by go_size)
  replace Ab := Arr.to' (Arr.al' Ab _) hb
  replace Aa := Arr.to' (Arr.al' Aa _) hb
  replace An := Arr.to' (Arr.al' An _) hb
  replace hB := Bel.call (Bel.al hB _) hb
  clear hb C11
  go_wp2_with fail
  refine (C12 _).mono ?_
  rintro e w5 ⟨rfl, hb⟩
  have Ad := (Arr.mk4 (f := fun j => .int .u64 (lim (B) j)) (b := w4.heap.size) (by simp [go_sem]) (by simp [go_sem]) (by simp [go_sem]) (by simp [go_sem]) (by simp [go_sem]) (by simp [go_sem]) (by simp [go_sem]) (by simp [go_sem])).below hb (by go_size)
  replace Ac := Arr.to' (Arr.al' Ac _) hb
  replace Ab := Arr.to' (Arr.al' Ab _) hb
  replace Aa := Arr.to' (Arr.al' Aa _) hb
  replace An := Arr.to' (Arr.al' An _) hb
  replace hB := Bel.call (Bel.al hB _) hb
  clear hb C12
  go_wp2_with fail
  refine (C13 _).mono ?_
  rintro e w6 ⟨rfl, hb⟩
  have Ai := (Arr.mk4 (f := fun j => .int .u64 (lim (L) j)) (b := w5.heap.size) (by simp [go_sem]) (by simp [go_sem]) (by simp [go_sem]) (by simp [go_sem]) (by simp [go_sem]) (by simp [go_sem]) (by simp [go_sem]) (by simp [go_sem])).below hb (by go_size)
  replace Ad := Arr.to' (Arr.al' Ad _) hb
  replace Ac := Arr.to' (Arr.al' Ac _) hb
  replace Ab := Arr.to' (Arr.al' Ab _) hb
  replace Aa := Arr.to' (Arr.al' Aa _) hb
  replace An := Arr.to' (Arr.al' An _) hb
  replace hB := Bel.call (Bel.al hB _) hb
  clear hb C13
  go_wp2_with fail
  have Dn := Arr.al' An (.cells #[.int .u64 (lim L 0), .int .u64 (lim L 1), .int .u64 (lim L 2), .int .u64 (lim L 3)] 24)
  have Da := Arr.al' Aa (.cells #[.int .u64 (lim L 0), .int .u64 (lim L 1), .int .u64 (lim L 2), .int .u64 (lim L 3)] 24)
  have Db := Arr.al' Ab (.cells #[.int .u64 (lim L 0), .int .u64 (lim L 1), .int .u64 (lim L 2), .int .u64 (lim L 3)] 24)
  have Dc := Arr.al' Ac (.cells #[.int .u64 (lim L 0), .int .u64 (lim L 1), .int .u64 (lim L 2), .int .u64 (lim L 3)] 24)
  have Dd := Arr.al' Ad (.cells #[.int .u64 (lim L 0), .int .u64 (lim L 1), .int .u64 (lim L 2), .int .u64 (lim L 3)] 24)
  have Di := Arr.al' Ai (.cells #[.int .u64 (lim L 0), .int .u64 (lim L 1), .int .u64 (lim L 2), .int .u64 (lim L 3)] 24)
  have Dk : Arr (w6.alloc (.cells #[.int .u64 (lim L 0), .int .u64 (lim L 1), .int .u64 (lim L 2), .int .u64 (lim L 3)] 24)) (w6.heap.size) 4 (fun j => .int .u64 (lim (L) j)) := by refine Arr.mk4 ?_ ?_ ?_ ?_ ?_ ?_ ?_ ?_ <;> simp [go_sem]
  have hD := Bel.al hB (.cells #[.int .u64 (lim L 0), .int .u64 (lim L 1), .int .u64 (lim L 2), .int .u64 (lim L 3)] 24)
  have rn0 := fun ds os => cell_regrown (Dn.c 0 (by omega)) ds os
  have rn1 := fun ds os => cell_regrown (Dn.c 1 (by omega)) ds os
  have rn2 := fun ds os => cell_regrown (Dn.c 2 (by omega)) ds os
  have rn3 := fun ds os => cell_regrown (Dn.c 3 (by omega)) ds os
  have ra0 := fun ds os => cell_regrown (Da.c 0 (by omega)) ds os
  have ra1 := fun ds os => cell_regrown (Da.c 1 (by omega)) ds os
  have ra2 := fun ds os => cell_regrown (Da.c 2 (by omega)) ds os
  have ra3 := fun ds os => cell_regrown (Da.c 3 (by omega)) ds os
  have rb0 := fun ds os => cell_regrown (Db.c 0 (by omega)) ds os
  have rb1 := fun ds os => cell_regrown (Db.c 1 (by omega)) ds os
  have rb2 := fun ds os => cell_regrown (Db.c 2 (by omega)) ds os
  have rb3 := fun ds os => cell_regrown (Db.c 3 (by omega)) ds os
  have rc0 := fun ds os => cell_regrown (Dc.c 0 (by omega)) ds os
  have rc1 := fun ds os => cell_regrown (Dc.c 1 (by omega)) ds os
  have rc2 := fun ds os => cell_regrown (Dc.c 2 (by omega)) ds os
  have rc3 := fun ds os => cell_regrown (Dc.c 3 (by omega)) ds os
  have rd0 := fun ds os => cell_regrown (Dd.c 0 (by omega)) ds os
  have rd1 := fun ds os => cell_regrown (Dd.c 1 (by omega)) ds os
  have rd2 := fun ds os => cell_regrown (Dd.c 2 (by omega)) ds os
  have rd3 := fun ds os => cell_regrown (Dd.c 3 (by omega)) ds os
  have ri0 := fun ds os => cell_regrown (Di.c 0 (by omega)) ds os
  have ri1 := fun ds os => cell_regrown (Di.c 1 (by omega)) ds os
  have ri2 := fun ds os => cell_regrown (Di.c 2 (by omega)) ds os
  have ri3 := fun ds os => cell_regrown (Di.c 3 (by omega)) ds os
  have rk0 := fun ds os => cell_regrown (Dk.c 0 (by omega)) ds os
  have rk1 := fun ds os => cell_regrown (Dk.c 1 (by omega)) ds os
  have rk2 := fun ds os => cell_regrown (Dk.c 2 (by omega)) ds os
  have rk3 := fun ds os => cell_regrown (Dk.c 3 (by omega)) ds os
  clear An Aa Ab Ac Ad Ai hB
  refine wp_region_quiet_below (by kernel_rfl) (by kernel_rfl) ?_
  repeat (go_big_quiet_step (first | (go_at_call 14; exact Calls.regrown_of (C14 _)) | (go_at_call 15; exact Calls.regrown_of (C15 _)) | (go_at_call 16; exact Calls.regrown_of (C16 _)) | (go_at_call 17; exact Calls.regrown_of (C17 _)) | (go_at_call 18; exact Calls.regrown_of (C18 _)) | (go_at_call 19; exact Calls.regrown_of (C19 _)) | (go_at_call 20; exact Calls.regrown_of (awake_any _))))
  refine wpQuiet_nil ?_
  intro _ hw'
  obtain ⟨⟨dq, osq⟩, hw''⟩ := hw'
  subst hw''
  clear rn0 rn1 rn2 rn3 ra0 ra1 ra2 ra3 rb0 rb1 rb2 rb3 rc0 rc1 rc2 rc3 rd0 rd1 rd2 rd3 ri0 ri1 ri2 ri3 rk0 rk1 rk2 rk3
  go_wp2
  go_ret
  exact ⟨rfl, Bel.call hD (below_regrown _ _ _)⟩
end
theorem reads_any (N : Int) (S : ByteArray) (h0 : 0 ≤ N) (h1 : N < top256) (hs : (S.size : Int) ≤ 281474976710656) (w : World) :
    Calls Try.prog 3 #[nv N, .string S] w fun e w' => e = .returned (.bool true) ∧ Below w.heap.size w w' := by
  have hm : S.size ≤ maxLen := by unfold maxLen; omega
  exact reads_core N (paN S) (fbN S) (flN S) (paE S) _ _ S (txS N) (mkS (bgL N)) (mkS (ltL N)) w (parse_u S hm) (refParse_u S hm) (fromBig_u S hm) (refFromBig_u S hs) (fromLittle_u S hm) (refFromLittle_u S hm)
    (text_any N h0 h1) (refText_any N) (big_any N h0 h1) (refBig_any N) (little_any N h0 h1) (refLittle_any N)
set_option maxRecDepth 100000 in
theorem lifted3 (os : Os) (started : os.Started) (H : Type) (enc : TypeId × Value → H) :
    ReturnsInHanded {} Try.checked os 3 .any (Rows.numReadsSpec.pre6 enc Try.prog Try.f3 Rows.numReadsRow.domain false) (Rows.numReadsSpec.post enc Try.prog Try.f3 false true false false) := by
  refine returnsInHanded_of_change_sized (C := Try.checked) own started (by kernel_rfl) Try.func3
    (ChangeSpec.witness6 (enc := enc) (C := Try.checked) false ⟨#[], #[.agg #[.int .u64 0, .int .u64 0, .int .u64 0, .int .u64 0], .string ⟨#[]⟩], []⟩ 8 (by kernel_rfl) (by kernel_rfl) (by kernel_rfl) (by kernel_rfl)) ?_
  intro W base args ds gs before hval0 hW hcnd hsz0 _
  have hval : ∀ (j : Nat) t v, Try.f3.params[j]? = some t → args[j]? = some v → Value.okWide Try.prog W .any base t v := hval0
  have hW' := hW
  obtain ⟨p, q, hA0, hV, rfl, hfz, hnd⟩ := hW
  have hA : DataW.TrodAll enc Try.prog W 0 (fun _ => true) true Try.f3.params.toList args.toList ds p := hA0
  have hsz : (DataW.weightsEach Try.prog (Try.f3.params.toList ++ (Rows.numReadsSpec.plain.varTypes Try.prog)) (ds ++ gs)).all (· ≤ reachBytes) = true := hsz0
  rw [Try.params3] at hA hval hsz
  obtain ⟨v0, vs0, d0, ds0, p0, q0, hargs, rfl, rfl, h0, r0⟩ := trodAll_cons hA
  obtain ⟨v1, vs1, d1, ds1, p1, q1, rfl, rfl, rfl, h1, r1⟩ := trodAll_cons r0
  obtain ⟨rfl, rfl, rfl⟩ := trodAll_nil r1
  obtain rfl : args = #[v0, v1] := by cases args; simp_all
  obtain ⟨rfl, rfl⟩ := trodVars_none hV
  have k0 := h0
  have k1 := h1
  have lt0 : ∀ x ∈ p0, x.block < W.heap.size := by obtain ⟨m, hm⟩ := k0; exact DataW.trod_lt m _ _ _ hm
  have lt1 : ∀ x ∈ p1, x.block < W.heap.size := by obtain ⟨m, hm⟩ := k1; exact DataW.trod_lt m _ _ _ hm
  obtain ⟨N0, n0, n0', rfl⟩ := open24 (hval 0 24 v0 rfl rfl) h0
  obtain ⟨S1, rfl, rfl, rfl, hs1⟩ := open_string Try.underlying9 (hval 1 9 v1 rfl rfl) h1
  have z1' := sized_string hsz (j := 1) (t := 9) rfl rfl
  have z1 : (S1.size : Int) ≤ 281474976710656 := by have h2 := reachBytes_lt; have h3 : S1.data.toList.length = S1.size := rfl; omega
  clear hA0 hval0 hsz hsz0
  refine (reads_any N0 S1 n0 n0' z1 W).mono fun e W' ⟨he, bel⟩ => ?_
  subst he
  exact ⟨_, rfl, _, _, _, [], _, [], hW', trodAll_mk1 (shut_bool Try.underlying4 _), (trodAll_cons_mk (Below.trod laidOut (by kernel_rfl) (of_decide_eq_true (by kernel_rfl)) k0 bel lt0) (trodAll_cons_mk (Below.trod laidOut (by kernel_rfl) (of_decide_eq_true (by kernel_rfl)) k1 bel lt1) trodAll_mk0)), rfl, bel.frame _, fun h => by cases h⟩
theorem numReads_holds : Rows.NumReadsSaid :=
  OpenClaim.holds_of_wide 3 Try.f3 rfl rfl rfl rfl rfl rfl rfl ⟨rfl, rfl, rfl, rfl, rfl⟩ rfl rfl rfl rfl rfl (by kernel_rfl) Try.func3 (by kernel_rfl)
    (of_decide_eq_true (by kernel_rfl)) (by unfold Func.isWrapper; rw [if_neg (of_decide_eq_false (by kernel_rfl))]; exact ⟨rfl, rfl⟩)
    (fun os started H enc _ => lifted3 os started H enc)
#print axioms numReads_holds
end Go.Proofs.Ytpigofooblmdhaa
