/- The reference's Public, Sign and Check of layer 5, of what their callees answer. -/
import Derived.Deep.Cut
import Derived.Test.YtoolbnbfbegjaaaGreatJ38
set_option linter.all false
set_option maxRecDepth 100000
namespace Go.Proofs.YtoolbnbfbegjaaaGreat
open Go.RowKit Go.Sort
abbrev st9 (w : World) (b : Nat) (X Y : Int) (i : Bool) : World := (((((((((w.setCell ⟨b, 0, none⟩ (.int .u64 (lim (X) 0))).setCell ⟨b, 1, none⟩ (.int .u64 (lim (X) 1))).setCell ⟨b, 2, none⟩ (.int .u64 (lim (X) 2))).setCell ⟨b, 3, none⟩ (.int .u64 (lim (X) 3))).setCell ⟨b, 4, none⟩ (.int .u64 (lim (Y) 0))).setCell ⟨b, 5, none⟩ (.int .u64 (lim (Y) 1))).setCell ⟨b, 6, none⟩ (.int .u64 (lim (Y) 2))).setCell ⟨b, 7, none⟩ (.int .u64 (lim (Y) 3))).setCell ⟨b, 8, none⟩ (.bool i))
theorem Arr.st9 {w : World} {b : Nat} {f : Nat → Value} (h : Arr w b 9 f) (X Y : Int) (i : Bool) : Arr (st9 w b X Y i) b 9 (px X Y i) := by
  refine Arr.congr (((((((((h.set 0 (by omega) _).set 1 (by omega) _).set 2 (by omega) _).set 3 (by omega) _).set 4 (by omega) _).set 5 (by omega) _).set 6 (by omega) _).set 7 (by omega) _).set 8 (by omega) _) ?_
  intro j hj
  have h : j = 0 ∨ j = 1 ∨ j = 2 ∨ j = 3 ∨ j = 4 ∨ j = 5 ∨ j = 6 ∨ j = 7 ∨ j = 8 := by omega
  rcases h with rfl | rfl | rfl | rfl | rfl | rfl | rfl | rfl | rfl <;> simp [px]
theorem Arr.st9o {w : World} {b b' n : Nat} {f : Nat → Value} (h : Arr w b n f) (hne : b' ≠ b) (X Y : Int) (i : Bool) : Arr (Go.Proofs.YtoolbnbfbegjaaaGreat.st9 w b' X Y i) b n f := ((((((((h.other hne _).other hne _).other hne _).other hne _).other hne _).other hne _).other hne _).other hne _).other hne _
theorem Bel.st9 {w W : World} (h : Below w.heap.size w W) {b : Nat} (hle : w.heap.size ≤ b) (X Y : Int) (i : Bool) : Below w.heap.size w (Go.Proofs.YtoolbnbfbegjaaaGreat.st9 W b X Y i) := Bel.st (Bel.st (Bel.st (Bel.st (Bel.st (Bel.st (Bel.st (Bel.st (Bel.st h hle _) hle _) hle _) hle _) hle _) hle _) hle _) hle _) hle _
theorem fld28 (X Y : Int) (k : Bool) (W : World) : (Instr.field 28 (pv X Y k) 0).run Tryz.prog W = .ok (nv X) W := by kernel_rfl
attribute [local go_sem] eq24 fld28
set_option maxHeartbeats 8000000 in
theorem rpub_no (D : Int) (w : World)
    (C1 : ∀ W, Calls Tryz.prog 16 #[nv D] W fun e w' => e = .returned (.bool false) ∧ Below W.heap.size W w') :
    Calls Tryz.prog 8 #[nv D] w fun e w' => e = .returned (.tuple #[.agg #[.int .u64 0, .int .u64 0, .int .u64 0, .int .u64 0, .int .u64 0, .int .u64 0, .int .u64 0, .int .u64 0, .bool false], .int .i64 13]) ∧ Below w.heap.size w w' := by
  go_enter Tryz.func8, Tryz.ntmps8
  obtain ⟨W0, hW0⟩ : ∃ W0, W0 = ((w.alloc (.cells #[.int .u64 (lim (D) 0), .int .u64 (lim (D) 1), .int .u64 (lim (D) 2), .int .u64 (lim (D) 3)] 24)).alloc (.cells #[.int .u64 0, .int .u64 0, .int .u64 0, .int .u64 0, .int .u64 0, .int .u64 0, .int .u64 0, .int .u64 0, .bool false] 28)) := ⟨_, rfl⟩
  have Ad : Arr W0 (w.heap.size) 4 (fun j => .int .u64 (lim (D) j)) := by subst hW0; refine Arr.mk4 ?_ ?_ ?_ ?_ ?_ ?_ ?_ ?_ <;> simp [go_sem]
  have Ao : Arr W0 (w.heap.size + 1) 9 (zx 8) := by subst hW0; refine Arr.mk9p ?_ ?_ ?_ ?_ ?_ ?_ ?_ ?_ ?_ ?_ <;> simp [go_sem, px, sx, zx]
  have hB : Below w.heap.size w W0 := by subst hW0; go_grown
  subst hW0
  have cd := Ad.c
  go_wp2_with fail
  refine (C1 _).mono ?_
  rintro e w1 ⟨rfl, hb⟩
  replace Ad := Arr.to' Ad hb
  replace Ao := Arr.to' Ao hb
  replace hB := Bel.call hB hb
  clear hb cd
  have hS := hB.size
  obtain ⟨co_0, co_1, co_2, co_3, co_4, co_5, co_6, co_7, co_8⟩ := Arr.c_zp Ao
  have zo := Ao.z
  go_wp2_with fail
  refine bodyPost_ret (v := .tuple #[.agg #[.int .u64 0, .int .u64 0, .int .u64 0, .int .u64 0, .int .u64 0, .int .u64 0, .int .u64 0, .int .u64 0, .bool false], .int .i64 13]) (by simp [results, Tryz.results8, go_sem, co_0, co_1, co_2, co_3, co_4, co_5, co_6, co_7, co_8]) rfl ⟨rfl, ?_⟩
  go_grown
set_option maxHeartbeats 8000000 in
theorem rpub_yes (D U V X Y : Int) (k i : Bool) (w : World)
    (C1 : ∀ W, Calls Tryz.prog 16 #[nv D] W fun e w' => e = .returned (.bool true) ∧ Below W.heap.size W w')
    (C2 : ∀ W, Calls Tryz.prog 31 #[] W fun e w' => e = .returned (pv U V k) ∧ Below W.heap.size W w')
    (C3 : ∀ W, Calls Tryz.prog 30 #[nv D, pv U V k] W fun e w' => e = .returned (pv X Y i) ∧ Below W.heap.size W w') :
    Calls Tryz.prog 8 #[nv D] w fun e w' => e = .returned (.tuple #[pv X Y i, .int .i64 0]) ∧ Below w.heap.size w w' := by
  go_enter Tryz.func8, Tryz.ntmps8
  obtain ⟨W0, hW0⟩ : ∃ W0, W0 = ((w.alloc (.cells #[.int .u64 (lim (D) 0), .int .u64 (lim (D) 1), .int .u64 (lim (D) 2), .int .u64 (lim (D) 3)] 24)).alloc (.cells #[.int .u64 0, .int .u64 0, .int .u64 0, .int .u64 0, .int .u64 0, .int .u64 0, .int .u64 0, .int .u64 0, .bool false] 28)) := ⟨_, rfl⟩
  have Ad : Arr W0 (w.heap.size) 4 (fun j => .int .u64 (lim (D) j)) := by subst hW0; refine Arr.mk4 ?_ ?_ ?_ ?_ ?_ ?_ ?_ ?_ <;> simp [go_sem]
  have Ao : Arr W0 (w.heap.size + 1) 9 (zx 8) := by subst hW0; refine Arr.mk9p ?_ ?_ ?_ ?_ ?_ ?_ ?_ ?_ ?_ ?_ <;> simp [go_sem, px, sx, zx]
  have hB : Below w.heap.size w W0 := by subst hW0; go_grown
  subst hW0
  have cd := Ad.c
  go_wp2_with fail
  refine (C1 _).mono ?_
  rintro e w1 ⟨rfl, hb⟩
  replace Ad := Arr.to' Ad hb
  replace Ao := Arr.to' Ao hb
  replace hB := Bel.call hB hb
  clear hb cd
  go_wp2_with fail
  obtain ⟨rd0, rd1, rd2, rd3⟩ := Arr.g4 Ad
  refine wp_region_below_tail 3 (by kernel_rfl) (by kernel_rfl) ?_
  simp only [List.take_succ_cons, List.take_zero, List.drop_succ_cons, List.drop_zero]
  repeat (go_big_quiet_step (first | (go_at_call 31; with_reducible first | exact Calls.regrown_of (C2 _)) | (go_at_call 30; with_reducible first | exact Calls.regrown_of (C3 _))))
  refine wpQuiet_nil ?_
  intro w2 hw'
  obtain ⟨⟨dq, osq⟩, hw''⟩ := hw'
  have hb := below_of hw''
  clear hw''
  replace Ao := Arr.to' Ao hb
  replace hB := Bel.call hB hb
  clear hb rd0 rd1 rd2 rd3 Ad
  have hS := hB.size
  obtain ⟨co_0, co_1, co_2, co_3, co_4, co_5, co_6, co_7, co_8⟩ := Arr.c_zp Ao
  have zo := Ao.z
  go_wp2_with fail
  refine bodyPost_ret (v := .tuple #[pv X Y i, .int .i64 0]) (by simp [results, Tryz.results8, go_sem, co_0, co_1, co_2, co_3, co_4, co_5, co_6, co_7, co_8]) rfl ⟨rfl, ?_⟩
  go_grown
set_option maxHeartbeats 8000000 in
theorem rsign_d (D K : Int) (s : ByteArray) (w : World)
    (C1 : ∀ W, Calls Tryz.prog 16 #[nv D] W fun e w' => e = .returned (.bool false) ∧ Below W.heap.size W w') :
    Calls Tryz.prog 10 #[nv D, nv K, .string s] w fun e w' => e = .returned (.tuple #[.agg #[.int .u64 0, .int .u64 0, .int .u64 0, .int .u64 0, .int .u64 0, .int .u64 0, .int .u64 0, .int .u64 0], .int .i64 13]) ∧ Below w.heap.size w w' := by
  go_enter Tryz.func10, Tryz.ntmps10
  obtain ⟨W0, hW0⟩ : ∃ W0, W0 = (((w.alloc (.cells #[.int .u64 (lim (D) 0), .int .u64 (lim (D) 1), .int .u64 (lim (D) 2), .int .u64 (lim (D) 3)] 24)).alloc (.cells #[.int .u64 (lim (K) 0), .int .u64 (lim (K) 1), .int .u64 (lim (K) 2), .int .u64 (lim (K) 3)] 24)).alloc (.cells #[.int .u64 0, .int .u64 0, .int .u64 0, .int .u64 0, .int .u64 0, .int .u64 0, .int .u64 0, .int .u64 0] 26)) := ⟨_, rfl⟩
  have Ad : Arr W0 (w.heap.size) 4 (fun j => .int .u64 (lim (D) j)) := by subst hW0; refine Arr.mk4 ?_ ?_ ?_ ?_ ?_ ?_ ?_ ?_ <;> simp [go_sem]
  have Ak : Arr W0 (w.heap.size + 1) 4 (fun j => .int .u64 (lim (K) j)) := by subst hW0; refine Arr.mk4 ?_ ?_ ?_ ?_ ?_ ?_ ?_ ?_ <;> simp [go_sem]
  have Ao : Arr W0 (w.heap.size + 1 + 1) 8 (zg) := by subst hW0; refine Arr.mk8' ?_ ?_ ?_ ?_ ?_ ?_ ?_ ?_ ?_ <;> simp [go_sem, sgx, zg]
  have hB : Below w.heap.size w W0 := by subst hW0; go_grown
  subst hW0
  have cd := Ad.c
  go_wp2_with fail
  refine (C1 _).mono ?_
  rintro e w1 ⟨rfl, hb⟩
  replace Ad := Arr.to' Ad hb
  replace Ak := Arr.to' Ak hb
  replace Ao := Arr.to' Ao hb
  replace hB := Bel.call hB hb
  clear hb cd
  have hS := hB.size
  obtain ⟨co_0, co_1, co_2, co_3, co_4, co_5, co_6, co_7⟩ := Arr.c_zg Ao
  have zo := Ao.z
  go_wp2_with fail
  refine bodyPost_ret (v := .tuple #[.agg #[.int .u64 0, .int .u64 0, .int .u64 0, .int .u64 0, .int .u64 0, .int .u64 0, .int .u64 0, .int .u64 0], .int .i64 13]) (by simp [results, Tryz.results10, go_sem, co_0, co_1, co_2, co_3, co_4, co_5, co_6, co_7]) rfl ⟨rfl, ?_⟩
  go_grown
set_option maxHeartbeats 8000000 in
theorem rsign_k (D K : Int) (s : ByteArray) (w : World)
    (C1 : ∀ W, Calls Tryz.prog 16 #[nv D] W fun e w' => e = .returned (.bool true) ∧ Below W.heap.size W w')
    (C2 : ∀ W, Calls Tryz.prog 16 #[nv K] W fun e w' => e = .returned (.bool false) ∧ Below W.heap.size W w') :
    Calls Tryz.prog 10 #[nv D, nv K, .string s] w fun e w' => e = .returned (.tuple #[.agg #[.int .u64 0, .int .u64 0, .int .u64 0, .int .u64 0, .int .u64 0, .int .u64 0, .int .u64 0, .int .u64 0], .int .i64 13]) ∧ Below w.heap.size w w' := by
  go_enter Tryz.func10, Tryz.ntmps10
  obtain ⟨W0, hW0⟩ : ∃ W0, W0 = (((w.alloc (.cells #[.int .u64 (lim (D) 0), .int .u64 (lim (D) 1), .int .u64 (lim (D) 2), .int .u64 (lim (D) 3)] 24)).alloc (.cells #[.int .u64 (lim (K) 0), .int .u64 (lim (K) 1), .int .u64 (lim (K) 2), .int .u64 (lim (K) 3)] 24)).alloc (.cells #[.int .u64 0, .int .u64 0, .int .u64 0, .int .u64 0, .int .u64 0, .int .u64 0, .int .u64 0, .int .u64 0] 26)) := ⟨_, rfl⟩
  have Ad : Arr W0 (w.heap.size) 4 (fun j => .int .u64 (lim (D) j)) := by subst hW0; refine Arr.mk4 ?_ ?_ ?_ ?_ ?_ ?_ ?_ ?_ <;> simp [go_sem]
  have Ak : Arr W0 (w.heap.size + 1) 4 (fun j => .int .u64 (lim (K) j)) := by subst hW0; refine Arr.mk4 ?_ ?_ ?_ ?_ ?_ ?_ ?_ ?_ <;> simp [go_sem]
  have Ao : Arr W0 (w.heap.size + 1 + 1) 8 (zg) := by subst hW0; refine Arr.mk8' ?_ ?_ ?_ ?_ ?_ ?_ ?_ ?_ ?_ <;> simp [go_sem, sgx, zg]
  have hB : Below w.heap.size w W0 := by subst hW0; go_grown
  subst hW0
  have cd := Ad.c
  go_wp2_with fail
  refine (C1 _).mono ?_
  rintro e w1 ⟨rfl, hb⟩
  replace Ad := Arr.to' Ad hb
  replace Ak := Arr.to' Ak hb
  replace Ao := Arr.to' Ao hb
  replace hB := Bel.call hB hb
  clear hb cd
  have ck := Ak.c
  go_wp2_with fail
  refine (C2 _).mono ?_
  rintro e w12 ⟨rfl, hb⟩
  replace Ad := Arr.to' Ad hb
  replace Ak := Arr.to' Ak hb
  replace Ao := Arr.to' Ao hb
  replace hB := Bel.call hB hb
  clear hb ck
  have hS := hB.size
  obtain ⟨co_0, co_1, co_2, co_3, co_4, co_5, co_6, co_7⟩ := Arr.c_zg Ao
  have zo := Ao.z
  go_wp2_with fail
  refine bodyPost_ret (v := .tuple #[.agg #[.int .u64 0, .int .u64 0, .int .u64 0, .int .u64 0, .int .u64 0, .int .u64 0, .int .u64 0, .int .u64 0], .int .i64 13]) (by simp [results, Tryz.results10, go_sem, co_0, co_1, co_2, co_3, co_4, co_5, co_6, co_7]) rfl ⟨rfl, ?_⟩
  go_grown
set_option maxHeartbeats 8000000 in
theorem rsign_s (D K z e1 : Int) (s : ByteArray) (he : (e1 != 0) = true) (w : World)
    (C1 : ∀ W, Calls Tryz.prog 16 #[nv D] W fun e w' => e = .returned (.bool true) ∧ Below W.heap.size W w')
    (C2 : ∀ W, Calls Tryz.prog 16 #[nv K] W fun e w' => e = .returned (.bool true) ∧ Below W.heap.size W w')
    (C3 : ∀ W, Calls Tryz.prog 17 #[.string s] W fun e w' => e = .returned (.tuple #[nv z, .int .i64 e1]) ∧ Below W.heap.size W w') :
    Calls Tryz.prog 10 #[nv D, nv K, .string s] w fun e w' => e = .returned (.tuple #[.agg #[.int .u64 0, .int .u64 0, .int .u64 0, .int .u64 0, .int .u64 0, .int .u64 0, .int .u64 0, .int .u64 0], .int .i64 10]) ∧ Below w.heap.size w w' := by
  go_enter Tryz.func10, Tryz.ntmps10
  obtain ⟨W0, hW0⟩ : ∃ W0, W0 = (((w.alloc (.cells #[.int .u64 (lim (D) 0), .int .u64 (lim (D) 1), .int .u64 (lim (D) 2), .int .u64 (lim (D) 3)] 24)).alloc (.cells #[.int .u64 (lim (K) 0), .int .u64 (lim (K) 1), .int .u64 (lim (K) 2), .int .u64 (lim (K) 3)] 24)).alloc (.cells #[.int .u64 0, .int .u64 0, .int .u64 0, .int .u64 0, .int .u64 0, .int .u64 0, .int .u64 0, .int .u64 0] 26)) := ⟨_, rfl⟩
  have Ad : Arr W0 (w.heap.size) 4 (fun j => .int .u64 (lim (D) j)) := by subst hW0; refine Arr.mk4 ?_ ?_ ?_ ?_ ?_ ?_ ?_ ?_ <;> simp [go_sem]
  have Ak : Arr W0 (w.heap.size + 1) 4 (fun j => .int .u64 (lim (K) j)) := by subst hW0; refine Arr.mk4 ?_ ?_ ?_ ?_ ?_ ?_ ?_ ?_ <;> simp [go_sem]
  have Ao : Arr W0 (w.heap.size + 1 + 1) 8 (zg) := by subst hW0; refine Arr.mk8' ?_ ?_ ?_ ?_ ?_ ?_ ?_ ?_ ?_ <;> simp [go_sem, sgx, zg]
  have hB : Below w.heap.size w W0 := by subst hW0; go_grown
  subst hW0
  have cd := Ad.c
  go_wp2_with fail
  refine (C1 _).mono ?_
  rintro e w1 ⟨rfl, hb⟩
  replace Ad := Arr.to' Ad hb
  replace Ak := Arr.to' Ak hb
  replace Ao := Arr.to' Ao hb
  replace hB := Bel.call hB hb
  clear hb cd
  have ck := Ak.c
  go_wp2_with fail
  refine (C2 _).mono ?_
  rintro e w12 ⟨rfl, hb⟩
  replace Ad := Arr.to' Ad hb
  replace Ak := Arr.to' Ak hb
  replace Ao := Arr.to' Ao hb
  replace hB := Bel.call hB hb
  clear hb ck
  go_wp2_with fail
  refine (C3 _).mono ?_
  rintro e w13 ⟨rfl, hb⟩
  replace Ad := Arr.to' Ad hb
  replace Ak := Arr.to' Ak hb
  replace Ao := Arr.to' Ao hb
  replace hB := Bel.call hB hb
  clear hb
  have ld_2 := Ad.lt
  have lk_2 := Ak.lt
  have lo_2 := Ao.lt
  have lB_2 := hB.size
  replace Ad := (Arr.al' Ad (.cells #[.int .u64 (lim (z) 0), .int .u64 (lim (z) 1), .int .u64 (lim (z) 2), .int .u64 (lim (z) 3)] 24))
  replace Ak := (Arr.al' Ak (.cells #[.int .u64 (lim (z) 0), .int .u64 (lim (z) 1), .int .u64 (lim (z) 2), .int .u64 (lim (z) 3)] 24))
  replace Ao := (Arr.al' Ao (.cells #[.int .u64 (lim (z) 0), .int .u64 (lim (z) 1), .int .u64 (lim (z) 2), .int .u64 (lim (z) 3)] 24))
  have Az : Arr ((w13.alloc (.cells #[.int .u64 (lim (z) 0), .int .u64 (lim (z) 1), .int .u64 (lim (z) 2), .int .u64 (lim (z) 3)] 24))) (w13.heap.size) 4 (fun j => .int .u64 (lim (z) j)) := by refine Arr.mk4 ?_ ?_ ?_ ?_ ?_ ?_ ?_ ?_ <;> simp [go_sem]
  replace hB := (Bel.al hB (.cells #[.int .u64 (lim (z) 0), .int .u64 (lim (z) 1), .int .u64 (lim (z) 2), .int .u64 (lim (z) 3)] 24))
  go_upto_region 4 with fail
  generalize (w13.alloc (.cells #[.int .u64 (lim (z) 0), .int .u64 (lim (z) 1), .int .u64 (lim (z) 2), .int .u64 (lim (z) 3)] 24)) = w24 at *
  have hS := hB.size
  obtain ⟨co_0, co_1, co_2, co_3, co_4, co_5, co_6, co_7⟩ := Arr.c_zg Ao
  have zo := Ao.z
  go_wp2_with fail
  refine bodyPost_ret (v := .tuple #[.agg #[.int .u64 0, .int .u64 0, .int .u64 0, .int .u64 0, .int .u64 0, .int .u64 0, .int .u64 0, .int .u64 0], .int .i64 10]) (by simp [results, Tryz.results10, go_sem, co_0, co_1, co_2, co_3, co_4, co_5, co_6, co_7]) rfl ⟨rfl, ?_⟩
  go_grown
set_option maxHeartbeats 8000000 in
theorem rsign_r (D K z U V X Y R I a b S : Int) (i k ok : Bool) (s : ByteArray) (hr : (lim R 0 == 0 && (lim R 1 == 0 && (lim R 2 == 0 && lim R 3 == 0))) = true) (w : World)
    (C1 : ∀ W, Calls Tryz.prog 16 #[nv D] W fun e w' => e = .returned (.bool true) ∧ Below W.heap.size W w')
    (C2 : ∀ W, Calls Tryz.prog 16 #[nv K] W fun e w' => e = .returned (.bool true) ∧ Below W.heap.size W w')
    (C3 : ∀ W, Calls Tryz.prog 17 #[.string s] W fun e w' => e = .returned (.tuple #[nv z, .int .i64 0]) ∧ Below W.heap.size W w')
    (C4 : ∀ W, Calls Tryz.prog 31 #[] W fun e w' => e = .returned (pv U V i) ∧ Below W.heap.size W w')
    (C5 : ∀ W, Calls Tryz.prog 30 #[nv K, pv U V i] W fun e w' => e = .returned (pv X Y k) ∧ Below W.heap.size W w')
    (C6 : ∀ W, Calls Tryz.prog 19 #[] W fun e w' => e = .returned (nv nn) ∧ Below W.heap.size W w')
    (C7 : ∀ W, Calls Tryz.prog 18 #[nv X, .agg #[.int .u64 0, .int .u64 0, .int .u64 0, .int .u64 0], nv nn] W fun e w' => e = .returned (nv R) ∧ Below W.heap.size W w')
    (C8 : ∀ W, Calls Tryz.prog 34 #[nv K, nv nn] W fun e w' => e = .returned (.tuple #[nv I, .bool ok]) ∧ Below W.heap.size W w')
    (C9 : ∀ W, Calls Tryz.prog 35 #[nv R, nv D] W fun e w' => e = .returned (nv a) ∧ Below W.heap.size W w')
    (C10 : ∀ W, Calls Tryz.prog 23 #[nv z, nv a, nv nn] W fun e w' => e = .returned (nv b) ∧ Below W.heap.size W w')
    (C11 : ∀ W, Calls Tryz.prog 35 #[nv I, nv b] W fun e w' => e = .returned (nv S) ∧ Below W.heap.size W w') :
    Calls Tryz.prog 10 #[nv D, nv K, .string s] w fun e w' => e = .returned (.tuple #[.agg #[.int .u64 0, .int .u64 0, .int .u64 0, .int .u64 0, .int .u64 0, .int .u64 0, .int .u64 0, .int .u64 0], .int .i64 13]) ∧ Below w.heap.size w w' := by
  go_enter Tryz.func10, Tryz.ntmps10
  obtain ⟨W0, hW0⟩ : ∃ W0, W0 = (((w.alloc (.cells #[.int .u64 (lim (D) 0), .int .u64 (lim (D) 1), .int .u64 (lim (D) 2), .int .u64 (lim (D) 3)] 24)).alloc (.cells #[.int .u64 (lim (K) 0), .int .u64 (lim (K) 1), .int .u64 (lim (K) 2), .int .u64 (lim (K) 3)] 24)).alloc (.cells #[.int .u64 0, .int .u64 0, .int .u64 0, .int .u64 0, .int .u64 0, .int .u64 0, .int .u64 0, .int .u64 0] 26)) := ⟨_, rfl⟩
  have Ad : Arr W0 (w.heap.size) 4 (fun j => .int .u64 (lim (D) j)) := by subst hW0; refine Arr.mk4 ?_ ?_ ?_ ?_ ?_ ?_ ?_ ?_ <;> simp [go_sem]
  have Ak : Arr W0 (w.heap.size + 1) 4 (fun j => .int .u64 (lim (K) j)) := by subst hW0; refine Arr.mk4 ?_ ?_ ?_ ?_ ?_ ?_ ?_ ?_ <;> simp [go_sem]
  have Ao : Arr W0 (w.heap.size + 1 + 1) 8 (zg) := by subst hW0; refine Arr.mk8' ?_ ?_ ?_ ?_ ?_ ?_ ?_ ?_ ?_ <;> simp [go_sem, sgx, zg]
  have hB : Below w.heap.size w W0 := by subst hW0; go_grown
  subst hW0
  have cd := Ad.c
  go_wp2_with fail
  refine (C1 _).mono ?_
  rintro e w1 ⟨rfl, hb⟩
  replace Ad := Arr.to' Ad hb
  replace Ak := Arr.to' Ak hb
  replace Ao := Arr.to' Ao hb
  replace hB := Bel.call hB hb
  clear hb cd
  have ck := Ak.c
  go_wp2_with fail
  refine (C2 _).mono ?_
  rintro e w12 ⟨rfl, hb⟩
  replace Ad := Arr.to' Ad hb
  replace Ak := Arr.to' Ak hb
  replace Ao := Arr.to' Ao hb
  replace hB := Bel.call hB hb
  clear hb ck
  go_wp2_with fail
  refine (C3 _).mono ?_
  rintro e w13 ⟨rfl, hb⟩
  replace Ad := Arr.to' Ad hb
  replace Ak := Arr.to' Ak hb
  replace Ao := Arr.to' Ao hb
  replace hB := Bel.call hB hb
  clear hb
  have ld_2 := Ad.lt
  have lk_2 := Ak.lt
  have lo_2 := Ao.lt
  have lB_2 := hB.size
  replace Ad := (Arr.al' Ad (.cells #[.int .u64 (lim (z) 0), .int .u64 (lim (z) 1), .int .u64 (lim (z) 2), .int .u64 (lim (z) 3)] 24))
  replace Ak := (Arr.al' Ak (.cells #[.int .u64 (lim (z) 0), .int .u64 (lim (z) 1), .int .u64 (lim (z) 2), .int .u64 (lim (z) 3)] 24))
  replace Ao := (Arr.al' Ao (.cells #[.int .u64 (lim (z) 0), .int .u64 (lim (z) 1), .int .u64 (lim (z) 2), .int .u64 (lim (z) 3)] 24))
  have Az : Arr ((w13.alloc (.cells #[.int .u64 (lim (z) 0), .int .u64 (lim (z) 1), .int .u64 (lim (z) 2), .int .u64 (lim (z) 3)] 24))) (w13.heap.size) 4 (fun j => .int .u64 (lim (z) j)) := by refine Arr.mk4 ?_ ?_ ?_ ?_ ?_ ?_ ?_ ?_ <;> simp [go_sem]
  replace hB := (Bel.al hB (.cells #[.int .u64 (lim (z) 0), .int .u64 (lim (z) 1), .int .u64 (lim (z) 2), .int .u64 (lim (z) 3)] 24))
  go_wp2_with fail
  apply wp_region_alloc_tail 7 (by kernel_rfl) (by kernel_rfl) (by kernel_rfl) (.cells #[.int .u64 0, .int .u64 0, .int .u64 0, .int .u64 0] 24) _ rfl (fun _ _ => by simp [go_sem])
  · intro W hW
    obtain ⟨rk0, rk1, rk2, rk3⟩ := Arr.g4 (Arr.to' Ak hW)
    simp only [List.take_succ_cons, List.take_zero]
    repeat (go_big_quiet_step (first | (go_at_call 31; with_reducible first | exact Calls.regrown_of (C4 _)) | (go_at_call 30; with_reducible first | exact Calls.regrown_of (C5 _)) | (go_at_call 19; with_reducible first | exact Calls.regrown_of (C6 _)) | (go_at_call 18; with_reducible first | exact Calls.regrown_of (C7 _))))
    exact wpQuiet_nil rfl
  intro v4 w14 hb1 hb2
  simp only [List.drop_succ_cons, List.drop_zero, Act.put, List.setIfInBounds_toArray, List.set_cons_succ, List.set_cons_zero]
  have Ed := Arr.to' Ad hb1
  have ld_v4 := Ed.lt
  have Bd := Arr.to' (Arr.al' Ed _) hb2
  have Ek := Arr.to' Ak hb1
  have lk_v4 := Ek.lt
  have Bk := Arr.to' (Arr.al' Ek _) hb2
  have Eo := Arr.to' Ao hb1
  have lo_v4 := Eo.lt
  have Bo := Arr.to' (Arr.al' Eo _) hb2
  have Ez := Arr.to' Az hb1
  have lz_v4 := Ez.lt
  have Bz := Arr.to' (Arr.al' Ez _) hb2
  have Br := (Arr.mk4 (w := (v4.alloc (.cells #[.int .u64 0, .int .u64 0, .int .u64 0, .int .u64 0] 24))) (f := fun _ => .int .u64 0) (b := v4.heap.size) (by simp [go_sem]) (by simp [go_sem]) (by simp [go_sem]) (by simp [go_sem]) (by simp [go_sem]) (by simp [go_sem]) (by simp [go_sem]) (by simp [go_sem])).below hb2 (by go_size)
  have lB_v4 := (Bel.call hB hb1).size
  have hB' := Bel.call (Bel.al (Bel.call hB hb1) _) hb2
  clear hb1 hb2 Ed Ek Eo Ez Ad Ak Ao Az hB
  have Ad := Bd
  have Ak := Bk
  have Ao := Bo
  have Az := Bz
  have Ar := Br
  have hB := hB'
  clear Bd Bk Bo Bz Br hB'
  have cr := Ar.c
  have zr := Ar.z
  have Bd := Arr.st4o (b' := v4.heap.size) Ad (by have := Ad.lt; have := Ar.lt; omega) (R)
  have Bk := Arr.st4o (b' := v4.heap.size) Ak (by have := Ak.lt; have := Ar.lt; omega) (R)
  have Bo := Arr.st4o (b' := v4.heap.size) Ao (by have := Ao.lt; have := Ar.lt; omega) (R)
  have Bz := Arr.st4o (b' := v4.heap.size) Az (by have := Az.lt; have := Ar.lt; omega) (R)
  have Br := Arr.st4 Ar (R)
  have hB' := Bel.st4 hB (b := v4.heap.size) (by have := hB.size; omega) (R)
  clear Ad Ak Ao Az Ar hB
  have Ad := Bd
  have Ak := Bk
  have Ao := Bo
  have Az := Bz
  have Ar := Br
  have hB := hB'
  clear Bd Bk Bo Bz Br hB'
  go_wp2_with fail
  apply wp_region_pure_tail 3 3 #[true, true, true, false, false, false, true, false, false] #[true, true, true, true, true, true, false, false, false] (by kernel_rfl) (by intro c d v a w h; cases d <;> exact h) (by kernel_rfl) (by kernel_rfl) (.cells #[.int .u64 0, .int .u64 0, .int .u64 0, .int .u64 0] 24) _ rfl (fun _ _ => by simp [go_sem])
  · intro W hW
    obtain ⟨rk0, rk1, rk2, rk3⟩ := Arr.g4 (Arr.to' Ak hW)
    simp only [List.take_succ_cons, List.take_zero]
    repeat (go_big_quiet_step (first | (go_at_call 19; with_reducible first | exact Calls.regrown_of (C6 _)) | (go_at_call 34; with_reducible first | exact Calls.regrown_of (C8 _))))
    exact wpQuiet_nil rfl
  · exact ⟨_, Or.inl ⟨rfl, fun _ => rfl⟩, ⟨_, Or.inl ⟨rfl, fun _ => rfl⟩, ⟨_, Or.inl ⟨rfl, fun _ => rfl⟩, rfl⟩⟩⟩
  · intro v; exact ⟨_, Or.inl ⟨rfl, fun _ => rfl⟩, ⟨_, Or.inl ⟨rfl, fun _ => rfl⟩, ⟨_, Or.inl ⟨rfl, fun _ => rfl⟩, rfl⟩⟩⟩
  intro v5 w15 hb1 hb2
  simp only [List.drop_succ_cons, List.drop_zero, Act.put, List.setIfInBounds_toArray, List.set_cons_succ, List.set_cons_zero]
  have Ed := Arr.to' Ad hb1
  have ld_v5 := Ed.lt
  have Bd := Arr.to' (Arr.al' Ed _) hb2
  have Ek := Arr.to' Ak hb1
  have lk_v5 := Ek.lt
  have Bk := Arr.to' (Arr.al' Ek _) hb2
  have Eo := Arr.to' Ao hb1
  have lo_v5 := Eo.lt
  have Bo := Arr.to' (Arr.al' Eo _) hb2
  have Ez := Arr.to' Az hb1
  have lz_v5 := Ez.lt
  have Bz := Arr.to' (Arr.al' Ez _) hb2
  have Er := Arr.to' Ar hb1
  have lr_v5 := Er.lt
  have Br := Arr.to' (Arr.al' Er _) hb2
  have Bi := (Arr.mk4 (w := (v5.alloc (.cells #[.int .u64 0, .int .u64 0, .int .u64 0, .int .u64 0] 24))) (f := fun _ => .int .u64 0) (b := v5.heap.size) (by simp [go_sem]) (by simp [go_sem]) (by simp [go_sem]) (by simp [go_sem]) (by simp [go_sem]) (by simp [go_sem]) (by simp [go_sem]) (by simp [go_sem])).below hb2 (by go_size)
  have lB_v5 := (Bel.call hB hb1).size
  have hB' := Bel.call (Bel.al (Bel.call hB hb1) _) hb2
  clear hb1 hb2 Ed Ek Eo Ez Er Ad Ak Ao Az Ar hB
  have Ad := Bd
  have Ak := Bk
  have Ao := Bo
  have Az := Bz
  have Ar := Br
  have Ai := Bi
  have hB := hB'
  clear Bd Bk Bo Bz Br Bi hB'
  have ci := Ai.c
  have zi := Ai.z
  have Bd := Arr.st4o (b' := v5.heap.size) Ad (by have := Ad.lt; have := Ai.lt; omega) (I)
  have Bk := Arr.st4o (b' := v5.heap.size) Ak (by have := Ak.lt; have := Ai.lt; omega) (I)
  have Bo := Arr.st4o (b' := v5.heap.size) Ao (by have := Ao.lt; have := Ai.lt; omega) (I)
  have Bz := Arr.st4o (b' := v5.heap.size) Az (by have := Az.lt; have := Ai.lt; omega) (I)
  have Br := Arr.st4o (b' := v5.heap.size) Ar (by have := Ar.lt; have := Ai.lt; omega) (I)
  have Bi := Arr.st4 Ai (I)
  have hB' := Bel.st4 hB (b := v5.heap.size) (by have := hB.size; omega) (I)
  clear Ad Ak Ao Az Ar Ai hB
  have Ad := Bd
  have Ak := Bk
  have Ao := Bo
  have Az := Bz
  have Ar := Br
  have Ai := Bi
  have hB := hB'
  clear Bd Bk Bo Bz Br Bi hB'
  go_wp2_with fail
  apply wp_region_alloc_tail 8 (by kernel_rfl) (by kernel_rfl) (by kernel_rfl) (.cells #[.int .u64 0, .int .u64 0, .int .u64 0, .int .u64 0] 24) _ rfl (fun _ _ => by simp [go_sem])
  · intro W hW
    obtain ⟨ri0, ri1, ri2, ri3⟩ := Arr.g4 (Arr.to' Ai hW)
    obtain ⟨rz0, rz1, rz2, rz3⟩ := Arr.g4 (Arr.to' Az hW)
    obtain ⟨rr0, rr1, rr2, rr3⟩ := Arr.g4 (Arr.to' Ar hW)
    obtain ⟨rd0, rd1, rd2, rd3⟩ := Arr.g4 (Arr.to' Ad hW)
    simp only [List.take_succ_cons, List.take_zero]
    repeat (go_big_quiet_step (first | (go_at_call 19; with_reducible first | exact Calls.regrown_of (C6 _)) | (go_at_call 35; with_reducible first | exact Calls.regrown_of (C9 _) | exact Calls.regrown_of (C11 _)) | (go_at_call 23; with_reducible first | exact Calls.regrown_of (C10 _))))
    exact wpQuiet_nil rfl
  intro v6 w16 hb1 hb2
  simp only [List.drop_succ_cons, List.drop_zero, Act.put, List.setIfInBounds_toArray, List.set_cons_succ, List.set_cons_zero]
  have Ed := Arr.to' Ad hb1
  have ld_v6 := Ed.lt
  have Bd := Arr.to' (Arr.al' Ed _) hb2
  have Ek := Arr.to' Ak hb1
  have lk_v6 := Ek.lt
  have Bk := Arr.to' (Arr.al' Ek _) hb2
  have Eo := Arr.to' Ao hb1
  have lo_v6 := Eo.lt
  have Bo := Arr.to' (Arr.al' Eo _) hb2
  have Ez := Arr.to' Az hb1
  have lz_v6 := Ez.lt
  have Bz := Arr.to' (Arr.al' Ez _) hb2
  have Er := Arr.to' Ar hb1
  have lr_v6 := Er.lt
  have Br := Arr.to' (Arr.al' Er _) hb2
  have Ei := Arr.to' Ai hb1
  have li_v6 := Ei.lt
  have Bi := Arr.to' (Arr.al' Ei _) hb2
  have Bt := (Arr.mk4 (w := (v6.alloc (.cells #[.int .u64 0, .int .u64 0, .int .u64 0, .int .u64 0] 24))) (f := fun _ => .int .u64 0) (b := v6.heap.size) (by simp [go_sem]) (by simp [go_sem]) (by simp [go_sem]) (by simp [go_sem]) (by simp [go_sem]) (by simp [go_sem]) (by simp [go_sem]) (by simp [go_sem])).below hb2 (by go_size)
  have lB_v6 := (Bel.call hB hb1).size
  have hB' := Bel.call (Bel.al (Bel.call hB hb1) _) hb2
  clear hb1 hb2 Ed Ek Eo Ez Er Ei Ad Ak Ao Az Ar Ai hB
  have Ad := Bd
  have Ak := Bk
  have Ao := Bo
  have Az := Bz
  have Ar := Br
  have Ai := Bi
  have At := Bt
  have hB := hB'
  clear Bd Bk Bo Bz Br Bi Bt hB'
  have ct := At.c
  have zt := At.z
  have Bd := Arr.st4o (b' := v6.heap.size) Ad (by have := Ad.lt; have := At.lt; omega) (S)
  have Bk := Arr.st4o (b' := v6.heap.size) Ak (by have := Ak.lt; have := At.lt; omega) (S)
  have Bo := Arr.st4o (b' := v6.heap.size) Ao (by have := Ao.lt; have := At.lt; omega) (S)
  have Bz := Arr.st4o (b' := v6.heap.size) Az (by have := Az.lt; have := At.lt; omega) (S)
  have Br := Arr.st4o (b' := v6.heap.size) Ar (by have := Ar.lt; have := At.lt; omega) (S)
  have Bi := Arr.st4o (b' := v6.heap.size) Ai (by have := Ai.lt; have := At.lt; omega) (S)
  have Bt := Arr.st4 At (S)
  have hB' := Bel.st4 hB (b := v6.heap.size) (by have := hB.size; omega) (S)
  clear Ad Ak Ao Az Ar Ai At hB
  have Ad := Bd
  have Ak := Bk
  have Ao := Bo
  have Az := Bz
  have Ar := Br
  have Ai := Bi
  have At := Bt
  have hB := hB'
  clear Bd Bk Bo Bz Br Bi Bt hB'
  have cr := Ar.c
  have ct := At.c
  have hS := hB.size
  obtain ⟨co_0, co_1, co_2, co_3, co_4, co_5, co_6, co_7⟩ := Arr.c_zg Ao
  have zo := Ao.z
  go_wp2_with fail
  refine bodyPost_ret (v := .tuple #[.agg #[.int .u64 0, .int .u64 0, .int .u64 0, .int .u64 0, .int .u64 0, .int .u64 0, .int .u64 0, .int .u64 0], .int .i64 13]) (by simp [results, Tryz.results10, go_sem, co_0, co_1, co_2, co_3, co_4, co_5, co_6, co_7]) rfl ⟨rfl, ?_⟩
  go_grown
set_option maxHeartbeats 8000000 in
theorem rsign_z (D K z U V X Y R I a b S : Int) (i k ok : Bool) (s : ByteArray) (hr : (lim R 0 == 0 && (lim R 1 == 0 && (lim R 2 == 0 && lim R 3 == 0))) = false) (ht : (lim S 0 == 0 && (lim S 1 == 0 && (lim S 2 == 0 && lim S 3 == 0))) = true) (w : World)
    (C1 : ∀ W, Calls Tryz.prog 16 #[nv D] W fun e w' => e = .returned (.bool true) ∧ Below W.heap.size W w')
    (C2 : ∀ W, Calls Tryz.prog 16 #[nv K] W fun e w' => e = .returned (.bool true) ∧ Below W.heap.size W w')
    (C3 : ∀ W, Calls Tryz.prog 17 #[.string s] W fun e w' => e = .returned (.tuple #[nv z, .int .i64 0]) ∧ Below W.heap.size W w')
    (C4 : ∀ W, Calls Tryz.prog 31 #[] W fun e w' => e = .returned (pv U V i) ∧ Below W.heap.size W w')
    (C5 : ∀ W, Calls Tryz.prog 30 #[nv K, pv U V i] W fun e w' => e = .returned (pv X Y k) ∧ Below W.heap.size W w')
    (C6 : ∀ W, Calls Tryz.prog 19 #[] W fun e w' => e = .returned (nv nn) ∧ Below W.heap.size W w')
    (C7 : ∀ W, Calls Tryz.prog 18 #[nv X, .agg #[.int .u64 0, .int .u64 0, .int .u64 0, .int .u64 0], nv nn] W fun e w' => e = .returned (nv R) ∧ Below W.heap.size W w')
    (C8 : ∀ W, Calls Tryz.prog 34 #[nv K, nv nn] W fun e w' => e = .returned (.tuple #[nv I, .bool ok]) ∧ Below W.heap.size W w')
    (C9 : ∀ W, Calls Tryz.prog 35 #[nv R, nv D] W fun e w' => e = .returned (nv a) ∧ Below W.heap.size W w')
    (C10 : ∀ W, Calls Tryz.prog 23 #[nv z, nv a, nv nn] W fun e w' => e = .returned (nv b) ∧ Below W.heap.size W w')
    (C11 : ∀ W, Calls Tryz.prog 35 #[nv I, nv b] W fun e w' => e = .returned (nv S) ∧ Below W.heap.size W w') :
    Calls Tryz.prog 10 #[nv D, nv K, .string s] w fun e w' => e = .returned (.tuple #[.agg #[.int .u64 0, .int .u64 0, .int .u64 0, .int .u64 0, .int .u64 0, .int .u64 0, .int .u64 0, .int .u64 0], .int .i64 13]) ∧ Below w.heap.size w w' := by
  go_enter Tryz.func10, Tryz.ntmps10
  obtain ⟨W0, hW0⟩ : ∃ W0, W0 = (((w.alloc (.cells #[.int .u64 (lim (D) 0), .int .u64 (lim (D) 1), .int .u64 (lim (D) 2), .int .u64 (lim (D) 3)] 24)).alloc (.cells #[.int .u64 (lim (K) 0), .int .u64 (lim (K) 1), .int .u64 (lim (K) 2), .int .u64 (lim (K) 3)] 24)).alloc (.cells #[.int .u64 0, .int .u64 0, .int .u64 0, .int .u64 0, .int .u64 0, .int .u64 0, .int .u64 0, .int .u64 0] 26)) := ⟨_, rfl⟩
  have Ad : Arr W0 (w.heap.size) 4 (fun j => .int .u64 (lim (D) j)) := by subst hW0; refine Arr.mk4 ?_ ?_ ?_ ?_ ?_ ?_ ?_ ?_ <;> simp [go_sem]
  have Ak : Arr W0 (w.heap.size + 1) 4 (fun j => .int .u64 (lim (K) j)) := by subst hW0; refine Arr.mk4 ?_ ?_ ?_ ?_ ?_ ?_ ?_ ?_ <;> simp [go_sem]
  have Ao : Arr W0 (w.heap.size + 1 + 1) 8 (zg) := by subst hW0; refine Arr.mk8' ?_ ?_ ?_ ?_ ?_ ?_ ?_ ?_ ?_ <;> simp [go_sem, sgx, zg]
  have hB : Below w.heap.size w W0 := by subst hW0; go_grown
  subst hW0
  have cd := Ad.c
  go_wp2_with fail
  refine (C1 _).mono ?_
  rintro e w1 ⟨rfl, hb⟩
  replace Ad := Arr.to' Ad hb
  replace Ak := Arr.to' Ak hb
  replace Ao := Arr.to' Ao hb
  replace hB := Bel.call hB hb
  clear hb cd
  have ck := Ak.c
  go_wp2_with fail
  refine (C2 _).mono ?_
  rintro e w12 ⟨rfl, hb⟩
  replace Ad := Arr.to' Ad hb
  replace Ak := Arr.to' Ak hb
  replace Ao := Arr.to' Ao hb
  replace hB := Bel.call hB hb
  clear hb ck
  go_wp2_with fail
  refine (C3 _).mono ?_
  rintro e w13 ⟨rfl, hb⟩
  replace Ad := Arr.to' Ad hb
  replace Ak := Arr.to' Ak hb
  replace Ao := Arr.to' Ao hb
  replace hB := Bel.call hB hb
  clear hb
  have ld_2 := Ad.lt
  have lk_2 := Ak.lt
  have lo_2 := Ao.lt
  have lB_2 := hB.size
  replace Ad := (Arr.al' Ad (.cells #[.int .u64 (lim (z) 0), .int .u64 (lim (z) 1), .int .u64 (lim (z) 2), .int .u64 (lim (z) 3)] 24))
  replace Ak := (Arr.al' Ak (.cells #[.int .u64 (lim (z) 0), .int .u64 (lim (z) 1), .int .u64 (lim (z) 2), .int .u64 (lim (z) 3)] 24))
  replace Ao := (Arr.al' Ao (.cells #[.int .u64 (lim (z) 0), .int .u64 (lim (z) 1), .int .u64 (lim (z) 2), .int .u64 (lim (z) 3)] 24))
  have Az : Arr ((w13.alloc (.cells #[.int .u64 (lim (z) 0), .int .u64 (lim (z) 1), .int .u64 (lim (z) 2), .int .u64 (lim (z) 3)] 24))) (w13.heap.size) 4 (fun j => .int .u64 (lim (z) j)) := by refine Arr.mk4 ?_ ?_ ?_ ?_ ?_ ?_ ?_ ?_ <;> simp [go_sem]
  replace hB := (Bel.al hB (.cells #[.int .u64 (lim (z) 0), .int .u64 (lim (z) 1), .int .u64 (lim (z) 2), .int .u64 (lim (z) 3)] 24))
  go_wp2_with fail
  apply wp_region_alloc_tail 7 (by kernel_rfl) (by kernel_rfl) (by kernel_rfl) (.cells #[.int .u64 0, .int .u64 0, .int .u64 0, .int .u64 0] 24) _ rfl (fun _ _ => by simp [go_sem])
  · intro W hW
    obtain ⟨rk0, rk1, rk2, rk3⟩ := Arr.g4 (Arr.to' Ak hW)
    simp only [List.take_succ_cons, List.take_zero]
    repeat (go_big_quiet_step (first | (go_at_call 31; with_reducible first | exact Calls.regrown_of (C4 _)) | (go_at_call 30; with_reducible first | exact Calls.regrown_of (C5 _)) | (go_at_call 19; with_reducible first | exact Calls.regrown_of (C6 _)) | (go_at_call 18; with_reducible first | exact Calls.regrown_of (C7 _))))
    exact wpQuiet_nil rfl
  intro v4 w14 hb1 hb2
  simp only [List.drop_succ_cons, List.drop_zero, Act.put, List.setIfInBounds_toArray, List.set_cons_succ, List.set_cons_zero]
  have Ed := Arr.to' Ad hb1
  have ld_v4 := Ed.lt
  have Bd := Arr.to' (Arr.al' Ed _) hb2
  have Ek := Arr.to' Ak hb1
  have lk_v4 := Ek.lt
  have Bk := Arr.to' (Arr.al' Ek _) hb2
  have Eo := Arr.to' Ao hb1
  have lo_v4 := Eo.lt
  have Bo := Arr.to' (Arr.al' Eo _) hb2
  have Ez := Arr.to' Az hb1
  have lz_v4 := Ez.lt
  have Bz := Arr.to' (Arr.al' Ez _) hb2
  have Br := (Arr.mk4 (w := (v4.alloc (.cells #[.int .u64 0, .int .u64 0, .int .u64 0, .int .u64 0] 24))) (f := fun _ => .int .u64 0) (b := v4.heap.size) (by simp [go_sem]) (by simp [go_sem]) (by simp [go_sem]) (by simp [go_sem]) (by simp [go_sem]) (by simp [go_sem]) (by simp [go_sem]) (by simp [go_sem])).below hb2 (by go_size)
  have lB_v4 := (Bel.call hB hb1).size
  have hB' := Bel.call (Bel.al (Bel.call hB hb1) _) hb2
  clear hb1 hb2 Ed Ek Eo Ez Ad Ak Ao Az hB
  have Ad := Bd
  have Ak := Bk
  have Ao := Bo
  have Az := Bz
  have Ar := Br
  have hB := hB'
  clear Bd Bk Bo Bz Br hB'
  have cr := Ar.c
  have zr := Ar.z
  have Bd := Arr.st4o (b' := v4.heap.size) Ad (by have := Ad.lt; have := Ar.lt; omega) (R)
  have Bk := Arr.st4o (b' := v4.heap.size) Ak (by have := Ak.lt; have := Ar.lt; omega) (R)
  have Bo := Arr.st4o (b' := v4.heap.size) Ao (by have := Ao.lt; have := Ar.lt; omega) (R)
  have Bz := Arr.st4o (b' := v4.heap.size) Az (by have := Az.lt; have := Ar.lt; omega) (R)
  have Br := Arr.st4 Ar (R)
  have hB' := Bel.st4 hB (b := v4.heap.size) (by have := hB.size; omega) (R)
  clear Ad Ak Ao Az Ar hB
  have Ad := Bd
  have Ak := Bk
  have Ao := Bo
  have Az := Bz
  have Ar := Br
  have hB := hB'
  clear Bd Bk Bo Bz Br hB'
  go_wp2_with fail
  apply wp_region_pure_tail 3 3 #[true, true, true, false, false, false, true, false, false] #[true, true, true, true, true, true, false, false, false] (by kernel_rfl) (by intro c d v a w h; cases d <;> exact h) (by kernel_rfl) (by kernel_rfl) (.cells #[.int .u64 0, .int .u64 0, .int .u64 0, .int .u64 0] 24) _ rfl (fun _ _ => by simp [go_sem])
  · intro W hW
    obtain ⟨rk0, rk1, rk2, rk3⟩ := Arr.g4 (Arr.to' Ak hW)
    simp only [List.take_succ_cons, List.take_zero]
    repeat (go_big_quiet_step (first | (go_at_call 19; with_reducible first | exact Calls.regrown_of (C6 _)) | (go_at_call 34; with_reducible first | exact Calls.regrown_of (C8 _))))
    exact wpQuiet_nil rfl
  · exact ⟨_, Or.inl ⟨rfl, fun _ => rfl⟩, ⟨_, Or.inl ⟨rfl, fun _ => rfl⟩, ⟨_, Or.inl ⟨rfl, fun _ => rfl⟩, rfl⟩⟩⟩
  · intro v; exact ⟨_, Or.inl ⟨rfl, fun _ => rfl⟩, ⟨_, Or.inl ⟨rfl, fun _ => rfl⟩, ⟨_, Or.inl ⟨rfl, fun _ => rfl⟩, rfl⟩⟩⟩
  intro v5 w15 hb1 hb2
  simp only [List.drop_succ_cons, List.drop_zero, Act.put, List.setIfInBounds_toArray, List.set_cons_succ, List.set_cons_zero]
  have Ed := Arr.to' Ad hb1
  have ld_v5 := Ed.lt
  have Bd := Arr.to' (Arr.al' Ed _) hb2
  have Ek := Arr.to' Ak hb1
  have lk_v5 := Ek.lt
  have Bk := Arr.to' (Arr.al' Ek _) hb2
  have Eo := Arr.to' Ao hb1
  have lo_v5 := Eo.lt
  have Bo := Arr.to' (Arr.al' Eo _) hb2
  have Ez := Arr.to' Az hb1
  have lz_v5 := Ez.lt
  have Bz := Arr.to' (Arr.al' Ez _) hb2
  have Er := Arr.to' Ar hb1
  have lr_v5 := Er.lt
  have Br := Arr.to' (Arr.al' Er _) hb2
  have Bi := (Arr.mk4 (w := (v5.alloc (.cells #[.int .u64 0, .int .u64 0, .int .u64 0, .int .u64 0] 24))) (f := fun _ => .int .u64 0) (b := v5.heap.size) (by simp [go_sem]) (by simp [go_sem]) (by simp [go_sem]) (by simp [go_sem]) (by simp [go_sem]) (by simp [go_sem]) (by simp [go_sem]) (by simp [go_sem])).below hb2 (by go_size)
  have lB_v5 := (Bel.call hB hb1).size
  have hB' := Bel.call (Bel.al (Bel.call hB hb1) _) hb2
  clear hb1 hb2 Ed Ek Eo Ez Er Ad Ak Ao Az Ar hB
  have Ad := Bd
  have Ak := Bk
  have Ao := Bo
  have Az := Bz
  have Ar := Br
  have Ai := Bi
  have hB := hB'
  clear Bd Bk Bo Bz Br Bi hB'
  have ci := Ai.c
  have zi := Ai.z
  have Bd := Arr.st4o (b' := v5.heap.size) Ad (by have := Ad.lt; have := Ai.lt; omega) (I)
  have Bk := Arr.st4o (b' := v5.heap.size) Ak (by have := Ak.lt; have := Ai.lt; omega) (I)
  have Bo := Arr.st4o (b' := v5.heap.size) Ao (by have := Ao.lt; have := Ai.lt; omega) (I)
  have Bz := Arr.st4o (b' := v5.heap.size) Az (by have := Az.lt; have := Ai.lt; omega) (I)
  have Br := Arr.st4o (b' := v5.heap.size) Ar (by have := Ar.lt; have := Ai.lt; omega) (I)
  have Bi := Arr.st4 Ai (I)
  have hB' := Bel.st4 hB (b := v5.heap.size) (by have := hB.size; omega) (I)
  clear Ad Ak Ao Az Ar Ai hB
  have Ad := Bd
  have Ak := Bk
  have Ao := Bo
  have Az := Bz
  have Ar := Br
  have Ai := Bi
  have hB := hB'
  clear Bd Bk Bo Bz Br Bi hB'
  go_wp2_with fail
  apply wp_region_alloc_tail 8 (by kernel_rfl) (by kernel_rfl) (by kernel_rfl) (.cells #[.int .u64 0, .int .u64 0, .int .u64 0, .int .u64 0] 24) _ rfl (fun _ _ => by simp [go_sem])
  · intro W hW
    obtain ⟨ri0, ri1, ri2, ri3⟩ := Arr.g4 (Arr.to' Ai hW)
    obtain ⟨rz0, rz1, rz2, rz3⟩ := Arr.g4 (Arr.to' Az hW)
    obtain ⟨rr0, rr1, rr2, rr3⟩ := Arr.g4 (Arr.to' Ar hW)
    obtain ⟨rd0, rd1, rd2, rd3⟩ := Arr.g4 (Arr.to' Ad hW)
    simp only [List.take_succ_cons, List.take_zero]
    repeat (go_big_quiet_step (first | (go_at_call 19; with_reducible first | exact Calls.regrown_of (C6 _)) | (go_at_call 35; with_reducible first | exact Calls.regrown_of (C9 _) | exact Calls.regrown_of (C11 _)) | (go_at_call 23; with_reducible first | exact Calls.regrown_of (C10 _))))
    exact wpQuiet_nil rfl
  intro v6 w16 hb1 hb2
  simp only [List.drop_succ_cons, List.drop_zero, Act.put, List.setIfInBounds_toArray, List.set_cons_succ, List.set_cons_zero]
  have Ed := Arr.to' Ad hb1
  have ld_v6 := Ed.lt
  have Bd := Arr.to' (Arr.al' Ed _) hb2
  have Ek := Arr.to' Ak hb1
  have lk_v6 := Ek.lt
  have Bk := Arr.to' (Arr.al' Ek _) hb2
  have Eo := Arr.to' Ao hb1
  have lo_v6 := Eo.lt
  have Bo := Arr.to' (Arr.al' Eo _) hb2
  have Ez := Arr.to' Az hb1
  have lz_v6 := Ez.lt
  have Bz := Arr.to' (Arr.al' Ez _) hb2
  have Er := Arr.to' Ar hb1
  have lr_v6 := Er.lt
  have Br := Arr.to' (Arr.al' Er _) hb2
  have Ei := Arr.to' Ai hb1
  have li_v6 := Ei.lt
  have Bi := Arr.to' (Arr.al' Ei _) hb2
  have Bt := (Arr.mk4 (w := (v6.alloc (.cells #[.int .u64 0, .int .u64 0, .int .u64 0, .int .u64 0] 24))) (f := fun _ => .int .u64 0) (b := v6.heap.size) (by simp [go_sem]) (by simp [go_sem]) (by simp [go_sem]) (by simp [go_sem]) (by simp [go_sem]) (by simp [go_sem]) (by simp [go_sem]) (by simp [go_sem])).below hb2 (by go_size)
  have lB_v6 := (Bel.call hB hb1).size
  have hB' := Bel.call (Bel.al (Bel.call hB hb1) _) hb2
  clear hb1 hb2 Ed Ek Eo Ez Er Ei Ad Ak Ao Az Ar Ai hB
  have Ad := Bd
  have Ak := Bk
  have Ao := Bo
  have Az := Bz
  have Ar := Br
  have Ai := Bi
  have At := Bt
  have hB := hB'
  clear Bd Bk Bo Bz Br Bi Bt hB'
  have ct := At.c
  have zt := At.z
  have Bd := Arr.st4o (b' := v6.heap.size) Ad (by have := Ad.lt; have := At.lt; omega) (S)
  have Bk := Arr.st4o (b' := v6.heap.size) Ak (by have := Ak.lt; have := At.lt; omega) (S)
  have Bo := Arr.st4o (b' := v6.heap.size) Ao (by have := Ao.lt; have := At.lt; omega) (S)
  have Bz := Arr.st4o (b' := v6.heap.size) Az (by have := Az.lt; have := At.lt; omega) (S)
  have Br := Arr.st4o (b' := v6.heap.size) Ar (by have := Ar.lt; have := At.lt; omega) (S)
  have Bi := Arr.st4o (b' := v6.heap.size) Ai (by have := Ai.lt; have := At.lt; omega) (S)
  have Bt := Arr.st4 At (S)
  have hB' := Bel.st4 hB (b := v6.heap.size) (by have := hB.size; omega) (S)
  clear Ad Ak Ao Az Ar Ai At hB
  have Ad := Bd
  have Ak := Bk
  have Ao := Bo
  have Az := Bz
  have Ar := Br
  have Ai := Bi
  have At := Bt
  have hB := hB'
  clear Bd Bk Bo Bz Br Bi Bt hB'
  have cr := Ar.c
  have ct := At.c
  have hS := hB.size
  obtain ⟨co_0, co_1, co_2, co_3, co_4, co_5, co_6, co_7⟩ := Arr.c_zg Ao
  have zo := Ao.z
  go_wp2_with fail
  refine bodyPost_ret (v := .tuple #[.agg #[.int .u64 0, .int .u64 0, .int .u64 0, .int .u64 0, .int .u64 0, .int .u64 0, .int .u64 0, .int .u64 0], .int .i64 13]) (by simp [results, Tryz.results10, go_sem, co_0, co_1, co_2, co_3, co_4, co_5, co_6, co_7]) rfl ⟨rfl, ?_⟩
  go_grown
set_option maxHeartbeats 8000000 in
theorem rsign_ok (D K z U V X Y R I a b S : Int) (i k ok : Bool) (s : ByteArray) (hr : (lim R 0 == 0 && (lim R 1 == 0 && (lim R 2 == 0 && lim R 3 == 0))) = false) (ht : (lim S 0 == 0 && (lim S 1 == 0 && (lim S 2 == 0 && lim S 3 == 0))) = false) (w : World)
    (C1 : ∀ W, Calls Tryz.prog 16 #[nv D] W fun e w' => e = .returned (.bool true) ∧ Below W.heap.size W w')
    (C2 : ∀ W, Calls Tryz.prog 16 #[nv K] W fun e w' => e = .returned (.bool true) ∧ Below W.heap.size W w')
    (C3 : ∀ W, Calls Tryz.prog 17 #[.string s] W fun e w' => e = .returned (.tuple #[nv z, .int .i64 0]) ∧ Below W.heap.size W w')
    (C4 : ∀ W, Calls Tryz.prog 31 #[] W fun e w' => e = .returned (pv U V i) ∧ Below W.heap.size W w')
    (C5 : ∀ W, Calls Tryz.prog 30 #[nv K, pv U V i] W fun e w' => e = .returned (pv X Y k) ∧ Below W.heap.size W w')
    (C6 : ∀ W, Calls Tryz.prog 19 #[] W fun e w' => e = .returned (nv nn) ∧ Below W.heap.size W w')
    (C7 : ∀ W, Calls Tryz.prog 18 #[nv X, .agg #[.int .u64 0, .int .u64 0, .int .u64 0, .int .u64 0], nv nn] W fun e w' => e = .returned (nv R) ∧ Below W.heap.size W w')
    (C8 : ∀ W, Calls Tryz.prog 34 #[nv K, nv nn] W fun e w' => e = .returned (.tuple #[nv I, .bool ok]) ∧ Below W.heap.size W w')
    (C9 : ∀ W, Calls Tryz.prog 35 #[nv R, nv D] W fun e w' => e = .returned (nv a) ∧ Below W.heap.size W w')
    (C10 : ∀ W, Calls Tryz.prog 23 #[nv z, nv a, nv nn] W fun e w' => e = .returned (nv b) ∧ Below W.heap.size W w')
    (C11 : ∀ W, Calls Tryz.prog 35 #[nv I, nv b] W fun e w' => e = .returned (nv S) ∧ Below W.heap.size W w') :
    Calls Tryz.prog 10 #[nv D, nv K, .string s] w fun e w' => e = .returned (.tuple #[gv R S, .int .i64 0]) ∧ Below w.heap.size w w' := by
  go_enter Tryz.func10, Tryz.ntmps10
  obtain ⟨W0, hW0⟩ : ∃ W0, W0 = (((w.alloc (.cells #[.int .u64 (lim (D) 0), .int .u64 (lim (D) 1), .int .u64 (lim (D) 2), .int .u64 (lim (D) 3)] 24)).alloc (.cells #[.int .u64 (lim (K) 0), .int .u64 (lim (K) 1), .int .u64 (lim (K) 2), .int .u64 (lim (K) 3)] 24)).alloc (.cells #[.int .u64 0, .int .u64 0, .int .u64 0, .int .u64 0, .int .u64 0, .int .u64 0, .int .u64 0, .int .u64 0] 26)) := ⟨_, rfl⟩
  have Ad : Arr W0 (w.heap.size) 4 (fun j => .int .u64 (lim (D) j)) := by subst hW0; refine Arr.mk4 ?_ ?_ ?_ ?_ ?_ ?_ ?_ ?_ <;> simp [go_sem]
  have Ak : Arr W0 (w.heap.size + 1) 4 (fun j => .int .u64 (lim (K) j)) := by subst hW0; refine Arr.mk4 ?_ ?_ ?_ ?_ ?_ ?_ ?_ ?_ <;> simp [go_sem]
  have Ao : Arr W0 (w.heap.size + 1 + 1) 8 (zg) := by subst hW0; refine Arr.mk8' ?_ ?_ ?_ ?_ ?_ ?_ ?_ ?_ ?_ <;> simp [go_sem, sgx, zg]
  have hB : Below w.heap.size w W0 := by subst hW0; go_grown
  subst hW0
  have cd := Ad.c
  go_wp2_with fail
  refine (C1 _).mono ?_
  rintro e w1 ⟨rfl, hb⟩
  replace Ad := Arr.to' Ad hb
  replace Ak := Arr.to' Ak hb
  replace Ao := Arr.to' Ao hb
  replace hB := Bel.call hB hb
  clear hb cd
  have ck := Ak.c
  go_wp2_with fail
  refine (C2 _).mono ?_
  rintro e w12 ⟨rfl, hb⟩
  replace Ad := Arr.to' Ad hb
  replace Ak := Arr.to' Ak hb
  replace Ao := Arr.to' Ao hb
  replace hB := Bel.call hB hb
  clear hb ck
  go_wp2_with fail
  refine (C3 _).mono ?_
  rintro e w13 ⟨rfl, hb⟩
  replace Ad := Arr.to' Ad hb
  replace Ak := Arr.to' Ak hb
  replace Ao := Arr.to' Ao hb
  replace hB := Bel.call hB hb
  clear hb
  have ld_2 := Ad.lt
  have lk_2 := Ak.lt
  have lo_2 := Ao.lt
  have lB_2 := hB.size
  replace Ad := (Arr.al' Ad (.cells #[.int .u64 (lim (z) 0), .int .u64 (lim (z) 1), .int .u64 (lim (z) 2), .int .u64 (lim (z) 3)] 24))
  replace Ak := (Arr.al' Ak (.cells #[.int .u64 (lim (z) 0), .int .u64 (lim (z) 1), .int .u64 (lim (z) 2), .int .u64 (lim (z) 3)] 24))
  replace Ao := (Arr.al' Ao (.cells #[.int .u64 (lim (z) 0), .int .u64 (lim (z) 1), .int .u64 (lim (z) 2), .int .u64 (lim (z) 3)] 24))
  have Az : Arr ((w13.alloc (.cells #[.int .u64 (lim (z) 0), .int .u64 (lim (z) 1), .int .u64 (lim (z) 2), .int .u64 (lim (z) 3)] 24))) (w13.heap.size) 4 (fun j => .int .u64 (lim (z) j)) := by refine Arr.mk4 ?_ ?_ ?_ ?_ ?_ ?_ ?_ ?_ <;> simp [go_sem]
  replace hB := (Bel.al hB (.cells #[.int .u64 (lim (z) 0), .int .u64 (lim (z) 1), .int .u64 (lim (z) 2), .int .u64 (lim (z) 3)] 24))
  go_wp2_with fail
  apply wp_region_alloc_tail 7 (by kernel_rfl) (by kernel_rfl) (by kernel_rfl) (.cells #[.int .u64 0, .int .u64 0, .int .u64 0, .int .u64 0] 24) _ rfl (fun _ _ => by simp [go_sem])
  · intro W hW
    obtain ⟨rk0, rk1, rk2, rk3⟩ := Arr.g4 (Arr.to' Ak hW)
    simp only [List.take_succ_cons, List.take_zero]
    repeat (go_big_quiet_step (first | (go_at_call 31; with_reducible first | exact Calls.regrown_of (C4 _)) | (go_at_call 30; with_reducible first | exact Calls.regrown_of (C5 _)) | (go_at_call 19; with_reducible first | exact Calls.regrown_of (C6 _)) | (go_at_call 18; with_reducible first | exact Calls.regrown_of (C7 _))))
    exact wpQuiet_nil rfl
  intro v4 w14 hb1 hb2
  simp only [List.drop_succ_cons, List.drop_zero, Act.put, List.setIfInBounds_toArray, List.set_cons_succ, List.set_cons_zero]
  have Ed := Arr.to' Ad hb1
  have ld_v4 := Ed.lt
  have Bd := Arr.to' (Arr.al' Ed _) hb2
  have Ek := Arr.to' Ak hb1
  have lk_v4 := Ek.lt
  have Bk := Arr.to' (Arr.al' Ek _) hb2
  have Eo := Arr.to' Ao hb1
  have lo_v4 := Eo.lt
  have Bo := Arr.to' (Arr.al' Eo _) hb2
  have Ez := Arr.to' Az hb1
  have lz_v4 := Ez.lt
  have Bz := Arr.to' (Arr.al' Ez _) hb2
  have Br := (Arr.mk4 (w := (v4.alloc (.cells #[.int .u64 0, .int .u64 0, .int .u64 0, .int .u64 0] 24))) (f := fun _ => .int .u64 0) (b := v4.heap.size) (by simp [go_sem]) (by simp [go_sem]) (by simp [go_sem]) (by simp [go_sem]) (by simp [go_sem]) (by simp [go_sem]) (by simp [go_sem]) (by simp [go_sem])).below hb2 (by go_size)
  have lB_v4 := (Bel.call hB hb1).size
  have hB' := Bel.call (Bel.al (Bel.call hB hb1) _) hb2
  clear hb1 hb2 Ed Ek Eo Ez Ad Ak Ao Az hB
  have Ad := Bd
  have Ak := Bk
  have Ao := Bo
  have Az := Bz
  have Ar := Br
  have hB := hB'
  clear Bd Bk Bo Bz Br hB'
  have cr := Ar.c
  have zr := Ar.z
  have Bd := Arr.st4o (b' := v4.heap.size) Ad (by have := Ad.lt; have := Ar.lt; omega) (R)
  have Bk := Arr.st4o (b' := v4.heap.size) Ak (by have := Ak.lt; have := Ar.lt; omega) (R)
  have Bo := Arr.st4o (b' := v4.heap.size) Ao (by have := Ao.lt; have := Ar.lt; omega) (R)
  have Bz := Arr.st4o (b' := v4.heap.size) Az (by have := Az.lt; have := Ar.lt; omega) (R)
  have Br := Arr.st4 Ar (R)
  have hB' := Bel.st4 hB (b := v4.heap.size) (by have := hB.size; omega) (R)
  clear Ad Ak Ao Az Ar hB
  have Ad := Bd
  have Ak := Bk
  have Ao := Bo
  have Az := Bz
  have Ar := Br
  have hB := hB'
  clear Bd Bk Bo Bz Br hB'
  go_wp2_with fail
  apply wp_region_pure_tail 3 3 #[true, true, true, false, false, false, true, false, false] #[true, true, true, true, true, true, false, false, false] (by kernel_rfl) (by intro c d v a w h; cases d <;> exact h) (by kernel_rfl) (by kernel_rfl) (.cells #[.int .u64 0, .int .u64 0, .int .u64 0, .int .u64 0] 24) _ rfl (fun _ _ => by simp [go_sem])
  · intro W hW
    obtain ⟨rk0, rk1, rk2, rk3⟩ := Arr.g4 (Arr.to' Ak hW)
    simp only [List.take_succ_cons, List.take_zero]
    repeat (go_big_quiet_step (first | (go_at_call 19; with_reducible first | exact Calls.regrown_of (C6 _)) | (go_at_call 34; with_reducible first | exact Calls.regrown_of (C8 _))))
    exact wpQuiet_nil rfl
  · exact ⟨_, Or.inl ⟨rfl, fun _ => rfl⟩, ⟨_, Or.inl ⟨rfl, fun _ => rfl⟩, ⟨_, Or.inl ⟨rfl, fun _ => rfl⟩, rfl⟩⟩⟩
  · intro v; exact ⟨_, Or.inl ⟨rfl, fun _ => rfl⟩, ⟨_, Or.inl ⟨rfl, fun _ => rfl⟩, ⟨_, Or.inl ⟨rfl, fun _ => rfl⟩, rfl⟩⟩⟩
  intro v5 w15 hb1 hb2
  simp only [List.drop_succ_cons, List.drop_zero, Act.put, List.setIfInBounds_toArray, List.set_cons_succ, List.set_cons_zero]
  have Ed := Arr.to' Ad hb1
  have ld_v5 := Ed.lt
  have Bd := Arr.to' (Arr.al' Ed _) hb2
  have Ek := Arr.to' Ak hb1
  have lk_v5 := Ek.lt
  have Bk := Arr.to' (Arr.al' Ek _) hb2
  have Eo := Arr.to' Ao hb1
  have lo_v5 := Eo.lt
  have Bo := Arr.to' (Arr.al' Eo _) hb2
  have Ez := Arr.to' Az hb1
  have lz_v5 := Ez.lt
  have Bz := Arr.to' (Arr.al' Ez _) hb2
  have Er := Arr.to' Ar hb1
  have lr_v5 := Er.lt
  have Br := Arr.to' (Arr.al' Er _) hb2
  have Bi := (Arr.mk4 (w := (v5.alloc (.cells #[.int .u64 0, .int .u64 0, .int .u64 0, .int .u64 0] 24))) (f := fun _ => .int .u64 0) (b := v5.heap.size) (by simp [go_sem]) (by simp [go_sem]) (by simp [go_sem]) (by simp [go_sem]) (by simp [go_sem]) (by simp [go_sem]) (by simp [go_sem]) (by simp [go_sem])).below hb2 (by go_size)
  have lB_v5 := (Bel.call hB hb1).size
  have hB' := Bel.call (Bel.al (Bel.call hB hb1) _) hb2
  clear hb1 hb2 Ed Ek Eo Ez Er Ad Ak Ao Az Ar hB
  have Ad := Bd
  have Ak := Bk
  have Ao := Bo
  have Az := Bz
  have Ar := Br
  have Ai := Bi
  have hB := hB'
  clear Bd Bk Bo Bz Br Bi hB'
  have ci := Ai.c
  have zi := Ai.z
  have Bd := Arr.st4o (b' := v5.heap.size) Ad (by have := Ad.lt; have := Ai.lt; omega) (I)
  have Bk := Arr.st4o (b' := v5.heap.size) Ak (by have := Ak.lt; have := Ai.lt; omega) (I)
  have Bo := Arr.st4o (b' := v5.heap.size) Ao (by have := Ao.lt; have := Ai.lt; omega) (I)
  have Bz := Arr.st4o (b' := v5.heap.size) Az (by have := Az.lt; have := Ai.lt; omega) (I)
  have Br := Arr.st4o (b' := v5.heap.size) Ar (by have := Ar.lt; have := Ai.lt; omega) (I)
  have Bi := Arr.st4 Ai (I)
  have hB' := Bel.st4 hB (b := v5.heap.size) (by have := hB.size; omega) (I)
  clear Ad Ak Ao Az Ar Ai hB
  have Ad := Bd
  have Ak := Bk
  have Ao := Bo
  have Az := Bz
  have Ar := Br
  have Ai := Bi
  have hB := hB'
  clear Bd Bk Bo Bz Br Bi hB'
  go_wp2_with fail
  apply wp_region_alloc_tail 8 (by kernel_rfl) (by kernel_rfl) (by kernel_rfl) (.cells #[.int .u64 0, .int .u64 0, .int .u64 0, .int .u64 0] 24) _ rfl (fun _ _ => by simp [go_sem])
  · intro W hW
    obtain ⟨ri0, ri1, ri2, ri3⟩ := Arr.g4 (Arr.to' Ai hW)
    obtain ⟨rz0, rz1, rz2, rz3⟩ := Arr.g4 (Arr.to' Az hW)
    obtain ⟨rr0, rr1, rr2, rr3⟩ := Arr.g4 (Arr.to' Ar hW)
    obtain ⟨rd0, rd1, rd2, rd3⟩ := Arr.g4 (Arr.to' Ad hW)
    simp only [List.take_succ_cons, List.take_zero]
    repeat (go_big_quiet_step (first | (go_at_call 19; with_reducible first | exact Calls.regrown_of (C6 _)) | (go_at_call 35; with_reducible first | exact Calls.regrown_of (C9 _) | exact Calls.regrown_of (C11 _)) | (go_at_call 23; with_reducible first | exact Calls.regrown_of (C10 _))))
    exact wpQuiet_nil rfl
  intro v6 w16 hb1 hb2
  simp only [List.drop_succ_cons, List.drop_zero, Act.put, List.setIfInBounds_toArray, List.set_cons_succ, List.set_cons_zero]
  have Ed := Arr.to' Ad hb1
  have ld_v6 := Ed.lt
  have Bd := Arr.to' (Arr.al' Ed _) hb2
  have Ek := Arr.to' Ak hb1
  have lk_v6 := Ek.lt
  have Bk := Arr.to' (Arr.al' Ek _) hb2
  have Eo := Arr.to' Ao hb1
  have lo_v6 := Eo.lt
  have Bo := Arr.to' (Arr.al' Eo _) hb2
  have Ez := Arr.to' Az hb1
  have lz_v6 := Ez.lt
  have Bz := Arr.to' (Arr.al' Ez _) hb2
  have Er := Arr.to' Ar hb1
  have lr_v6 := Er.lt
  have Br := Arr.to' (Arr.al' Er _) hb2
  have Ei := Arr.to' Ai hb1
  have li_v6 := Ei.lt
  have Bi := Arr.to' (Arr.al' Ei _) hb2
  have Bt := (Arr.mk4 (w := (v6.alloc (.cells #[.int .u64 0, .int .u64 0, .int .u64 0, .int .u64 0] 24))) (f := fun _ => .int .u64 0) (b := v6.heap.size) (by simp [go_sem]) (by simp [go_sem]) (by simp [go_sem]) (by simp [go_sem]) (by simp [go_sem]) (by simp [go_sem]) (by simp [go_sem]) (by simp [go_sem])).below hb2 (by go_size)
  have lB_v6 := (Bel.call hB hb1).size
  have hB' := Bel.call (Bel.al (Bel.call hB hb1) _) hb2
  clear hb1 hb2 Ed Ek Eo Ez Er Ei Ad Ak Ao Az Ar Ai hB
  have Ad := Bd
  have Ak := Bk
  have Ao := Bo
  have Az := Bz
  have Ar := Br
  have Ai := Bi
  have At := Bt
  have hB := hB'
  clear Bd Bk Bo Bz Br Bi Bt hB'
  have ct := At.c
  have zt := At.z
  have Bd := Arr.st4o (b' := v6.heap.size) Ad (by have := Ad.lt; have := At.lt; omega) (S)
  have Bk := Arr.st4o (b' := v6.heap.size) Ak (by have := Ak.lt; have := At.lt; omega) (S)
  have Bo := Arr.st4o (b' := v6.heap.size) Ao (by have := Ao.lt; have := At.lt; omega) (S)
  have Bz := Arr.st4o (b' := v6.heap.size) Az (by have := Az.lt; have := At.lt; omega) (S)
  have Br := Arr.st4o (b' := v6.heap.size) Ar (by have := Ar.lt; have := At.lt; omega) (S)
  have Bi := Arr.st4o (b' := v6.heap.size) Ai (by have := Ai.lt; have := At.lt; omega) (S)
  have Bt := Arr.st4 At (S)
  have hB' := Bel.st4 hB (b := v6.heap.size) (by have := hB.size; omega) (S)
  clear Ad Ak Ao Az Ar Ai At hB
  have Ad := Bd
  have Ak := Bk
  have Ao := Bo
  have Az := Bz
  have Ar := Br
  have Ai := Bi
  have At := Bt
  have hB := hB'
  clear Bd Bk Bo Bz Br Bi Bt hB'
  have cr := Ar.c
  have ct := At.c
  have hS := hB.size
  obtain ⟨co_0, co_1, co_2, co_3, co_4, co_5, co_6, co_7⟩ := Arr.c_zg Ao
  have zo := Ao.z
  go_wp2_with fail
  refine bodyPost_ret (v := .tuple #[gv R S, .int .i64 0]) (by simp [results, Tryz.results10, go_sem, co_0, co_1, co_2, co_3, co_4, co_5, co_6, co_7]) rfl ⟨rfl, ?_⟩
  go_grown
set_option maxHeartbeats 8000000 in
theorem rchk_i (X Y R S : Int) (d : ByteArray) (w : World) :
    Calls Tryz.prog 15 #[pv X Y true, .string d, gv R S] w fun e w' => e = .returned (.int .i64 15) ∧ Below w.heap.size w w' := by
  go_enter Tryz.func15, Tryz.ntmps15
  obtain ⟨W0, hW0⟩ : ∃ W0, W0 = ((w.alloc (.cells #[.int .u64 (lim (X) 0), .int .u64 (lim (X) 1), .int .u64 (lim (X) 2), .int .u64 (lim (X) 3), .int .u64 (lim (Y) 0), .int .u64 (lim (Y) 1), .int .u64 (lim (Y) 2), .int .u64 (lim (Y) 3), .bool true] 28)).alloc (.cells #[.int .u64 (lim (R) 0), .int .u64 (lim (R) 1), .int .u64 (lim (R) 2), .int .u64 (lim (R) 3), .int .u64 (lim (S) 0), .int .u64 (lim (S) 1), .int .u64 (lim (S) 2), .int .u64 (lim (S) 3)] 26)) := ⟨_, rfl⟩
  have Aq : Arr W0 (w.heap.size) 9 (px (X) (Y) true) := by subst hW0; refine Arr.mk9p ?_ ?_ ?_ ?_ ?_ ?_ ?_ ?_ ?_ ?_ <;> simp [go_sem, px, sx, zx]
  have As : Arr W0 (w.heap.size + 1) 8 (sgx (R) (S)) := by subst hW0; refine Arr.mk8' ?_ ?_ ?_ ?_ ?_ ?_ ?_ ?_ ?_ <;> simp [go_sem, sgx, zg]
  have hB : Below w.heap.size w W0 := by subst hW0; go_grown
  subst hW0
  obtain ⟨cq_0, cq_1, cq_2, cq_3, cq_4, cq_5, cq_6, cq_7, cq_8⟩ := Arr.c_px Aq
  go_wp2_with fail
  go_ret
  exact ⟨rfl, hB⟩
set_option maxHeartbeats 8000000 in
theorem rchk_o (X Y R S : Int) (d : ByteArray) (w : World)
    (C1 : ∀ W, Calls Tryz.prog 42 #[pv X Y false] W fun e w' => e = .returned (.bool false) ∧ Below W.heap.size W w') :
    Calls Tryz.prog 15 #[pv X Y false, .string d, gv R S] w fun e w' => e = .returned (.int .i64 15) ∧ Below w.heap.size w w' := by
  go_enter Tryz.func15, Tryz.ntmps15
  obtain ⟨W0, hW0⟩ : ∃ W0, W0 = ((w.alloc (.cells #[.int .u64 (lim (X) 0), .int .u64 (lim (X) 1), .int .u64 (lim (X) 2), .int .u64 (lim (X) 3), .int .u64 (lim (Y) 0), .int .u64 (lim (Y) 1), .int .u64 (lim (Y) 2), .int .u64 (lim (Y) 3), .bool false] 28)).alloc (.cells #[.int .u64 (lim (R) 0), .int .u64 (lim (R) 1), .int .u64 (lim (R) 2), .int .u64 (lim (R) 3), .int .u64 (lim (S) 0), .int .u64 (lim (S) 1), .int .u64 (lim (S) 2), .int .u64 (lim (S) 3)] 26)) := ⟨_, rfl⟩
  have Aq : Arr W0 (w.heap.size) 9 (px (X) (Y) false) := by subst hW0; refine Arr.mk9p ?_ ?_ ?_ ?_ ?_ ?_ ?_ ?_ ?_ ?_ <;> simp [go_sem, px, sx, zx]
  have As : Arr W0 (w.heap.size + 1) 8 (sgx (R) (S)) := by subst hW0; refine Arr.mk8' ?_ ?_ ?_ ?_ ?_ ?_ ?_ ?_ ?_ <;> simp [go_sem, sgx, zg]
  have hB : Below w.heap.size w W0 := by subst hW0; go_grown
  subst hW0
  obtain ⟨cq_0, cq_1, cq_2, cq_3, cq_4, cq_5, cq_6, cq_7, cq_8⟩ := Arr.c_px Aq
  go_wp2_with fail
  refine (C1 _).mono ?_
  rintro e w1 ⟨rfl, hb⟩
  replace Aq := Arr.to' Aq hb
  replace As := Arr.to' As hb
  replace hB := Bel.call hB hb
  clear hb cq_0 cq_1 cq_2 cq_3 cq_4 cq_5 cq_6 cq_7 cq_8
  go_wp2_with fail
  go_ret
  exact ⟨rfl, hB⟩
set_option maxHeartbeats 8000000 in
theorem rchk_d (X Y R S z e1 : Int) (d : ByteArray) (he : (e1 != 0) = true) (w : World)
    (C1 : ∀ W, Calls Tryz.prog 42 #[pv X Y false] W fun e w' => e = .returned (.bool true) ∧ Below W.heap.size W w')
    (C2 : ∀ W, Calls Tryz.prog 17 #[.string d] W fun e w' => e = .returned (.tuple #[nv z, .int .i64 e1]) ∧ Below W.heap.size W w') :
    Calls Tryz.prog 15 #[pv X Y false, .string d, gv R S] w fun e w' => e = .returned (.int .i64 10) ∧ Below w.heap.size w w' := by
  go_enter Tryz.func15, Tryz.ntmps15
  obtain ⟨W0, hW0⟩ : ∃ W0, W0 = ((w.alloc (.cells #[.int .u64 (lim (X) 0), .int .u64 (lim (X) 1), .int .u64 (lim (X) 2), .int .u64 (lim (X) 3), .int .u64 (lim (Y) 0), .int .u64 (lim (Y) 1), .int .u64 (lim (Y) 2), .int .u64 (lim (Y) 3), .bool false] 28)).alloc (.cells #[.int .u64 (lim (R) 0), .int .u64 (lim (R) 1), .int .u64 (lim (R) 2), .int .u64 (lim (R) 3), .int .u64 (lim (S) 0), .int .u64 (lim (S) 1), .int .u64 (lim (S) 2), .int .u64 (lim (S) 3)] 26)) := ⟨_, rfl⟩
  have Aq : Arr W0 (w.heap.size) 9 (px (X) (Y) false) := by subst hW0; refine Arr.mk9p ?_ ?_ ?_ ?_ ?_ ?_ ?_ ?_ ?_ ?_ <;> simp [go_sem, px, sx, zx]
  have As : Arr W0 (w.heap.size + 1) 8 (sgx (R) (S)) := by subst hW0; refine Arr.mk8' ?_ ?_ ?_ ?_ ?_ ?_ ?_ ?_ ?_ <;> simp [go_sem, sgx, zg]
  have hB : Below w.heap.size w W0 := by subst hW0; go_grown
  subst hW0
  obtain ⟨cq_0, cq_1, cq_2, cq_3, cq_4, cq_5, cq_6, cq_7, cq_8⟩ := Arr.c_px Aq
  go_wp2_with fail
  refine (C1 _).mono ?_
  rintro e w1 ⟨rfl, hb⟩
  replace Aq := Arr.to' Aq hb
  replace As := Arr.to' As hb
  replace hB := Bel.call hB hb
  clear hb cq_0 cq_1 cq_2 cq_3 cq_4 cq_5 cq_6 cq_7 cq_8
  go_wp2_with fail
  refine (C2 _).mono ?_
  rintro e w12 ⟨rfl, hb⟩
  replace Aq := Arr.to' Aq hb
  replace As := Arr.to' As hb
  replace hB := Bel.call hB hb
  clear hb
  have lq_2 := Aq.lt
  have ls_2 := As.lt
  have lB_2 := hB.size
  replace Aq := (Arr.al' Aq (.cells #[.int .u64 (lim (z) 0), .int .u64 (lim (z) 1), .int .u64 (lim (z) 2), .int .u64 (lim (z) 3)] 24))
  replace As := (Arr.al' As (.cells #[.int .u64 (lim (z) 0), .int .u64 (lim (z) 1), .int .u64 (lim (z) 2), .int .u64 (lim (z) 3)] 24))
  have Az : Arr ((w12.alloc (.cells #[.int .u64 (lim (z) 0), .int .u64 (lim (z) 1), .int .u64 (lim (z) 2), .int .u64 (lim (z) 3)] 24))) (w12.heap.size) 4 (fun j => .int .u64 (lim (z) j)) := by refine Arr.mk4 ?_ ?_ ?_ ?_ ?_ ?_ ?_ ?_ <;> simp [go_sem]
  replace hB := (Bel.al hB (.cells #[.int .u64 (lim (z) 0), .int .u64 (lim (z) 1), .int .u64 (lim (z) 2), .int .u64 (lim (z) 3)] 24))
  go_wp2_with fail
  go_ret
  exact ⟨rfl, hB⟩
set_option maxHeartbeats 8000000 in
theorem rchk_r (X Y R S z : Int) (d : ByteArray) (w : World)
    (C1 : ∀ W, Calls Tryz.prog 42 #[pv X Y false] W fun e w' => e = .returned (.bool true) ∧ Below W.heap.size W w')
    (C2 : ∀ W, Calls Tryz.prog 17 #[.string d] W fun e w' => e = .returned (.tuple #[nv z, .int .i64 0]) ∧ Below W.heap.size W w')
    (C3 : ∀ W, Calls Tryz.prog 16 #[nv R] W fun e w' => e = .returned (.bool false) ∧ Below W.heap.size W w') :
    Calls Tryz.prog 15 #[pv X Y false, .string d, gv R S] w fun e w' => e = .returned (.int .i64 13) ∧ Below w.heap.size w w' := by
  go_enter Tryz.func15, Tryz.ntmps15
  obtain ⟨W0, hW0⟩ : ∃ W0, W0 = ((w.alloc (.cells #[.int .u64 (lim (X) 0), .int .u64 (lim (X) 1), .int .u64 (lim (X) 2), .int .u64 (lim (X) 3), .int .u64 (lim (Y) 0), .int .u64 (lim (Y) 1), .int .u64 (lim (Y) 2), .int .u64 (lim (Y) 3), .bool false] 28)).alloc (.cells #[.int .u64 (lim (R) 0), .int .u64 (lim (R) 1), .int .u64 (lim (R) 2), .int .u64 (lim (R) 3), .int .u64 (lim (S) 0), .int .u64 (lim (S) 1), .int .u64 (lim (S) 2), .int .u64 (lim (S) 3)] 26)) := ⟨_, rfl⟩
  have Aq : Arr W0 (w.heap.size) 9 (px (X) (Y) false) := by subst hW0; refine Arr.mk9p ?_ ?_ ?_ ?_ ?_ ?_ ?_ ?_ ?_ ?_ <;> simp [go_sem, px, sx, zx]
  have As : Arr W0 (w.heap.size + 1) 8 (sgx (R) (S)) := by subst hW0; refine Arr.mk8' ?_ ?_ ?_ ?_ ?_ ?_ ?_ ?_ ?_ <;> simp [go_sem, sgx, zg]
  have hB : Below w.heap.size w W0 := by subst hW0; go_grown
  subst hW0
  obtain ⟨cq_0, cq_1, cq_2, cq_3, cq_4, cq_5, cq_6, cq_7, cq_8⟩ := Arr.c_px Aq
  go_wp2_with fail
  refine (C1 _).mono ?_
  rintro e w1 ⟨rfl, hb⟩
  replace Aq := Arr.to' Aq hb
  replace As := Arr.to' As hb
  replace hB := Bel.call hB hb
  clear hb cq_0 cq_1 cq_2 cq_3 cq_4 cq_5 cq_6 cq_7 cq_8
  go_wp2_with fail
  refine (C2 _).mono ?_
  rintro e w12 ⟨rfl, hb⟩
  replace Aq := Arr.to' Aq hb
  replace As := Arr.to' As hb
  replace hB := Bel.call hB hb
  clear hb
  have lq_2 := Aq.lt
  have ls_2 := As.lt
  have lB_2 := hB.size
  replace Aq := (Arr.al' Aq (.cells #[.int .u64 (lim (z) 0), .int .u64 (lim (z) 1), .int .u64 (lim (z) 2), .int .u64 (lim (z) 3)] 24))
  replace As := (Arr.al' As (.cells #[.int .u64 (lim (z) 0), .int .u64 (lim (z) 1), .int .u64 (lim (z) 2), .int .u64 (lim (z) 3)] 24))
  have Az : Arr ((w12.alloc (.cells #[.int .u64 (lim (z) 0), .int .u64 (lim (z) 1), .int .u64 (lim (z) 2), .int .u64 (lim (z) 3)] 24))) (w12.heap.size) 4 (fun j => .int .u64 (lim (z) j)) := by refine Arr.mk4 ?_ ?_ ?_ ?_ ?_ ?_ ?_ ?_ <;> simp [go_sem]
  replace hB := (Bel.al hB (.cells #[.int .u64 (lim (z) 0), .int .u64 (lim (z) 1), .int .u64 (lim (z) 2), .int .u64 (lim (z) 3)] 24))
  obtain ⟨cs_0, cs_1, cs_2, cs_3, cs_4, cs_5, cs_6, cs_7⟩ := Arr.c_sgx As
  go_wp2_with fail
  refine (C3 _).mono ?_
  rintro e w13 ⟨rfl, hb⟩
  replace Aq := Arr.to' Aq hb
  replace As := Arr.to' As hb
  replace Az := Arr.to' Az hb
  replace hB := Bel.call hB hb
  clear hb cs_0 cs_1 cs_2 cs_3 cs_4 cs_5 cs_6 cs_7
  go_wp2_with fail
  go_ret
  exact ⟨rfl, hB⟩
set_option maxHeartbeats 8000000 in
theorem rchk_s (X Y R S z : Int) (d : ByteArray) (w : World)
    (C1 : ∀ W, Calls Tryz.prog 42 #[pv X Y false] W fun e w' => e = .returned (.bool true) ∧ Below W.heap.size W w')
    (C2 : ∀ W, Calls Tryz.prog 17 #[.string d] W fun e w' => e = .returned (.tuple #[nv z, .int .i64 0]) ∧ Below W.heap.size W w')
    (C3 : ∀ W, Calls Tryz.prog 16 #[nv R] W fun e w' => e = .returned (.bool true) ∧ Below W.heap.size W w')
    (C4 : ∀ W, Calls Tryz.prog 16 #[nv S] W fun e w' => e = .returned (.bool false) ∧ Below W.heap.size W w') :
    Calls Tryz.prog 15 #[pv X Y false, .string d, gv R S] w fun e w' => e = .returned (.int .i64 13) ∧ Below w.heap.size w w' := by
  go_enter Tryz.func15, Tryz.ntmps15
  obtain ⟨W0, hW0⟩ : ∃ W0, W0 = ((w.alloc (.cells #[.int .u64 (lim (X) 0), .int .u64 (lim (X) 1), .int .u64 (lim (X) 2), .int .u64 (lim (X) 3), .int .u64 (lim (Y) 0), .int .u64 (lim (Y) 1), .int .u64 (lim (Y) 2), .int .u64 (lim (Y) 3), .bool false] 28)).alloc (.cells #[.int .u64 (lim (R) 0), .int .u64 (lim (R) 1), .int .u64 (lim (R) 2), .int .u64 (lim (R) 3), .int .u64 (lim (S) 0), .int .u64 (lim (S) 1), .int .u64 (lim (S) 2), .int .u64 (lim (S) 3)] 26)) := ⟨_, rfl⟩
  have Aq : Arr W0 (w.heap.size) 9 (px (X) (Y) false) := by subst hW0; refine Arr.mk9p ?_ ?_ ?_ ?_ ?_ ?_ ?_ ?_ ?_ ?_ <;> simp [go_sem, px, sx, zx]
  have As : Arr W0 (w.heap.size + 1) 8 (sgx (R) (S)) := by subst hW0; refine Arr.mk8' ?_ ?_ ?_ ?_ ?_ ?_ ?_ ?_ ?_ <;> simp [go_sem, sgx, zg]
  have hB : Below w.heap.size w W0 := by subst hW0; go_grown
  subst hW0
  obtain ⟨cq_0, cq_1, cq_2, cq_3, cq_4, cq_5, cq_6, cq_7, cq_8⟩ := Arr.c_px Aq
  go_wp2_with fail
  refine (C1 _).mono ?_
  rintro e w1 ⟨rfl, hb⟩
  replace Aq := Arr.to' Aq hb
  replace As := Arr.to' As hb
  replace hB := Bel.call hB hb
  clear hb cq_0 cq_1 cq_2 cq_3 cq_4 cq_5 cq_6 cq_7 cq_8
  go_wp2_with fail
  refine (C2 _).mono ?_
  rintro e w12 ⟨rfl, hb⟩
  replace Aq := Arr.to' Aq hb
  replace As := Arr.to' As hb
  replace hB := Bel.call hB hb
  clear hb
  have lq_2 := Aq.lt
  have ls_2 := As.lt
  have lB_2 := hB.size
  replace Aq := (Arr.al' Aq (.cells #[.int .u64 (lim (z) 0), .int .u64 (lim (z) 1), .int .u64 (lim (z) 2), .int .u64 (lim (z) 3)] 24))
  replace As := (Arr.al' As (.cells #[.int .u64 (lim (z) 0), .int .u64 (lim (z) 1), .int .u64 (lim (z) 2), .int .u64 (lim (z) 3)] 24))
  have Az : Arr ((w12.alloc (.cells #[.int .u64 (lim (z) 0), .int .u64 (lim (z) 1), .int .u64 (lim (z) 2), .int .u64 (lim (z) 3)] 24))) (w12.heap.size) 4 (fun j => .int .u64 (lim (z) j)) := by refine Arr.mk4 ?_ ?_ ?_ ?_ ?_ ?_ ?_ ?_ <;> simp [go_sem]
  replace hB := (Bel.al hB (.cells #[.int .u64 (lim (z) 0), .int .u64 (lim (z) 1), .int .u64 (lim (z) 2), .int .u64 (lim (z) 3)] 24))
  obtain ⟨cs_0, cs_1, cs_2, cs_3, cs_4, cs_5, cs_6, cs_7⟩ := Arr.c_sgx As
  go_wp2_with fail
  refine (C3 _).mono ?_
  rintro e w13 ⟨rfl, hb⟩
  replace Aq := Arr.to' Aq hb
  replace As := Arr.to' As hb
  replace Az := Arr.to' Az hb
  replace hB := Bel.call hB hb
  clear hb cs_0 cs_1 cs_2 cs_3 cs_4 cs_5 cs_6 cs_7
  obtain ⟨cs_0, cs_1, cs_2, cs_3, cs_4, cs_5, cs_6, cs_7⟩ := Arr.c_sgx As
  go_wp2_with fail
  refine (C4 _).mono ?_
  rintro e w14 ⟨rfl, hb⟩
  replace Aq := Arr.to' Aq hb
  replace As := Arr.to' As hb
  replace Az := Arr.to' Az hb
  replace hB := Bel.call hB hb
  clear hb cs_0 cs_1 cs_2 cs_3 cs_4 cs_5 cs_6 cs_7
  go_wp2_with fail
  go_ret
  exact ⟨rfl, hB⟩
set_option maxHeartbeats 8000000 in
theorem rchk_inf (X Y R S z I a b U V c : Int) (ok : Bool) (d : ByteArray) (w : World)
    (C1 : ∀ W, Calls Tryz.prog 42 #[pv X Y false] W fun e w' => e = .returned (.bool true) ∧ Below W.heap.size W w')
    (C2 : ∀ W, Calls Tryz.prog 17 #[.string d] W fun e w' => e = .returned (.tuple #[nv z, .int .i64 0]) ∧ Below W.heap.size W w')
    (C3 : ∀ W, Calls Tryz.prog 16 #[nv R] W fun e w' => e = .returned (.bool true) ∧ Below W.heap.size W w')
    (C4 : ∀ W, Calls Tryz.prog 16 #[nv S] W fun e w' => e = .returned (.bool true) ∧ Below W.heap.size W w')
    (C5 : ∀ W, Calls Tryz.prog 19 #[] W fun e w' => e = .returned (nv nn) ∧ Below W.heap.size W w')
    (C6 : ∀ W, Calls Tryz.prog 34 #[nv S, nv nn] W fun e w' => e = .returned (.tuple #[nv I, .bool ok]) ∧ Below W.heap.size W w')
    (C7 : ∀ W, Calls Tryz.prog 35 #[nv z, nv I] W fun e w' => e = .returned (nv a) ∧ Below W.heap.size W w')
    (C8 : ∀ W, Calls Tryz.prog 35 #[nv R, nv I] W fun e w' => e = .returned (nv b) ∧ Below W.heap.size W w')
    (C9 : ∀ W, Calls Tryz.prog 43 #[nv a, nv b, pv X Y false] W fun e w' => e = .returned (pv U V true) ∧ Below W.heap.size W w') :
    Calls Tryz.prog 15 #[pv X Y false, .string d, gv R S] w fun e w' => e = .returned (.int .i64 16) ∧ Below w.heap.size w w' := by
  go_enter Tryz.func15, Tryz.ntmps15
  obtain ⟨W0, hW0⟩ : ∃ W0, W0 = ((w.alloc (.cells #[.int .u64 (lim (X) 0), .int .u64 (lim (X) 1), .int .u64 (lim (X) 2), .int .u64 (lim (X) 3), .int .u64 (lim (Y) 0), .int .u64 (lim (Y) 1), .int .u64 (lim (Y) 2), .int .u64 (lim (Y) 3), .bool false] 28)).alloc (.cells #[.int .u64 (lim (R) 0), .int .u64 (lim (R) 1), .int .u64 (lim (R) 2), .int .u64 (lim (R) 3), .int .u64 (lim (S) 0), .int .u64 (lim (S) 1), .int .u64 (lim (S) 2), .int .u64 (lim (S) 3)] 26)) := ⟨_, rfl⟩
  have Aq : Arr W0 (w.heap.size) 9 (px (X) (Y) false) := by subst hW0; refine Arr.mk9p ?_ ?_ ?_ ?_ ?_ ?_ ?_ ?_ ?_ ?_ <;> simp [go_sem, px, sx, zx]
  have As : Arr W0 (w.heap.size + 1) 8 (sgx (R) (S)) := by subst hW0; refine Arr.mk8' ?_ ?_ ?_ ?_ ?_ ?_ ?_ ?_ ?_ <;> simp [go_sem, sgx, zg]
  have hB : Below w.heap.size w W0 := by subst hW0; go_grown
  subst hW0
  obtain ⟨cq_0, cq_1, cq_2, cq_3, cq_4, cq_5, cq_6, cq_7, cq_8⟩ := Arr.c_px Aq
  go_wp2_with fail
  refine (C1 _).mono ?_
  rintro e w1 ⟨rfl, hb⟩
  replace Aq := Arr.to' Aq hb
  replace As := Arr.to' As hb
  replace hB := Bel.call hB hb
  clear hb cq_0 cq_1 cq_2 cq_3 cq_4 cq_5 cq_6 cq_7 cq_8
  go_wp2_with fail
  refine (C2 _).mono ?_
  rintro e w12 ⟨rfl, hb⟩
  replace Aq := Arr.to' Aq hb
  replace As := Arr.to' As hb
  replace hB := Bel.call hB hb
  clear hb
  have lq_2 := Aq.lt
  have ls_2 := As.lt
  have lB_2 := hB.size
  replace Aq := (Arr.al' Aq (.cells #[.int .u64 (lim (z) 0), .int .u64 (lim (z) 1), .int .u64 (lim (z) 2), .int .u64 (lim (z) 3)] 24))
  replace As := (Arr.al' As (.cells #[.int .u64 (lim (z) 0), .int .u64 (lim (z) 1), .int .u64 (lim (z) 2), .int .u64 (lim (z) 3)] 24))
  have Az : Arr ((w12.alloc (.cells #[.int .u64 (lim (z) 0), .int .u64 (lim (z) 1), .int .u64 (lim (z) 2), .int .u64 (lim (z) 3)] 24))) (w12.heap.size) 4 (fun j => .int .u64 (lim (z) j)) := by refine Arr.mk4 ?_ ?_ ?_ ?_ ?_ ?_ ?_ ?_ <;> simp [go_sem]
  replace hB := (Bel.al hB (.cells #[.int .u64 (lim (z) 0), .int .u64 (lim (z) 1), .int .u64 (lim (z) 2), .int .u64 (lim (z) 3)] 24))
  obtain ⟨cs_0, cs_1, cs_2, cs_3, cs_4, cs_5, cs_6, cs_7⟩ := Arr.c_sgx As
  go_wp2_with fail
  refine (C3 _).mono ?_
  rintro e w13 ⟨rfl, hb⟩
  replace Aq := Arr.to' Aq hb
  replace As := Arr.to' As hb
  replace Az := Arr.to' Az hb
  replace hB := Bel.call hB hb
  clear hb cs_0 cs_1 cs_2 cs_3 cs_4 cs_5 cs_6 cs_7
  obtain ⟨cs_0, cs_1, cs_2, cs_3, cs_4, cs_5, cs_6, cs_7⟩ := Arr.c_sgx As
  go_wp2_with fail
  refine (C4 _).mono ?_
  rintro e w14 ⟨rfl, hb⟩
  replace Aq := Arr.to' Aq hb
  replace As := Arr.to' As hb
  replace Az := Arr.to' Az hb
  replace hB := Bel.call hB hb
  clear hb cs_0 cs_1 cs_2 cs_3 cs_4 cs_5 cs_6 cs_7
  go_wp2_with fail
  apply wp_region_pure_tail 4 3 #[true, true, true, true, false, false, false, true, false, false] #[true, true, true, true, true, true, true, false, false, false] (by kernel_rfl) (by intro c d v a w h; cases d <;> exact h) (by kernel_rfl) (by kernel_rfl) (.cells #[.int .u64 0, .int .u64 0, .int .u64 0, .int .u64 0] 24) _ rfl (fun _ _ => by simp [go_sem])
  · intro W hW
    obtain ⟨rs0, rs1, rs2, rs3, rs4, rs5, rs6, rs7⟩ := Arr.g_sgx (Arr.to' As hW)
    simp only [List.take_succ_cons, List.take_zero]
    repeat (go_big_quiet_step (first | (go_at_call 19; with_reducible first | exact Calls.regrown_of (C5 _)) | (go_at_call 34; with_reducible first | exact Calls.regrown_of (C6 _))))
    exact wpQuiet_nil rfl
  · exact ⟨_, Or.inl ⟨rfl, fun _ => rfl⟩, ⟨_, Or.inl ⟨rfl, fun _ => rfl⟩, ⟨_, Or.inl ⟨rfl, fun _ => rfl⟩, rfl⟩⟩⟩
  · intro v; exact ⟨_, Or.inl ⟨rfl, fun _ => rfl⟩, ⟨_, Or.inl ⟨rfl, fun _ => rfl⟩, ⟨_, Or.inl ⟨rfl, fun _ => rfl⟩, rfl⟩⟩⟩
  intro v5 w15 hb1 hb2
  simp only [List.drop_succ_cons, List.drop_zero, Act.put, List.setIfInBounds_toArray, List.set_cons_succ, List.set_cons_zero]
  have Eq := Arr.to' Aq hb1
  have lq_v5 := Eq.lt
  have Bq := Arr.to' (Arr.al' Eq _) hb2
  have Es := Arr.to' As hb1
  have ls_v5 := Es.lt
  have Bs := Arr.to' (Arr.al' Es _) hb2
  have Ez := Arr.to' Az hb1
  have lz_v5 := Ez.lt
  have Bz := Arr.to' (Arr.al' Ez _) hb2
  have Bw := (Arr.mk4 (w := (v5.alloc (.cells #[.int .u64 0, .int .u64 0, .int .u64 0, .int .u64 0] 24))) (f := fun _ => .int .u64 0) (b := v5.heap.size) (by simp [go_sem]) (by simp [go_sem]) (by simp [go_sem]) (by simp [go_sem]) (by simp [go_sem]) (by simp [go_sem]) (by simp [go_sem]) (by simp [go_sem])).below hb2 (by go_size)
  have lB_v5 := (Bel.call hB hb1).size
  have hB' := Bel.call (Bel.al (Bel.call hB hb1) _) hb2
  clear hb1 hb2 Eq Es Ez Aq As Az hB
  have Aq := Bq
  have As := Bs
  have Az := Bz
  have Aw := Bw
  have hB := hB'
  clear Bq Bs Bz Bw hB'
  have cw := Aw.c
  have zw := Aw.z
  have Bq := Arr.st4o (b' := v5.heap.size) Aq (by have := Aq.lt; have := Aw.lt; omega) (I)
  have Bs := Arr.st4o (b' := v5.heap.size) As (by have := As.lt; have := Aw.lt; omega) (I)
  have Bz := Arr.st4o (b' := v5.heap.size) Az (by have := Az.lt; have := Aw.lt; omega) (I)
  have Bw := Arr.st4 Aw (I)
  have hB' := Bel.st4 hB (b := v5.heap.size) (by have := hB.size; omega) (I)
  clear Aq As Az Aw hB
  have Aq := Bq
  have As := Bs
  have Az := Bz
  have Aw := Bw
  have hB := hB'
  clear Bq Bs Bz Bw hB'
  go_wp2_with fail
  apply wp_region_alloc_tail 9 (by kernel_rfl) (by kernel_rfl) (by kernel_rfl) (.cells #[.int .u64 0, .int .u64 0, .int .u64 0, .int .u64 0, .int .u64 0, .int .u64 0, .int .u64 0, .int .u64 0, .bool false] 28) _ rfl (fun _ _ => by simp [go_sem])
  · intro W hW
    obtain ⟨rz0, rz1, rz2, rz3⟩ := Arr.g4 (Arr.to' Az hW)
    obtain ⟨rw0, rw1, rw2, rw3⟩ := Arr.g4 (Arr.to' Aw hW)
    obtain ⟨rs0, rs1, rs2, rs3, rs4, rs5, rs6, rs7⟩ := Arr.g_sgx (Arr.to' As hW)
    obtain ⟨rq0, rq1, rq2, rq3, rq4, rq5, rq6, rq7, rq8⟩ := Arr.g_px (Arr.to' Aq hW)
    simp only [List.take_succ_cons, List.take_zero]
    repeat (go_big_quiet_step (first | (go_at_call 35; with_reducible first | exact Calls.regrown_of (C7 _) | exact Calls.regrown_of (C8 _)) | (go_at_call 43; with_reducible first | exact Calls.regrown_of (C9 _))))
    exact wpQuiet_nil rfl
  intro v6 w16 hb1 hb2
  simp only [List.drop_succ_cons, List.drop_zero, Act.put, List.setIfInBounds_toArray, List.set_cons_succ, List.set_cons_zero]
  have Eq := Arr.to' Aq hb1
  have lq_v6 := Eq.lt
  have Bq := Arr.to' (Arr.al' Eq _) hb2
  have Es := Arr.to' As hb1
  have ls_v6 := Es.lt
  have Bs := Arr.to' (Arr.al' Es _) hb2
  have Ez := Arr.to' Az hb1
  have lz_v6 := Ez.lt
  have Bz := Arr.to' (Arr.al' Ez _) hb2
  have Ew := Arr.to' Aw hb1
  have lw_v6 := Ew.lt
  have Bw := Arr.to' (Arr.al' Ew _) hb2
  have Bt := (Arr.mk9p (w := (v6.alloc (.cells #[.int .u64 0, .int .u64 0, .int .u64 0, .int .u64 0, .int .u64 0, .int .u64 0, .int .u64 0, .int .u64 0, .bool false] 28))) (f := zx 8) (b := v6.heap.size) (by simp [go_sem, px, sx, zx]) (by simp [go_sem, px, sx, zx]) (by simp [go_sem, px, sx, zx]) (by simp [go_sem, px, sx, zx]) (by simp [go_sem, px, sx, zx]) (by simp [go_sem, px, sx, zx]) (by simp [go_sem, px, sx, zx]) (by simp [go_sem, px, sx, zx]) (by simp [go_sem, px, sx, zx]) (by simp [go_sem, px, sx, zx])).below hb2 (by go_size)
  have lB_v6 := (Bel.call hB hb1).size
  have hB' := Bel.call (Bel.al (Bel.call hB hb1) _) hb2
  clear hb1 hb2 Eq Es Ez Ew Aq As Az Aw hB
  have Aq := Bq
  have As := Bs
  have Az := Bz
  have Aw := Bw
  have At := Bt
  have hB := hB'
  clear Bq Bs Bz Bw Bt hB'
  obtain ⟨ct_0, ct_1, ct_2, ct_3, ct_4, ct_5, ct_6, ct_7, ct_8⟩ := Arr.c_zp At
  have zt := At.z
  have Bq := Arr.st9o (b' := v6.heap.size) Aq (by have := Aq.lt; have := At.lt; omega) (U) (V) true
  have Bs := Arr.st9o (b' := v6.heap.size) As (by have := As.lt; have := At.lt; omega) (U) (V) true
  have Bz := Arr.st9o (b' := v6.heap.size) Az (by have := Az.lt; have := At.lt; omega) (U) (V) true
  have Bw := Arr.st9o (b' := v6.heap.size) Aw (by have := Aw.lt; have := At.lt; omega) (U) (V) true
  have Bt := Arr.st9 At (U) (V) true
  have hB' := Bel.st9 hB (b := v6.heap.size) (by have := hB.size; omega) (U) (V) true
  clear Aq As Az Aw At hB
  have Aq := Bq
  have As := Bs
  have Az := Bz
  have Aw := Bw
  have At := Bt
  have hB := hB'
  clear Bq Bs Bz Bw Bt hB'
  obtain ⟨rt0, rt1, rt2, rt3, rt4, rt5, rt6, rt7, rt8⟩ := Arr.g_px At
  obtain ⟨rs0, rs1, rs2, rs3, rs4, rs5, rs6, rs7⟩ := Arr.g_sgx As
  go_wp2_with fail
  refine wp_region_quiet_below (by kernel_rfl) (by kernel_rfl) ?_
  repeat (go_big_quiet_step (first | (go_at_call 19; with_reducible first | exact Calls.regrown_of (C5 _))))
  refine wpQuiet_nil ?_
  intro w7 hw'
  obtain ⟨⟨dq, osq⟩, hw''⟩ := hw'
  have hb := below_of hw''
  clear hw''
  replace Aq := Arr.to' Aq hb
  replace As := Arr.to' As hb
  replace Az := Arr.to' Az hb
  replace Aw := Arr.to' Aw hb
  replace At := Arr.to' At hb
  replace hB := Bel.call hB hb
  clear hb ct_0 ct_1 ct_2 ct_3 ct_4 ct_5 ct_6 ct_7 ct_8 zt rt0 rt1 rt2 rt3 rt4 rt5 rt6 rt7 rt8 rs0 rs1 rs2 rs3 rs4 rs5 rs6 rs7
  go_wp2_with fail
  go_ret
  exact ⟨rfl, hB⟩
set_option maxHeartbeats 8000000 in
theorem rchk_no (X Y R S z I a b U V c : Int) (ok : Bool) (d : ByteArray) (hq : (lim c 0 == lim R 0 && (lim c 1 == lim R 1 && (lim c 2 == lim R 2 && lim c 3 == lim R 3))) = false) (w : World)
    (C1 : ∀ W, Calls Tryz.prog 42 #[pv X Y false] W fun e w' => e = .returned (.bool true) ∧ Below W.heap.size W w')
    (C2 : ∀ W, Calls Tryz.prog 17 #[.string d] W fun e w' => e = .returned (.tuple #[nv z, .int .i64 0]) ∧ Below W.heap.size W w')
    (C3 : ∀ W, Calls Tryz.prog 16 #[nv R] W fun e w' => e = .returned (.bool true) ∧ Below W.heap.size W w')
    (C4 : ∀ W, Calls Tryz.prog 16 #[nv S] W fun e w' => e = .returned (.bool true) ∧ Below W.heap.size W w')
    (C5 : ∀ W, Calls Tryz.prog 19 #[] W fun e w' => e = .returned (nv nn) ∧ Below W.heap.size W w')
    (C6 : ∀ W, Calls Tryz.prog 34 #[nv S, nv nn] W fun e w' => e = .returned (.tuple #[nv I, .bool ok]) ∧ Below W.heap.size W w')
    (C7 : ∀ W, Calls Tryz.prog 35 #[nv z, nv I] W fun e w' => e = .returned (nv a) ∧ Below W.heap.size W w')
    (C8 : ∀ W, Calls Tryz.prog 35 #[nv R, nv I] W fun e w' => e = .returned (nv b) ∧ Below W.heap.size W w')
    (C9 : ∀ W, Calls Tryz.prog 43 #[nv a, nv b, pv X Y false] W fun e w' => e = .returned (pv U V false) ∧ Below W.heap.size W w')
    (C10 : ∀ W, Calls Tryz.prog 18 #[nv U, .agg #[.int .u64 0, .int .u64 0, .int .u64 0, .int .u64 0], nv nn] W fun e w' => e = .returned (nv c) ∧ Below W.heap.size W w') :
    Calls Tryz.prog 15 #[pv X Y false, .string d, gv R S] w fun e w' => e = .returned (.int .i64 16) ∧ Below w.heap.size w w' := by
  go_enter Tryz.func15, Tryz.ntmps15
  obtain ⟨W0, hW0⟩ : ∃ W0, W0 = ((w.alloc (.cells #[.int .u64 (lim (X) 0), .int .u64 (lim (X) 1), .int .u64 (lim (X) 2), .int .u64 (lim (X) 3), .int .u64 (lim (Y) 0), .int .u64 (lim (Y) 1), .int .u64 (lim (Y) 2), .int .u64 (lim (Y) 3), .bool false] 28)).alloc (.cells #[.int .u64 (lim (R) 0), .int .u64 (lim (R) 1), .int .u64 (lim (R) 2), .int .u64 (lim (R) 3), .int .u64 (lim (S) 0), .int .u64 (lim (S) 1), .int .u64 (lim (S) 2), .int .u64 (lim (S) 3)] 26)) := ⟨_, rfl⟩
  have Aq : Arr W0 (w.heap.size) 9 (px (X) (Y) false) := by subst hW0; refine Arr.mk9p ?_ ?_ ?_ ?_ ?_ ?_ ?_ ?_ ?_ ?_ <;> simp [go_sem, px, sx, zx]
  have As : Arr W0 (w.heap.size + 1) 8 (sgx (R) (S)) := by subst hW0; refine Arr.mk8' ?_ ?_ ?_ ?_ ?_ ?_ ?_ ?_ ?_ <;> simp [go_sem, sgx, zg]
  have hB : Below w.heap.size w W0 := by subst hW0; go_grown
  subst hW0
  obtain ⟨cq_0, cq_1, cq_2, cq_3, cq_4, cq_5, cq_6, cq_7, cq_8⟩ := Arr.c_px Aq
  go_wp2_with fail
  refine (C1 _).mono ?_
  rintro e w1 ⟨rfl, hb⟩
  replace Aq := Arr.to' Aq hb
  replace As := Arr.to' As hb
  replace hB := Bel.call hB hb
  clear hb cq_0 cq_1 cq_2 cq_3 cq_4 cq_5 cq_6 cq_7 cq_8
  go_wp2_with fail
  refine (C2 _).mono ?_
  rintro e w12 ⟨rfl, hb⟩
  replace Aq := Arr.to' Aq hb
  replace As := Arr.to' As hb
  replace hB := Bel.call hB hb
  clear hb
  have lq_2 := Aq.lt
  have ls_2 := As.lt
  have lB_2 := hB.size
  replace Aq := (Arr.al' Aq (.cells #[.int .u64 (lim (z) 0), .int .u64 (lim (z) 1), .int .u64 (lim (z) 2), .int .u64 (lim (z) 3)] 24))
  replace As := (Arr.al' As (.cells #[.int .u64 (lim (z) 0), .int .u64 (lim (z) 1), .int .u64 (lim (z) 2), .int .u64 (lim (z) 3)] 24))
  have Az : Arr ((w12.alloc (.cells #[.int .u64 (lim (z) 0), .int .u64 (lim (z) 1), .int .u64 (lim (z) 2), .int .u64 (lim (z) 3)] 24))) (w12.heap.size) 4 (fun j => .int .u64 (lim (z) j)) := by refine Arr.mk4 ?_ ?_ ?_ ?_ ?_ ?_ ?_ ?_ <;> simp [go_sem]
  replace hB := (Bel.al hB (.cells #[.int .u64 (lim (z) 0), .int .u64 (lim (z) 1), .int .u64 (lim (z) 2), .int .u64 (lim (z) 3)] 24))
  obtain ⟨cs_0, cs_1, cs_2, cs_3, cs_4, cs_5, cs_6, cs_7⟩ := Arr.c_sgx As
  go_wp2_with fail
  refine (C3 _).mono ?_
  rintro e w13 ⟨rfl, hb⟩
  replace Aq := Arr.to' Aq hb
  replace As := Arr.to' As hb
  replace Az := Arr.to' Az hb
  replace hB := Bel.call hB hb
  clear hb cs_0 cs_1 cs_2 cs_3 cs_4 cs_5 cs_6 cs_7
  obtain ⟨cs_0, cs_1, cs_2, cs_3, cs_4, cs_5, cs_6, cs_7⟩ := Arr.c_sgx As
  go_wp2_with fail
  refine (C4 _).mono ?_
  rintro e w14 ⟨rfl, hb⟩
  replace Aq := Arr.to' Aq hb
  replace As := Arr.to' As hb
  replace Az := Arr.to' Az hb
  replace hB := Bel.call hB hb
  clear hb cs_0 cs_1 cs_2 cs_3 cs_4 cs_5 cs_6 cs_7
  go_wp2_with fail
  apply wp_region_pure_tail 4 3 #[true, true, true, true, false, false, false, true, false, false] #[true, true, true, true, true, true, true, false, false, false] (by kernel_rfl) (by intro c d v a w h; cases d <;> exact h) (by kernel_rfl) (by kernel_rfl) (.cells #[.int .u64 0, .int .u64 0, .int .u64 0, .int .u64 0] 24) _ rfl (fun _ _ => by simp [go_sem])
  · intro W hW
    obtain ⟨rs0, rs1, rs2, rs3, rs4, rs5, rs6, rs7⟩ := Arr.g_sgx (Arr.to' As hW)
    simp only [List.take_succ_cons, List.take_zero]
    repeat (go_big_quiet_step (first | (go_at_call 19; with_reducible first | exact Calls.regrown_of (C5 _)) | (go_at_call 34; with_reducible first | exact Calls.regrown_of (C6 _))))
    exact wpQuiet_nil rfl
  · exact ⟨_, Or.inl ⟨rfl, fun _ => rfl⟩, ⟨_, Or.inl ⟨rfl, fun _ => rfl⟩, ⟨_, Or.inl ⟨rfl, fun _ => rfl⟩, rfl⟩⟩⟩
  · intro v; exact ⟨_, Or.inl ⟨rfl, fun _ => rfl⟩, ⟨_, Or.inl ⟨rfl, fun _ => rfl⟩, ⟨_, Or.inl ⟨rfl, fun _ => rfl⟩, rfl⟩⟩⟩
  intro v5 w15 hb1 hb2
  simp only [List.drop_succ_cons, List.drop_zero, Act.put, List.setIfInBounds_toArray, List.set_cons_succ, List.set_cons_zero]
  have Eq := Arr.to' Aq hb1
  have lq_v5 := Eq.lt
  have Bq := Arr.to' (Arr.al' Eq _) hb2
  have Es := Arr.to' As hb1
  have ls_v5 := Es.lt
  have Bs := Arr.to' (Arr.al' Es _) hb2
  have Ez := Arr.to' Az hb1
  have lz_v5 := Ez.lt
  have Bz := Arr.to' (Arr.al' Ez _) hb2
  have Bw := (Arr.mk4 (w := (v5.alloc (.cells #[.int .u64 0, .int .u64 0, .int .u64 0, .int .u64 0] 24))) (f := fun _ => .int .u64 0) (b := v5.heap.size) (by simp [go_sem]) (by simp [go_sem]) (by simp [go_sem]) (by simp [go_sem]) (by simp [go_sem]) (by simp [go_sem]) (by simp [go_sem]) (by simp [go_sem])).below hb2 (by go_size)
  have lB_v5 := (Bel.call hB hb1).size
  have hB' := Bel.call (Bel.al (Bel.call hB hb1) _) hb2
  clear hb1 hb2 Eq Es Ez Aq As Az hB
  have Aq := Bq
  have As := Bs
  have Az := Bz
  have Aw := Bw
  have hB := hB'
  clear Bq Bs Bz Bw hB'
  have cw := Aw.c
  have zw := Aw.z
  have Bq := Arr.st4o (b' := v5.heap.size) Aq (by have := Aq.lt; have := Aw.lt; omega) (I)
  have Bs := Arr.st4o (b' := v5.heap.size) As (by have := As.lt; have := Aw.lt; omega) (I)
  have Bz := Arr.st4o (b' := v5.heap.size) Az (by have := Az.lt; have := Aw.lt; omega) (I)
  have Bw := Arr.st4 Aw (I)
  have hB' := Bel.st4 hB (b := v5.heap.size) (by have := hB.size; omega) (I)
  clear Aq As Az Aw hB
  have Aq := Bq
  have As := Bs
  have Az := Bz
  have Aw := Bw
  have hB := hB'
  clear Bq Bs Bz Bw hB'
  go_wp2_with fail
  apply wp_region_alloc_tail 9 (by kernel_rfl) (by kernel_rfl) (by kernel_rfl) (.cells #[.int .u64 0, .int .u64 0, .int .u64 0, .int .u64 0, .int .u64 0, .int .u64 0, .int .u64 0, .int .u64 0, .bool false] 28) _ rfl (fun _ _ => by simp [go_sem])
  · intro W hW
    obtain ⟨rz0, rz1, rz2, rz3⟩ := Arr.g4 (Arr.to' Az hW)
    obtain ⟨rw0, rw1, rw2, rw3⟩ := Arr.g4 (Arr.to' Aw hW)
    obtain ⟨rs0, rs1, rs2, rs3, rs4, rs5, rs6, rs7⟩ := Arr.g_sgx (Arr.to' As hW)
    obtain ⟨rq0, rq1, rq2, rq3, rq4, rq5, rq6, rq7, rq8⟩ := Arr.g_px (Arr.to' Aq hW)
    simp only [List.take_succ_cons, List.take_zero]
    repeat (go_big_quiet_step (first | (go_at_call 35; with_reducible first | exact Calls.regrown_of (C7 _) | exact Calls.regrown_of (C8 _)) | (go_at_call 43; with_reducible first | exact Calls.regrown_of (C9 _))))
    exact wpQuiet_nil rfl
  intro v6 w16 hb1 hb2
  simp only [List.drop_succ_cons, List.drop_zero, Act.put, List.setIfInBounds_toArray, List.set_cons_succ, List.set_cons_zero]
  have Eq := Arr.to' Aq hb1
  have lq_v6 := Eq.lt
  have Bq := Arr.to' (Arr.al' Eq _) hb2
  have Es := Arr.to' As hb1
  have ls_v6 := Es.lt
  have Bs := Arr.to' (Arr.al' Es _) hb2
  have Ez := Arr.to' Az hb1
  have lz_v6 := Ez.lt
  have Bz := Arr.to' (Arr.al' Ez _) hb2
  have Ew := Arr.to' Aw hb1
  have lw_v6 := Ew.lt
  have Bw := Arr.to' (Arr.al' Ew _) hb2
  have Bt := (Arr.mk9p (w := (v6.alloc (.cells #[.int .u64 0, .int .u64 0, .int .u64 0, .int .u64 0, .int .u64 0, .int .u64 0, .int .u64 0, .int .u64 0, .bool false] 28))) (f := zx 8) (b := v6.heap.size) (by simp [go_sem, px, sx, zx]) (by simp [go_sem, px, sx, zx]) (by simp [go_sem, px, sx, zx]) (by simp [go_sem, px, sx, zx]) (by simp [go_sem, px, sx, zx]) (by simp [go_sem, px, sx, zx]) (by simp [go_sem, px, sx, zx]) (by simp [go_sem, px, sx, zx]) (by simp [go_sem, px, sx, zx]) (by simp [go_sem, px, sx, zx])).below hb2 (by go_size)
  have lB_v6 := (Bel.call hB hb1).size
  have hB' := Bel.call (Bel.al (Bel.call hB hb1) _) hb2
  clear hb1 hb2 Eq Es Ez Ew Aq As Az Aw hB
  have Aq := Bq
  have As := Bs
  have Az := Bz
  have Aw := Bw
  have At := Bt
  have hB := hB'
  clear Bq Bs Bz Bw Bt hB'
  obtain ⟨ct_0, ct_1, ct_2, ct_3, ct_4, ct_5, ct_6, ct_7, ct_8⟩ := Arr.c_zp At
  have zt := At.z
  have Bq := Arr.st9o (b' := v6.heap.size) Aq (by have := Aq.lt; have := At.lt; omega) (U) (V) false
  have Bs := Arr.st9o (b' := v6.heap.size) As (by have := As.lt; have := At.lt; omega) (U) (V) false
  have Bz := Arr.st9o (b' := v6.heap.size) Az (by have := Az.lt; have := At.lt; omega) (U) (V) false
  have Bw := Arr.st9o (b' := v6.heap.size) Aw (by have := Aw.lt; have := At.lt; omega) (U) (V) false
  have Bt := Arr.st9 At (U) (V) false
  have hB' := Bel.st9 hB (b := v6.heap.size) (by have := hB.size; omega) (U) (V) false
  clear Aq As Az Aw At hB
  have Aq := Bq
  have As := Bs
  have Az := Bz
  have Aw := Bw
  have At := Bt
  have hB := hB'
  clear Bq Bs Bz Bw Bt hB'
  obtain ⟨rt0, rt1, rt2, rt3, rt4, rt5, rt6, rt7, rt8⟩ := Arr.g_px At
  obtain ⟨rs0, rs1, rs2, rs3, rs4, rs5, rs6, rs7⟩ := Arr.g_sgx As
  go_wp2_with fail
  refine wp_region_quiet_below (by kernel_rfl) (by kernel_rfl) ?_
  repeat (go_big_quiet_step (first | (go_at_call 19; with_reducible first | exact Calls.regrown_of (C5 _)) | (go_at_call 18; with_reducible first | exact Calls.regrown_of (C10 _))))
  refine wpQuiet_nil ?_
  intro w7 hw'
  obtain ⟨⟨dq, osq⟩, hw''⟩ := hw'
  have hb := below_of hw''
  clear hw''
  replace Aq := Arr.to' Aq hb
  replace As := Arr.to' As hb
  replace Az := Arr.to' Az hb
  replace Aw := Arr.to' Aw hb
  replace At := Arr.to' At hb
  replace hB := Bel.call hB hb
  clear hb ct_0 ct_1 ct_2 ct_3 ct_4 ct_5 ct_6 ct_7 ct_8 zt rt0 rt1 rt2 rt3 rt4 rt5 rt6 rt7 rt8 rs0 rs1 rs2 rs3 rs4 rs5 rs6 rs7
  go_wp2_with fail
  go_ret
  exact ⟨rfl, hB⟩
set_option maxHeartbeats 8000000 in
theorem rchk_ok (X Y R S z I a b U V c : Int) (ok : Bool) (d : ByteArray) (hq : (lim c 0 == lim R 0 && (lim c 1 == lim R 1 && (lim c 2 == lim R 2 && lim c 3 == lim R 3))) = true) (w : World)
    (C1 : ∀ W, Calls Tryz.prog 42 #[pv X Y false] W fun e w' => e = .returned (.bool true) ∧ Below W.heap.size W w')
    (C2 : ∀ W, Calls Tryz.prog 17 #[.string d] W fun e w' => e = .returned (.tuple #[nv z, .int .i64 0]) ∧ Below W.heap.size W w')
    (C3 : ∀ W, Calls Tryz.prog 16 #[nv R] W fun e w' => e = .returned (.bool true) ∧ Below W.heap.size W w')
    (C4 : ∀ W, Calls Tryz.prog 16 #[nv S] W fun e w' => e = .returned (.bool true) ∧ Below W.heap.size W w')
    (C5 : ∀ W, Calls Tryz.prog 19 #[] W fun e w' => e = .returned (nv nn) ∧ Below W.heap.size W w')
    (C6 : ∀ W, Calls Tryz.prog 34 #[nv S, nv nn] W fun e w' => e = .returned (.tuple #[nv I, .bool ok]) ∧ Below W.heap.size W w')
    (C7 : ∀ W, Calls Tryz.prog 35 #[nv z, nv I] W fun e w' => e = .returned (nv a) ∧ Below W.heap.size W w')
    (C8 : ∀ W, Calls Tryz.prog 35 #[nv R, nv I] W fun e w' => e = .returned (nv b) ∧ Below W.heap.size W w')
    (C9 : ∀ W, Calls Tryz.prog 43 #[nv a, nv b, pv X Y false] W fun e w' => e = .returned (pv U V false) ∧ Below W.heap.size W w')
    (C10 : ∀ W, Calls Tryz.prog 18 #[nv U, .agg #[.int .u64 0, .int .u64 0, .int .u64 0, .int .u64 0], nv nn] W fun e w' => e = .returned (nv c) ∧ Below W.heap.size W w') :
    Calls Tryz.prog 15 #[pv X Y false, .string d, gv R S] w fun e w' => e = .returned (.int .i64 0) ∧ Below w.heap.size w w' := by
  go_enter Tryz.func15, Tryz.ntmps15
  obtain ⟨W0, hW0⟩ : ∃ W0, W0 = ((w.alloc (.cells #[.int .u64 (lim (X) 0), .int .u64 (lim (X) 1), .int .u64 (lim (X) 2), .int .u64 (lim (X) 3), .int .u64 (lim (Y) 0), .int .u64 (lim (Y) 1), .int .u64 (lim (Y) 2), .int .u64 (lim (Y) 3), .bool false] 28)).alloc (.cells #[.int .u64 (lim (R) 0), .int .u64 (lim (R) 1), .int .u64 (lim (R) 2), .int .u64 (lim (R) 3), .int .u64 (lim (S) 0), .int .u64 (lim (S) 1), .int .u64 (lim (S) 2), .int .u64 (lim (S) 3)] 26)) := ⟨_, rfl⟩
  have Aq : Arr W0 (w.heap.size) 9 (px (X) (Y) false) := by subst hW0; refine Arr.mk9p ?_ ?_ ?_ ?_ ?_ ?_ ?_ ?_ ?_ ?_ <;> simp [go_sem, px, sx, zx]
  have As : Arr W0 (w.heap.size + 1) 8 (sgx (R) (S)) := by subst hW0; refine Arr.mk8' ?_ ?_ ?_ ?_ ?_ ?_ ?_ ?_ ?_ <;> simp [go_sem, sgx, zg]
  have hB : Below w.heap.size w W0 := by subst hW0; go_grown
  subst hW0
  obtain ⟨cq_0, cq_1, cq_2, cq_3, cq_4, cq_5, cq_6, cq_7, cq_8⟩ := Arr.c_px Aq
  go_wp2_with fail
  refine (C1 _).mono ?_
  rintro e w1 ⟨rfl, hb⟩
  replace Aq := Arr.to' Aq hb
  replace As := Arr.to' As hb
  replace hB := Bel.call hB hb
  clear hb cq_0 cq_1 cq_2 cq_3 cq_4 cq_5 cq_6 cq_7 cq_8
  go_wp2_with fail
  refine (C2 _).mono ?_
  rintro e w12 ⟨rfl, hb⟩
  replace Aq := Arr.to' Aq hb
  replace As := Arr.to' As hb
  replace hB := Bel.call hB hb
  clear hb
  have lq_2 := Aq.lt
  have ls_2 := As.lt
  have lB_2 := hB.size
  replace Aq := (Arr.al' Aq (.cells #[.int .u64 (lim (z) 0), .int .u64 (lim (z) 1), .int .u64 (lim (z) 2), .int .u64 (lim (z) 3)] 24))
  replace As := (Arr.al' As (.cells #[.int .u64 (lim (z) 0), .int .u64 (lim (z) 1), .int .u64 (lim (z) 2), .int .u64 (lim (z) 3)] 24))
  have Az : Arr ((w12.alloc (.cells #[.int .u64 (lim (z) 0), .int .u64 (lim (z) 1), .int .u64 (lim (z) 2), .int .u64 (lim (z) 3)] 24))) (w12.heap.size) 4 (fun j => .int .u64 (lim (z) j)) := by refine Arr.mk4 ?_ ?_ ?_ ?_ ?_ ?_ ?_ ?_ <;> simp [go_sem]
  replace hB := (Bel.al hB (.cells #[.int .u64 (lim (z) 0), .int .u64 (lim (z) 1), .int .u64 (lim (z) 2), .int .u64 (lim (z) 3)] 24))
  obtain ⟨cs_0, cs_1, cs_2, cs_3, cs_4, cs_5, cs_6, cs_7⟩ := Arr.c_sgx As
  go_wp2_with fail
  refine (C3 _).mono ?_
  rintro e w13 ⟨rfl, hb⟩
  replace Aq := Arr.to' Aq hb
  replace As := Arr.to' As hb
  replace Az := Arr.to' Az hb
  replace hB := Bel.call hB hb
  clear hb cs_0 cs_1 cs_2 cs_3 cs_4 cs_5 cs_6 cs_7
  obtain ⟨cs_0, cs_1, cs_2, cs_3, cs_4, cs_5, cs_6, cs_7⟩ := Arr.c_sgx As
  go_wp2_with fail
  refine (C4 _).mono ?_
  rintro e w14 ⟨rfl, hb⟩
  replace Aq := Arr.to' Aq hb
  replace As := Arr.to' As hb
  replace Az := Arr.to' Az hb
  replace hB := Bel.call hB hb
  clear hb cs_0 cs_1 cs_2 cs_3 cs_4 cs_5 cs_6 cs_7
  go_wp2_with fail
  apply wp_region_pure_tail 4 3 #[true, true, true, true, false, false, false, true, false, false] #[true, true, true, true, true, true, true, false, false, false] (by kernel_rfl) (by intro c d v a w h; cases d <;> exact h) (by kernel_rfl) (by kernel_rfl) (.cells #[.int .u64 0, .int .u64 0, .int .u64 0, .int .u64 0] 24) _ rfl (fun _ _ => by simp [go_sem])
  · intro W hW
    obtain ⟨rs0, rs1, rs2, rs3, rs4, rs5, rs6, rs7⟩ := Arr.g_sgx (Arr.to' As hW)
    simp only [List.take_succ_cons, List.take_zero]
    repeat (go_big_quiet_step (first | (go_at_call 19; with_reducible first | exact Calls.regrown_of (C5 _)) | (go_at_call 34; with_reducible first | exact Calls.regrown_of (C6 _))))
    exact wpQuiet_nil rfl
  · exact ⟨_, Or.inl ⟨rfl, fun _ => rfl⟩, ⟨_, Or.inl ⟨rfl, fun _ => rfl⟩, ⟨_, Or.inl ⟨rfl, fun _ => rfl⟩, rfl⟩⟩⟩
  · intro v; exact ⟨_, Or.inl ⟨rfl, fun _ => rfl⟩, ⟨_, Or.inl ⟨rfl, fun _ => rfl⟩, ⟨_, Or.inl ⟨rfl, fun _ => rfl⟩, rfl⟩⟩⟩
  intro v5 w15 hb1 hb2
  simp only [List.drop_succ_cons, List.drop_zero, Act.put, List.setIfInBounds_toArray, List.set_cons_succ, List.set_cons_zero]
  have Eq := Arr.to' Aq hb1
  have lq_v5 := Eq.lt
  have Bq := Arr.to' (Arr.al' Eq _) hb2
  have Es := Arr.to' As hb1
  have ls_v5 := Es.lt
  have Bs := Arr.to' (Arr.al' Es _) hb2
  have Ez := Arr.to' Az hb1
  have lz_v5 := Ez.lt
  have Bz := Arr.to' (Arr.al' Ez _) hb2
  have Bw := (Arr.mk4 (w := (v5.alloc (.cells #[.int .u64 0, .int .u64 0, .int .u64 0, .int .u64 0] 24))) (f := fun _ => .int .u64 0) (b := v5.heap.size) (by simp [go_sem]) (by simp [go_sem]) (by simp [go_sem]) (by simp [go_sem]) (by simp [go_sem]) (by simp [go_sem]) (by simp [go_sem]) (by simp [go_sem])).below hb2 (by go_size)
  have lB_v5 := (Bel.call hB hb1).size
  have hB' := Bel.call (Bel.al (Bel.call hB hb1) _) hb2
  clear hb1 hb2 Eq Es Ez Aq As Az hB
  have Aq := Bq
  have As := Bs
  have Az := Bz
  have Aw := Bw
  have hB := hB'
  clear Bq Bs Bz Bw hB'
  have cw := Aw.c
  have zw := Aw.z
  have Bq := Arr.st4o (b' := v5.heap.size) Aq (by have := Aq.lt; have := Aw.lt; omega) (I)
  have Bs := Arr.st4o (b' := v5.heap.size) As (by have := As.lt; have := Aw.lt; omega) (I)
  have Bz := Arr.st4o (b' := v5.heap.size) Az (by have := Az.lt; have := Aw.lt; omega) (I)
  have Bw := Arr.st4 Aw (I)
  have hB' := Bel.st4 hB (b := v5.heap.size) (by have := hB.size; omega) (I)
  clear Aq As Az Aw hB
  have Aq := Bq
  have As := Bs
  have Az := Bz
  have Aw := Bw
  have hB := hB'
  clear Bq Bs Bz Bw hB'
  go_wp2_with fail
  apply wp_region_alloc_tail 9 (by kernel_rfl) (by kernel_rfl) (by kernel_rfl) (.cells #[.int .u64 0, .int .u64 0, .int .u64 0, .int .u64 0, .int .u64 0, .int .u64 0, .int .u64 0, .int .u64 0, .bool false] 28) _ rfl (fun _ _ => by simp [go_sem])
  · intro W hW
    obtain ⟨rz0, rz1, rz2, rz3⟩ := Arr.g4 (Arr.to' Az hW)
    obtain ⟨rw0, rw1, rw2, rw3⟩ := Arr.g4 (Arr.to' Aw hW)
    obtain ⟨rs0, rs1, rs2, rs3, rs4, rs5, rs6, rs7⟩ := Arr.g_sgx (Arr.to' As hW)
    obtain ⟨rq0, rq1, rq2, rq3, rq4, rq5, rq6, rq7, rq8⟩ := Arr.g_px (Arr.to' Aq hW)
    simp only [List.take_succ_cons, List.take_zero]
    repeat (go_big_quiet_step (first | (go_at_call 35; with_reducible first | exact Calls.regrown_of (C7 _) | exact Calls.regrown_of (C8 _)) | (go_at_call 43; with_reducible first | exact Calls.regrown_of (C9 _))))
    exact wpQuiet_nil rfl
  intro v6 w16 hb1 hb2
  simp only [List.drop_succ_cons, List.drop_zero, Act.put, List.setIfInBounds_toArray, List.set_cons_succ, List.set_cons_zero]
  have Eq := Arr.to' Aq hb1
  have lq_v6 := Eq.lt
  have Bq := Arr.to' (Arr.al' Eq _) hb2
  have Es := Arr.to' As hb1
  have ls_v6 := Es.lt
  have Bs := Arr.to' (Arr.al' Es _) hb2
  have Ez := Arr.to' Az hb1
  have lz_v6 := Ez.lt
  have Bz := Arr.to' (Arr.al' Ez _) hb2
  have Ew := Arr.to' Aw hb1
  have lw_v6 := Ew.lt
  have Bw := Arr.to' (Arr.al' Ew _) hb2
  have Bt := (Arr.mk9p (w := (v6.alloc (.cells #[.int .u64 0, .int .u64 0, .int .u64 0, .int .u64 0, .int .u64 0, .int .u64 0, .int .u64 0, .int .u64 0, .bool false] 28))) (f := zx 8) (b := v6.heap.size) (by simp [go_sem, px, sx, zx]) (by simp [go_sem, px, sx, zx]) (by simp [go_sem, px, sx, zx]) (by simp [go_sem, px, sx, zx]) (by simp [go_sem, px, sx, zx]) (by simp [go_sem, px, sx, zx]) (by simp [go_sem, px, sx, zx]) (by simp [go_sem, px, sx, zx]) (by simp [go_sem, px, sx, zx]) (by simp [go_sem, px, sx, zx])).below hb2 (by go_size)
  have lB_v6 := (Bel.call hB hb1).size
  have hB' := Bel.call (Bel.al (Bel.call hB hb1) _) hb2
  clear hb1 hb2 Eq Es Ez Ew Aq As Az Aw hB
  have Aq := Bq
  have As := Bs
  have Az := Bz
  have Aw := Bw
  have At := Bt
  have hB := hB'
  clear Bq Bs Bz Bw Bt hB'
  obtain ⟨ct_0, ct_1, ct_2, ct_3, ct_4, ct_5, ct_6, ct_7, ct_8⟩ := Arr.c_zp At
  have zt := At.z
  have Bq := Arr.st9o (b' := v6.heap.size) Aq (by have := Aq.lt; have := At.lt; omega) (U) (V) false
  have Bs := Arr.st9o (b' := v6.heap.size) As (by have := As.lt; have := At.lt; omega) (U) (V) false
  have Bz := Arr.st9o (b' := v6.heap.size) Az (by have := Az.lt; have := At.lt; omega) (U) (V) false
  have Bw := Arr.st9o (b' := v6.heap.size) Aw (by have := Aw.lt; have := At.lt; omega) (U) (V) false
  have Bt := Arr.st9 At (U) (V) false
  have hB' := Bel.st9 hB (b := v6.heap.size) (by have := hB.size; omega) (U) (V) false
  clear Aq As Az Aw At hB
  have Aq := Bq
  have As := Bs
  have Az := Bz
  have Aw := Bw
  have At := Bt
  have hB := hB'
  clear Bq Bs Bz Bw Bt hB'
  obtain ⟨rt0, rt1, rt2, rt3, rt4, rt5, rt6, rt7, rt8⟩ := Arr.g_px At
  obtain ⟨rs0, rs1, rs2, rs3, rs4, rs5, rs6, rs7⟩ := Arr.g_sgx As
  go_wp2_with fail
  refine wp_region_quiet_below (by kernel_rfl) (by kernel_rfl) ?_
  repeat (go_big_quiet_step (first | (go_at_call 19; with_reducible first | exact Calls.regrown_of (C5 _)) | (go_at_call 18; with_reducible first | exact Calls.regrown_of (C10 _))))
  refine wpQuiet_nil ?_
  intro w7 hw'
  obtain ⟨⟨dq, osq⟩, hw''⟩ := hw'
  have hb := below_of hw''
  clear hw''
  replace Aq := Arr.to' Aq hb
  replace As := Arr.to' As hb
  replace Az := Arr.to' Az hb
  replace Aw := Arr.to' Aw hb
  replace At := Arr.to' At hb
  replace hB := Bel.call hB hb
  clear hb ct_0 ct_1 ct_2 ct_3 ct_4 ct_5 ct_6 ct_7 ct_8 zt rt0 rt1 rt2 rt3 rt4 rt5 rt6 rt7 rt8 rs0 rs1 rs2 rs3 rs4 rs5 rs6 rs7
  go_wp2_with fail
  go_ret
  exact ⟨rfl, hB⟩
end Go.Proofs.YtoolbnbfbegjaaaGreat
