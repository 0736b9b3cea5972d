/- Layer 5's Sign, of what its callees answer. -/
import Derived.Deep.Cut
import Derived.Test.YtoolbnbfbegjaaaGreatJ26
set_option linter.all false
set_option maxRecDepth 100000
namespace Go.Proofs.YtoolbnbfbegjaaaGreat
open Go.RowKit Go.Sort
set_option maxHeartbeats 16000000 in
theorem sign_no (D K r : Int) (hr : ¬ r = 0) (s : ByteArray) (o1 o2 o3 : Obj) (w : World)
    (C1 : ∀ W, Calls Tryz.prog 27 #[nv D] W fun e w' => e = .returned (.func (.func 50) #[] #[.pointer (some ⟨W.heap.size, 0, none⟩)]) ∧ w' = (W.alloc o1))
    (C2 : ∀ W, Calls Tryz.prog 27 #[nv K] W fun e w' => e = .returned (.func (.func 50) #[] #[.pointer (some ⟨W.heap.size, 0, none⟩)]) ∧ w' = (W.alloc o2))
    (C3 : ∀ W, Calls Tryz.prog 32 #[.string s] W fun e w' => e = .returned (.func (.func 56) #[] #[.pointer (some ⟨W.heap.size, 0, none⟩)]) ∧ w' = (W.alloc o3))
    (CF : Calls Tryz.prog 26 #[.slice (some ⟨w.heap.size + 1 + 1 + 1 + 1 + 1 + 1, 0, none⟩) 3 3] ((((((((w.alloc (.cells #[.int .u64 (lim (D) 0), .int .u64 (lim (D) 1), .int .u64 (lim (D) 2), .int .u64 (lim (D) 3)] 24)).alloc (.cells #[.int .u64 (lim (K) 0), .int .u64 (lim (K) 1), .int .u64 (lim (K) 2), .int .u64 (lim (K) 3)] 24)).alloc (.cells #[.int .u64 0, .int .u64 0, .int .u64 0, .int .u64 0, .int .u64 0, .int .u64 0, .int .u64 0, .int .u64 0] 26)).alloc o1).alloc o2).alloc o3).alloc (.cells #[.func (.func 50) #[] #[.pointer (some ⟨w.heap.size + 1 + 1 + 1, 0, none⟩)], .func (.func 50) #[] #[.pointer (some ⟨w.heap.size + 1 + 1 + 1 + 1, 0, none⟩)], .func (.func 56) #[] #[.pointer (some ⟨w.heap.size + 1 + 1 + 1 + 1 + 1, 0, none⟩)]] 55)).drew) fun e w' => e = .returned (.int .i64 r) ∧ Below ((((((((w.alloc (.cells #[.int .u64 (lim (D) 0), .int .u64 (lim (D) 1), .int .u64 (lim (D) 2), .int .u64 (lim (D) 3)] 24)).alloc (.cells #[.int .u64 (lim (K) 0), .int .u64 (lim (K) 1), .int .u64 (lim (K) 2), .int .u64 (lim (K) 3)] 24)).alloc (.cells #[.int .u64 0, .int .u64 0, .int .u64 0, .int .u64 0, .int .u64 0, .int .u64 0, .int .u64 0, .int .u64 0] 26)).alloc o1).alloc o2).alloc o3).alloc (.cells #[.func (.func 50) #[] #[.pointer (some ⟨w.heap.size + 1 + 1 + 1, 0, none⟩)], .func (.func 50) #[] #[.pointer (some ⟨w.heap.size + 1 + 1 + 1 + 1, 0, none⟩)], .func (.func 56) #[] #[.pointer (some ⟨w.heap.size + 1 + 1 + 1 + 1 + 1, 0, none⟩)]] 55)).drew).heap.size ((((((((w.alloc (.cells #[.int .u64 (lim (D) 0), .int .u64 (lim (D) 1), .int .u64 (lim (D) 2), .int .u64 (lim (D) 3)] 24)).alloc (.cells #[.int .u64 (lim (K) 0), .int .u64 (lim (K) 1), .int .u64 (lim (K) 2), .int .u64 (lim (K) 3)] 24)).alloc (.cells #[.int .u64 0, .int .u64 0, .int .u64 0, .int .u64 0, .int .u64 0, .int .u64 0, .int .u64 0, .int .u64 0] 26)).alloc o1).alloc o2).alloc o3).alloc (.cells #[.func (.func 50) #[] #[.pointer (some ⟨w.heap.size + 1 + 1 + 1, 0, none⟩)], .func (.func 50) #[] #[.pointer (some ⟨w.heap.size + 1 + 1 + 1 + 1, 0, none⟩)], .func (.func 56) #[] #[.pointer (some ⟨w.heap.size + 1 + 1 + 1 + 1 + 1, 0, none⟩)]] 55)).drew) w') :
    Calls Tryz.prog 9 #[nv D, nv K, .string s] w fun e w' => e = .returned (.tuple #[.agg #[.int .u64 0, .int .u64 0, .int .u64 0, .int .u64 0, .int .u64 0, .int .u64 0, .int .u64 0, .int .u64 0], .int .i64 r]) ∧ Below w.heap.size w w' := by
  have hr' : (r != 0) = true := by simpa using hr
  go_enter Tryz.func9, Tryz.ntmps9
  obtain ⟨W0, hW0⟩ : ∃ W0, W0 = (((w.alloc (.cells #[.int .u64 (lim (D) 0), .int .u64 (lim (D) 1), .int .u64 (lim (D) 2), .int .u64 (lim (D) 3)] 24)).alloc (.cells #[.int .u64 (lim (K) 0), .int .u64 (lim (K) 1), .int .u64 (lim (K) 2), .int .u64 (lim (K) 3)] 24)).alloc (.cells #[.int .u64 0, .int .u64 0, .int .u64 0, .int .u64 0, .int .u64 0, .int .u64 0, .int .u64 0, .int .u64 0] 26)) := ⟨_, rfl⟩
  have Ad : Arr W0 (w.heap.size) 4 (fun j => .int .u64 (lim (D) j)) := by subst hW0; refine Arr.mk4 ?_ ?_ ?_ ?_ ?_ ?_ ?_ ?_ <;> simp [go_sem]
  have Ak : Arr W0 (w.heap.size + 1) 4 (fun j => .int .u64 (lim (K) j)) := by subst hW0; refine Arr.mk4 ?_ ?_ ?_ ?_ ?_ ?_ ?_ ?_ <;> simp [go_sem]
  have Ao : Arr W0 (w.heap.size + 1 + 1) 8 (zg) := by subst hW0; refine Arr.mk8' ?_ ?_ ?_ ?_ ?_ ?_ ?_ ?_ ?_ <;> simp [go_sem, sgx, zg]
  have hB : Below w.heap.size w W0 := by subst hW0; go_grown
  subst hW0
  go_wp2
  have l1 := Ad.lt
  have l2 := Ak.lt
  have l3 := Ao.lt
  go_region_held3 (fun w' => w'.cell? ⟨w.heap.size, 0, none⟩ = some (.int .u64 (lim (D) 0)) ∧ w'.cell? ⟨w.heap.size, 1, none⟩ = some (.int .u64 (lim (D) 1)) ∧ w'.cell? ⟨w.heap.size, 2, none⟩ = some (.int .u64 (lim (D) 2)) ∧ w'.cell? ⟨w.heap.size, 3, none⟩ = some (.int .u64 (lim (D) 3)) ∧ w'.cell? ⟨w.heap.size + 1, 0, none⟩ = some (.int .u64 (lim (K) 0)) ∧ w'.cell? ⟨w.heap.size + 1, 1, none⟩ = some (.int .u64 (lim (K) 1)) ∧ w'.cell? ⟨w.heap.size + 1, 2, none⟩ = some (.int .u64 (lim (K) 2)) ∧ w'.cell? ⟨w.heap.size + 1, 3, none⟩ = some (.int .u64 (lim (K) 3))) (first | (simp [go_sem]; done) | (simp [cd, ck]; done)) (first | (go_at_call 27; refine (C1 _).mono ?_; rintro e w' ⟨rfl, rfl⟩) | (go_at_call 27; refine (C2 _).mono ?_; rintro e w' ⟨rfl, rfl⟩) | (go_at_call 32; refine (C3 _).mono ?_; rintro e w' ⟨rfl, rfl⟩) | (go_at_call 26; refine CF.mono ?_; rintro e w1 ⟨rfl, hb⟩; have Bd := Arr.to' (Arr.drew (Arr.al' (Arr.al' (Arr.al' (Arr.al' Ad _) _) _) _)) hb; have Bk := Arr.to' (Arr.drew (Arr.al' (Arr.al' (Arr.al' (Arr.al' Ak _) _) _) _)) hb; have Bo := Arr.to' (Arr.drew (Arr.al' (Arr.al' (Arr.al' (Arr.al' Ao _) _) _) _)) hb; have cd := Bd.c; have ck := Bk.c))
  have hk : Below w.heap.size w ((((((((w.alloc (.cells #[.int .u64 (lim (D) 0), .int .u64 (lim (D) 1), .int .u64 (lim (D) 2), .int .u64 (lim (D) 3)] 24)).alloc (.cells #[.int .u64 (lim (K) 0), .int .u64 (lim (K) 1), .int .u64 (lim (K) 2), .int .u64 (lim (K) 3)] 24)).alloc (.cells #[.int .u64 0, .int .u64 0, .int .u64 0, .int .u64 0, .int .u64 0, .int .u64 0, .int .u64 0, .int .u64 0] 26)).alloc o1).alloc o2).alloc o3).alloc (.cells #[.func (.func 50) #[] #[.pointer (some ⟨w.heap.size + 1 + 1 + 1, 0, none⟩)], .func (.func 50) #[] #[.pointer (some ⟨w.heap.size + 1 + 1 + 1 + 1, 0, none⟩)], .func (.func 56) #[] #[.pointer (some ⟨w.heap.size + 1 + 1 + 1 + 1 + 1, 0, none⟩)]] 55)).drew) := by go_grown
  have hB' := Bel.call hk hb
  clear hk hb hB Ad Ak Ao cd ck CF l1 l2 l3
  have Ad := Bd
  have Ak := Bk
  have Ao := Bo
  have hB := hB'
  clear Bd Bk Bo hB'
  have hS := hB.size
  obtain ⟨co_0, co_1, co_2, co_3, co_4, co_5, co_6, co_7⟩ := Arr.c_zg Ao
  have zo := Ao.z
  go_wp2_with fail
  refine bodyPost_ret (v := .tuple #[.agg #[.int .u64 0, .int .u64 0, .int .u64 0, .int .u64 0, .int .u64 0, .int .u64 0, .int .u64 0, .int .u64 0], .int .i64 r]) (by simp [results, Tryz.results9, go_sem, co_0, co_1, co_2, co_3, co_4, co_5, co_6, co_7]) rfl ⟨rfl, ?_⟩
  go_grown
set_option maxHeartbeats 16000000 in
theorem sign_zero (D K R S r : Int) (hr : ¬ r = 0) (s : ByteArray) (o1 o2 o3 o4 o5 : Obj) (w : World)
    (C1 : ∀ W, Calls Tryz.prog 27 #[nv D] W fun e w' => e = .returned (.func (.func 50) #[] #[.pointer (some ⟨W.heap.size, 0, none⟩)]) ∧ w' = (W.alloc o1))
    (C2 : ∀ W, Calls Tryz.prog 27 #[nv K] W fun e w' => e = .returned (.func (.func 50) #[] #[.pointer (some ⟨W.heap.size, 0, none⟩)]) ∧ w' = (W.alloc o2))
    (C3 : ∀ W, Calls Tryz.prog 32 #[.string s] W fun e w' => e = .returned (.func (.func 56) #[] #[.pointer (some ⟨W.heap.size, 0, none⟩)]) ∧ w' = (W.alloc o3))
    (CF : Calls Tryz.prog 26 #[.slice (some ⟨w.heap.size + 1 + 1 + 1 + 1 + 1 + 1, 0, none⟩) 3 3] ((((((((w.alloc (.cells #[.int .u64 (lim (D) 0), .int .u64 (lim (D) 1), .int .u64 (lim (D) 2), .int .u64 (lim (D) 3)] 24)).alloc (.cells #[.int .u64 (lim (K) 0), .int .u64 (lim (K) 1), .int .u64 (lim (K) 2), .int .u64 (lim (K) 3)] 24)).alloc (.cells #[.int .u64 0, .int .u64 0, .int .u64 0, .int .u64 0, .int .u64 0, .int .u64 0, .int .u64 0, .int .u64 0] 26)).alloc o1).alloc o2).alloc o3).alloc (.cells #[.func (.func 50) #[] #[.pointer (some ⟨w.heap.size + 1 + 1 + 1, 0, none⟩)], .func (.func 50) #[] #[.pointer (some ⟨w.heap.size + 1 + 1 + 1 + 1, 0, none⟩)], .func (.func 56) #[] #[.pointer (some ⟨w.heap.size + 1 + 1 + 1 + 1 + 1, 0, none⟩)]] 55)).drew) fun e w' => e = .returned (.int .i64 0) ∧ Below ((((((((w.alloc (.cells #[.int .u64 (lim (D) 0), .int .u64 (lim (D) 1), .int .u64 (lim (D) 2), .int .u64 (lim (D) 3)] 24)).alloc (.cells #[.int .u64 (lim (K) 0), .int .u64 (lim (K) 1), .int .u64 (lim (K) 2), .int .u64 (lim (K) 3)] 24)).alloc (.cells #[.int .u64 0, .int .u64 0, .int .u64 0, .int .u64 0, .int .u64 0, .int .u64 0, .int .u64 0, .int .u64 0] 26)).alloc o1).alloc o2).alloc o3).alloc (.cells #[.func (.func 50) #[] #[.pointer (some ⟨w.heap.size + 1 + 1 + 1, 0, none⟩)], .func (.func 50) #[] #[.pointer (some ⟨w.heap.size + 1 + 1 + 1 + 1, 0, none⟩)], .func (.func 56) #[] #[.pointer (some ⟨w.heap.size + 1 + 1 + 1 + 1 + 1, 0, none⟩)]] 55)).drew).heap.size ((((((((w.alloc (.cells #[.int .u64 (lim (D) 0), .int .u64 (lim (D) 1), .int .u64 (lim (D) 2), .int .u64 (lim (D) 3)] 24)).alloc (.cells #[.int .u64 (lim (K) 0), .int .u64 (lim (K) 1), .int .u64 (lim (K) 2), .int .u64 (lim (K) 3)] 24)).alloc (.cells #[.int .u64 0, .int .u64 0, .int .u64 0, .int .u64 0, .int .u64 0, .int .u64 0, .int .u64 0, .int .u64 0] 26)).alloc o1).alloc o2).alloc o3).alloc (.cells #[.func (.func 50) #[] #[.pointer (some ⟨w.heap.size + 1 + 1 + 1, 0, none⟩)], .func (.func 50) #[] #[.pointer (some ⟨w.heap.size + 1 + 1 + 1 + 1, 0, none⟩)], .func (.func 56) #[] #[.pointer (some ⟨w.heap.size + 1 + 1 + 1 + 1 + 1, 0, none⟩)]] 55)).drew) w')
    (C4 : ∀ W, Calls Tryz.prog 33 #[nv D, nv K, .string s] W fun e w' => e = .returned (gv R S) ∧ Below W.heap.size W w')
    (C5 : ∀ W, Calls Tryz.prog 27 #[nv R] W fun e w' => e = .returned (.func (.func 50) #[] #[.pointer (some ⟨W.heap.size, 0, none⟩)]) ∧ w' = (W.alloc o4))
    (C6 : ∀ W, Calls Tryz.prog 27 #[nv S] W fun e w' => e = .returned (.func (.func 50) #[] #[.pointer (some ⟨W.heap.size, 0, none⟩)]) ∧ w' = (W.alloc o5))
    (CG : ∀ W : World, Calls Tryz.prog 26 #[.slice (some ⟨W.heap.size + 1 + 1 + 1, 0, none⟩) 2 2] (((((W.alloc (.cells #[.int .u64 (lim (R) 0), .int .u64 (lim (R) 1), .int .u64 (lim (R) 2), .int .u64 (lim (R) 3), .int .u64 (lim (S) 0), .int .u64 (lim (S) 1), .int .u64 (lim (S) 2), .int .u64 (lim (S) 3)] 26)).alloc o4).alloc o5).alloc (.cells #[.func (.func 50) #[] #[.pointer (some ⟨W.heap.size + 1, 0, none⟩)], .func (.func 50) #[] #[.pointer (some ⟨W.heap.size + 1 + 1, 0, none⟩)]] 55)).drew) fun e w' => e = .returned (.int .i64 r) ∧ Below (((((W.alloc (.cells #[.int .u64 (lim (R) 0), .int .u64 (lim (R) 1), .int .u64 (lim (R) 2), .int .u64 (lim (R) 3), .int .u64 (lim (S) 0), .int .u64 (lim (S) 1), .int .u64 (lim (S) 2), .int .u64 (lim (S) 3)] 26)).alloc o4).alloc o5).alloc (.cells #[.func (.func 50) #[] #[.pointer (some ⟨W.heap.size + 1, 0, none⟩)], .func (.func 50) #[] #[.pointer (some ⟨W.heap.size + 1 + 1, 0, none⟩)]] 55)).drew).heap.size (((((W.alloc (.cells #[.int .u64 (lim (R) 0), .int .u64 (lim (R) 1), .int .u64 (lim (R) 2), .int .u64 (lim (R) 3), .int .u64 (lim (S) 0), .int .u64 (lim (S) 1), .int .u64 (lim (S) 2), .int .u64 (lim (S) 3)] 26)).alloc o4).alloc o5).alloc (.cells #[.func (.func 50) #[] #[.pointer (some ⟨W.heap.size + 1, 0, none⟩)], .func (.func 50) #[] #[.pointer (some ⟨W.heap.size + 1 + 1, 0, none⟩)]] 55)).drew) w') :
    Calls Tryz.prog 9 #[nv D, nv K, .string s] w fun e w' => e = .returned (.tuple #[.agg #[.int .u64 0, .int .u64 0, .int .u64 0, .int .u64 0, .int .u64 0, .int .u64 0, .int .u64 0, .int .u64 0], .int .i64 r]) ∧ Below w.heap.size w w' := by
  have hr' : (r != 0) = true := by simpa using hr
  go_enter Tryz.func9, Tryz.ntmps9
  obtain ⟨W0, hW0⟩ : ∃ W0, W0 = (((w.alloc (.cells #[.int .u64 (lim (D) 0), .int .u64 (lim (D) 1), .int .u64 (lim (D) 2), .int .u64 (lim (D) 3)] 24)).alloc (.cells #[.int .u64 (lim (K) 0), .int .u64 (lim (K) 1), .int .u64 (lim (K) 2), .int .u64 (lim (K) 3)] 24)).alloc (.cells #[.int .u64 0, .int .u64 0, .int .u64 0, .int .u64 0, .int .u64 0, .int .u64 0, .int .u64 0, .int .u64 0] 26)) := ⟨_, rfl⟩
  have Ad : Arr W0 (w.heap.size) 4 (fun j => .int .u64 (lim (D) j)) := by subst hW0; refine Arr.mk4 ?_ ?_ ?_ ?_ ?_ ?_ ?_ ?_ <;> simp [go_sem]
  have Ak : Arr W0 (w.heap.size + 1) 4 (fun j => .int .u64 (lim (K) j)) := by subst hW0; refine Arr.mk4 ?_ ?_ ?_ ?_ ?_ ?_ ?_ ?_ <;> simp [go_sem]
  have Ao : Arr W0 (w.heap.size + 1 + 1) 8 (zg) := by subst hW0; refine Arr.mk8' ?_ ?_ ?_ ?_ ?_ ?_ ?_ ?_ ?_ <;> simp [go_sem, sgx, zg]
  have hB : Below w.heap.size w W0 := by subst hW0; go_grown
  subst hW0
  go_wp2
  have l1 := Ad.lt
  have l2 := Ak.lt
  have l3 := Ao.lt
  go_region_held3 (fun w' => w'.cell? ⟨w.heap.size, 0, none⟩ = some (.int .u64 (lim (D) 0)) ∧ w'.cell? ⟨w.heap.size, 1, none⟩ = some (.int .u64 (lim (D) 1)) ∧ w'.cell? ⟨w.heap.size, 2, none⟩ = some (.int .u64 (lim (D) 2)) ∧ w'.cell? ⟨w.heap.size, 3, none⟩ = some (.int .u64 (lim (D) 3)) ∧ w'.cell? ⟨w.heap.size + 1, 0, none⟩ = some (.int .u64 (lim (K) 0)) ∧ w'.cell? ⟨w.heap.size + 1, 1, none⟩ = some (.int .u64 (lim (K) 1)) ∧ w'.cell? ⟨w.heap.size + 1, 2, none⟩ = some (.int .u64 (lim (K) 2)) ∧ w'.cell? ⟨w.heap.size + 1, 3, none⟩ = some (.int .u64 (lim (K) 3))) (first | (simp [go_sem]; done) | (simp [cd, ck]; done)) (first | (go_at_call 27; refine (C1 _).mono ?_; rintro e w' ⟨rfl, rfl⟩) | (go_at_call 27; refine (C2 _).mono ?_; rintro e w' ⟨rfl, rfl⟩) | (go_at_call 32; refine (C3 _).mono ?_; rintro e w' ⟨rfl, rfl⟩) | (go_at_call 26; refine CF.mono ?_; rintro e w1 ⟨rfl, hb⟩; have Bd := Arr.to' (Arr.drew (Arr.al' (Arr.al' (Arr.al' (Arr.al' Ad _) _) _) _)) hb; have Bk := Arr.to' (Arr.drew (Arr.al' (Arr.al' (Arr.al' (Arr.al' Ak _) _) _) _)) hb; have Bo := Arr.to' (Arr.drew (Arr.al' (Arr.al' (Arr.al' (Arr.al' Ao _) _) _) _)) hb; have cd := Bd.c; have ck := Bk.c))
  have hk : Below w.heap.size w ((((((((w.alloc (.cells #[.int .u64 (lim (D) 0), .int .u64 (lim (D) 1), .int .u64 (lim (D) 2), .int .u64 (lim (D) 3)] 24)).alloc (.cells #[.int .u64 (lim (K) 0), .int .u64 (lim (K) 1), .int .u64 (lim (K) 2), .int .u64 (lim (K) 3)] 24)).alloc (.cells #[.int .u64 0, .int .u64 0, .int .u64 0, .int .u64 0, .int .u64 0, .int .u64 0, .int .u64 0, .int .u64 0] 26)).alloc o1).alloc o2).alloc o3).alloc (.cells #[.func (.func 50) #[] #[.pointer (some ⟨w.heap.size + 1 + 1 + 1, 0, none⟩)], .func (.func 50) #[] #[.pointer (some ⟨w.heap.size + 1 + 1 + 1 + 1, 0, none⟩)], .func (.func 56) #[] #[.pointer (some ⟨w.heap.size + 1 + 1 + 1 + 1 + 1, 0, none⟩)]] 55)).drew) := by go_grown
  have hB' := Bel.call hk hb
  clear hk hb hB Ad Ak Ao cd ck CF l1 l2 l3
  have Ad := Bd
  have Ak := Bk
  have Ao := Bo
  have hB := hB'
  clear Bd Bk Bo hB'
  have cd := Ad.c
  have ck := Ak.c
  go_wp2_with fail
  refine (C4 _).mono ?_
  rintro e w12 ⟨rfl, hb⟩
  replace Ao := Arr.to' Ao hb
  replace hB := Bel.call hB hb
  clear hb cd ck Ad Ak
  -- the signature's own variable
  have lo_2 := Ao.lt
  have lB_2 := hB.size
  replace Ao := (Arr.al' Ao (.cells #[.int .u64 (lim (R) 0), .int .u64 (lim (R) 1), .int .u64 (lim (R) 2), .int .u64 (lim (R) 3), .int .u64 (lim (S) 0), .int .u64 (lim (S) 1), .int .u64 (lim (S) 2), .int .u64 (lim (S) 3)] 26))
  have Ag : Arr ((w12.alloc (.cells #[.int .u64 (lim (R) 0), .int .u64 (lim (R) 1), .int .u64 (lim (R) 2), .int .u64 (lim (R) 3), .int .u64 (lim (S) 0), .int .u64 (lim (S) 1), .int .u64 (lim (S) 2), .int .u64 (lim (S) 3)] 26))) (w12.heap.size) 8 (sgx (R) (S)) := by refine Arr.mk8' ?_ ?_ ?_ ?_ ?_ ?_ ?_ ?_ ?_ <;> simp [go_sem, sgx, zg]
  replace hB := (Bel.al hB (.cells #[.int .u64 (lim (R) 0), .int .u64 (lim (R) 1), .int .u64 (lim (R) 2), .int .u64 (lim (R) 3), .int .u64 (lim (S) 0), .int .u64 (lim (S) 1), .int .u64 (lim (S) 2), .int .u64 (lim (S) 3)] 26))
  go_wp2_with fail
  have l1 := Ag.lt
  have l3 := Ao.lt
  go_region_held3 (fun w' => w'.cell? ⟨w12.heap.size, 0, none⟩ = some (.int .u64 (lim (R) 0)) ∧ w'.cell? ⟨w12.heap.size, 1, none⟩ = some (.int .u64 (lim (R) 1)) ∧ w'.cell? ⟨w12.heap.size, 2, none⟩ = some (.int .u64 (lim (R) 2)) ∧ w'.cell? ⟨w12.heap.size, 3, none⟩ = some (.int .u64 (lim (R) 3)) ∧ w'.cell? ⟨w12.heap.size, 4, none⟩ = some (.int .u64 (lim (S) 0)) ∧ w'.cell? ⟨w12.heap.size, 5, none⟩ = some (.int .u64 (lim (S) 1)) ∧ w'.cell? ⟨w12.heap.size, 6, none⟩ = some (.int .u64 (lim (S) 2)) ∧ w'.cell? ⟨w12.heap.size, 7, none⟩ = some (.int .u64 (lim (S) 3))) (first | (simp [go_sem]; done) | (simp [cg, sgx]; done)) (first | (go_at_call 27; refine (C5 _).mono ?_; rintro e w' ⟨rfl, rfl⟩) | (go_at_call 27; refine (C6 _).mono ?_; rintro e w' ⟨rfl, rfl⟩) | (go_at_call 26; refine (CG _).mono ?_; rintro e w2 ⟨rfl, hb⟩; have Bg := Arr.to' (Arr.drew (Arr.al' (Arr.al' (Arr.al' Ag _) _) _)) hb; have Bo := Arr.to' (Arr.drew (Arr.al' (Arr.al' (Arr.al' Ao _) _) _)) hb; have cg := Bg.c))
  have hk : Below w.heap.size w (((((w12.alloc (.cells #[.int .u64 (lim (R) 0), .int .u64 (lim (R) 1), .int .u64 (lim (R) 2), .int .u64 (lim (R) 3), .int .u64 (lim (S) 0), .int .u64 (lim (S) 1), .int .u64 (lim (S) 2), .int .u64 (lim (S) 3)] 26)).alloc o4).alloc o5).alloc (.cells #[.func (.func 50) #[] #[.pointer (some ⟨w12.heap.size + 1, 0, none⟩)], .func (.func 50) #[] #[.pointer (some ⟨w12.heap.size + 1 + 1, 0, none⟩)]] 55)).drew) := (Bel.al (Bel.al (Bel.al hB _) _) _).drew
  have hB' := Bel.call hk hb
  clear hk hb hB Ag Ao cg CG l1 l3
  have Ag := Bg
  have Ao := Bo
  have hB := hB'
  clear Bg Bo hB'
  have hS := hB.size
  obtain ⟨co_0, co_1, co_2, co_3, co_4, co_5, co_6, co_7⟩ := Arr.c_zg Ao
  have zo := Ao.z
  go_wp2_with fail
  refine bodyPost_ret (v := .tuple #[.agg #[.int .u64 0, .int .u64 0, .int .u64 0, .int .u64 0, .int .u64 0, .int .u64 0, .int .u64 0, .int .u64 0], .int .i64 r]) (by simp [results, Tryz.results9, go_sem, co_0, co_1, co_2, co_3, co_4, co_5, co_6, co_7]) rfl ⟨rfl, ?_⟩
  go_grown
set_option maxHeartbeats 16000000 in
theorem sign_yes (D K R S r : Int) (hr : r = 0) (s : ByteArray) (o1 o2 o3 o4 o5 : Obj) (w : World)
    (C1 : ∀ W, Calls Tryz.prog 27 #[nv D] W fun e w' => e = .returned (.func (.func 50) #[] #[.pointer (some ⟨W.heap.size, 0, none⟩)]) ∧ w' = (W.alloc o1))
    (C2 : ∀ W, Calls Tryz.prog 27 #[nv K] W fun e w' => e = .returned (.func (.func 50) #[] #[.pointer (some ⟨W.heap.size, 0, none⟩)]) ∧ w' = (W.alloc o2))
    (C3 : ∀ W, Calls Tryz.prog 32 #[.string s] W fun e w' => e = .returned (.func (.func 56) #[] #[.pointer (some ⟨W.heap.size, 0, none⟩)]) ∧ w' = (W.alloc o3))
    (CF : Calls Tryz.prog 26 #[.slice (some ⟨w.heap.size + 1 + 1 + 1 + 1 + 1 + 1, 0, none⟩) 3 3] ((((((((w.alloc (.cells #[.int .u64 (lim (D) 0), .int .u64 (lim (D) 1), .int .u64 (lim (D) 2), .int .u64 (lim (D) 3)] 24)).alloc (.cells #[.int .u64 (lim (K) 0), .int .u64 (lim (K) 1), .int .u64 (lim (K) 2), .int .u64 (lim (K) 3)] 24)).alloc (.cells #[.int .u64 0, .int .u64 0, .int .u64 0, .int .u64 0, .int .u64 0, .int .u64 0, .int .u64 0, .int .u64 0] 26)).alloc o1).alloc o2).alloc o3).alloc (.cells #[.func (.func 50) #[] #[.pointer (some ⟨w.heap.size + 1 + 1 + 1, 0, none⟩)], .func (.func 50) #[] #[.pointer (some ⟨w.heap.size + 1 + 1 + 1 + 1, 0, none⟩)], .func (.func 56) #[] #[.pointer (some ⟨w.heap.size + 1 + 1 + 1 + 1 + 1, 0, none⟩)]] 55)).drew) fun e w' => e = .returned (.int .i64 0) ∧ Below ((((((((w.alloc (.cells #[.int .u64 (lim (D) 0), .int .u64 (lim (D) 1), .int .u64 (lim (D) 2), .int .u64 (lim (D) 3)] 24)).alloc (.cells #[.int .u64 (lim (K) 0), .int .u64 (lim (K) 1), .int .u64 (lim (K) 2), .int .u64 (lim (K) 3)] 24)).alloc (.cells #[.int .u64 0, .int .u64 0, .int .u64 0, .int .u64 0, .int .u64 0, .int .u64 0, .int .u64 0, .int .u64 0] 26)).alloc o1).alloc o2).alloc o3).alloc (.cells #[.func (.func 50) #[] #[.pointer (some ⟨w.heap.size + 1 + 1 + 1, 0, none⟩)], .func (.func 50) #[] #[.pointer (some ⟨w.heap.size + 1 + 1 + 1 + 1, 0, none⟩)], .func (.func 56) #[] #[.pointer (some ⟨w.heap.size + 1 + 1 + 1 + 1 + 1, 0, none⟩)]] 55)).drew).heap.size ((((((((w.alloc (.cells #[.int .u64 (lim (D) 0), .int .u64 (lim (D) 1), .int .u64 (lim (D) 2), .int .u64 (lim (D) 3)] 24)).alloc (.cells #[.int .u64 (lim (K) 0), .int .u64 (lim (K) 1), .int .u64 (lim (K) 2), .int .u64 (lim (K) 3)] 24)).alloc (.cells #[.int .u64 0, .int .u64 0, .int .u64 0, .int .u64 0, .int .u64 0, .int .u64 0, .int .u64 0, .int .u64 0] 26)).alloc o1).alloc o2).alloc o3).alloc (.cells #[.func (.func 50) #[] #[.pointer (some ⟨w.heap.size + 1 + 1 + 1, 0, none⟩)], .func (.func 50) #[] #[.pointer (some ⟨w.heap.size + 1 + 1 + 1 + 1, 0, none⟩)], .func (.func 56) #[] #[.pointer (some ⟨w.heap.size + 1 + 1 + 1 + 1 + 1, 0, none⟩)]] 55)).drew) w')
    (C4 : ∀ W, Calls Tryz.prog 33 #[nv D, nv K, .string s] W fun e w' => e = .returned (gv R S) ∧ Below W.heap.size W w')
    (C5 : ∀ W, Calls Tryz.prog 27 #[nv R] W fun e w' => e = .returned (.func (.func 50) #[] #[.pointer (some ⟨W.heap.size, 0, none⟩)]) ∧ w' = (W.alloc o4))
    (C6 : ∀ W, Calls Tryz.prog 27 #[nv S] W fun e w' => e = .returned (.func (.func 50) #[] #[.pointer (some ⟨W.heap.size, 0, none⟩)]) ∧ w' = (W.alloc o5))
    (CG : ∀ W : World, Calls Tryz.prog 26 #[.slice (some ⟨W.heap.size + 1 + 1 + 1, 0, none⟩) 2 2] (((((W.alloc (.cells #[.int .u64 (lim (R) 0), .int .u64 (lim (R) 1), .int .u64 (lim (R) 2), .int .u64 (lim (R) 3), .int .u64 (lim (S) 0), .int .u64 (lim (S) 1), .int .u64 (lim (S) 2), .int .u64 (lim (S) 3)] 26)).alloc o4).alloc o5).alloc (.cells #[.func (.func 50) #[] #[.pointer (some ⟨W.heap.size + 1, 0, none⟩)], .func (.func 50) #[] #[.pointer (some ⟨W.heap.size + 1 + 1, 0, none⟩)]] 55)).drew) fun e w' => e = .returned (.int .i64 r) ∧ Below (((((W.alloc (.cells #[.int .u64 (lim (R) 0), .int .u64 (lim (R) 1), .int .u64 (lim (R) 2), .int .u64 (lim (R) 3), .int .u64 (lim (S) 0), .int .u64 (lim (S) 1), .int .u64 (lim (S) 2), .int .u64 (lim (S) 3)] 26)).alloc o4).alloc o5).alloc (.cells #[.func (.func 50) #[] #[.pointer (some ⟨W.heap.size + 1, 0, none⟩)], .func (.func 50) #[] #[.pointer (some ⟨W.heap.size + 1 + 1, 0, none⟩)]] 55)).drew).heap.size (((((W.alloc (.cells #[.int .u64 (lim (R) 0), .int .u64 (lim (R) 1), .int .u64 (lim (R) 2), .int .u64 (lim (R) 3), .int .u64 (lim (S) 0), .int .u64 (lim (S) 1), .int .u64 (lim (S) 2), .int .u64 (lim (S) 3)] 26)).alloc o4).alloc o5).alloc (.cells #[.func (.func 50) #[] #[.pointer (some ⟨W.heap.size + 1, 0, none⟩)], .func (.func 50) #[] #[.pointer (some ⟨W.heap.size + 1 + 1, 0, none⟩)]] 55)).drew) w') :
    Calls Tryz.prog 9 #[nv D, nv K, .string s] w fun e w' => e = .returned (.tuple #[gv R S, .int .i64 0]) ∧ Below w.heap.size w w' := by
  subst hr
  go_enter Tryz.func9, Tryz.ntmps9
  obtain ⟨W0, hW0⟩ : ∃ W0, W0 = (((w.alloc (.cells #[.int .u64 (lim (D) 0), .int .u64 (lim (D) 1), .int .u64 (lim (D) 2), .int .u64 (lim (D) 3)] 24)).alloc (.cells #[.int .u64 (lim (K) 0), .int .u64 (lim (K) 1), .int .u64 (lim (K) 2), .int .u64 (lim (K) 3)] 24)).alloc (.cells #[.int .u64 0, .int .u64 0, .int .u64 0, .int .u64 0, .int .u64 0, .int .u64 0, .int .u64 0, .int .u64 0] 26)) := ⟨_, rfl⟩
  have Ad : Arr W0 (w.heap.size) 4 (fun j => .int .u64 (lim (D) j)) := by subst hW0; refine Arr.mk4 ?_ ?_ ?_ ?_ ?_ ?_ ?_ ?_ <;> simp [go_sem]
  have Ak : Arr W0 (w.heap.size + 1) 4 (fun j => .int .u64 (lim (K) j)) := by subst hW0; refine Arr.mk4 ?_ ?_ ?_ ?_ ?_ ?_ ?_ ?_ <;> simp [go_sem]
  have Ao : Arr W0 (w.heap.size + 1 + 1) 8 (zg) := by subst hW0; refine Arr.mk8' ?_ ?_ ?_ ?_ ?_ ?_ ?_ ?_ ?_ <;> simp [go_sem, sgx, zg]
  have hB : Below w.heap.size w W0 := by subst hW0; go_grown
  subst hW0
  go_wp2
  have l1 := Ad.lt
  have l2 := Ak.lt
  have l3 := Ao.lt
  go_region_held3 (fun w' => w'.cell? ⟨w.heap.size, 0, none⟩ = some (.int .u64 (lim (D) 0)) ∧ w'.cell? ⟨w.heap.size, 1, none⟩ = some (.int .u64 (lim (D) 1)) ∧ w'.cell? ⟨w.heap.size, 2, none⟩ = some (.int .u64 (lim (D) 2)) ∧ w'.cell? ⟨w.heap.size, 3, none⟩ = some (.int .u64 (lim (D) 3)) ∧ w'.cell? ⟨w.heap.size + 1, 0, none⟩ = some (.int .u64 (lim (K) 0)) ∧ w'.cell? ⟨w.heap.size + 1, 1, none⟩ = some (.int .u64 (lim (K) 1)) ∧ w'.cell? ⟨w.heap.size + 1, 2, none⟩ = some (.int .u64 (lim (K) 2)) ∧ w'.cell? ⟨w.heap.size + 1, 3, none⟩ = some (.int .u64 (lim (K) 3))) (first | (simp [go_sem]; done) | (simp [cd, ck]; done)) (first | (go_at_call 27; refine (C1 _).mono ?_; rintro e w' ⟨rfl, rfl⟩) | (go_at_call 27; refine (C2 _).mono ?_; rintro e w' ⟨rfl, rfl⟩) | (go_at_call 32; refine (C3 _).mono ?_; rintro e w' ⟨rfl, rfl⟩) | (go_at_call 26; refine CF.mono ?_; rintro e w1 ⟨rfl, hb⟩; have Bd := Arr.to' (Arr.drew (Arr.al' (Arr.al' (Arr.al' (Arr.al' Ad _) _) _) _)) hb; have Bk := Arr.to' (Arr.drew (Arr.al' (Arr.al' (Arr.al' (Arr.al' Ak _) _) _) _)) hb; have Bo := Arr.to' (Arr.drew (Arr.al' (Arr.al' (Arr.al' (Arr.al' Ao _) _) _) _)) hb; have cd := Bd.c; have ck := Bk.c))
  have hk : Below w.heap.size w ((((((((w.alloc (.cells #[.int .u64 (lim (D) 0), .int .u64 (lim (D) 1), .int .u64 (lim (D) 2), .int .u64 (lim (D) 3)] 24)).alloc (.cells #[.int .u64 (lim (K) 0), .int .u64 (lim (K) 1), .int .u64 (lim (K) 2), .int .u64 (lim (K) 3)] 24)).alloc (.cells #[.int .u64 0, .int .u64 0, .int .u64 0, .int .u64 0, .int .u64 0, .int .u64 0, .int .u64 0, .int .u64 0] 26)).alloc o1).alloc o2).alloc o3).alloc (.cells #[.func (.func 50) #[] #[.pointer (some ⟨w.heap.size + 1 + 1 + 1, 0, none⟩)], .func (.func 50) #[] #[.pointer (some ⟨w.heap.size + 1 + 1 + 1 + 1, 0, none⟩)], .func (.func 56) #[] #[.pointer (some ⟨w.heap.size + 1 + 1 + 1 + 1 + 1, 0, none⟩)]] 55)).drew) := by go_grown
  have hB' := Bel.call hk hb
  clear hk hb hB Ad Ak Ao cd ck CF l1 l2 l3
  have Ad := Bd
  have Ak := Bk
  have Ao := Bo
  have hB := hB'
  clear Bd Bk Bo hB'
  have cd := Ad.c
  have ck := Ak.c
  go_wp2_with fail
  refine (C4 _).mono ?_
  rintro e w12 ⟨rfl, hb⟩
  replace Ao := Arr.to' Ao hb
  replace hB := Bel.call hB hb
  clear hb cd ck Ad Ak
  -- the signature's own variable
  have lo_2 := Ao.lt
  have lB_2 := hB.size
  replace Ao := (Arr.al' Ao (.cells #[.int .u64 (lim (R) 0), .int .u64 (lim (R) 1), .int .u64 (lim (R) 2), .int .u64 (lim (R) 3), .int .u64 (lim (S) 0), .int .u64 (lim (S) 1), .int .u64 (lim (S) 2), .int .u64 (lim (S) 3)] 26))
  have Ag : Arr ((w12.alloc (.cells #[.int .u64 (lim (R) 0), .int .u64 (lim (R) 1), .int .u64 (lim (R) 2), .int .u64 (lim (R) 3), .int .u64 (lim (S) 0), .int .u64 (lim (S) 1), .int .u64 (lim (S) 2), .int .u64 (lim (S) 3)] 26))) (w12.heap.size) 8 (sgx (R) (S)) := by refine Arr.mk8' ?_ ?_ ?_ ?_ ?_ ?_ ?_ ?_ ?_ <;> simp [go_sem, sgx, zg]
  replace hB := (Bel.al hB (.cells #[.int .u64 (lim (R) 0), .int .u64 (lim (R) 1), .int .u64 (lim (R) 2), .int .u64 (lim (R) 3), .int .u64 (lim (S) 0), .int .u64 (lim (S) 1), .int .u64 (lim (S) 2), .int .u64 (lim (S) 3)] 26))
  go_wp2_with fail
  have l1 := Ag.lt
  have l3 := Ao.lt
  go_region_held3 (fun w' => w'.cell? ⟨w12.heap.size, 0, none⟩ = some (.int .u64 (lim (R) 0)) ∧ w'.cell? ⟨w12.heap.size, 1, none⟩ = some (.int .u64 (lim (R) 1)) ∧ w'.cell? ⟨w12.heap.size, 2, none⟩ = some (.int .u64 (lim (R) 2)) ∧ w'.cell? ⟨w12.heap.size, 3, none⟩ = some (.int .u64 (lim (R) 3)) ∧ w'.cell? ⟨w12.heap.size, 4, none⟩ = some (.int .u64 (lim (S) 0)) ∧ w'.cell? ⟨w12.heap.size, 5, none⟩ = some (.int .u64 (lim (S) 1)) ∧ w'.cell? ⟨w12.heap.size, 6, none⟩ = some (.int .u64 (lim (S) 2)) ∧ w'.cell? ⟨w12.heap.size, 7, none⟩ = some (.int .u64 (lim (S) 3))) (first | (simp [go_sem]; done) | (simp [cg, sgx]; done)) (first | (go_at_call 27; refine (C5 _).mono ?_; rintro e w' ⟨rfl, rfl⟩) | (go_at_call 27; refine (C6 _).mono ?_; rintro e w' ⟨rfl, rfl⟩) | (go_at_call 26; refine (CG _).mono ?_; rintro e w2 ⟨rfl, hb⟩; have Bg := Arr.to' (Arr.drew (Arr.al' (Arr.al' (Arr.al' Ag _) _) _)) hb; have Bo := Arr.to' (Arr.drew (Arr.al' (Arr.al' (Arr.al' Ao _) _) _)) hb; have cg := Bg.c))
  have hk : Below w.heap.size w (((((w12.alloc (.cells #[.int .u64 (lim (R) 0), .int .u64 (lim (R) 1), .int .u64 (lim (R) 2), .int .u64 (lim (R) 3), .int .u64 (lim (S) 0), .int .u64 (lim (S) 1), .int .u64 (lim (S) 2), .int .u64 (lim (S) 3)] 26)).alloc o4).alloc o5).alloc (.cells #[.func (.func 50) #[] #[.pointer (some ⟨w12.heap.size + 1, 0, none⟩)], .func (.func 50) #[] #[.pointer (some ⟨w12.heap.size + 1 + 1, 0, none⟩)]] 55)).drew) := (Bel.al (Bel.al (Bel.al hB _) _) _).drew
  have hB' := Bel.call hk hb
  clear hk hb hB Ag Ao cg CG l1 l3
  have Ag := Bg
  have Ao := Bo
  have hB := hB'
  clear Bg Bo hB'
  obtain ⟨cg_0, cg_1, cg_2, cg_3, cg_4, cg_5, cg_6, cg_7⟩ := Arr.c_sgx Ag
  have hS := hB.size
  obtain ⟨co_0, co_1, co_2, co_3, co_4, co_5, co_6, co_7⟩ := Arr.c_zg Ao
  have zo := Ao.z
  go_wp2_with fail
  refine bodyPost_ret (v := .tuple #[gv R S, .int .i64 0]) (by simp [results, Tryz.results9, go_sem, co_0, co_1, co_2, co_3, co_4, co_5, co_6, co_7]) rfl ⟨rfl, ?_⟩
  go_grown
set_option maxHeartbeats 8000000 in
theorem signed_core (D K U V X Y R N a b I S : Int) (i k : Bool) (s : ByteArray) (w : World)
    (C1 : ∀ W, Calls Tryz.prog 29 #[] W fun e w' => e = .returned (pv U V i) ∧ Below W.heap.size W w')
    (C2 : ∀ W, Calls Tryz.prog 28 #[nv K, pv U V i] W fun e w' => e = .returned (pv X Y k) ∧ Below W.heap.size W w')
    (C3 : ∀ W, Calls Tryz.prog 57 #[pv X Y k] W fun e w' => e = .returned (nv R) ∧ Below W.heap.size W w')
    (C4 : ∀ W, Calls Tryz.prog 59 #[.string s] W fun e w' => e = .returned (nv N) ∧ Below W.heap.size W w')
    (C5 : ∀ W, Calls Tryz.prog 60 #[nv R, nv D] W fun e w' => e = .returned (nv a) ∧ Below W.heap.size W w')
    (C6 : ∀ W, Calls Tryz.prog 58 #[nv N, nv a] W fun e w' => e = .returned (nv b) ∧ Below W.heap.size W w')
    (C7 : ∀ W, Calls Tryz.prog 61 #[nv K] W fun e w' => e = .returned (nv I) ∧ Below W.heap.size W w')
    (C8 : ∀ W, Calls Tryz.prog 60 #[nv I, nv b] W fun e w' => e = .returned (nv S) ∧ Below W.heap.size W w') :
    Calls Tryz.prog 33 #[nv D, nv K, .string s] w fun e w' => e = .returned (gv R S) ∧ Below w.heap.size w w' := by
  go_enter Tryz.func33, Tryz.ntmps33
  go_wp2_with fail
  obtain ⟨W0, hW0⟩ : ∃ W0, W0 = (((w.alloc (.cells #[.int .u64 (lim (D) 0), .int .u64 (lim (D) 1), .int .u64 (lim (D) 2), .int .u64 (lim (D) 3)] 24)).alloc (.cells #[.int .u64 (lim (K) 0), .int .u64 (lim (K) 1), .int .u64 (lim (K) 2), .int .u64 (lim (K) 3)] 24)).alloc (.cells #[.int .u64 0, .int .u64 0, .int .u64 0, .int .u64 0, .int .u64 0, .int .u64 0, .int .u64 0, .int .u64 0] 26)) := ⟨_, rfl⟩
  have Ad : Arr W0 (w.heap.size) 4 (fun j => .int .u64 (lim (D) j)) := by subst hW0; refine Arr.mk4 ?_ ?_ ?_ ?_ ?_ ?_ ?_ ?_ <;> simp [go_sem]
  have Ak : Arr W0 (w.heap.size + 1) 4 (fun j => .int .u64 (lim (K) j)) := by subst hW0; refine Arr.mk4 ?_ ?_ ?_ ?_ ?_ ?_ ?_ ?_ <;> simp [go_sem]
  have Ao : Arr W0 (w.heap.size + 1 + 1) 8 (zg) := by subst hW0; refine Arr.mk8' ?_ ?_ ?_ ?_ ?_ ?_ ?_ ?_ ?_ <;> simp [go_sem, sgx, zg]
  have hB : Below w.heap.size w W0 := by subst hW0; go_grown
  subst hW0
  apply wp_region_alloc_tail 4 (by kernel_rfl) (by kernel_rfl) (by kernel_rfl) (.cells #[.int .u64 0, .int .u64 0, .int .u64 0, .int .u64 0] 24) _ rfl (fun _ _ => by simp [go_sem])
  · intro W hW
    obtain ⟨rk0, rk1, rk2, rk3⟩ := Arr.g4 (Arr.to' Ak hW)
    simp only [List.take_succ_cons, List.take_zero]
    repeat (go_big_quiet_step (first | (go_at_call 29; with_reducible first | exact Calls.regrown_of (C1 _)) | (go_at_call 28; with_reducible first | exact Calls.regrown_of (C2 _)) | (go_at_call 57; with_reducible first | exact Calls.regrown_of (C3 _))))
    exact wpQuiet_nil rfl
  intro v1 w11 hb1 hb2
  simp only [List.drop_succ_cons, List.drop_zero, Act.put, List.setIfInBounds_toArray, List.set_cons_succ, List.set_cons_zero]
  have Ed := Arr.to' Ad hb1
  have ld_v1 := Ed.lt
  have Bd := Arr.to' (Arr.al' Ed _) hb2
  have Ek := Arr.to' Ak hb1
  have lk_v1 := Ek.lt
  have Bk := Arr.to' (Arr.al' Ek _) hb2
  have Eo := Arr.to' Ao hb1
  have lo_v1 := Eo.lt
  have Bo := Arr.to' (Arr.al' Eo _) hb2
  have Br := (Arr.mk4 (w := (v1.alloc (.cells #[.int .u64 0, .int .u64 0, .int .u64 0, .int .u64 0] 24))) (f := fun _ => .int .u64 0) (b := v1.heap.size) (by simp [go_sem]) (by simp [go_sem]) (by simp [go_sem]) (by simp [go_sem]) (by simp [go_sem]) (by simp [go_sem]) (by simp [go_sem]) (by simp [go_sem])).below hb2 (by go_size)
  have lB_v1 := (Bel.call hB hb1).size
  have hB' := Bel.call (Bel.al (Bel.call hB hb1) _) hb2
  clear hb1 hb2 Ed Ek Eo Ad Ak Ao hB
  have Ad := Bd
  have Ak := Bk
  have Ao := Bo
  have Ar := Br
  have hB := hB'
  clear Bd Bk Bo Br hB'
  have cr := Ar.c
  have zr := Ar.z
  have Bd := Arr.st4o (b' := v1.heap.size) Ad (by have := Ad.lt; have := Ar.lt; omega) (R)
  have Bk := Arr.st4o (b' := v1.heap.size) Ak (by have := Ak.lt; have := Ar.lt; omega) (R)
  have Bo := Arr.st4o (b' := v1.heap.size) Ao (by have := Ao.lt; have := Ar.lt; omega) (R)
  have Br := Arr.st4 Ar (R)
  have hB' := Bel.st4 hB (b := v1.heap.size) (by have := hB.size; omega) (R)
  clear Ad Ak Ao Ar hB
  have Ad := Bd
  have Ak := Bk
  have Ao := Bo
  have Ar := Br
  have hB := hB'
  clear Bd Bk Bo Br hB'
  go_wp2_with fail
  apply wp_region_alloc_tail 6 (by kernel_rfl) (by kernel_rfl) (by kernel_rfl) (.cells #[.int .u64 0, .int .u64 0, .int .u64 0, .int .u64 0] 24) _ rfl (fun _ _ => by simp [go_sem])
  · intro W hW
    obtain ⟨rd0, rd1, rd2, rd3⟩ := Arr.g4 (Arr.to' Ad hW)
    obtain ⟨rr0, rr1, rr2, rr3⟩ := Arr.g4 (Arr.to' Ar hW)
    simp only [List.take_succ_cons, List.take_zero]
    repeat (go_big_quiet_step (first | (go_at_call 59; with_reducible first | exact Calls.regrown_of (C4 _)) | (go_at_call 60; with_reducible first | exact Calls.regrown_of (C5 _)) | (go_at_call 58; with_reducible first | exact Calls.regrown_of (C6 _))))
    exact wpQuiet_nil rfl
  intro v2 w12 hb1 hb2
  simp only [List.drop_succ_cons, List.drop_zero, Act.put, List.setIfInBounds_toArray, List.set_cons_succ, List.set_cons_zero]
  have Ed := Arr.to' Ad hb1
  have ld_v2 := Ed.lt
  have Bd := Arr.to' (Arr.al' Ed _) hb2
  have Ek := Arr.to' Ak hb1
  have lk_v2 := Ek.lt
  have Bk := Arr.to' (Arr.al' Ek _) hb2
  have Eo := Arr.to' Ao hb1
  have lo_v2 := Eo.lt
  have Bo := Arr.to' (Arr.al' Eo _) hb2
  have Er := Arr.to' Ar hb1
  have lr_v2 := Er.lt
  have Br := Arr.to' (Arr.al' Er _) hb2
  have Bt := (Arr.mk4 (w := (v2.alloc (.cells #[.int .u64 0, .int .u64 0, .int .u64 0, .int .u64 0] 24))) (f := fun _ => .int .u64 0) (b := v2.heap.size) (by simp [go_sem]) (by simp [go_sem]) (by simp [go_sem]) (by simp [go_sem]) (by simp [go_sem]) (by simp [go_sem]) (by simp [go_sem]) (by simp [go_sem])).below hb2 (by go_size)
  have lB_v2 := (Bel.call hB hb1).size
  have hB' := Bel.call (Bel.al (Bel.call hB hb1) _) hb2
  clear hb1 hb2 Ed Ek Eo Er Ad Ak Ao Ar hB
  have Ad := Bd
  have Ak := Bk
  have Ao := Bo
  have Ar := Br
  have At := Bt
  have hB := hB'
  clear Bd Bk Bo Br Bt hB'
  have ct := At.c
  have zt := At.z
  have Bd := Arr.st4o (b' := v2.heap.size) Ad (by have := Ad.lt; have := At.lt; omega) (b)
  have Bk := Arr.st4o (b' := v2.heap.size) Ak (by have := Ak.lt; have := At.lt; omega) (b)
  have Bo := Arr.st4o (b' := v2.heap.size) Ao (by have := Ao.lt; have := At.lt; omega) (b)
  have Br := Arr.st4o (b' := v2.heap.size) Ar (by have := Ar.lt; have := At.lt; omega) (b)
  have Bt := Arr.st4 At (b)
  have hB' := Bel.st4 hB (b := v2.heap.size) (by have := hB.size; omega) (b)
  clear Ad Ak Ao Ar At hB
  have Ad := Bd
  have Ak := Bk
  have Ao := Bo
  have Ar := Br
  have At := Bt
  have hB := hB'
  clear Bd Bk Bo Br Bt hB'
  obtain ⟨rk0, rk1, rk2, rk3⟩ := Arr.g4 Ak
  obtain ⟨rr0, rr1, rr2, rr3⟩ := Arr.g4 Ar
  obtain ⟨rt0, rt1, rt2, rt3⟩ := Arr.g4 At
  go_wp2_with fail
  refine wp_region_below_tail 6 (by kernel_rfl) (by kernel_rfl) ?_
  simp only [List.take_succ_cons, List.take_zero, List.drop_succ_cons, List.drop_zero]
  repeat (go_big_quiet_step (first | (go_at_call 61; with_reducible first | exact Calls.regrown_of (C7 _)) | (go_at_call 60; with_reducible first | exact Calls.regrown_of (C8 _))))
  refine wpQuiet_nil ?_
  intro w3 hw'
  obtain ⟨⟨dq, osq⟩, hw''⟩ := hw'
  have hb := below_of hw''
  clear hw''
  replace Ao := Arr.to' Ao hb
  replace hB := Bel.call hB hb
  clear hb ct zt rk0 rk1 rk2 rk3 rr0 rr1 rr2 rr3 rt0 rt1 rt2 rt3 Ad Ak Ar At
  have hS := hB.size
  obtain ⟨co_0, co_1, co_2, co_3, co_4, co_5, co_6, co_7⟩ := Arr.c_zg Ao
  have zo := Ao.z
  go_wp2_with fail
  refine bodyPost_ret (v := gv R S) (by simp [results, Tryz.results33, go_sem, co_0, co_1, co_2, co_3, co_4, co_5, co_6, co_7]) rfl ⟨rfl, ?_⟩
  go_grown
end Go.Proofs.YtoolbnbfbegjaaaGreat
