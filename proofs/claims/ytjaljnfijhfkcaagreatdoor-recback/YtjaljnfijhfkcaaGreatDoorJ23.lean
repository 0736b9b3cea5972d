/- The reference: Unprotect. -/
import Derived.Test.YtjaljnfijhfkcaaGreatDoorJ22
set_option linter.all false
set_option maxRecDepth 100000
namespace Go.Proofs.YtjaljnfijhfkcaaGreatDoor
open Go.RowKit Go.Sort Lin
set_option maxHeartbeats 1000000 in
theorem rOpen_long (key nonce ad s : ByteArray) (hs : 65552 < s.size) (w : World)
    (C30 : ∀ W, Calls Tryz.prog 44 #[.string key, .string nonce] W fun e w' => e = .returned (.int .i64 0) ∧ w' = W) :
    Calls Tryz.prog 27 #[.string key, .string nonce, .string ad, .string s] w fun e w' => e = .returned (.tuple #[.string ⟨#[]⟩, .int .i64 12]) ∧ Below w.heap.size w w' := by
  have s1 : (65552 : Int) < (s.size : Int) := by omega
  have s2 : ¬ (s.size : Int) < 16 := by omega
  clear hs
  go_enter Tryz.func27, Tryz.ntmps27
  go_wp2_with (go_at_call 44; refine (C30 _).mono ?_; rintro e w1 ⟨rfl, rfl⟩)
  refine bodyPost_ret (v := .tuple #[.string ⟨#[]⟩, .int .i64 12]) (by simp [results, Tryz.results27, go_sem]) rfl ⟨rfl, by first | exact Below.refl _ _ | go_grown⟩
theorem rOpen_all (key nonce ad s : ByteArray) (hk : key.size = 16) (hn : nonce.size = 12) (ha : ad.size ≤ 1000000) (w : World) :
    Calls Tryz.prog 27 #[.string key, .string nonce, .string ad, .string s] w fun e w' => e = .returned (.tuple #[.string (oqS key nonce ad s), .int .i64 (oqE key nonce ad s)]) ∧ Below w.heap.size w w' := by
  have r := rfg_ok hk hn
  unfold oqS oqE
  by_cases h : 65552 < s.size
  · rw [if_pos ⟨r, h⟩, if_pos ⟨r, h⟩]
    have C := fun W => rgsized_any key nonce W
    rw [r] at C
    exact rOpen_long key nonce ad s h w C
  · rw [if_neg (fun c => h c.2), if_neg (fun c => h c.2)]
    exact rOpen_any key nonce ad s (by omega) ha (by omega) w
/-- What is left of a text is what stood there, with bytes 0 behind. -/
theorem tr_app (l : List UInt8) (c : UInt8) : ∃ m, l = Lib.trimRightB l c ++ List.replicate m c := by
  unfold Lib.trimRightB
  generalize hr : l.reverse = r
  have el : l = r.reverse := by rw [← hr, List.reverse_reverse]
  subst el
  clear hr
  induction r with
  | nil => exact ⟨0, by simp⟩
  | cons x r ih =>
    by_cases e : x = c
    · subst e
      obtain ⟨m, hm⟩ := ih
      refine ⟨m + 1, ?_⟩
      rw [List.dropWhile_cons_of_pos (by simp), List.reverse_cons]
      rw [List.replicate_succ']
      rw [← List.append_assoc, ← hm]
    · refine ⟨0, ?_⟩
      rw [List.dropWhile_cons_of_neg (by simpa using e)]
      simp
theorem tr_last (l : List UInt8) (c x : UInt8) (r : List UInt8) (h : (Lib.trimRightB l c).reverse = x :: r) : x ≠ c := by
  unfold Lib.trimRightB at h
  rw [List.reverse_reverse] at h
  intro e
  have := List.head?_dropWhile_not (· == c) l.reverse
  rw [h] at this
  simp [e] at this
theorem trS_ext (s : ByteArray) : s.extract 0 (trS s).size = trS s := by
  apply ba_ext
  obtain ⟨m, hm⟩ := tr_app s.data.toList 0
  have hz : (trS s).size = (Lib.trimRightB s.data.toList 0).length := by rw [← len_list, trS_list]
  rw [ext_list, List.drop_zero, Nat.sub_zero, hz, trS_list]
  generalize Lib.trimRightB s.data.toList 0 = T at *
  rw [hm]
  simp
theorem trS_low (s : ByteArray) (j : Nat) (hj : j < (trS s).size) : bt (trS s) j = bt s j := by
  rw [← trS_ext s, bt_ext _ _ _ _ (by rw [Nat.zero_add]; exact hj) (trS_le s), Nat.zero_add]
theorem trS_high (s : ByteArray) (j : Nat) (h1 : (trS s).size ≤ j) (h2 : j < s.size) : bt s j = 0 := by
  obtain ⟨m, hm⟩ := tr_app s.data.toList 0
  have e : s.data[j]? = some 0 := by
    have : s.data[j]? = s.data.toList[j]? := by rw [Array.getElem?_toList]
    rw [this, hm, List.getElem?_append_right (by rw [← trS_list, len_list]; exact h1), List.getElem?_replicate, if_pos]
    have hz : (trS s).size = (Lib.trimRightB s.data.toList 0).length := by rw [← len_list, trS_list]
    have := congrArg List.length hm
    rw [List.length_append, len_list, List.length_replicate] at this
    omega
  unfold bt
  rw [e]
  rfl
theorem trS_end (s : ByteArray) (h : (trS s).size ≠ 0) : bt s ((trS s).size - 1) ≠ 0 := by
  rw [← trS_low s _ (by omega)]
  have hl := trS_list s
  have hz := len_list (trS s)
  cases hr : (trS s).data.toList.reverse with
  | nil =>
    have : (trS s).data.toList = [] := by simpa using hr
    rw [this] at hz
    exact absurd hz.symm h
  | cons x r =>
    have hx : x ≠ 0 := tr_last s.data.toList 0 x r (by rw [← hl]; exact hr)
    have e : (trS s).data.toList = r.reverse ++ [x] := by
      have := congrArg List.reverse hr
      simpa using this
    have e2 : (trS s).data[(trS s).size - 1]? = some x := by
      have : (trS s).data[(trS s).size - 1]? = (trS s).data.toList[(trS s).size - 1]? := by rw [Array.getElem?_toList]
      rw [this, ← hz, e]
      simp
    unfold bt
    rw [e2]
    intro c
    apply hx
    have : x.toNat = 0 := by simpa using c
    exact UInt8.toNat_inj.1 this
set_option maxHeartbeats 2000000 in
theorem rUnprotect_1 (key iv b N : ByteArray) (k q r : Int) (hr : ¬ r = 0) (w : World)
    (C1 : ∀ W, Calls Tryz.prog 9 #[sdV key iv q] W fun e w' => e = .returned (.tuple #[.string N, .int .i64 r]) ∧ Below W.heap.size W w') :
    Calls Tryz.prog 13 #[sdV key iv q, rcV k b] w fun e w' => e = .returned (.tuple #[sdV key iv q, rcV 0 ⟨#[]⟩, .int .i64 r]) ∧ Below w.heap.size w w' := by
  unfold sdV rcV at *
  have A0 : Arr ((((w.alloc (.cells #[.string key, .string iv, .int .u64 q] 24)).alloc (.cells #[.int .i64 k, .string b] 26)).alloc (.cells #[.string ⟨#[]⟩, .string ⟨#[]⟩, .int .u64 0] 24)).alloc (.cells #[.int .i64 0, .string ⟨#[]⟩] 26)) w.heap.size 3 (sd3 key iv q) := (Arr.al' (n := 2) (Arr.al' (n := 2) (Arr.al' (n := 2) (Arr.new w _ 24 _ rfl _ 3 (sd3_at key iv q)) _) _) _)
  have A1 : Arr ((((w.alloc (.cells #[.string key, .string iv, .int .u64 q] 24)).alloc (.cells #[.int .i64 k, .string b] 26)).alloc (.cells #[.string ⟨#[]⟩, .string ⟨#[]⟩, .int .u64 0] 24)).alloc (.cells #[.int .i64 0, .string ⟨#[]⟩] 26)) (w.heap.size + 1) 2 (rc2 k b) := (Arr.al' (n := 1) (Arr.al' (n := 1) (Arr.new (w.alloc (.cells #[.string key, .string iv, .int .u64 q] 24)) _ 26 (w.heap.size + 1) (by simp) _ 2 (rc2_at k b)) _) _)
  have A2 : Arr ((((w.alloc (.cells #[.string key, .string iv, .int .u64 q] 24)).alloc (.cells #[.int .i64 k, .string b] 26)).alloc (.cells #[.string ⟨#[]⟩, .string ⟨#[]⟩, .int .u64 0] 24)).alloc (.cells #[.int .i64 0, .string ⟨#[]⟩] 26)) (w.heap.size + 1 + 1) 3 (sd3 ⟨#[]⟩ ⟨#[]⟩ 0) := (Arr.al' (n := 2) (Arr.new ((w.alloc (.cells #[.string key, .string iv, .int .u64 q] 24)).alloc (.cells #[.int .i64 k, .string b] 26)) _ 24 (w.heap.size + 1 + 1) (by simp) _ 3 (sd3_at ⟨#[]⟩ ⟨#[]⟩ 0)) _)
  have A3 : Arr ((((w.alloc (.cells #[.string key, .string iv, .int .u64 q] 24)).alloc (.cells #[.int .i64 k, .string b] 26)).alloc (.cells #[.string ⟨#[]⟩, .string ⟨#[]⟩, .int .u64 0] 24)).alloc (.cells #[.int .i64 0, .string ⟨#[]⟩] 26)) (w.heap.size + 1 + 1 + 1) 2 (rc2 0 ⟨#[]⟩) := Arr.new (((w.alloc (.cells #[.string key, .string iv, .int .u64 q] 24)).alloc (.cells #[.int .i64 k, .string b] 26)).alloc (.cells #[.string ⟨#[]⟩, .string ⟨#[]⟩, .int .u64 0] 24)) _ 26 (w.heap.size + 1 + 1 + 1) (by simp) _ 2 (rc2_at 0 ⟨#[]⟩)
  have B0 : Below w.heap.size w ((((w.alloc (.cells #[.string key, .string iv, .int .u64 q] 24)).alloc (.cells #[.int .i64 k, .string b] 26)).alloc (.cells #[.string ⟨#[]⟩, .string ⟨#[]⟩, .int .u64 0] 24)).alloc (.cells #[.int .i64 0, .string ⟨#[]⟩] 26)) := by go_grown
  go_enter Tryz.func13, Tryz.ntmps13
  go_wp2_with fail
  refine (C1 _).mono ?_
  rintro e w1 ⟨rfl, b1⟩
  replace A0 : Arr _ _ 3 _ := A0.to' (n := 2) b1
  replace A1 : Arr _ _ 2 _ := A1.to' (n := 1) b1
  replace A2 : Arr _ _ 3 _ := A2.to' (n := 2) b1
  replace A3 : Arr _ _ 2 _ := A3.to' (n := 1) b1
  replace B0 := Bel.call B0 b1
  clear b1 C1
  obtain ⟨e0, e1, e2⟩ := A0.sd
  have m0 := A1.cv 0 (by omega) (.int .i64 k) rfl
  have m1 := A1.cv 1 (by omega) (.string b) rfl
  have c20 := A2.c 0 (by omega)
  have c21 := A2.c 1 (by omega)
  have c22 := A2.c 2 (by omega)
  have z20 := A2.z 0 (by omega)
  have z21 := A2.z 1 (by omega)
  have z22 := A2.z 2 (by omega)
  have c30 := A3.c 0 (by omega)
  have c31 := A3.c 1 (by omega)
  have z30 := A3.z 0 (by omega)
  have z31 := A3.z 1 (by omega)
  go_wp2_with fail
  have G2 := (A2.ssd key iv (q)).sreco (b' := w.heap.size + 1 + 1 + 1) (by omega) (0) ⟨#[]⟩
  have G3 := (A3.ssdo (b' := w.heap.size + 1 + 1) (by omega) key iv (q)).srec (0) ⟨#[]⟩
  have E := Bel.srec (Bel.ssd B0 (b := w.heap.size + 1 + 1) (by omega) key iv (q)) (b := w.heap.size + 1 + 1 + 1) (by omega) (0) ⟨#[]⟩
  clear c20 c21 c22 c30 c31 z20 z21 z22 z30 z31
  obtain ⟨g0, g1, g2⟩ := G2.sd
  have g3 := G3.cv 0 (by omega) (.int .i64 (0)) rfl
  have g4 := G3.cv 1 (by omega) (.string ⟨#[]⟩) rfl
  unfold srec ssd at g0 g1 g2 g3 g4 E
  refine bodyPost_ret (v := .tuple #[sdV key iv (q), rcV (0) ⟨#[]⟩, .int .i64 r]) ?_ rfl ⟨rfl, E⟩
  simp [sdV, rcV, results, Tryz.results13, go_sem, g0, g1, g2, g3, g4]
set_option maxHeartbeats 2000000 in
theorem rUnprotect_2 (key iv b N : ByteArray) (k q : Int) (hq : q = 18446744073709551615) (w : World)
    (C1 : ∀ W, Calls Tryz.prog 9 #[sdV key iv q] W fun e w' => e = .returned (.tuple #[.string N, .int .i64 0]) ∧ Below W.heap.size W w') :
    Calls Tryz.prog 13 #[sdV key iv q, rcV k b] w fun e w' => e = .returned (.tuple #[sdV key iv q, rcV 0 ⟨#[]⟩, .int .i64 18]) ∧ Below w.heap.size w w' := by
  subst hq
  unfold sdV rcV at *
  have A0 : Arr ((((w.alloc (.cells #[.string key, .string iv, .int .u64 18446744073709551615] 24)).alloc (.cells #[.int .i64 k, .string b] 26)).alloc (.cells #[.string ⟨#[]⟩, .string ⟨#[]⟩, .int .u64 0] 24)).alloc (.cells #[.int .i64 0, .string ⟨#[]⟩] 26)) w.heap.size 3 (sd3 key iv 18446744073709551615) := (Arr.al' (n := 2) (Arr.al' (n := 2) (Arr.al' (n := 2) (Arr.new w _ 24 _ rfl _ 3 (sd3_at key iv 18446744073709551615)) _) _) _)
  have A1 : Arr ((((w.alloc (.cells #[.string key, .string iv, .int .u64 18446744073709551615] 24)).alloc (.cells #[.int .i64 k, .string b] 26)).alloc (.cells #[.string ⟨#[]⟩, .string ⟨#[]⟩, .int .u64 0] 24)).alloc (.cells #[.int .i64 0, .string ⟨#[]⟩] 26)) (w.heap.size + 1) 2 (rc2 k b) := (Arr.al' (n := 1) (Arr.al' (n := 1) (Arr.new (w.alloc (.cells #[.string key, .string iv, .int .u64 18446744073709551615] 24)) _ 26 (w.heap.size + 1) (by simp) _ 2 (rc2_at k b)) _) _)
  have A2 : Arr ((((w.alloc (.cells #[.string key, .string iv, .int .u64 18446744073709551615] 24)).alloc (.cells #[.int .i64 k, .string b] 26)).alloc (.cells #[.string ⟨#[]⟩, .string ⟨#[]⟩, .int .u64 0] 24)).alloc (.cells #[.int .i64 0, .string ⟨#[]⟩] 26)) (w.heap.size + 1 + 1) 3 (sd3 ⟨#[]⟩ ⟨#[]⟩ 0) := (Arr.al' (n := 2) (Arr.new ((w.alloc (.cells #[.string key, .string iv, .int .u64 18446744073709551615] 24)).alloc (.cells #[.int .i64 k, .string b] 26)) _ 24 (w.heap.size + 1 + 1) (by simp) _ 3 (sd3_at ⟨#[]⟩ ⟨#[]⟩ 0)) _)
  have A3 : Arr ((((w.alloc (.cells #[.string key, .string iv, .int .u64 18446744073709551615] 24)).alloc (.cells #[.int .i64 k, .string b] 26)).alloc (.cells #[.string ⟨#[]⟩, .string ⟨#[]⟩, .int .u64 0] 24)).alloc (.cells #[.int .i64 0, .string ⟨#[]⟩] 26)) (w.heap.size + 1 + 1 + 1) 2 (rc2 0 ⟨#[]⟩) := Arr.new (((w.alloc (.cells #[.string key, .string iv, .int .u64 18446744073709551615] 24)).alloc (.cells #[.int .i64 k, .string b] 26)).alloc (.cells #[.string ⟨#[]⟩, .string ⟨#[]⟩, .int .u64 0] 24)) _ 26 (w.heap.size + 1 + 1 + 1) (by simp) _ 2 (rc2_at 0 ⟨#[]⟩)
  have B0 : Below w.heap.size w ((((w.alloc (.cells #[.string key, .string iv, .int .u64 18446744073709551615] 24)).alloc (.cells #[.int .i64 k, .string b] 26)).alloc (.cells #[.string ⟨#[]⟩, .string ⟨#[]⟩, .int .u64 0] 24)).alloc (.cells #[.int .i64 0, .string ⟨#[]⟩] 26)) := by go_grown
  go_enter Tryz.func13, Tryz.ntmps13
  go_wp2_with fail
  refine (C1 _).mono ?_
  rintro e w1 ⟨rfl, b1⟩
  replace A0 : Arr _ _ 3 _ := A0.to' (n := 2) b1
  replace A1 : Arr _ _ 2 _ := A1.to' (n := 1) b1
  replace A2 : Arr _ _ 3 _ := A2.to' (n := 2) b1
  replace A3 : Arr _ _ 2 _ := A3.to' (n := 1) b1
  replace B0 := Bel.call B0 b1
  clear b1 C1
  obtain ⟨e0, e1, e2⟩ := A0.sd
  have m0 := A1.cv 0 (by omega) (.int .i64 k) rfl
  have m1 := A1.cv 1 (by omega) (.string b) rfl
  have c20 := A2.c 0 (by omega)
  have c21 := A2.c 1 (by omega)
  have c22 := A2.c 2 (by omega)
  have z20 := A2.z 0 (by omega)
  have z21 := A2.z 1 (by omega)
  have z22 := A2.z 2 (by omega)
  have c30 := A3.c 0 (by omega)
  have c31 := A3.c 1 (by omega)
  have z30 := A3.z 0 (by omega)
  have z31 := A3.z 1 (by omega)
  go_wp2_with fail
  have G2 := (A2.ssd key iv (18446744073709551615)).sreco (b' := w.heap.size + 1 + 1 + 1) (by omega) (0) ⟨#[]⟩
  have G3 := (A3.ssdo (b' := w.heap.size + 1 + 1) (by omega) key iv (18446744073709551615)).srec (0) ⟨#[]⟩
  have E := Bel.srec (Bel.ssd B0 (b := w.heap.size + 1 + 1) (by omega) key iv (18446744073709551615)) (b := w.heap.size + 1 + 1 + 1) (by omega) (0) ⟨#[]⟩
  clear c20 c21 c22 c30 c31 z20 z21 z22 z30 z31
  obtain ⟨g0, g1, g2⟩ := G2.sd
  have g3 := G3.cv 0 (by omega) (.int .i64 (0)) rfl
  have g4 := G3.cv 1 (by omega) (.string ⟨#[]⟩) rfl
  unfold srec ssd at g0 g1 g2 g3 g4 E
  refine bodyPost_ret (v := .tuple #[sdV key iv (18446744073709551615), rcV (0) ⟨#[]⟩, .int .i64 18]) ?_ rfl ⟨rfl, E⟩
  simp [sdV, rcV, results, Tryz.results13, go_sem, g0, g1, g2, g3, g4]
set_option maxHeartbeats 2000000 in
theorem rUnprotect_3 (key iv b N : ByteArray) (k q : Int) (hq : ¬ q = 18446744073709551615) (hk : ¬ k = 23) (w : World)
    (C1 : ∀ W, Calls Tryz.prog 9 #[sdV key iv q] W fun e w' => e = .returned (.tuple #[.string N, .int .i64 0]) ∧ Below W.heap.size W w') :
    Calls Tryz.prog 13 #[sdV key iv q, rcV k b] w fun e w' => e = .returned (.tuple #[sdV key iv q, rcV 0 ⟨#[]⟩, .int .i64 23]) ∧ Below w.heap.size w w' := by
  unfold sdV rcV at *
  have A0 : Arr ((((w.alloc (.cells #[.string key, .string iv, .int .u64 q] 24)).alloc (.cells #[.int .i64 k, .string b] 26)).alloc (.cells #[.string ⟨#[]⟩, .string ⟨#[]⟩, .int .u64 0] 24)).alloc (.cells #[.int .i64 0, .string ⟨#[]⟩] 26)) w.heap.size 3 (sd3 key iv q) := (Arr.al' (n := 2) (Arr.al' (n := 2) (Arr.al' (n := 2) (Arr.new w _ 24 _ rfl _ 3 (sd3_at key iv q)) _) _) _)
  have A1 : Arr ((((w.alloc (.cells #[.string key, .string iv, .int .u64 q] 24)).alloc (.cells #[.int .i64 k, .string b] 26)).alloc (.cells #[.string ⟨#[]⟩, .string ⟨#[]⟩, .int .u64 0] 24)).alloc (.cells #[.int .i64 0, .string ⟨#[]⟩] 26)) (w.heap.size + 1) 2 (rc2 k b) := (Arr.al' (n := 1) (Arr.al' (n := 1) (Arr.new (w.alloc (.cells #[.string key, .string iv, .int .u64 q] 24)) _ 26 (w.heap.size + 1) (by simp) _ 2 (rc2_at k b)) _) _)
  have A2 : Arr ((((w.alloc (.cells #[.string key, .string iv, .int .u64 q] 24)).alloc (.cells #[.int .i64 k, .string b] 26)).alloc (.cells #[.string ⟨#[]⟩, .string ⟨#[]⟩, .int .u64 0] 24)).alloc (.cells #[.int .i64 0, .string ⟨#[]⟩] 26)) (w.heap.size + 1 + 1) 3 (sd3 ⟨#[]⟩ ⟨#[]⟩ 0) := (Arr.al' (n := 2) (Arr.new ((w.alloc (.cells #[.string key, .string iv, .int .u64 q] 24)).alloc (.cells #[.int .i64 k, .string b] 26)) _ 24 (w.heap.size + 1 + 1) (by simp) _ 3 (sd3_at ⟨#[]⟩ ⟨#[]⟩ 0)) _)
  have A3 : Arr ((((w.alloc (.cells #[.string key, .string iv, .int .u64 q] 24)).alloc (.cells #[.int .i64 k, .string b] 26)).alloc (.cells #[.string ⟨#[]⟩, .string ⟨#[]⟩, .int .u64 0] 24)).alloc (.cells #[.int .i64 0, .string ⟨#[]⟩] 26)) (w.heap.size + 1 + 1 + 1) 2 (rc2 0 ⟨#[]⟩) := Arr.new (((w.alloc (.cells #[.string key, .string iv, .int .u64 q] 24)).alloc (.cells #[.int .i64 k, .string b] 26)).alloc (.cells #[.string ⟨#[]⟩, .string ⟨#[]⟩, .int .u64 0] 24)) _ 26 (w.heap.size + 1 + 1 + 1) (by simp) _ 2 (rc2_at 0 ⟨#[]⟩)
  have B0 : Below w.heap.size w ((((w.alloc (.cells #[.string key, .string iv, .int .u64 q] 24)).alloc (.cells #[.int .i64 k, .string b] 26)).alloc (.cells #[.string ⟨#[]⟩, .string ⟨#[]⟩, .int .u64 0] 24)).alloc (.cells #[.int .i64 0, .string ⟨#[]⟩] 26)) := by go_grown
  go_enter Tryz.func13, Tryz.ntmps13
  go_wp2_with fail
  refine (C1 _).mono ?_
  rintro e w1 ⟨rfl, b1⟩
  replace A0 : Arr _ _ 3 _ := A0.to' (n := 2) b1
  replace A1 : Arr _ _ 2 _ := A1.to' (n := 1) b1
  replace A2 : Arr _ _ 3 _ := A2.to' (n := 2) b1
  replace A3 : Arr _ _ 2 _ := A3.to' (n := 1) b1
  replace B0 := Bel.call B0 b1
  clear b1 C1
  obtain ⟨e0, e1, e2⟩ := A0.sd
  have m0 := A1.cv 0 (by omega) (.int .i64 k) rfl
  have m1 := A1.cv 1 (by omega) (.string b) rfl
  have c20 := A2.c 0 (by omega)
  have c21 := A2.c 1 (by omega)
  have c22 := A2.c 2 (by omega)
  have z20 := A2.z 0 (by omega)
  have z21 := A2.z 1 (by omega)
  have z22 := A2.z 2 (by omega)
  have c30 := A3.c 0 (by omega)
  have c31 := A3.c 1 (by omega)
  have z30 := A3.z 0 (by omega)
  have z31 := A3.z 1 (by omega)
  go_wp2_with fail
  have G2 := (A2.ssd key iv (q)).sreco (b' := w.heap.size + 1 + 1 + 1) (by omega) (0) ⟨#[]⟩
  have G3 := (A3.ssdo (b' := w.heap.size + 1 + 1) (by omega) key iv (q)).srec (0) ⟨#[]⟩
  have E := Bel.srec (Bel.ssd B0 (b := w.heap.size + 1 + 1) (by omega) key iv (q)) (b := w.heap.size + 1 + 1 + 1) (by omega) (0) ⟨#[]⟩
  clear c20 c21 c22 c30 c31 z20 z21 z22 z30 z31
  obtain ⟨g0, g1, g2⟩ := G2.sd
  have g3 := G3.cv 0 (by omega) (.int .i64 (0)) rfl
  have g4 := G3.cv 1 (by omega) (.string ⟨#[]⟩) rfl
  unfold srec ssd at g0 g1 g2 g3 g4 E
  refine bodyPost_ret (v := .tuple #[sdV key iv (q), rcV (0) ⟨#[]⟩, .int .i64 23]) ?_ rfl ⟨rfl, E⟩
  simp [sdV, rcV, results, Tryz.results13, go_sem, g0, g1, g2, g3, g4]
set_option maxHeartbeats 2000000 in
theorem rUnprotect_4 (key iv b N H t : ByteArray) (k q r : Int) (hq : ¬ q = 18446744073709551615) (hk : k = 23) (hr : ¬ r = 0) (w : World)
    (C1 : ∀ W, Calls Tryz.prog 9 #[sdV key iv q] W fun e w' => e = .returned (.tuple #[.string N, .int .i64 0]) ∧ Below W.heap.size W w')
    (C2 : ∀ W, Calls Tryz.prog 23 #[.int .i64 23, .int .i64 (b.size : Int)] W fun e w' => e = .returned (.string H) ∧ Below W.heap.size W w')
    (C3 : ∀ W, Calls Tryz.prog 27 #[.string key, .string N, .string H, .string b] W fun e w' => e = .returned (.tuple #[.string t, .int .i64 r]) ∧ Below W.heap.size W w') :
    Calls Tryz.prog 13 #[sdV key iv q, rcV k b] w fun e w' => e = .returned (.tuple #[sdV key iv q, rcV 0 ⟨#[]⟩, .int .i64 r]) ∧ Below w.heap.size w w' := by
  subst hk
  unfold sdV rcV at *
  have A0 : Arr ((((w.alloc (.cells #[.string key, .string iv, .int .u64 q] 24)).alloc (.cells #[.int .i64 23, .string b] 26)).alloc (.cells #[.string ⟨#[]⟩, .string ⟨#[]⟩, .int .u64 0] 24)).alloc (.cells #[.int .i64 0, .string ⟨#[]⟩] 26)) w.heap.size 3 (sd3 key iv q) := (Arr.al' (n := 2) (Arr.al' (n := 2) (Arr.al' (n := 2) (Arr.new w _ 24 _ rfl _ 3 (sd3_at key iv q)) _) _) _)
  have A1 : Arr ((((w.alloc (.cells #[.string key, .string iv, .int .u64 q] 24)).alloc (.cells #[.int .i64 23, .string b] 26)).alloc (.cells #[.string ⟨#[]⟩, .string ⟨#[]⟩, .int .u64 0] 24)).alloc (.cells #[.int .i64 0, .string ⟨#[]⟩] 26)) (w.heap.size + 1) 2 (rc2 23 b) := (Arr.al' (n := 1) (Arr.al' (n := 1) (Arr.new (w.alloc (.cells #[.string key, .string iv, .int .u64 q] 24)) _ 26 (w.heap.size + 1) (by simp) _ 2 (rc2_at 23 b)) _) _)
  have A2 : Arr ((((w.alloc (.cells #[.string key, .string iv, .int .u64 q] 24)).alloc (.cells #[.int .i64 23, .string b] 26)).alloc (.cells #[.string ⟨#[]⟩, .string ⟨#[]⟩, .int .u64 0] 24)).alloc (.cells #[.int .i64 0, .string ⟨#[]⟩] 26)) (w.heap.size + 1 + 1) 3 (sd3 ⟨#[]⟩ ⟨#[]⟩ 0) := (Arr.al' (n := 2) (Arr.new ((w.alloc (.cells #[.string key, .string iv, .int .u64 q] 24)).alloc (.cells #[.int .i64 23, .string b] 26)) _ 24 (w.heap.size + 1 + 1) (by simp) _ 3 (sd3_at ⟨#[]⟩ ⟨#[]⟩ 0)) _)
  have A3 : Arr ((((w.alloc (.cells #[.string key, .string iv, .int .u64 q] 24)).alloc (.cells #[.int .i64 23, .string b] 26)).alloc (.cells #[.string ⟨#[]⟩, .string ⟨#[]⟩, .int .u64 0] 24)).alloc (.cells #[.int .i64 0, .string ⟨#[]⟩] 26)) (w.heap.size + 1 + 1 + 1) 2 (rc2 0 ⟨#[]⟩) := Arr.new (((w.alloc (.cells #[.string key, .string iv, .int .u64 q] 24)).alloc (.cells #[.int .i64 23, .string b] 26)).alloc (.cells #[.string ⟨#[]⟩, .string ⟨#[]⟩, .int .u64 0] 24)) _ 26 (w.heap.size + 1 + 1 + 1) (by simp) _ 2 (rc2_at 0 ⟨#[]⟩)
  have B0 : Below w.heap.size w ((((w.alloc (.cells #[.string key, .string iv, .int .u64 q] 24)).alloc (.cells #[.int .i64 23, .string b] 26)).alloc (.cells #[.string ⟨#[]⟩, .string ⟨#[]⟩, .int .u64 0] 24)).alloc (.cells #[.int .i64 0, .string ⟨#[]⟩] 26)) := by go_grown
  go_enter Tryz.func13, Tryz.ntmps13
  go_wp2_with fail
  refine (C1 _).mono ?_
  rintro e w1 ⟨rfl, b1⟩
  replace A0 : Arr _ _ 3 _ := A0.to' (n := 2) b1
  replace A1 : Arr _ _ 2 _ := A1.to' (n := 1) b1
  replace A2 : Arr _ _ 3 _ := A2.to' (n := 2) b1
  replace A3 : Arr _ _ 2 _ := A3.to' (n := 1) b1
  replace B0 := Bel.call B0 b1
  clear b1 C1
  obtain ⟨e0, e1, e2⟩ := A0.sd
  have m0 := A1.cv 0 (by omega) (.int .i64 23) rfl
  have m1 := A1.cv 1 (by omega) (.string b) rfl
  go_wp2_with fail
  clear e0 e1 e2 m0 m1
  have r0 := fun ds os => cell_regrown (A0.cv 0 (by omega) (.string key) rfl) ds os
  have r1 := fun ds os => cell_regrown (A1.cv 1 (by omega) (.string b) rfl) ds os
  refine wp_region_quiet_below (by kernel_rfl) (by kernel_rfl) ?_
  repeat (go_big_quiet_step (first | (go_at_call 23; exact Calls.regrown_of (C2 _)) | (go_at_call 27; exact Calls.regrown_of (C3 _))))
  refine wpQuiet_nil ?_
  intro w2 hw'
  obtain ⟨⟨dq, osq⟩, hw''⟩ := hw'
  have b2 := below_of hw''
  clear hw'' r0 r1
  replace A0 : Arr _ _ 3 _ := A0.to' (n := 2) b2
  replace A1 : Arr _ _ 2 _ := A1.to' (n := 1) b2
  replace A2 : Arr _ _ 3 _ := A2.to' (n := 2) b2
  replace A3 : Arr _ _ 2 _ := A3.to' (n := 1) b2
  replace B0 := Bel.call B0 b2
  clear b2 C2 C3
  obtain ⟨e0, e1, e2⟩ := A0.sd
  have m0 := A1.cv 0 (by omega) (.int .i64 23) rfl
  have m1 := A1.cv 1 (by omega) (.string b) rfl
  have c20 := A2.c 0 (by omega)
  have c21 := A2.c 1 (by omega)
  have c22 := A2.c 2 (by omega)
  have z20 := A2.z 0 (by omega)
  have z21 := A2.z 1 (by omega)
  have z22 := A2.z 2 (by omega)
  have c30 := A3.c 0 (by omega)
  have c31 := A3.c 1 (by omega)
  have z30 := A3.z 0 (by omega)
  have z31 := A3.z 1 (by omega)
  go_wp2_with fail
  have G2 := (A2.ssd key iv (q)).sreco (b' := w.heap.size + 1 + 1 + 1) (by omega) (0) ⟨#[]⟩
  have G3 := (A3.ssdo (b' := w.heap.size + 1 + 1) (by omega) key iv (q)).srec (0) ⟨#[]⟩
  have E := Bel.srec (Bel.ssd B0 (b := w.heap.size + 1 + 1) (by omega) key iv (q)) (b := w.heap.size + 1 + 1 + 1) (by omega) (0) ⟨#[]⟩
  clear c20 c21 c22 c30 c31 z20 z21 z22 z30 z31
  obtain ⟨g0, g1, g2⟩ := G2.sd
  have g3 := G3.cv 0 (by omega) (.int .i64 (0)) rfl
  have g4 := G3.cv 1 (by omega) (.string ⟨#[]⟩) rfl
  unfold srec ssd at g0 g1 g2 g3 g4 E
  refine bodyPost_ret (v := .tuple #[sdV key iv (q), rcV (0) ⟨#[]⟩, .int .i64 r]) ?_ rfl ⟨rfl, E⟩
  simp [sdV, rcV, results, Tryz.results13, go_sem, g0, g1, g2, g3, g4]
set_option maxHeartbeats 2000000 in
theorem rUnprotect_5 (key iv b N H t : ByteArray) (k q : Int) (hq : ¬ q = 18446744073709551615) (hk : k = 23) (ht : 16385 < t.size) (w : World)
    (C1 : ∀ W, Calls Tryz.prog 9 #[sdV key iv q] W fun e w' => e = .returned (.tuple #[.string N, .int .i64 0]) ∧ Below W.heap.size W w')
    (C2 : ∀ W, Calls Tryz.prog 23 #[.int .i64 23, .int .i64 (b.size : Int)] W fun e w' => e = .returned (.string H) ∧ Below W.heap.size W w')
    (C3 : ∀ W, Calls Tryz.prog 27 #[.string key, .string N, .string H, .string b] W fun e w' => e = .returned (.tuple #[.string t, .int .i64 0]) ∧ Below W.heap.size W w') :
    Calls Tryz.prog 13 #[sdV key iv q, rcV k b] w fun e w' => e = .returned (.tuple #[sdV key iv q, rcV 0 ⟨#[]⟩, .int .i64 12]) ∧ Below w.heap.size w w' := by
  subst hk
  have t1 : (16385 : Int) < (t.size : Int) := by omega
  unfold sdV rcV at *
  have A0 : Arr ((((w.alloc (.cells #[.string key, .string iv, .int .u64 q] 24)).alloc (.cells #[.int .i64 23, .string b] 26)).alloc (.cells #[.string ⟨#[]⟩, .string ⟨#[]⟩, .int .u64 0] 24)).alloc (.cells #[.int .i64 0, .string ⟨#[]⟩] 26)) w.heap.size 3 (sd3 key iv q) := (Arr.al' (n := 2) (Arr.al' (n := 2) (Arr.al' (n := 2) (Arr.new w _ 24 _ rfl _ 3 (sd3_at key iv q)) _) _) _)
  have A1 : Arr ((((w.alloc (.cells #[.string key, .string iv, .int .u64 q] 24)).alloc (.cells #[.int .i64 23, .string b] 26)).alloc (.cells #[.string ⟨#[]⟩, .string ⟨#[]⟩, .int .u64 0] 24)).alloc (.cells #[.int .i64 0, .string ⟨#[]⟩] 26)) (w.heap.size + 1) 2 (rc2 23 b) := (Arr.al' (n := 1) (Arr.al' (n := 1) (Arr.new (w.alloc (.cells #[.string key, .string iv, .int .u64 q] 24)) _ 26 (w.heap.size + 1) (by simp) _ 2 (rc2_at 23 b)) _) _)
  have A2 : Arr ((((w.alloc (.cells #[.string key, .string iv, .int .u64 q] 24)).alloc (.cells #[.int .i64 23, .string b] 26)).alloc (.cells #[.string ⟨#[]⟩, .string ⟨#[]⟩, .int .u64 0] 24)).alloc (.cells #[.int .i64 0, .string ⟨#[]⟩] 26)) (w.heap.size + 1 + 1) 3 (sd3 ⟨#[]⟩ ⟨#[]⟩ 0) := (Arr.al' (n := 2) (Arr.new ((w.alloc (.cells #[.string key, .string iv, .int .u64 q] 24)).alloc (.cells #[.int .i64 23, .string b] 26)) _ 24 (w.heap.size + 1 + 1) (by simp) _ 3 (sd3_at ⟨#[]⟩ ⟨#[]⟩ 0)) _)
  have A3 : Arr ((((w.alloc (.cells #[.string key, .string iv, .int .u64 q] 24)).alloc (.cells #[.int .i64 23, .string b] 26)).alloc (.cells #[.string ⟨#[]⟩, .string ⟨#[]⟩, .int .u64 0] 24)).alloc (.cells #[.int .i64 0, .string ⟨#[]⟩] 26)) (w.heap.size + 1 + 1 + 1) 2 (rc2 0 ⟨#[]⟩) := Arr.new (((w.alloc (.cells #[.string key, .string iv, .int .u64 q] 24)).alloc (.cells #[.int .i64 23, .string b] 26)).alloc (.cells #[.string ⟨#[]⟩, .string ⟨#[]⟩, .int .u64 0] 24)) _ 26 (w.heap.size + 1 + 1 + 1) (by simp) _ 2 (rc2_at 0 ⟨#[]⟩)
  have B0 : Below w.heap.size w ((((w.alloc (.cells #[.string key, .string iv, .int .u64 q] 24)).alloc (.cells #[.int .i64 23, .string b] 26)).alloc (.cells #[.string ⟨#[]⟩, .string ⟨#[]⟩, .int .u64 0] 24)).alloc (.cells #[.int .i64 0, .string ⟨#[]⟩] 26)) := by go_grown
  go_enter Tryz.func13, Tryz.ntmps13
  go_wp2_with fail
  refine (C1 _).mono ?_
  rintro e w1 ⟨rfl, b1⟩
  replace A0 : Arr _ _ 3 _ := A0.to' (n := 2) b1
  replace A1 : Arr _ _ 2 _ := A1.to' (n := 1) b1
  replace A2 : Arr _ _ 3 _ := A2.to' (n := 2) b1
  replace A3 : Arr _ _ 2 _ := A3.to' (n := 1) b1
  replace B0 := Bel.call B0 b1
  clear b1 C1
  obtain ⟨e0, e1, e2⟩ := A0.sd
  have m0 := A1.cv 0 (by omega) (.int .i64 23) rfl
  have m1 := A1.cv 1 (by omega) (.string b) rfl
  go_wp2_with fail
  clear e0 e1 e2 m0 m1
  have r0 := fun ds os => cell_regrown (A0.cv 0 (by omega) (.string key) rfl) ds os
  have r1 := fun ds os => cell_regrown (A1.cv 1 (by omega) (.string b) rfl) ds os
  refine wp_region_quiet_below (by kernel_rfl) (by kernel_rfl) ?_
  repeat (go_big_quiet_step (first | (go_at_call 23; exact Calls.regrown_of (C2 _)) | (go_at_call 27; exact Calls.regrown_of (C3 _))))
  refine wpQuiet_nil ?_
  intro w2 hw'
  obtain ⟨⟨dq, osq⟩, hw''⟩ := hw'
  have b2 := below_of hw''
  clear hw'' r0 r1
  replace A0 : Arr _ _ 3 _ := A0.to' (n := 2) b2
  replace A1 : Arr _ _ 2 _ := A1.to' (n := 1) b2
  replace A2 : Arr _ _ 3 _ := A2.to' (n := 2) b2
  replace A3 : Arr _ _ 2 _ := A3.to' (n := 1) b2
  replace B0 := Bel.call B0 b2
  clear b2 C2 C3
  obtain ⟨e0, e1, e2⟩ := A0.sd
  have m0 := A1.cv 0 (by omega) (.int .i64 23) rfl
  have m1 := A1.cv 1 (by omega) (.string b) rfl
  have c20 := A2.c 0 (by omega)
  have c21 := A2.c 1 (by omega)
  have c22 := A2.c 2 (by omega)
  have z20 := A2.z 0 (by omega)
  have z21 := A2.z 1 (by omega)
  have z22 := A2.z 2 (by omega)
  have c30 := A3.c 0 (by omega)
  have c31 := A3.c 1 (by omega)
  have z30 := A3.z 0 (by omega)
  have z31 := A3.z 1 (by omega)
  go_wp2_with fail
  have G2 := (A2.ssd key iv (q)).sreco (b' := w.heap.size + 1 + 1 + 1) (by omega) (0) ⟨#[]⟩
  have G3 := (A3.ssdo (b' := w.heap.size + 1 + 1) (by omega) key iv (q)).srec (0) ⟨#[]⟩
  have E := Bel.srec (Bel.ssd B0 (b := w.heap.size + 1 + 1) (by omega) key iv (q)) (b := w.heap.size + 1 + 1 + 1) (by omega) (0) ⟨#[]⟩
  clear c20 c21 c22 c30 c31 z20 z21 z22 z30 z31
  obtain ⟨g0, g1, g2⟩ := G2.sd
  have g3 := G3.cv 0 (by omega) (.int .i64 (0)) rfl
  have g4 := G3.cv 1 (by omega) (.string ⟨#[]⟩) rfl
  unfold srec ssd at g0 g1 g2 g3 g4 E
  refine bodyPost_ret (v := .tuple #[sdV key iv (q), rcV (0) ⟨#[]⟩, .int .i64 12]) ?_ rfl ⟨rfl, E⟩
  simp [sdV, rcV, results, Tryz.results13, go_sem, g0, g1, g2, g3, g4]
set_option maxHeartbeats 4000000 in
theorem rUnprotect_6 (key iv b N H t : ByteArray) (k q : Int) (hq : ¬ q = 18446744073709551615) (hk : k = 23) (ht : ¬ 16385 < t.size) (hhi : ∀ j, j < t.size → bt t j = 0) (w : World)
    (C1 : ∀ W, Calls Tryz.prog 9 #[sdV key iv q] W fun e w' => e = .returned (.tuple #[.string N, .int .i64 0]) ∧ Below W.heap.size W w')
    (C2 : ∀ W, Calls Tryz.prog 23 #[.int .i64 23, .int .i64 (b.size : Int)] W fun e w' => e = .returned (.string H) ∧ Below W.heap.size W w')
    (C3 : ∀ W, Calls Tryz.prog 27 #[.string key, .string N, .string H, .string b] W fun e w' => e = .returned (.tuple #[.string t, .int .i64 0]) ∧ Below W.heap.size W w') :
    Calls Tryz.prog 13 #[sdV key iv q, rcV k b] w fun e w' => e = .returned (.tuple #[sdV key iv q, rcV 0 ⟨#[]⟩, .int .i64 10]) ∧ Below w.heap.size w w' := by
  subst hk
  have t1 : ¬ (16385 : Int) < (t.size : Int) := by omega
  have t2 : (t.size : Int) ≤ 16385 := by omega
  unfold sdV rcV at *
  have A0 : Arr ((((w.alloc (.cells #[.string key, .string iv, .int .u64 q] 24)).alloc (.cells #[.int .i64 23, .string b] 26)).alloc (.cells #[.string ⟨#[]⟩, .string ⟨#[]⟩, .int .u64 0] 24)).alloc (.cells #[.int .i64 0, .string ⟨#[]⟩] 26)) w.heap.size 3 (sd3 key iv q) := (Arr.al' (n := 2) (Arr.al' (n := 2) (Arr.al' (n := 2) (Arr.new w _ 24 _ rfl _ 3 (sd3_at key iv q)) _) _) _)
  have A1 : Arr ((((w.alloc (.cells #[.string key, .string iv, .int .u64 q] 24)).alloc (.cells #[.int .i64 23, .string b] 26)).alloc (.cells #[.string ⟨#[]⟩, .string ⟨#[]⟩, .int .u64 0] 24)).alloc (.cells #[.int .i64 0, .string ⟨#[]⟩] 26)) (w.heap.size + 1) 2 (rc2 23 b) := (Arr.al' (n := 1) (Arr.al' (n := 1) (Arr.new (w.alloc (.cells #[.string key, .string iv, .int .u64 q] 24)) _ 26 (w.heap.size + 1) (by simp) _ 2 (rc2_at 23 b)) _) _)
  have A2 : Arr ((((w.alloc (.cells #[.string key, .string iv, .int .u64 q] 24)).alloc (.cells #[.int .i64 23, .string b] 26)).alloc (.cells #[.string ⟨#[]⟩, .string ⟨#[]⟩, .int .u64 0] 24)).alloc (.cells #[.int .i64 0, .string ⟨#[]⟩] 26)) (w.heap.size + 1 + 1) 3 (sd3 ⟨#[]⟩ ⟨#[]⟩ 0) := (Arr.al' (n := 2) (Arr.new ((w.alloc (.cells #[.string key, .string iv, .int .u64 q] 24)).alloc (.cells #[.int .i64 23, .string b] 26)) _ 24 (w.heap.size + 1 + 1) (by simp) _ 3 (sd3_at ⟨#[]⟩ ⟨#[]⟩ 0)) _)
  have A3 : Arr ((((w.alloc (.cells #[.string key, .string iv, .int .u64 q] 24)).alloc (.cells #[.int .i64 23, .string b] 26)).alloc (.cells #[.string ⟨#[]⟩, .string ⟨#[]⟩, .int .u64 0] 24)).alloc (.cells #[.int .i64 0, .string ⟨#[]⟩] 26)) (w.heap.size + 1 + 1 + 1) 2 (rc2 0 ⟨#[]⟩) := Arr.new (((w.alloc (.cells #[.string key, .string iv, .int .u64 q] 24)).alloc (.cells #[.int .i64 23, .string b] 26)).alloc (.cells #[.string ⟨#[]⟩, .string ⟨#[]⟩, .int .u64 0] 24)) _ 26 (w.heap.size + 1 + 1 + 1) (by simp) _ 2 (rc2_at 0 ⟨#[]⟩)
  have B0 : Below w.heap.size w ((((w.alloc (.cells #[.string key, .string iv, .int .u64 q] 24)).alloc (.cells #[.int .i64 23, .string b] 26)).alloc (.cells #[.string ⟨#[]⟩, .string ⟨#[]⟩, .int .u64 0] 24)).alloc (.cells #[.int .i64 0, .string ⟨#[]⟩] 26)) := by go_grown
  go_enter Tryz.func13, Tryz.ntmps13
  go_wp2_with fail
  refine (C1 _).mono ?_
  rintro e w1 ⟨rfl, b1⟩
  replace A0 : Arr _ _ 3 _ := A0.to' (n := 2) b1
  replace A1 : Arr _ _ 2 _ := A1.to' (n := 1) b1
  replace A2 : Arr _ _ 3 _ := A2.to' (n := 2) b1
  replace A3 : Arr _ _ 2 _ := A3.to' (n := 1) b1
  replace B0 := Bel.call B0 b1
  clear b1 C1
  obtain ⟨e0, e1, e2⟩ := A0.sd
  have m0 := A1.cv 0 (by omega) (.int .i64 23) rfl
  have m1 := A1.cv 1 (by omega) (.string b) rfl
  go_wp2_with fail
  clear e0 e1 e2 m0 m1
  have r0 := fun ds os => cell_regrown (A0.cv 0 (by omega) (.string key) rfl) ds os
  have r1 := fun ds os => cell_regrown (A1.cv 1 (by omega) (.string b) rfl) ds os
  refine wp_region_quiet_below (by kernel_rfl) (by kernel_rfl) ?_
  repeat (go_big_quiet_step (first | (go_at_call 23; exact Calls.regrown_of (C2 _)) | (go_at_call 27; exact Calls.regrown_of (C3 _))))
  refine wpQuiet_nil ?_
  intro w2 hw'
  obtain ⟨⟨dq, osq⟩, hw''⟩ := hw'
  have b2 := below_of hw''
  clear hw'' r0 r1
  replace A0 : Arr _ _ 3 _ := A0.to' (n := 2) b2
  replace A1 : Arr _ _ 2 _ := A1.to' (n := 1) b2
  replace A2 : Arr _ _ 3 _ := A2.to' (n := 2) b2
  replace A3 : Arr _ _ 2 _ := A3.to' (n := 1) b2
  replace B0 := Bel.call B0 b2
  clear b2 C2 C3
  go_wp2_with fail
  obtain ⟨n, hn⟩ : ∃ n, t.size = n := ⟨_, rfl⟩
  have HN : Hid (t.size = n) := hn
  rw [hn] at hhi
  have n2 : (n : Int) ≤ 16385 := by omega
  clear hn ht
  have HH : Hid _ := hhi
  clear hhi
  go_loopw [10] (fun i wr => ∃ m : Nat, m ≤ n ∧ i = .int .i64 ((m : Int) - 1) ∧ wr = w2) (fun i _ => ((intOf i) + 1).toNat)
  case atStart =>
    refine ⟨n, Nat.le_refl _, ?_, rfl⟩
    rw [← HN.out]
  case round =>
    obtain ⟨m, hm2, rfl, rfl⟩ := hrel
    cases m with
    | zero =>
      have i0 : ¬ (0 : Int) ≤ ((0 : Nat) : Int) - 1 := by omega
      have i1 : ((0 : Nat) : Int) - 1 < 0 := by omega
      obtain ⟨e0, e1, e2⟩ := A0.sd
      have m0 := A1.cv 0 (by omega) (.int .i64 23) rfl
      have m1 := A1.cv 1 (by omega) (.string b) rfl
      have c20 := A2.c 0 (by omega)
      have c21 := A2.c 1 (by omega)
      have c22 := A2.c 2 (by omega)
      have z20 := A2.z 0 (by omega)
      have z21 := A2.z 1 (by omega)
      have z22 := A2.z 2 (by omega)
      have c30 := A3.c 0 (by omega)
      have c31 := A3.c 1 (by omega)
      have z30 := A3.z 0 (by omega)
      have z31 := A3.z 1 (by omega)
      go_wp2_with fail
      have G2 := (A2.ssd key iv (q)).sreco (b' := w.heap.size + 1 + 1 + 1) (by omega) (0) ⟨#[]⟩
      have G3 := (A3.ssdo (b' := w.heap.size + 1 + 1) (by omega) key iv (q)).srec (0) ⟨#[]⟩
      have E := Bel.srec (Bel.ssd B0 (b := w.heap.size + 1 + 1) (by omega) key iv (q)) (b := w.heap.size + 1 + 1 + 1) (by omega) (0) ⟨#[]⟩
      clear c20 c21 c22 c30 c31 z20 z21 z22 z30 z31
      obtain ⟨g0, g1, g2⟩ := G2.sd
      have g3 := G3.cv 0 (by omega) (.int .i64 (0)) rfl
      have g4 := G3.cv 1 (by omega) (.string ⟨#[]⟩) rfl
      unfold srec ssd at g0 g1 g2 g3 g4 E
      refine bodyPost_ret (v := .tuple #[sdV key iv (q), rcV (0) ⟨#[]⟩, .int .i64 10]) ?_ rfl ⟨rfl, E⟩
      simp [sdV, rcV, results, Tryz.results13, go_sem, g0, g1, g2, g3, g4]
    | succ i =>
      rw [show (((i + 1 : Nat) : Int) - 1) = (i : Int) by omega]
      have i1 : (i : Int) < (t.size : Int) := by rw [HN.out]; omega
      have i2 : (i : Int) ≤ 16385 := by omega
      have i3 : (0 : Int) ≤ (i : Int) := by omega
      have I := fun W => idxS t i (by rw [HN.out]; omega) W
      rw [HH.out i (by omega)] at I
      go_wp2_with fail
      refine ⟨⟨i, by omega, by go_num, ?_⟩, ?_⟩ <;> first | trivial | rfl | (simp [intOf] <;> omega)
set_option maxHeartbeats 4000000 in
theorem rUnprotect_7 (key iv b N H t : ByteArray) (k q c : Int) (hq : ¬ q = 18446744073709551615) (hk : k = 23) (ht : ¬ 16385 < t.size) (M : Nat) (hM : M < t.size) (hhi : ∀ j, M < j → j < t.size → bt t j = 0) (hc : bt t M = c) (c0 : c ≠ 0) (w : World)
    (C1 : ∀ W, Calls Tryz.prog 9 #[sdV key iv q] W fun e w' => e = .returned (.tuple #[.string N, .int .i64 0]) ∧ Below W.heap.size W w')
    (C2 : ∀ W, Calls Tryz.prog 23 #[.int .i64 23, .int .i64 (b.size : Int)] W fun e w' => e = .returned (.string H) ∧ Below W.heap.size W w')
    (C3 : ∀ W, Calls Tryz.prog 27 #[.string key, .string N, .string H, .string b] W fun e w' => e = .returned (.tuple #[.string t, .int .i64 0]) ∧ Below W.heap.size W w')
    (C4 : ∀ W, Calls Tryz.prog 22 #[.int .i64 c] W fun e w' => e = .returned (.bool false) ∧ w' = W) :
    Calls Tryz.prog 13 #[sdV key iv q, rcV k b] w fun e w' => e = .returned (.tuple #[sdV key iv q, rcV 0 ⟨#[]⟩, .int .i64 23]) ∧ Below w.heap.size w w' := by
  subst hk
  have t1 : ¬ (16385 : Int) < (t.size : Int) := by omega
  have t2 : (t.size : Int) ≤ 16385 := by omega
  unfold sdV rcV at *
  have A0 : Arr ((((w.alloc (.cells #[.string key, .string iv, .int .u64 q] 24)).alloc (.cells #[.int .i64 23, .string b] 26)).alloc (.cells #[.string ⟨#[]⟩, .string ⟨#[]⟩, .int .u64 0] 24)).alloc (.cells #[.int .i64 0, .string ⟨#[]⟩] 26)) w.heap.size 3 (sd3 key iv q) := (Arr.al' (n := 2) (Arr.al' (n := 2) (Arr.al' (n := 2) (Arr.new w _ 24 _ rfl _ 3 (sd3_at key iv q)) _) _) _)
  have A1 : Arr ((((w.alloc (.cells #[.string key, .string iv, .int .u64 q] 24)).alloc (.cells #[.int .i64 23, .string b] 26)).alloc (.cells #[.string ⟨#[]⟩, .string ⟨#[]⟩, .int .u64 0] 24)).alloc (.cells #[.int .i64 0, .string ⟨#[]⟩] 26)) (w.heap.size + 1) 2 (rc2 23 b) := (Arr.al' (n := 1) (Arr.al' (n := 1) (Arr.new (w.alloc (.cells #[.string key, .string iv, .int .u64 q] 24)) _ 26 (w.heap.size + 1) (by simp) _ 2 (rc2_at 23 b)) _) _)
  have A2 : Arr ((((w.alloc (.cells #[.string key, .string iv, .int .u64 q] 24)).alloc (.cells #[.int .i64 23, .string b] 26)).alloc (.cells #[.string ⟨#[]⟩, .string ⟨#[]⟩, .int .u64 0] 24)).alloc (.cells #[.int .i64 0, .string ⟨#[]⟩] 26)) (w.heap.size + 1 + 1) 3 (sd3 ⟨#[]⟩ ⟨#[]⟩ 0) := (Arr.al' (n := 2) (Arr.new ((w.alloc (.cells #[.string key, .string iv, .int .u64 q] 24)).alloc (.cells #[.int .i64 23, .string b] 26)) _ 24 (w.heap.size + 1 + 1) (by simp) _ 3 (sd3_at ⟨#[]⟩ ⟨#[]⟩ 0)) _)
  have A3 : Arr ((((w.alloc (.cells #[.string key, .string iv, .int .u64 q] 24)).alloc (.cells #[.int .i64 23, .string b] 26)).alloc (.cells #[.string ⟨#[]⟩, .string ⟨#[]⟩, .int .u64 0] 24)).alloc (.cells #[.int .i64 0, .string ⟨#[]⟩] 26)) (w.heap.size + 1 + 1 + 1) 2 (rc2 0 ⟨#[]⟩) := Arr.new (((w.alloc (.cells #[.string key, .string iv, .int .u64 q] 24)).alloc (.cells #[.int .i64 23, .string b] 26)).alloc (.cells #[.string ⟨#[]⟩, .string ⟨#[]⟩, .int .u64 0] 24)) _ 26 (w.heap.size + 1 + 1 + 1) (by simp) _ 2 (rc2_at 0 ⟨#[]⟩)
  have B0 : Below w.heap.size w ((((w.alloc (.cells #[.string key, .string iv, .int .u64 q] 24)).alloc (.cells #[.int .i64 23, .string b] 26)).alloc (.cells #[.string ⟨#[]⟩, .string ⟨#[]⟩, .int .u64 0] 24)).alloc (.cells #[.int .i64 0, .string ⟨#[]⟩] 26)) := by go_grown
  go_enter Tryz.func13, Tryz.ntmps13
  go_wp2_with fail
  refine (C1 _).mono ?_
  rintro e w1 ⟨rfl, b1⟩
  replace A0 : Arr _ _ 3 _ := A0.to' (n := 2) b1
  replace A1 : Arr _ _ 2 _ := A1.to' (n := 1) b1
  replace A2 : Arr _ _ 3 _ := A2.to' (n := 2) b1
  replace A3 : Arr _ _ 2 _ := A3.to' (n := 1) b1
  replace B0 := Bel.call B0 b1
  clear b1 C1
  obtain ⟨e0, e1, e2⟩ := A0.sd
  have m0 := A1.cv 0 (by omega) (.int .i64 23) rfl
  have m1 := A1.cv 1 (by omega) (.string b) rfl
  go_wp2_with fail
  clear e0 e1 e2 m0 m1
  have r0 := fun ds os => cell_regrown (A0.cv 0 (by omega) (.string key) rfl) ds os
  have r1 := fun ds os => cell_regrown (A1.cv 1 (by omega) (.string b) rfl) ds os
  refine wp_region_quiet_below (by kernel_rfl) (by kernel_rfl) ?_
  repeat (go_big_quiet_step (first | (go_at_call 23; exact Calls.regrown_of (C2 _)) | (go_at_call 27; exact Calls.regrown_of (C3 _))))
  refine wpQuiet_nil ?_
  intro w2 hw'
  obtain ⟨⟨dq, osq⟩, hw''⟩ := hw'
  have b2 := below_of hw''
  clear hw'' r0 r1
  replace A0 : Arr _ _ 3 _ := A0.to' (n := 2) b2
  replace A1 : Arr _ _ 2 _ := A1.to' (n := 1) b2
  replace A2 : Arr _ _ 3 _ := A2.to' (n := 2) b2
  replace A3 : Arr _ _ 2 _ := A3.to' (n := 1) b2
  replace B0 := Bel.call B0 b2
  clear b2 C2 C3
  go_wp2_with fail
  obtain ⟨n, hn⟩ : ∃ n, t.size = n := ⟨_, rfl⟩
  have HN : Hid (t.size = n) := hn
  rw [hn] at hhi
  have n2 : (n : Int) ≤ 16385 := by omega
  clear hn ht
  have HH : Hid _ := hhi
  clear hhi
  go_loopw [10] (fun i wr => ∃ m : Nat, M < m ∧ m ≤ n ∧ i = .int .i64 ((m : Int) - 1) ∧ wr = w2) (fun i _ => ((intOf i) + 1).toNat)
  case atStart =>
    refine ⟨n, by rw [← HN.out]; exact hM, Nat.le_refl _, ?_, rfl⟩
    rw [← HN.out]
  case round =>
    obtain ⟨m, hm1, hm2, rfl, rfl⟩ := hrel
    cases m with
    | zero =>
      exact absurd hm1 (Nat.not_lt_zero _)
    | succ i =>
      rw [show (((i + 1 : Nat) : Int) - 1) = (i : Int) by omega]
      have i1 : (i : Int) < (t.size : Int) := by rw [HN.out]; omega
      have i2 : (i : Int) ≤ 16385 := by omega
      have i3 : (0 : Int) ≤ (i : Int) := by omega
      have I := fun W => idxS t i (by rw [HN.out]; omega) W

      by_cases hlt : M < i
      ·
        rw [HH.out i hlt (by omega)] at I
        go_wp2_with fail
        refine ⟨⟨i, by omega, by omega, by go_num, ?_⟩, ?_⟩ <;> first | trivial | rfl | (simp [intOf] <;> omega)
      have ei : i = M := by omega
      subst ei
      have hcb := bt_bd t i
      rw [hc] at I hcb
      obtain ⟨hc1, hc2⟩ := hcb
      have hc3 : ¬ c = 0 := c0
      have i4 : ¬ (i : Int) < 0 := by omega
      obtain ⟨e0, e1, e2⟩ := A0.sd
      have m0 := A1.cv 0 (by omega) (.int .i64 23) rfl
      have m1 := A1.cv 1 (by omega) (.string b) rfl
      have c20 := A2.c 0 (by omega)
      have c21 := A2.c 1 (by omega)
      have c22 := A2.c 2 (by omega)
      have z20 := A2.z 0 (by omega)
      have z21 := A2.z 1 (by omega)
      have z22 := A2.z 2 (by omega)
      have c30 := A3.c 0 (by omega)
      have c31 := A3.c 1 (by omega)
      have z30 := A3.z 0 (by omega)
      have z31 := A3.z 1 (by omega)
      go_wp2_with (go_at_call 22; refine (C4 _).mono ?_; rintro e w9 ⟨rfl, rfl⟩)
      have G2 := (A2.ssd key iv (q)).sreco (b' := w.heap.size + 1 + 1 + 1) (by omega) (0) ⟨#[]⟩
      have G3 := (A3.ssdo (b' := w.heap.size + 1 + 1) (by omega) key iv (q)).srec (0) ⟨#[]⟩
      have E := Bel.srec (Bel.ssd B0 (b := w.heap.size + 1 + 1) (by omega) key iv (q)) (b := w.heap.size + 1 + 1 + 1) (by omega) (0) ⟨#[]⟩
      clear c20 c21 c22 c30 c31 z20 z21 z22 z30 z31
      obtain ⟨g0, g1, g2⟩ := G2.sd
      have g3 := G3.cv 0 (by omega) (.int .i64 (0)) rfl
      have g4 := G3.cv 1 (by omega) (.string ⟨#[]⟩) rfl
      unfold srec ssd at g0 g1 g2 g3 g4 E
      refine bodyPost_ret (v := .tuple #[sdV key iv (q), rcV (0) ⟨#[]⟩, .int .i64 23]) ?_ rfl ⟨rfl, E⟩
      simp [sdV, rcV, results, Tryz.results13, go_sem, g0, g1, g2, g3, g4]
set_option maxHeartbeats 4000000 in
theorem rUnprotect_8 (key iv b N H t x : ByteArray) (k q c : Int) (hq : ¬ q = 18446744073709551615) (q0 : 0 ≤ q) (q1 : q < 18446744073709551615) (hk : k = 23) (ht : ¬ 16385 < t.size) (M : Nat) (hM : M < t.size) (hhi : ∀ j, M < j → j < t.size → bt t j = 0) (hc : bt t M = c) (c0 : c ≠ 0) (hx : t.extract 0 M = x) (w : World)
    (C1 : ∀ W, Calls Tryz.prog 9 #[sdV key iv q] W fun e w' => e = .returned (.tuple #[.string N, .int .i64 0]) ∧ Below W.heap.size W w')
    (C2 : ∀ W, Calls Tryz.prog 23 #[.int .i64 23, .int .i64 (b.size : Int)] W fun e w' => e = .returned (.string H) ∧ Below W.heap.size W w')
    (C3 : ∀ W, Calls Tryz.prog 27 #[.string key, .string N, .string H, .string b] W fun e w' => e = .returned (.tuple #[.string t, .int .i64 0]) ∧ Below W.heap.size W w')
    (C4 : ∀ W, Calls Tryz.prog 22 #[.int .i64 c] W fun e w' => e = .returned (.bool true) ∧ w' = W) :
    Calls Tryz.prog 13 #[sdV key iv q, rcV k b] w fun e w' => e = .returned (.tuple #[sdV key iv (q + 1), rcV c x, .int .i64 0]) ∧ Below w.heap.size w w' := by
  subst hk
  have t1 : ¬ (16385 : Int) < (t.size : Int) := by omega
  have t2 : (t.size : Int) ≤ 16385 := by omega
  unfold sdV rcV at *
  have A0 : Arr ((((w.alloc (.cells #[.string key, .string iv, .int .u64 q] 24)).alloc (.cells #[.int .i64 23, .string b] 26)).alloc (.cells #[.string ⟨#[]⟩, .string ⟨#[]⟩, .int .u64 0] 24)).alloc (.cells #[.int .i64 0, .string ⟨#[]⟩] 26)) w.heap.size 3 (sd3 key iv q) := (Arr.al' (n := 2) (Arr.al' (n := 2) (Arr.al' (n := 2) (Arr.new w _ 24 _ rfl _ 3 (sd3_at key iv q)) _) _) _)
  have A1 : Arr ((((w.alloc (.cells #[.string key, .string iv, .int .u64 q] 24)).alloc (.cells #[.int .i64 23, .string b] 26)).alloc (.cells #[.string ⟨#[]⟩, .string ⟨#[]⟩, .int .u64 0] 24)).alloc (.cells #[.int .i64 0, .string ⟨#[]⟩] 26)) (w.heap.size + 1) 2 (rc2 23 b) := (Arr.al' (n := 1) (Arr.al' (n := 1) (Arr.new (w.alloc (.cells #[.string key, .string iv, .int .u64 q] 24)) _ 26 (w.heap.size + 1) (by simp) _ 2 (rc2_at 23 b)) _) _)
  have A2 : Arr ((((w.alloc (.cells #[.string key, .string iv, .int .u64 q] 24)).alloc (.cells #[.int .i64 23, .string b] 26)).alloc (.cells #[.string ⟨#[]⟩, .string ⟨#[]⟩, .int .u64 0] 24)).alloc (.cells #[.int .i64 0, .string ⟨#[]⟩] 26)) (w.heap.size + 1 + 1) 3 (sd3 ⟨#[]⟩ ⟨#[]⟩ 0) := (Arr.al' (n := 2) (Arr.new ((w.alloc (.cells #[.string key, .string iv, .int .u64 q] 24)).alloc (.cells #[.int .i64 23, .string b] 26)) _ 24 (w.heap.size + 1 + 1) (by simp) _ 3 (sd3_at ⟨#[]⟩ ⟨#[]⟩ 0)) _)
  have A3 : Arr ((((w.alloc (.cells #[.string key, .string iv, .int .u64 q] 24)).alloc (.cells #[.int .i64 23, .string b] 26)).alloc (.cells #[.string ⟨#[]⟩, .string ⟨#[]⟩, .int .u64 0] 24)).alloc (.cells #[.int .i64 0, .string ⟨#[]⟩] 26)) (w.heap.size + 1 + 1 + 1) 2 (rc2 0 ⟨#[]⟩) := Arr.new (((w.alloc (.cells #[.string key, .string iv, .int .u64 q] 24)).alloc (.cells #[.int .i64 23, .string b] 26)).alloc (.cells #[.string ⟨#[]⟩, .string ⟨#[]⟩, .int .u64 0] 24)) _ 26 (w.heap.size + 1 + 1 + 1) (by simp) _ 2 (rc2_at 0 ⟨#[]⟩)
  have B0 : Below w.heap.size w ((((w.alloc (.cells #[.string key, .string iv, .int .u64 q] 24)).alloc (.cells #[.int .i64 23, .string b] 26)).alloc (.cells #[.string ⟨#[]⟩, .string ⟨#[]⟩, .int .u64 0] 24)).alloc (.cells #[.int .i64 0, .string ⟨#[]⟩] 26)) := by go_grown
  go_enter Tryz.func13, Tryz.ntmps13
  go_wp2_with fail
  refine (C1 _).mono ?_
  rintro e w1 ⟨rfl, b1⟩
  replace A0 : Arr _ _ 3 _ := A0.to' (n := 2) b1
  replace A1 : Arr _ _ 2 _ := A1.to' (n := 1) b1
  replace A2 : Arr _ _ 3 _ := A2.to' (n := 2) b1
  replace A3 : Arr _ _ 2 _ := A3.to' (n := 1) b1
  replace B0 := Bel.call B0 b1
  clear b1 C1
  obtain ⟨e0, e1, e2⟩ := A0.sd
  have m0 := A1.cv 0 (by omega) (.int .i64 23) rfl
  have m1 := A1.cv 1 (by omega) (.string b) rfl
  go_wp2_with fail
  clear e0 e1 e2 m0 m1
  have r0 := fun ds os => cell_regrown (A0.cv 0 (by omega) (.string key) rfl) ds os
  have r1 := fun ds os => cell_regrown (A1.cv 1 (by omega) (.string b) rfl) ds os
  refine wp_region_quiet_below (by kernel_rfl) (by kernel_rfl) ?_
  repeat (go_big_quiet_step (first | (go_at_call 23; exact Calls.regrown_of (C2 _)) | (go_at_call 27; exact Calls.regrown_of (C3 _))))
  refine wpQuiet_nil ?_
  intro w2 hw'
  obtain ⟨⟨dq, osq⟩, hw''⟩ := hw'
  have b2 := below_of hw''
  clear hw'' r0 r1
  replace A0 : Arr _ _ 3 _ := A0.to' (n := 2) b2
  replace A1 : Arr _ _ 2 _ := A1.to' (n := 1) b2
  replace A2 : Arr _ _ 3 _ := A2.to' (n := 2) b2
  replace A3 : Arr _ _ 2 _ := A3.to' (n := 1) b2
  replace B0 := Bel.call B0 b2
  clear b2 C2 C3
  go_wp2_with fail
  obtain ⟨n, hn⟩ : ∃ n, t.size = n := ⟨_, rfl⟩
  have HN : Hid (t.size = n) := hn
  rw [hn] at hhi
  have n2 : (n : Int) ≤ 16385 := by omega
  clear hn ht
  have HH : Hid _ := hhi
  clear hhi
  go_loopw [10] (fun i wr => ∃ m : Nat, M < m ∧ m ≤ n ∧ i = .int .i64 ((m : Int) - 1) ∧ wr = w2) (fun i _ => ((intOf i) + 1).toNat)
  case atStart =>
    refine ⟨n, by rw [← HN.out]; exact hM, Nat.le_refl _, ?_, rfl⟩
    rw [← HN.out]
  case round =>
    obtain ⟨m, hm1, hm2, rfl, rfl⟩ := hrel
    cases m with
    | zero =>
      exact absurd hm1 (Nat.not_lt_zero _)
    | succ i =>
      rw [show (((i + 1 : Nat) : Int) - 1) = (i : Int) by omega]
      have i1 : (i : Int) < (t.size : Int) := by rw [HN.out]; omega
      have i2 : (i : Int) ≤ 16385 := by omega
      have i3 : (0 : Int) ≤ (i : Int) := by omega
      have I := fun W => idxS t i (by rw [HN.out]; omega) W

      by_cases hlt : M < i
      ·
        rw [HH.out i hlt (by omega)] at I
        go_wp2_with fail
        refine ⟨⟨i, by omega, by omega, by go_num, ?_⟩, ?_⟩ <;> first | trivial | rfl | (simp [intOf] <;> omega)
      have ei : i = M := by omega
      subst ei
      have hcb := bt_bd t i
      rw [hc] at I hcb
      obtain ⟨hc1, hc2⟩ := hcb
      have hc3 : ¬ c = 0 := c0
      have i4 : ¬ (i : Int) < 0 := by omega
      have S1 : ∀ W, (Instr.slice 9 (.string t) none (some (.int .i64 (i : Int))) none).run Tryz.prog W = .ok (.string x) W := fun W => by
        rw [run_slice_string_h W 9 _ Tryz.underlying9 .i64 (i : Int) (by omega) (by omega), Int.toNat_natCast, hx]
      obtain ⟨e0, e1, e2⟩ := A0.sd
      have y2 := A0.z 2 (by omega)
      go_wp2_with (go_at_call 22; refine (C4 _).mono ?_; rintro e w9 ⟨rfl, rfl⟩)
      have A0' : Arr (w9.setCell ⟨w.heap.size, 2, none⟩ (.int .u64 (q + 1))) w.heap.size 3 (sd3 key iv (q + 1)) := (A0.set 2 (by omega) _).congr (by
        intro j hj
        have : j = 0 ∨ j = 1 ∨ j = 2 := by omega
        rcases this with rfl | rfl | rfl <;> simp [sd3])
      replace A2 : Arr (w9.setCell ⟨w.heap.size, 2, none⟩ (.int .u64 (q + 1))) (w.heap.size + 1 + 1) 3 (sd3 ⟨#[]⟩ ⟨#[]⟩ 0) := A2.other (by omega) _
      replace A3 : Arr (w9.setCell ⟨w.heap.size, 2, none⟩ (.int .u64 (q + 1))) (w.heap.size + 1 + 1 + 1) 2 (rc2 0 ⟨#[]⟩) := A3.other (by omega) _
      replace B0 := Bel.st B0 (b := w.heap.size) (k := 2) (Nat.le_refl _) (.int .u64 (q + 1))
      clear A0 A1 e0 e1 e2 y2
      generalize w9.setCell ⟨w.heap.size, 2, none⟩ (.int .u64 (q + 1)) = w5 at *
      refine wp_region_float_tail 1 8 #[true, true, true, true, true, true, true, true, true, false, false, false] #[false, true, true, true, true, true, true, true, true, false, false, false] (by kernel_rfl) (by intro c d v a w h; cases d <;> exact h) (by kernel_rfl) _ ⟨.string t, Or.inl ⟨rfl, fun _ => rfl⟩, ⟨.int .i64 (i : Int), Or.inl ⟨rfl, fun _ => rfl⟩, ⟨.int .u8 c, Or.inl ⟨rfl, fun W => ?_⟩, ⟨.int .i64 c, Or.inl ⟨rfl, fun W => ?_⟩, ⟨.string t, Or.inl ⟨rfl, fun _ => rfl⟩, ⟨.int .i64 (i : Int), Or.inl ⟨rfl, fun _ => rfl⟩, ⟨.string x, Or.inl ⟨rfl, fun W => ?_⟩, ⟨.agg #[.int .i64 c, .string x], Or.inl ⟨rfl, fun W => ?_⟩, rfl⟩⟩⟩⟩⟩⟩⟩⟩ ?_
      · simp [execOp, Act.eval, Act.put, go_sem, I]
      · simp [execOp, Act.eval, Act.put, go_sem, hc1, hc2]
        rw [IntKind.wrap_i64]
        omega
      · simp [execOp, Act.eval, Act.put, go_sem, S1]
      · simp [execOp, Act.eval, Act.put, go_sem]
      simp only [List.take_succ_cons, List.take_zero, List.drop_succ_cons, List.drop_zero, Act.put, List.setIfInBounds_toArray, List.set_cons_succ, List.set_cons_zero]
      have r0 := fun ds os => cell_regrown (A0'.cv 0 (by omega) (.string key) rfl) ds os
      have r1 := fun ds os => cell_regrown (A0'.cv 1 (by omega) (.string iv) rfl) ds os
      have r2 := fun ds os => cell_regrown (A0'.cv 2 (by omega) (.int .u64 (q + 1)) rfl) ds os
      repeat (go_big_quiet_step (fail))
      refine wpQuiet_nil ?_
      intro w6 hw'
      obtain ⟨⟨dq, osq⟩, hw''⟩ := hw'
      have b6 := below_of hw''
      clear hw'' r0 r1 r2
      replace A2 : Arr _ _ 3 _ := A2.to' (n := 2) b6
      replace A3 : Arr _ _ 2 _ := A3.to' (n := 1) b6
      replace B0 := Bel.call B0 b6
      clear b6 A0' I S1
      have c20 := A2.c 0 (by omega)
      have c21 := A2.c 1 (by omega)
      have c22 := A2.c 2 (by omega)
      have z20 := A2.z 0 (by omega)
      have z21 := A2.z 1 (by omega)
      have z22 := A2.z 2 (by omega)
      have c30 := A3.c 0 (by omega)
      have c31 := A3.c 1 (by omega)
      have z30 := A3.z 0 (by omega)
      have z31 := A3.z 1 (by omega)
      go_wp2_with fail
      have G2 := (A2.ssd key iv (q + 1)).sreco (b' := w.heap.size + 1 + 1 + 1) (by omega) (c) x
      have G3 := (A3.ssdo (b' := w.heap.size + 1 + 1) (by omega) key iv (q + 1)).srec (c) x
      have E := Bel.srec (Bel.ssd B0 (b := w.heap.size + 1 + 1) (by omega) key iv (q + 1)) (b := w.heap.size + 1 + 1 + 1) (by omega) (c) x
      clear c20 c21 c22 c30 c31 z20 z21 z22 z30 z31
      obtain ⟨g0, g1, g2⟩ := G2.sd
      have g3 := G3.cv 0 (by omega) (.int .i64 (c)) rfl
      have g4 := G3.cv 1 (by omega) (.string x) rfl
      unfold srec ssd at g0 g1 g2 g3 g4 E
      refine bodyPost_ret (v := .tuple #[sdV key iv (q + 1), rcV (c) x, .int .i64 0]) ?_ rfl ⟨rfl, E⟩
      simp [sdV, rcV, results, Tryz.results13, go_sem, g0, g1, g2, g3, g4]
theorem rUnprotect_any (key iv b : ByteArray) (k q : Int) (q0 : 0 ≤ q) (q1 : q < 18446744073709551616) (hb : b.size ≤ 9223372036854775807) (w : World) :
    Calls Tryz.prog 13 #[sdV key iv q, rcV k b] w fun e w' => e = .returned (.tuple #[sdV key iv (upQ key iv q k b), upV key iv q k b, .int .i64 (upE key iv q k b)]) ∧ Below w.heap.size w w' := by
  have CN := fun W => rNonce_any key iv q q0 q1 W
  by_cases h2 : noE key iv = 0
  · obtain ⟨hk, hi⟩ := noE_0 h2
    have eN : noR key iv q = noS iv q := by unfold noR; rw [if_pos h2]
    rw [h2, eN] at CN
    by_cases h3 : q = 18446744073709551615
    · have d : diE key iv q = 18 := by unfold diE; rw [if_pos h2, if_pos h3]
      have e : upE key iv q k b = 18 := by unfold upE; rw [d, if_neg (by decide)]
      unfold upQ upV
      rw [e, if_neg (by decide), if_neg (by decide)]
      exact rUnprotect_2 key iv b _ k q h3 w CN
    · have d : diE key iv q = 0 := by unfold diE; rw [if_pos h2, if_neg h3]
      by_cases h4 : k = 23
      · have CH := fun W => rhead_any 23 (b.size : Int) (by omega) (by omega) W
        have CO := fun W => rOpen_all key (noS iv q) (hdS 23 (b.size : Int)) b hk (noS_size _ _) (by rw [hdS_size]; omega) W
        have E : upE key iv q k b = if oqE key (noS iv q) (hdS 23 (b.size : Int)) b = 0 then wiE (oqS key (noS iv q) (hdS 23 (b.size : Int)) b) else oqE key (noS iv q) (hdS 23 (b.size : Int)) b := by
          unfold upE
          rw [d, if_pos rfl, if_pos h4]
        unfold upQ upV
        rw [E]
        clear E
        generalize oqS key (noS iv q) (hdS 23 (b.size : Int)) b = S at *
        generalize oqE key (noS iv q) (hdS 23 (b.size : Int)) b = R at *
        generalize hdS 23 (b.size : Int) = H at *
        by_cases h5 : R = 0
        · subst h5
          rw [if_pos rfl]
          by_cases h6 : 16385 < S.size
          · have e : wiE S = 12 := by unfold wiE; rw [if_pos h6]
            rw [e, if_neg (by decide), if_neg (by decide)]
            exact rUnprotect_5 key iv b _ H S k q h3 h4 h6 w CN CH CO
          · by_cases h7 : (trS S).size = 0
            · have e : wiE S = 10 := by unfold wiE; rw [if_neg h6, if_pos h7]
              rw [e, if_neg (by decide), if_neg (by decide)]
              exact rUnprotect_6 key iv b _ H S k q h3 h4 h6 (fun j hj => trS_high S j (by omega) hj) w CN CH CO
            · have hlt : (trS S).size - 1 < (trS S).size := by omega
              have hle := trS_le S
              have ec := trS_low S _ hlt
              have CK := fun W => rknown_any (bt S ((trS S).size - 1)) W
              cases h8 : knB (bt (trS S) ((trS S).size - 1)) with
              | true =>
                have e : wiE S = 0 := by unfold wiE; rw [if_neg h6, if_neg h7, if_pos h8]
                have ev : wiV S = rcV (bt (trS S) ((trS S).size - 1)) ((trS S).extract 0 ((trS S).size - 1)) := by unfold wiV; rw [if_pos e]
                rw [e, if_pos rfl, if_pos rfl, ev]
                rw [ec] at h8 ⊢
                rw [h8] at CK
                refine rUnprotect_8 key iv b _ H S _ k q _ h3 q0 (by omega) h4 h6 ((trS S).size - 1) (by omega) (fun j hj hj2 => trS_high S j (by omega) hj2) rfl (trS_end S h7) ?_ w CN CH CO CK
                apply ba_ext
                have hx := congrArg (fun z : ByteArray => z.data.toList.take ((trS S).size - 1)) (trS_ext S)
                simp only [ext_list, List.drop_zero, Nat.sub_zero, List.take_take] at hx ⊢
                rw [← hx, show min ((trS S).size - 1) (trS S).size = (trS S).size - 1 by omega]
              | false =>
                have e : wiE S = 23 := by unfold wiE; rw [if_neg h6, if_neg h7, if_neg (by rw [h8]; decide)]
                rw [e, if_neg (by decide), if_neg (by decide)]
                rw [ec] at h8
                rw [h8] at CK
                exact rUnprotect_7 key iv b _ H S k q _ h3 h4 h6 ((trS S).size - 1) (by omega) (fun j hj hj2 => trS_high S j (by omega) hj2) rfl (trS_end S h7) w CN CH CO CK
        · rw [if_neg h5, if_neg h5, if_neg h5]
          exact rUnprotect_4 key iv b _ H S k q R h3 h4 h5 w CN CH CO
      · have e : upE key iv q k b = 23 := by unfold upE; rw [d, if_pos rfl, if_neg h4]
        unfold upQ upV
        rw [e, if_neg (by decide), if_neg (by decide)]
        exact rUnprotect_3 key iv b _ k q h3 h4 w CN
  · have d : diE key iv q = noE key iv := by unfold diE; rw [if_neg h2]
    have e : upE key iv q k b = noE key iv := by unfold upE; rw [d, if_neg h2]
    unfold upQ upV
    rw [e, if_neg h2, if_neg h2]
    exact rUnprotect_1 key iv b _ k q _ h2 w CN
end Go.Proofs.YtjaljnfijhfkcaaGreatDoor
