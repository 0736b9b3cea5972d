/- Directions: made, gone on, their nonce; texts sealed and opened by them: of the program. -/
import Derived.Test.YtjaljnfijhfkcaaGreatDoorJ35
import Derived.Test.YtjaljnfijhfkcaaGreatDoorJ42
set_option linter.all false
set_option maxRecDepth 100000
namespace Go.Proofs.YtjaljnfijhfkcaaGreatDoor
open Go.RowKit Go.Sort Lin
set_option maxHeartbeats 1000000 in
theorem nonce_any (d : Nat) (key iv : ByteArray) (q : Int) (q0 : 0 ≤ q) (q1 : q < 18446744073709551616) (w : World) (A : Arr w d 3 (sd3 key iv q)) :
    Calls Tryz.prog 35 #[.pointer (some ⟨d, 0, none⟩)] w fun e w' => e = .returned (.string (noR key iv q)) ∧ Below w.heap.size w w' := by
  have C1 := Load_any d q w (A.c 2 (by omega))
  have C2 := side_any d key iv q q w A
  have C3 := fun W => Nonce_any key iv q q0 q1 W
  generalize noR key iv q = T at *
  generalize noE key iv = E at *
  unfold sdV at *
  clear A
  go_enter Tryz.func35, Tryz.ntmps35
  go_wp2_with (first | (go_at_call 57; refine C1.mono ?_; rintro e w1 ⟨rfl, rfl⟩) | (go_at_call 42; refine C2.mono ?_; rintro e w2 ⟨rfl, B2⟩) | (go_at_call 8; refine (C3 _).mono ?_; rintro e w3 ⟨rfl, B3⟩))
  go_ret
  exact ⟨rfl, Bel.call B2 B3⟩
set_option maxHeartbeats 1000000 in
theorem goneOn_all (d : Nat) (key iv : ByteArray) (q : Int) (q0 : 0 ≤ q) (q1 : q < 18446744073709551615) (w : World) (A : Arr w d 3 (sd3 key iv q)) :
    Calls Tryz.prog 21 #[.pointer (some ⟨d, 0, none⟩)] w fun e w' => e = .returned (sdV key iv (q + 1)) ∧ Below w.heap.size (w.setCell ⟨d, 2, none⟩ (.int .u64 (q + 1))) w' := by
  have hd : d < w.heap.size := A.lt (n := 2)
  have A0 : Arr _ d 3 _ := A.al' (n := 2) (.cells #[.string ⟨#[]⟩, .string ⟨#[]⟩, .int .u64 0] 24)
  have A1 := Arr.new w _ 24 _ rfl _ 3 (sd3_at ⟨#[]⟩ ⟨#[]⟩ 0)
  have C1 := Add_any d q q0 q1 _ (A0.c 2 (by omega)) (A0.z 2 (by omega))
  have A2 : Arr ((w.alloc (.cells #[.string ⟨#[]⟩, .string ⟨#[]⟩, .int .u64 0] 24)).setCell ⟨d, 2, none⟩ (.int .u64 (q + 1))) d 3 (sd3 key iv (q + 1)) := (A0.set 2 (by omega) _).congr (by
    intro j hj
    have : j = 0 ∨ j = 1 ∨ j = 2 := by omega
    rcases this with rfl | rfl | rfl <;> simp [sd3])
  have A3 : Arr ((w.alloc (.cells #[.string ⟨#[]⟩, .string ⟨#[]⟩, .int .u64 0] 24)).setCell ⟨d, 2, none⟩ (.int .u64 (q + 1))) w.heap.size 3 (sd3 ⟨#[]⟩ ⟨#[]⟩ 0) := A1.other (by omega) _
  have B1 : Below w.heap.size (w.setCell ⟨d, 2, none⟩ (.int .u64 (q + 1))) ((w.alloc (.cells #[.string ⟨#[]⟩, .string ⟨#[]⟩, .int .u64 0] 24)).setCell ⟨d, 2, none⟩ (.int .u64 (q + 1))) := by
    rw [World.setCell_alloc_past _ d 2 _ hd]
    exact (Below.refl _ _).alloc (by rw [size_set]; exact Nat.le_refl _) _
  have L1 : w.heap.size < ((w.alloc (.cells #[.string ⟨#[]⟩, .string ⟨#[]⟩, .int .u64 0] 24)).setCell ⟨d, 2, none⟩ (.int .u64 (q + 1))).heap.size := by rw [size_set]; exact A1.lt (n := 2)
  generalize hu : w.setCell ⟨d, 2, none⟩ (.int .u64 (q + 1)) = u at B1 ⊢
  clear A A0 A1 hu
  go_enter Tryz.func21, Tryz.ntmps21
  go_wp2_with fail
  refine C1.mono ?_
  rintro e w1 ⟨rfl, hw⟩
  rw [← hw] at A2 A3 B1 L1
  clear hw C1
  go_wp2_with fail
  refine (side_any d key iv (q + 1) (q + 1) _ A2).mono ?_
  rintro e w2 ⟨rfl, B2⟩
  have A4 := A3.below B2 L1
  have B3 := B1.trans (B2.mono (by omega))
  clear A2 A3 B1 B2
  have c := A4.c
  have z := A4.z
  obtain ⟨e0, e1, e2⟩ := (A4.ssd key iv (q + 1)).sd
  unfold ssd at e0 e1 e2
  unfold sdV
  go_wp2_with fail
  refine bodyPost_ret (v := sdV key iv (q + 1)) (by simp [sdV, results, Tryz.results21, go_sem, e0, e1, e2]) rfl ⟨rfl, Bel.ssd B3 (by omega) key iv (q + 1)⟩
theorem goneOn_any (d : Nat) (key iv : ByteArray) (q : Int) (q0 : 0 ≤ q) (q1 : q < 18446744073709551615) (w : World) (A : Arr w d 3 (sd3 key iv q)) :
    Calls Tryz.prog 21 #[.pointer (some ⟨d, 0, none⟩)] w fun e w' => e = .returned (sdV key iv (q + 1)) ∧ Below d w w' :=
  (goneOn_all d key iv q q0 q1 w A).mono fun e w' ⟨h1, h2⟩ => ⟨h1, ((Below.refl d w).setCell (p := ⟨d, 2, none⟩) (Nat.le_refl _) _).trans (h2.mono (Nat.le_of_lt (A.lt (n := 2))))⟩
/-- What is wrong with a direction that is to go on. -/
def diE (key iv : ByteArray) (q : Int) : Int := if noE key iv = 0 then (if q = 18446744073709551615 then 18 else 0) else noE key iv
set_option maxHeartbeats 1000000 in
theorem directionOf_1 (key iv T : ByteArray) (q E : Int) (hE : ¬ E = 0) (w : World)
    (C : ∀ W, Calls Tryz.prog 8 #[sdV key iv q] W fun e w' => e = .returned (.tuple #[.string T, .int .i64 E]) ∧ Below W.heap.size W w') :
    Calls Tryz.prog 18 #[sdV key iv q] w fun e w' => e = .returned (.tuple #[.pointer none, .int .i64 E]) ∧ Below w.heap.size w w' := by
  unfold sdV at *
  go_enter Tryz.func18, Tryz.ntmps18
  go_wp2_with fail
  refine (C _).mono ?_
  rintro e w1 ⟨rfl, B1⟩
  replace B1 : Below w.heap.size w w1 := Bel.call (by go_grown) B1
  go_wp2_with fail
  refine bodyPost_ret (v := .tuple #[.pointer none, .int .i64 E]) (by simp [results, Tryz.results18, go_sem]) rfl ⟨rfl, B1⟩
set_option maxHeartbeats 1000000 in
theorem directionOf_2 (key iv T : ByteArray) (q : Int) (hq : q = 18446744073709551615) (w : World)
    (C : ∀ W, Calls Tryz.prog 8 #[sdV key iv q] W fun e w' => e = .returned (.tuple #[.string T, .int .i64 0]) ∧ Below W.heap.size W w') :
    Calls Tryz.prog 18 #[sdV key iv q] w fun e w' => e = .returned (.tuple #[.pointer none, .int .i64 18]) ∧ Below w.heap.size w w' := by
  subst hq
  unfold sdV at *
  have A0 := Arr.new w _ 24 _ rfl _ 3 (sd3_at key iv 18446744073709551615)
  go_enter Tryz.func18, Tryz.ntmps18
  go_wp2_with fail
  refine (C _).mono ?_
  rintro e w1 ⟨rfl, B1⟩
  obtain ⟨e0, e1, e2⟩ := (A0.to' (n := 2) B1).sd
  replace B1 : Below w.heap.size w w1 := Bel.call (by go_grown) B1
  clear C A0
  go_wp2_with fail
  refine bodyPost_ret (v := .tuple #[.pointer none, .int .i64 18]) (by simp [results, Tryz.results18, go_sem]) rfl ⟨rfl, B1⟩
set_option maxHeartbeats 1000000 in
theorem directionOf_3 (key iv T : ByteArray) (q : Int) (hq : ¬ q = 18446744073709551615) (w : World)
    (C : ∀ W, Calls Tryz.prog 8 #[sdV key iv q] W fun e w' => e = .returned (.tuple #[.string T, .int .i64 0]) ∧ Below W.heap.size W w') :
    Calls Tryz.prog 18 #[sdV key iv q] w fun e w' => ∃ d, e = .returned (.tuple #[.pointer (some ⟨d, 0, none⟩), .int .i64 0]) ∧ w.heap.size ≤ d ∧ Arr w' d 3 (sd3 key iv q) ∧ Below w.heap.size w w' := by
  unfold sdV at *
  have A0 := Arr.new w _ 24 _ rfl _ 3 (sd3_at key iv q)
  go_enter Tryz.func18, Tryz.ntmps18
  go_wp2_with fail
  refine (C _).mono ?_
  rintro e w1 ⟨rfl, B1⟩
  have A1 : Arr _ _ 3 _ := A0.to' (n := 2) B1
  obtain ⟨e0, e1, e2⟩ := A1.sd
  replace B1 : Below w.heap.size w w1 := Bel.call (by go_grown) B1
  clear C A0
  go_wp2_with fail
  have D0 := Arr.new w1 _ 76 _ rfl _ 3 (sd3_at key iv 0)
  have A2 : Arr _ _ 3 _ := A1.al' (n := 2) (.cells #[.string key, .string iv, .int .u64 0] 76)
  have B2 := Bel.al B1 (.cells #[.string key, .string iv, .int .u64 0] 76)
  have hd := B1.size
  generalize w1.alloc (.cells #[.string key, .string iv, .int .u64 0] 76) = w2 at *
  generalize w1.heap.size = d at *
  clear A1 B1 e0 e1 e2
  have r2 := fun ds os => cell_regrown (A2.cv 2 (by omega) (.int .u64 q) rfl) ds os
  refine wp_region_below_tail 5 (by kernel_rfl) (by kernel_rfl) ?_
  simp only [List.take_succ_cons, List.take_zero, List.drop_succ_cons, List.drop_zero]
  repeat (go_big_quiet_step (fail))
  refine wpQuiet_nil ?_
  intro w3 hw'
  obtain ⟨⟨dq, osq⟩, hw''⟩ := hw'
  have hb1 := below_of hw''
  clear hw'' r2
  have D1 : Arr _ _ 3 _ := D0.to' (n := 2) hb1
  have B3 := Bel.call B2 hb1
  clear D0 A2 B2 hb1
  have C2 := Store_any d q _ w3 (D1.c 2 (by omega)) (D1.z 2 (by omega))
  have D2 : Arr (w3.setCell ⟨d, 2, none⟩ (.int .u64 q)) d 3 (sd3 key iv q) := (D1.set 2 (by omega) _).congr (by
    intro j hj
    have : j = 0 ∨ j = 1 ∨ j = 2 := by omega
    rcases this with rfl | rfl | rfl <;> simp [sd3])
  have B4 := Bel.st B3 (k := 2) hd (.int .u64 q)
  go_wp2_with (go_at_call 33; refine C2.mono ?_; rintro e w4 ⟨rfl, rfl⟩)
  refine bodyPost_ret (v := .tuple #[.pointer (some ⟨d, 0, none⟩), .int .i64 0]) (by simp [results, Tryz.results18, go_sem]) rfl ⟨d, rfl, hd, D2, B4⟩
set_option maxHeartbeats 1000000 in
theorem sealed_core (d : Nat) (key iv t N H S : ByteArray) (q r : Int) (hs : S.size ≤ 100000) (hH : H.size = 5) (ht : t.size ≤ 100000) (w : World) (A : Arr w d 3 (sd3 key iv q))
    (C1 : ∀ W, Arr W d 3 (sd3 key iv q) → Calls Tryz.prog 35 #[.pointer (some ⟨d, 0, none⟩)] W fun e w' => e = .returned (.string N) ∧ Below W.heap.size W w')
    (C2 : ∀ W, Calls Tryz.prog 30 #[.int .i64 23, .int .i64 ((t.size : Int) + 16)] W fun e w' => e = .returned (.string H) ∧ Below W.heap.size W w')
    (C3 : ∀ W, Calls Tryz.prog 34 #[.string key, .string N, .string H, .string t] W fun e w' => e = .returned (.tuple #[.string S, .int .i64 r]) ∧ Below W.heap.size W w') :
    Calls Tryz.prog 19 #[.pointer (some ⟨d, 0, none⟩), .string t] w fun e w' => e = .returned (.string (H ++ S)) ∧ Below w.heap.size w w' := by
  have t1 : (t.size : Int) ≤ 100000 := by omega
  have h5 : (H.size : Int) = 5 := by omega
  have s1 : (S.size : Int) ≤ 100000 := by omega
  go_enter Tryz.func19, Tryz.ntmps19
  go_wp2_with fail
  refine (C2 _).mono ?_
  rintro e w1 ⟨rfl, B1⟩
  have A1 : Arr _ _ 3 _ := A.to' (n := 2) B1
  clear A C2
  go_wp2_with fail
  have r0 := fun ds os => cell_regrown (A1.cv 0 (by omega) (.string key) rfl) ds os
  refine wp_region_quiet_below (by kernel_rfl) (by kernel_rfl) ?_
  repeat (go_big_quiet_step (first | (go_at_call 35; exact Calls.regrown_of (C1 _ (A1.to' (n := 2) (below_regrown _ _ _)))) | (go_at_call 34; exact Calls.regrown_of (C3 _))))
  refine wpQuiet_nil ?_
  intro w2 hw'
  obtain ⟨⟨dq, osq⟩, hw''⟩ := hw'
  have hb1 := below_of hw''
  have B2 := Bel.call B1 hb1
  clear hw'' r0 A1 B1 hb1 C1 C3
  go_wp2_with fail
  go_ret
  exact ⟨rfl, B2⟩
set_option maxHeartbeats 1000000 in
theorem opened_core (d : Nat) (key iv t N H S : ByteArray) (q r : Int) (hH : H.size = 5) (w : World) (A : Arr w d 3 (sd3 key iv q))
    (C1 : ∀ W, Arr W d 3 (sd3 key iv q) → Calls Tryz.prog 35 #[.pointer (some ⟨d, 0, none⟩)] W fun e w' => e = .returned (.string N) ∧ Below W.heap.size W w')
    (C2 : ∀ W, Calls Tryz.prog 30 #[.int .i64 23, .int .i64 (t.size : Int)] W fun e w' => e = .returned (.string H) ∧ Below W.heap.size W w')
    (C3 : ∀ W, Calls Tryz.prog 48 #[.string key, .string N, .string H, .string t] W fun e w' => e = .returned (.tuple #[.string S, .int .i64 r]) ∧ Below W.heap.size W w') :
    Calls Tryz.prog 25 #[.pointer (some ⟨d, 0, none⟩), .string t] w fun e w' => e = .returned (.tuple #[.string S, .int .i64 r]) ∧ Below w.heap.size w w' := by
  have r0 := fun ds os => cell_regrown (A.cv 0 (by omega) (.string key) rfl) ds os
  go_enter Tryz.func25, Tryz.ntmps25
  go_wp2_with fail
  refine wp_region_quiet_below (by kernel_rfl) (by kernel_rfl) ?_
  repeat (go_big_quiet_step (first | (go_at_call 35; exact Calls.regrown_of (C1 _ (A.to' (n := 2) (below_regrown _ _ _)))) | (go_at_call 48; exact Calls.regrown_of (C3 _)) | (go_at_call 30; exact Calls.regrown_of (C2 _))))
  refine wpQuiet_nil ?_
  intro w2 hw'
  obtain ⟨⟨dq, osq⟩, hw''⟩ := hw'
  have hb1 := below_of hw''
  clear hw'' r0 A C1 C2 C3
  go_wp2_with fail
  refine bodyPost_ret (v := .tuple #[.string S, .int .i64 r]) (by simp [results, Tryz.results25, go_sem]) rfl ⟨rfl, hb1⟩
end Go.Proofs.YtjaljnfijhfkcaaGreatDoor
