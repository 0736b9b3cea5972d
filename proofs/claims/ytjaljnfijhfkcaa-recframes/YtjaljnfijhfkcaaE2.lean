/- Unframe of the program, by what readHead tells; what was within a sealed record; what can't be sealed. -/
import Derived.Test.YtjaljnfijhfkcaaE1
import Derived.Test.YtjaljnfijhfkcaaZ12
set_option linter.all false
set_option maxRecDepth 100000
namespace Go.Proofs.Ytjaljnfijhfkcaa
open Go.RowKit Go.Sort
/-- A record put into a block. -/
def srec (w : World) (b : Nat) (k : Int) (s : ByteArray) : World := (w.setCell ⟨b, 0, none⟩ (.int .i64 k)).setCell ⟨b, 1, none⟩ (.string s)
theorem Arr.srec {w : World} {b : Nat} {f : Nat → Value} (h : Arr w b 2 f) (k : Int) (s : ByteArray) : Arr (srec w b k s) b 2 (rc2 k s) :=
  ((h.set 0 (by omega) _).set 1 (by omega) _).congr (by
    intro j hj
    have : j = 0 ∨ j = 1 := by omega
    rcases this with rfl | rfl <;> simp [rc2])
theorem Arr.sreco {w : World} {b b' n : Nat} {f : Nat → Value} (h : Arr w b n f) (hne : b' ≠ b) (k : Int) (s : ByteArray) : Arr (Go.Proofs.Ytjaljnfijhfkcaa.srec w b' k s) b n f := (h.other hne _).other hne _
theorem Bel.srec {w W : World} (h : Below w.heap.size w W) {b : Nat} (hle : w.heap.size ≤ b) (k : Int) (s : ByteArray) : Below w.heap.size w (Go.Proofs.Ytjaljnfijhfkcaa.srec W b k s) := Bel.st (Bel.st h hle _) hle _
set_option maxHeartbeats 1000000 in
theorem Unframe_1 (s : ByteArray) (k n r : Int) (hr : ¬ r = 0) (w : World)
    (C1 : ∀ W, Calls Try.prog 19 #[.string s] W fun e w' => e = .returned (.tuple #[.int .i64 k, .int .i64 n, .int .i64 r]) ∧ Below W.heap.size W w') :
    Calls Try.prog 8 #[.string s] w fun e w' => e = .returned (.tuple #[rcV 0 ⟨#[]⟩, .string ⟨#[]⟩, .int .i64 r]) ∧ Below w.heap.size w w' := by
  go_enter Try.func8, Try.ntmps8
  have A0 := Arr.new w _ 23 _ rfl _ 2 (rc2_at 0 ⟨#[]⟩)
  go_wp2_with fail
  refine (C1 _).mono ?_
  rintro e w1 ⟨rfl, b1⟩
  have A1 := A0.to' b1
  have B1 : Below w.heap.size w w1 := Bel.call (by go_grown) b1
  clear C1 b1 A0
  have c0 := A1.c 0 (by omega)
  have c1 := A1.c 1 (by omega)
  have z0 := A1.z 0 (by omega)
  have z1 := A1.z 1 (by omega)
  go_wp2_with fail
  have A2 := A1.srec 0 ⟨#[]⟩
  have e0 := A2.cv 0 (by omega) (.int .i64 0) rfl
  have e1 := A2.cv 1 (by omega) (.string ⟨#[]⟩) rfl
  unfold srec at e0 e1
  refine bodyPost_ret (v := .tuple #[rcV 0 ⟨#[]⟩, .string ⟨#[]⟩, .int .i64 r]) (by simp [rcV, results, Try.results8, go_sem, e0, e1]) rfl ⟨rfl, Bel.srec B1 (Nat.le_refl _) 0 ⟨#[]⟩⟩
set_option maxHeartbeats 1000000 in
theorem Unframe_2 (s : ByteArray) (k : Int) (n : Nat) (h5 : 5 ≤ s.size) (hn : s.size < 5 + n) (w : World)
    (C1 : ∀ W, Calls Try.prog 19 #[.string s] W fun e w' => e = .returned (.tuple #[.int .i64 k, .int .i64 (n : Int), .int .i64 0]) ∧ Below W.heap.size W w') :
    Calls Try.prog 8 #[.string s] w fun e w' => e = .returned (.tuple #[rcV 0 ⟨#[]⟩, .string ⟨#[]⟩, .int .i64 11]) ∧ Below w.heap.size w w' := by
  have s5 : (5 : Int) ≤ (s.size : Int) := by omega
  have sn : (s.size : Int) - 5 < (n : Int) := by omega
  have ze : ((s.extract 5 s.size).size : Int) < (n : Int) := by rw [ByteArray.size_extract]; omega
  generalize hE : s.extract 5 s.size = E at *
  have HE : Hid (s.extract 5 s.size = E) := hE
  go_enter Try.func8, Try.ntmps8
  have A0 := Arr.new w _ 23 _ rfl _ 2 (rc2_at 0 ⟨#[]⟩)
  go_wp2_with fail
  refine (C1 _).mono ?_
  rintro e w1 ⟨rfl, b1⟩
  have A1 := A0.to' b1
  have B1 : Below w.heap.size w w1 := Bel.call (by go_grown) b1
  clear C1 b1 A0
  have c0 := A1.c 0 (by omega)
  have c1 := A1.c 1 (by omega)
  have z0 := A1.z 0 (by omega)
  have z1 := A1.z 1 (by omega)
  go_wp2_with fail
  have A2 := A1.srec 0 ⟨#[]⟩
  have e0 := A2.cv 0 (by omega) (.int .i64 0) rfl
  have e1 := A2.cv 1 (by omega) (.string ⟨#[]⟩) rfl
  unfold srec at e0 e1
  refine bodyPost_ret (v := .tuple #[rcV 0 ⟨#[]⟩, .string ⟨#[]⟩, .int .i64 11]) (by simp [rcV, results, Try.results8, go_sem, e0, e1]) rfl ⟨rfl, Bel.srec B1 (Nat.le_refl _) 0 ⟨#[]⟩⟩
set_option maxHeartbeats 1000000 in
theorem Unframe_3c (s E X1 X2 : ByteArray) (k : Int) (n : Nat) (h5 : 5 ≤ s.size) (hE : s.extract 5 s.size = E) (nj : ¬ E.size < n) (w : World)
    (S1 : ∀ W, (Instr.slice 9 (.string E) none (some (.int .i64 (n : Int))) none).run Try.prog W = .ok (.string X1) W)
    (S2 : ∀ W, (Instr.slice 9 (.string E) (some (.int .i64 (n : Int))) none none).run Try.prog W = .ok (.string X2) W)
    (C1 : ∀ W, Calls Try.prog 19 #[.string s] W fun e w' => e = .returned (.tuple #[.int .i64 k, .int .i64 (n : Int), .int .i64 0]) ∧ Below W.heap.size W w') :
    Calls Try.prog 8 #[.string s] w fun e w' => e = .returned (.tuple #[rcV k X1, .string X2, .int .i64 0]) ∧ Below w.heap.size w w' := by
  have s5 : (5 : Int) ≤ (s.size : Int) := by omega
  have S0 : ∀ W, (Instr.slice 9 (.string s) (some (.int .i64 5)) none none).run Try.prog W = .ok (.string E) W := fun W => by
    rw [run_slice_string_l W 9 s Try.underlying9 .i64 5 (by omega) (by omega), ← hE]
    rfl
  clear hE
  go_enter Try.func8, Try.ntmps8
  have A0 := Arr.new w _ 23 _ rfl _ 2 (rc2_at 0 ⟨#[]⟩)
  go_wp2_with fail
  refine (C1 _).mono ?_
  rintro e W ⟨rfl, b1⟩
  replace A0 := A0.to' b1
  have B0 : Below w.heap.size w W := Bel.call (by go_grown) b1
  clear C1 b1
  go_wp2_with fail
  refine wp_region_float_tail 5 3 #[true, true, true, true, true, true, true, true, false, false, false] #[false, false, false, false, false, true, true, true, false, false, false] (by kernel_rfl) (by intro c d v a w h; cases d <;> exact h) (by kernel_rfl) _ ⟨.string E, Or.inl ⟨rfl, fun _ => rfl⟩, ⟨.int .i64 (n : Int), Or.inl ⟨rfl, fun _ => rfl⟩, ⟨.string X2, Or.inl ⟨rfl, fun W => ?_⟩, rfl⟩⟩⟩ ?_
  · simp [execOp, Act.eval, Act.put, go_sem, S2]
  simp only [List.take_succ_cons, List.take_zero, List.drop_succ_cons, List.drop_zero, Act.put, List.setIfInBounds_toArray, List.set_cons_succ, List.set_cons_zero]
  repeat (go_big_quiet_step (fail))
  refine wpQuiet_nil ?_
  intro w3 hw'
  obtain ⟨⟨dq, osq⟩, hw''⟩ := hw'
  have hb := below_of hw''
  clear hw''
  have A1 := A0.to' hb
  have B1 := Bel.call B0 hb
  have c := A1.c
  have z := A1.z
  have A2 := A1.srec k X1
  have e0 := A2.cv 0 (by omega) (.int .i64 k) rfl
  have e1 := A2.cv 1 (by omega) (.string X1) rfl
  unfold srec at e0 e1
  go_wp2_with fail
  refine bodyPost_ret (v := .tuple #[rcV k X1, .string X2, .int .i64 0]) (by simp [rcV, results, Try.results8, go_sem, e0, e1]) rfl ⟨rfl, Bel.srec B1 (Nat.le_refl _) k X1⟩
theorem Unframe_3 (s : ByteArray) (k : Int) (n : Nat) (h5 : 5 ≤ s.size) (hn : 5 + n ≤ s.size) (w : World)
    (C1 : ∀ W, Calls Try.prog 19 #[.string s] W fun e w' => e = .returned (.tuple #[.int .i64 k, .int .i64 (n : Int), .int .i64 0]) ∧ Below W.heap.size W w') :
    Calls Try.prog 8 #[.string s] w fun e w' => e = .returned (.tuple #[rcV k (s.extract 5 (5 + n)), .string (s.extract (5 + n) s.size), .int .i64 0]) ∧ Below w.heap.size w w' := by
  have x1 : (s.extract 5 s.size).extract 0 n = s.extract 5 (5 + n) := by
    apply ba_ext
    simp only [ext_list, List.drop_zero, Nat.sub_zero]
    rw [List.take_take, show min n (s.size - 5) = 5 + n - 5 by omega]
  have x2 : (s.extract 5 s.size).extract n (s.extract 5 s.size).size = s.extract (5 + n) s.size := by
    apply ba_ext
    simp only [ext_list, ByteArray.size_extract]
    rw [List.drop_take, List.take_take, List.drop_drop, show min (min s.size s.size - 5 - n) (s.size - 5 - n) = s.size - (5 + n) by omega]
  have ze : (s.extract 5 s.size).size = s.size - 5 := by rw [ByteArray.size_extract]; omega
  refine Unframe_3c s _ _ _ k n h5 rfl (by rw [ze]; omega) w (fun W => ?_) (fun W => ?_) C1
  · rw [run_slice_string_h W 9 _ Try.underlying9 .i64 (n : Int) (by omega) (by rw [ze]; omega), Int.toNat_natCast, x1]
  · rw [run_slice_string_l W 9 _ Try.underlying9 .i64 (n : Int) (by omega) (by rw [ze]; omega), Int.toNat_natCast, x2]
end Go.Proofs.Ytjaljnfijhfkcaa
