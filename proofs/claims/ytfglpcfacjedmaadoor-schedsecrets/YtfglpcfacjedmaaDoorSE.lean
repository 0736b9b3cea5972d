/- sched.Side, Finish, Export. -/
import Derived.Test.YtfglpcfacjedmaaDoorSC
set_option linter.all false
set_option maxRecDepth 100000
namespace Go.Proofs.YtfglpcfacjedmaaDoor
open Go.RowKit Go.Sort
/-- A direction. -/
def sid (k i : ByteArray) : Value := .agg #[.string k, .string i, .int .u64 0]
def dx (k i : ByteArray) : Nat → Value
  | 0 => .string k
  | 1 => .string i
  | _ => .int .u64 0
theorem dx_at (k i : ByteArray) (j : Nat) (hj : j < 3) : (#[.string k, .string i, .int .u64 0] : Array Value)[j]? = some (dx k i j) := by
  match j, hj with
  | 0, _ => rfl
  | 1, _ => rfl
  | 2, _ => rfl
theorem Arr.three {w : World} {p : Nat} {k i : ByteArray} (h : Arr w p 3 (dx k i)) : (w.cell? ⟨p, 0, none⟩ = some (.string k) ∧ w.cell? ⟨p, 1, none⟩ = some (.string i) ∧ w.cell? ⟨p, 2, none⟩ = some (.int .u64 0)) ∧
    (w.frozen? ⟨p, 0, none⟩ = false ∧ w.frozen? ⟨p, 1, none⟩ = false ∧ w.frozen? ⟨p, 2, none⟩ = false) :=
  ⟨⟨h.c 0 (by omega), h.c 1 (by omega), h.c 2 (by omega)⟩, h.z 0 (by omega), h.z 1 (by omega), h.z 2 (by omega)⟩
set_option maxHeartbeats 2000000 in
theorem side_no (a : ByteArray) (w : World)
    (C17 : ∀ W : World, Calls Tryd.prog 17 #[.slice (some ⟨W.heap.size, 0, none⟩) 1 1] (W.alloc (.cells #[.string a] 9)) fun e w' => e = .returned (.bool false) ∧ w' = W.alloc (.cells #[.string a] 9)) :
    Calls Tryd.prog 11 #[.string a] w fun e w' => e = .returned (.tuple #[sid ⟨#[]⟩ ⟨#[]⟩, .int .i64 10]) ∧ Below w.heap.size w w' := by
  unfold sid
  have C := C17 (w.alloc (.cells #[.string ⟨#[]⟩, .string ⟨#[]⟩, .int .u64 0] 35))
  rw [World.size_alloc] at C
  go_enter Tryd.func11, Tryd.ntmps11
  go_wp2_with (go_at_call 17; refine C.mono ?_; rintro e w1 ⟨rfl, rfl⟩)
  refine bodyPost_ret (v := .tuple #[.agg #[.string ⟨#[]⟩, .string ⟨#[]⟩, .int .u64 0], .int .i64 10]) (by simp [results, Tryd.results11, go_sem]) rfl ⟨rfl, ?_⟩
  go_grown
set_option maxHeartbeats 4000000 in
theorem side_yes (a K I : ByteArray) (w : World) (hT : Tab w)
    (C17 : ∀ W : World, Calls Tryd.prog 17 #[.slice (some ⟨W.heap.size, 0, none⟩) 1 1] (W.alloc (.cells #[.string a] 9)) fun e w' => e = .returned (.bool true) ∧ w' = W.alloc (.cells #[.string a] 9))
    (CK : ∀ W, Tab W → Calls Tryd.prog 28 #[.string a, .string ⟨#[107, 101, 121]⟩, .int .i64 16] W fun e w' => e = .returned (.string K) ∧ Below W.heap.size W w')
    (CI : ∀ W, Tab W → Calls Tryd.prog 28 #[.string a, .string ⟨#[105, 118]⟩, .int .i64 12] W fun e w' => e = .returned (.string I) ∧ Below W.heap.size W w') :
    Calls Tryd.prog 11 #[.string a] w fun e w' => e = .returned (.tuple #[sid K I, .int .i64 0]) ∧ Below w.heap.size w w' := by
  unfold sid at *
  have C := C17 (w.alloc (.cells #[.string ⟨#[]⟩, .string ⟨#[]⟩, .int .u64 0] 35))
  rw [World.size_alloc] at C
  go_enter Tryd.func11, Tryd.ntmps11
  go_wp2_with (go_at_call 17; refine C.mono ?_; rintro e w1 ⟨rfl, rfl⟩)
  generalize hW : World.alloc (World.alloc _ _) _ = W1
  have A0 : Arr W1 w.heap.size 3 (dx ⟨#[]⟩ ⟨#[]⟩) := by
    rw [← hW]
    exact (Arr.new _ _ _ _ rfl _ 3 (dx_at _ _)).al' _
  have B0 : Below w.heap.size w W1 := by rw [← hW]; go_grown
  have T0 := hT.to B0
  clear hW hT C C17
  refine (CK _ T0).mono ?_
  rintro e w1 ⟨rfl, hb⟩
  have A0 := A0.to' hb
  have B1 := Bel.call B0 hb
  have T1 := T0.to hb
  clear hb CK B0 T0
  go_wp2_with fail
  refine (CI _ T1).mono ?_
  rintro e w2 ⟨rfl, hb⟩
  have A0 := A0.to' hb
  have B2 := Bel.call B1 hb
  clear hb CI B1 T1
  obtain ⟨⟨j0, j1, j2⟩, y0, y1, y2⟩ := A0.three
  clear A0
  go_wp2_with fail
  refine bodyPost_ret (v := .tuple #[.agg #[.string K, .string I, .int .u64 0], .int .i64 0]) (by simp [results, Tryd.results11, go_sem, j0, j1, j2]) rfl ⟨rfl, ?_⟩
  go_grown
set_option maxHeartbeats 2000000 in
theorem fin_no (a b : ByteArray) (w : World)
    (C17 : Calls Tryd.prog 17 #[.slice (some ⟨w.heap.size, 0, none⟩) 2 2] (w.alloc (.cells #[.string a, .string b] 9)) fun e w' => e = .returned (.bool false) ∧ w' = w.alloc (.cells #[.string a, .string b] 9)) :
    Calls Tryd.prog 13 #[.string a, .string b] w fun e w' => e = .returned (.tuple #[.string ⟨#[]⟩, .int .i64 10]) ∧ Below w.heap.size w w' := by
  go_enter Tryd.func13, Tryd.ntmps13
  go_wp2_with (go_at_call 17; refine C17.mono ?_; rintro e w1 ⟨rfl, rfl⟩)
  refine bodyPost_ret (v := .tuple #[.string ⟨#[]⟩, .int .i64 10]) (by simp [results, Tryd.results13, go_sem]) rfl ⟨rfl, ?_⟩
  go_grown
set_option maxHeartbeats 2000000 in
theorem fin_yes (a b K S : ByteArray) (w : World) (hT : Tab w)
    (C17 : Calls Tryd.prog 17 #[.slice (some ⟨w.heap.size, 0, none⟩) 2 2] (w.alloc (.cells #[.string a, .string b] 9)) fun e w' => e = .returned (.bool true) ∧ w' = w.alloc (.cells #[.string a, .string b] 9))
    (CK : ∀ W, Tab W → Calls Tryd.prog 28 #[.string a, .string ⟨#[102, 105, 110, 105, 115, 104, 101, 100]⟩, .int .i64 32] W fun e w' => e = .returned (.string K) ∧ Below W.heap.size W w')
    (CM : ∀ W, Tab W → Calls Tryd.prog 30 #[.string K, .string b] W fun e w' => e = .returned (.string S) ∧ Below W.heap.size W w') :
    Calls Tryd.prog 13 #[.string a, .string b] w fun e w' => e = .returned (.tuple #[.string S, .int .i64 0]) ∧ Below w.heap.size w w' := by
  have B0 : Below w.heap.size w (w.alloc (.cells #[.string a, .string b] 9)) := by go_grown
  have T0 := hT.to B0
  go_enter Tryd.func13, Tryd.ntmps13
  go_wp2_with (go_at_call 17; refine C17.mono ?_; rintro e w1 ⟨rfl, rfl⟩)
  generalize w.alloc (.cells #[.string a, .string b] 9) = W1 at *
  clear hT C17
  refine (CK _ T0).mono ?_
  rintro e w1 ⟨rfl, hb⟩
  have B1 := Bel.call B0 hb
  have T1 := T0.to hb
  clear hb CK B0 T0
  go_wp2_with fail
  refine (CM _ T1).mono ?_
  rintro e w2 ⟨rfl, hb⟩
  have B2 := Bel.call B1 hb
  clear hb CM B1 T1
  go_wp2_with fail
  refine bodyPost_ret (v := .tuple #[.string S, .int .i64 0]) (by simp [results, Tryd.results13, go_sem]) rfl ⟨rfl, B2⟩
set_option maxHeartbeats 2000000 in
theorem exp_no (x0 x1 x2 x3 l c : ByteArray) (n : Int) (w : World)
    (C17 : ∀ W : World, Calls Tryd.prog 17 #[.slice (some ⟨W.heap.size, 0, none⟩) 1 1] (W.alloc (.cells #[.string x3] 9)) fun e w' => e = .returned (.bool false) ∧ w' = W.alloc (.cells #[.string x3] 9)) :
    Calls Tryd.prog 15 #[sec x0 x1 x2 x3, .string l, .string c, .int .i64 n] w fun e w' => e = .returned (.tuple #[.string ⟨#[]⟩, .int .i64 10]) ∧ Below w.heap.size w w' := by
  unfold sec
  have C := C17 (w.alloc (.cells #[.string x0, .string x1, .string x2, .string x3] 23))
  rw [World.size_alloc] at C
  go_enter Tryd.func15, Tryd.ntmps15
  go_wp2_with (go_at_call 17; refine C.mono ?_; rintro e w1 ⟨rfl, rfl⟩)
  refine bodyPost_ret (v := .tuple #[.string ⟨#[]⟩, .int .i64 10]) (by simp [results, Tryd.results15, go_sem]) rfl ⟨rfl, ?_⟩
  go_grown
set_option maxHeartbeats 4000000 in
theorem exp_yes (x0 x1 x2 x3 l c E D H S : ByteArray) (n e1 e2 : Int) (V : Value) (hV : Hid (V = if e1 = 0 then .tuple #[.string S, .int .i64 e2] else .tuple #[.string ⟨#[]⟩, .int .i64 e1])) (w : World) (hT : Tab w)
    (C17 : ∀ W : World, Calls Tryd.prog 17 #[.slice (some ⟨W.heap.size, 0, none⟩) 1 1] (W.alloc (.cells #[.string x3] 9)) fun e w' => e = .returned (.bool true) ∧ w' = W.alloc (.cells #[.string x3] 9))
    (C1 : ∀ W, Tab W → Calls Tryd.prog 33 #[.string ⟨#[]⟩] W fun e w' => e = .returned (.string E) ∧ Below W.heap.size W w')
    (C2 : ∀ W, Tab W → Calls Tryd.prog 32 #[.string x3, .string l, .string E] W fun r w' => r = .returned (.tuple #[.string D, .int .i64 e1]) ∧ Below W.heap.size W w')
    (C3 : ∀ W, Tab W → Calls Tryd.prog 33 #[.string c] W fun e w' => e = .returned (.string H) ∧ Below W.heap.size W w')
    (C4 : ∀ W, Tab W → Calls Tryd.prog 34 #[.string D, .string ⟨#[101, 120, 112, 111, 114, 116, 101, 114]⟩, .string H, .int .i64 n] W fun r w' => r = .returned (.tuple #[.string S, .int .i64 e2]) ∧ Below W.heap.size W w') :
    Calls Tryd.prog 15 #[sec x0 x1 x2 x3, .string l, .string c, .int .i64 n] w fun e w' => e = .returned V ∧ Below w.heap.size w w' := by
  unfold sec
  have C := C17 (w.alloc (.cells #[.string x0, .string x1, .string x2, .string x3] 23))
  rw [World.size_alloc] at C
  go_enter Tryd.func15, Tryd.ntmps15
  go_wp2_with (go_at_call 17; refine C.mono ?_; rintro e w1 ⟨rfl, rfl⟩)
  generalize hW : World.alloc (World.alloc _ _) _ = W1
  have AX : Arr W1 w.heap.size 4 (sx x0 x1 x2 x3) := by
    rw [← hW]
    exact (Arr.new _ _ _ _ rfl _ 4 (sx_at _ _ _ _)).al' _
  have B0 : Below w.heap.size w W1 := by rw [← hW]; go_grown
  have T0 := hT.to B0
  clear hW hT C C17
  have tR := fun ds os => T0.bel (below_regrown W1 ds os)
  obtain ⟨⟨k0, k1, k2, k3⟩, y0, y1, y2, y3⟩ := AX.four
  have r3 := fun ds os => cell_regrown k3 ds os
  clear k0 k1 k2 k3 y0 y1 y2 y3
  refine wp_region_quiet_below (by kernel_rfl) (by kernel_rfl) ?_
  repeat (go_big_quiet_step (first | (go_at_call 33; exact Calls.regrown_of (C1 _ (tR _ _))) | (go_at_call 32; exact Calls.regrown_of (C2 _ (tR _ _)))))
  refine wpQuiet_nil ?_
  intro w1 hw'
  obtain ⟨⟨dq, osq⟩, hw''⟩ := hw'
  have hb := below_of hw''
  have B1 := Bel.call B0 hb
  have T1 := T0.to hb
  clear hw'' r3 tR C1 C2 hb AX T0 B0
  by_cases h : e1 = 0
  · subst h
    go_wp2_with fail
    refine (C3 _ T1).mono ?_
    rintro e w2 ⟨rfl, hb⟩
    have B2 := Bel.call B1 hb
    have T2 := T1.to hb
    clear hb C3 B1 T1
    go_wp2_with fail
    refine (C4 _ T2).mono ?_
    rintro e w3 ⟨rfl, hb⟩
    have B3 := Bel.call B2 hb
    clear hb C4 B2 T2
    go_wp2_with fail
    refine bodyPost_ret (v := .tuple #[.string S, .int .i64 e2]) (by simp [results, Tryd.results15, go_sem]) rfl ⟨by rw [hV.out]; simp, B3⟩
  · go_wp2_with fail
    refine bodyPost_ret (v := .tuple #[.string ⟨#[]⟩, .int .i64 e1]) (by simp [results, Tryd.results15, go_sem]) rfl ⟨by rw [hV.out, if_neg h], B1⟩
end Go.Proofs.YtfglpcfacjedmaaDoor
