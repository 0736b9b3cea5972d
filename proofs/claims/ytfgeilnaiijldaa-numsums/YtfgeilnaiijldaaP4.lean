/- PROVED: the function pendulumlaw01.NumSums answers true for every input, and each argument reads behind the call as it read before; no condition. -/
import Derived.Test.YtfgeilnaiijldaaR6
import Derived.Test.YtfgeilnaiijldaaR5
import Derived.Test.YtfgeilnaiijldaaR2
import Derived.Test.YtfgeilnaiijldaaN20
import Derived.Test.YtfgeilnaiijldaaN2
import Derived.Test.YtfgeilnaiijldaaF0
import Derived.Lib.QuietBelow
set_option linter.all false
namespace Go.Proofs.Ytfgeilnaiijldaa
open Go.ChangeShapes Go.WideShapes Go.ChangeAt Go.RowKit
open Go.Sort (grow)
open Go.ChangeMaps (open_string shut_string)
/-- Four cells of block b hold f. -/
abbrev R4 (w' : World) (b : Nat) (f : Nat → Value) : Prop := ∀ j, j < 4 → w'.cell? ⟨b, j, none⟩ = some (f j)
theorem R4.to {w w' : World} {b n : Nat} {f : Nat → Value} (h : R4 w b f) (hb : Below n w w') (hn : b < n) : R4 w' b f := fun j hj => (hb.cell (p := ⟨b, j, none⟩) hn).trans (h j hj)
theorem r4lt {w : World} {b : Nat} {f : Nat → Value} (h : R4 w b f) : b < w.heap.size := block_lt_of_cell (h 0 (by omega))
theorem R4.to' {w w' : World} {b : Nat} {f : Nat → Value} (h : R4 w b f) (hb : Below w.heap.size w w') : R4 w' b f := R4.to h hb (r4lt h)
theorem R4.al' {w : World} {b : Nat} {f : Nat → Value} (h : R4 w b f) (o : Obj) : R4 (w.alloc o) b f := fun j hj => (World.cell?_alloc_past (w := w) o b j (r4lt h)).trans (h j hj)
theorem R4.of {w : World} {b : Nat} {f : Nat → Value} (h0 : w.cell? ⟨b, 0, none⟩ = some (f 0)) (h1 : w.cell? ⟨b, 1, none⟩ = some (f 1)) (h2 : w.cell? ⟨b, 2, none⟩ = some (f 2)) (h3 : w.cell? ⟨b, 3, none⟩ = some (f 3)) : R4 w b f := by
  intro j hj
  have h : j = 0 ∨ j = 1 ∨ j = 2 ∨ j = 3 := by omega
  rcases h with rfl | rfl | rfl | rfl <;> assumption
theorem Arr.lt {w : World} {b n : Nat} {f : Nat → Value} (h : Arr w b (n + 1) f) : b < w.heap.size := block_lt_of_cell (h 0 (by omega)).1
theorem Arr.to' {w w' : World} {b : Nat} {f : Nat → Value} (h : Arr w b 4 f) (hb : Below w.heap.size w w') : Arr w' b 4 f := h.below hb h.lt
theorem Arr.al' {w : World} {b : Nat} {f : Nat → Value} (h : Arr w b 4 f) (o : Obj) : Arr (w.alloc o) b 4 f := h.alloc h.lt o
theorem Bel.call {w W w' : World} (h : Below w.heap.size w W) (hb : Below W.heap.size W w') : Below w.heap.size w w' := h.trans (hb.mono h.size)
theorem Bel.al {w W : World} (h : Below w.heap.size w W) (o : Obj) : Below w.heap.size w (W.alloc o) := h.alloc h.size o
section
attribute [local go_sem] eq24
set_option maxRecDepth 100000 in
set_option maxHeartbeats 8000000 in
theorem sums_core (A B n c b s bt l : Int) (w : World)
    (C21 : ∀ W, Calls Try.prog 21 #[nv A, nv B] W fun e w' => e = .returned (.tuple #[nv (A + B), .int .u64 c]) ∧ Below W.heap.size W w')
    (C22 : ∀ W, Calls Try.prog 22 #[nv A, nv B] W fun e w' => e = .returned (.tuple #[nv (A + B), .int .u64 c]) ∧ Below W.heap.size W w')
    (C23 : ∀ W, Calls Try.prog 23 #[nv A, nv B] W fun e w' => e = .returned (.tuple #[nv (A - B), .int .u64 b]) ∧ Below W.heap.size W w')
    (C24 : ∀ W, Calls Try.prog 24 #[nv A, nv B] W fun e w' => e = .returned (.tuple #[nv (A - B), .int .u64 b]) ∧ Below W.heap.size W w')
    (C25 : ∀ W, Calls Try.prog 25 #[nv A, nv B] W fun e w' => e = .returned (.tuple #[nv (A * B), nv (A * B / top256)]) ∧ Below W.heap.size W w')
    (C26 : ∀ W, Calls Try.prog 26 #[nv A, nv B] W fun e w' => e = .returned (.tuple #[nv (A * B), nv (A * B / top256)]) ∧ Below W.heap.size W w')
    (C27 : ∀ W, Calls Try.prog 27 #[nv A, nv B] W fun e w' => e = .returned (.int .i64 s) ∧ Below W.heap.size W w')
    (C28 : ∀ W, Calls Try.prog 28 #[nv A, nv B] W fun e w' => e = .returned (.int .i64 s) ∧ Below W.heap.size W w')
    (C29 : ∀ W, Calls Try.prog 29 #[nv A, .int .i64 n] W fun e w' => e = .returned (.int .u64 bt) ∧ Below W.heap.size W w')
    (C30 : ∀ W, Calls Try.prog 30 #[nv A, .int .i64 n] W fun e w' => e = .returned (.int .u64 bt) ∧ Below W.heap.size W w')
    (C31 : ∀ W, Calls Try.prog 31 #[nv A] W fun e w' => e = .returned (.int .i64 l) ∧ Below W.heap.size W w')
    (C32 : ∀ W, Calls Try.prog 32 #[nv A] W fun e w' => e = .returned (.int .i64 l) ∧ Below W.heap.size W w') :
    Calls Try.prog 4 #[nv A, nv B, .int .i64 n] w fun e w' => e = .returned (.bool true) ∧ Below w.heap.size w w' := by
  go_enter Try.func4, Try.ntmps4
  go_wp2_with fail
  refine (C21 _).mono ?_
  rintro e w1 ⟨rfl, hb⟩
  have RA : R4 w1 w.heap.size (fun j => .int .u64 (lim A j)) := R4.to (R4.of (by simp [go_sem]) (by simp [go_sem]) (by simp [go_sem]) (by simp [go_sem])) hb (by go_size)
  have RB : R4 w1 (w.heap.size + 1) (fun j => .int .u64 (lim B j)) := R4.to (R4.of (by simp [go_sem]) (by simp [go_sem]) (by simp [go_sem]) (by simp [go_sem])) hb (by go_size)
  have hB1 : Below w.heap.size w w1 := Below.trans (by go_grown) (hb.mono (by go_size))
  have ca := fun o0 => (R4.al' RA o0)
  have cb := fun o0 => (R4.al' RB o0)
  clear hb
  go_wp2_with fail
  refine (C22 _).mono ?_
  rintro e w2 ⟨rfl, hb⟩
  have RA' := R4.to' (R4.al' RA (.cells #[.int .u64 (lim (A + B) 0), .int .u64 (lim (A + B) 1), .int .u64 (lim (A + B) 2), .int .u64 (lim (A + B) 3)] 24)) hb
  have RB' := R4.to' (R4.al' RB (.cells #[.int .u64 (lim (A + B) 0), .int .u64 (lim (A + B) 1), .int .u64 (lim (A + B) 2), .int .u64 (lim (A + B) 3)] 24)) hb
  have hB2 := Bel.call (Bel.al hB1 (.cells #[.int .u64 (lim (A + B) 0), .int .u64 (lim (A + B) 1), .int .u64 (lim (A + B) 2), .int .u64 (lim (A + B) 3)] 24)) hb
  have Q20 := Arr.to' (Arr.mk4 (w := (w1.alloc (.cells #[.int .u64 (lim (A + B) 0), .int .u64 (lim (A + B) 1), .int .u64 (lim (A + B) 2), .int .u64 (lim (A + B) 3)] 24))) (b := w1.heap.size) (f := fun j => .int .u64 (lim (A + B) j)) (by simp [go_sem]) (by simp [go_sem]) (by simp [go_sem]) (by simp [go_sem]) (by simp [go_sem]) (by simp [go_sem]) (by simp [go_sem]) (by simp [go_sem])) hb
  clear RA RB  hB1 ca cb hb
  have RA := RA'
  have RB := RB'
  clear RA' RB' 
  have ca := fun o0 => (R4.al' RA o0)
  have cb := fun o0 => (R4.al' RB o0)
  go_wp2_with fail
  refine (C23 _).mono ?_
  rintro e w3 ⟨rfl, hb⟩
  have RA' := R4.to' (R4.al' RA (.cells #[.int .u64 (lim (A + B) 0), .int .u64 (lim (A + B) 1), .int .u64 (lim (A + B) 2), .int .u64 (lim (A + B) 3)] 24)) hb
  have RB' := R4.to' (R4.al' RB (.cells #[.int .u64 (lim (A + B) 0), .int .u64 (lim (A + B) 1), .int .u64 (lim (A + B) 2), .int .u64 (lim (A + B) 3)] 24)) hb
  have hB3 := Bel.call (Bel.al hB2 (.cells #[.int .u64 (lim (A + B) 0), .int .u64 (lim (A + B) 1), .int .u64 (lim (A + B) 2), .int .u64 (lim (A + B) 3)] 24)) hb
  have Q20' := Arr.to' (Arr.al' Q20 (.cells #[.int .u64 (lim (A + B) 0), .int .u64 (lim (A + B) 1), .int .u64 (lim (A + B) 2), .int .u64 (lim (A + B) 3)] 24)) hb
  have Q30 := Arr.to' (Arr.mk4 (w := (w2.alloc (.cells #[.int .u64 (lim (A + B) 0), .int .u64 (lim (A + B) 1), .int .u64 (lim (A + B) 2), .int .u64 (lim (A + B) 3)] 24))) (b := w2.heap.size) (f := fun j => .int .u64 (lim (A + B) j)) (by simp [go_sem]) (by simp [go_sem]) (by simp [go_sem]) (by simp [go_sem]) (by simp [go_sem]) (by simp [go_sem]) (by simp [go_sem]) (by simp [go_sem])) hb
  clear RA RB Q20 hB2 ca cb hb
  have RA := RA'
  have RB := RB'
  have Q20 := Q20'
  clear RA' RB' Q20'
  have ca := fun o0 => (R4.al' RA o0)
  have cb := fun o0 => (R4.al' RB o0)
  go_wp2_with fail
  refine (C24 _).mono ?_
  rintro e w4 ⟨rfl, hb⟩
  have RA' := R4.to' (R4.al' RA (.cells #[.int .u64 (lim (A - B) 0), .int .u64 (lim (A - B) 1), .int .u64 (lim (A - B) 2), .int .u64 (lim (A - B) 3)] 24)) hb
  have RB' := R4.to' (R4.al' RB (.cells #[.int .u64 (lim (A - B) 0), .int .u64 (lim (A - B) 1), .int .u64 (lim (A - B) 2), .int .u64 (lim (A - B) 3)] 24)) hb
  have hB4 := Bel.call (Bel.al hB3 (.cells #[.int .u64 (lim (A - B) 0), .int .u64 (lim (A - B) 1), .int .u64 (lim (A - B) 2), .int .u64 (lim (A - B) 3)] 24)) hb
  have Q20' := Arr.to' (Arr.al' Q20 (.cells #[.int .u64 (lim (A - B) 0), .int .u64 (lim (A - B) 1), .int .u64 (lim (A - B) 2), .int .u64 (lim (A - B) 3)] 24)) hb
  have Q30' := Arr.to' (Arr.al' Q30 (.cells #[.int .u64 (lim (A - B) 0), .int .u64 (lim (A - B) 1), .int .u64 (lim (A - B) 2), .int .u64 (lim (A - B) 3)] 24)) hb
  have Q40 := Arr.to' (Arr.mk4 (w := (w3.alloc (.cells #[.int .u64 (lim (A - B) 0), .int .u64 (lim (A - B) 1), .int .u64 (lim (A - B) 2), .int .u64 (lim (A - B) 3)] 24))) (b := w3.heap.size) (f := fun j => .int .u64 (lim (A - B) j)) (by simp [go_sem]) (by simp [go_sem]) (by simp [go_sem]) (by simp [go_sem]) (by simp [go_sem]) (by simp [go_sem]) (by simp [go_sem]) (by simp [go_sem])) hb
  clear RA RB Q20 Q30 hB3 ca cb hb
  have RA := RA'
  have RB := RB'
  have Q20 := Q20'
  have Q30 := Q30'
  clear RA' RB' Q20' Q30'
  have ca := fun o0 => (R4.al' RA o0)
  have cb := fun o0 => (R4.al' RB o0)
  go_wp2_with fail
  refine (C25 _).mono ?_
  rintro e w5 ⟨rfl, hb⟩
  have RA' := R4.to' (R4.al' RA (.cells #[.int .u64 (lim (A - B) 0), .int .u64 (lim (A - B) 1), .int .u64 (lim (A - B) 2), .int .u64 (lim (A - B) 3)] 24)) hb
  have RB' := R4.to' (R4.al' RB (.cells #[.int .u64 (lim (A - B) 0), .int .u64 (lim (A - B) 1), .int .u64 (lim (A - B) 2), .int .u64 (lim (A - B) 3)] 24)) hb
  have hB5 := Bel.call (Bel.al hB4 (.cells #[.int .u64 (lim (A - B) 0), .int .u64 (lim (A - B) 1), .int .u64 (lim (A - B) 2), .int .u64 (lim (A - B) 3)] 24)) hb
  have Q20' := Arr.to' (Arr.al' Q20 (.cells #[.int .u64 (lim (A - B) 0), .int .u64 (lim (A - B) 1), .int .u64 (lim (A - B) 2), .int .u64 (lim (A - B) 3)] 24)) hb
  have Q30' := Arr.to' (Arr.al' Q30 (.cells #[.int .u64 (lim (A - B) 0), .int .u64 (lim (A - B) 1), .int .u64 (lim (A - B) 2), .int .u64 (lim (A - B) 3)] 24)) hb
  have Q40' := Arr.to' (Arr.al' Q40 (.cells #[.int .u64 (lim (A - B) 0), .int .u64 (lim (A - B) 1), .int .u64 (lim (A - B) 2), .int .u64 (lim (A - B) 3)] 24)) hb
  have Q50 := Arr.to' (Arr.mk4 (w := (w4.alloc (.cells #[.int .u64 (lim (A - B) 0), .int .u64 (lim (A - B) 1), .int .u64 (lim (A - B) 2), .int .u64 (lim (A - B) 3)] 24))) (b := w4.heap.size) (f := fun j => .int .u64 (lim (A - B) j)) (by simp [go_sem]) (by simp [go_sem]) (by simp [go_sem]) (by simp [go_sem]) (by simp [go_sem]) (by simp [go_sem]) (by simp [go_sem]) (by simp [go_sem])) hb
  clear RA RB Q20 Q30 Q40 hB4 ca cb hb
  have RA := RA'
  have RB := RB'
  have Q20 := Q20'
  have Q30 := Q30'
  have Q40 := Q40'
  clear RA' RB' Q20' Q30' Q40'
  have ca := fun o0 o1 => (R4.al' (R4.al' RA o0) o1)
  have cb := fun o0 o1 => (R4.al' (R4.al' RB o0) o1)
  go_wp2_with fail
  refine (C26 _).mono ?_
  rintro e w6 ⟨rfl, hb⟩
  have RA' := R4.to' (R4.al' (R4.al' RA (.cells #[.int .u64 (lim (A * B) 0), .int .u64 (lim (A * B) 1), .int .u64 (lim (A * B) 2), .int .u64 (lim (A * B) 3)] 24)) (.cells #[.int .u64 (lim (A * B / top256) 0), .int .u64 (lim (A * B / top256) 1), .int .u64 (lim (A * B / top256) 2), .int .u64 (lim (A * B / top256) 3)] 24)) hb
  have RB' := R4.to' (R4.al' (R4.al' RB (.cells #[.int .u64 (lim (A * B) 0), .int .u64 (lim (A * B) 1), .int .u64 (lim (A * B) 2), .int .u64 (lim (A * B) 3)] 24)) (.cells #[.int .u64 (lim (A * B / top256) 0), .int .u64 (lim (A * B / top256) 1), .int .u64 (lim (A * B / top256) 2), .int .u64 (lim (A * B / top256) 3)] 24)) hb
  have hB6 := Bel.call (Bel.al (Bel.al hB5 (.cells #[.int .u64 (lim (A * B) 0), .int .u64 (lim (A * B) 1), .int .u64 (lim (A * B) 2), .int .u64 (lim (A * B) 3)] 24)) (.cells #[.int .u64 (lim (A * B / top256) 0), .int .u64 (lim (A * B / top256) 1), .int .u64 (lim (A * B / top256) 2), .int .u64 (lim (A * B / top256) 3)] 24)) hb
  have Q20' := Arr.to' (Arr.al' (Arr.al' Q20 (.cells #[.int .u64 (lim (A * B) 0), .int .u64 (lim (A * B) 1), .int .u64 (lim (A * B) 2), .int .u64 (lim (A * B) 3)] 24)) (.cells #[.int .u64 (lim (A * B / top256) 0), .int .u64 (lim (A * B / top256) 1), .int .u64 (lim (A * B / top256) 2), .int .u64 (lim (A * B / top256) 3)] 24)) hb
  have Q30' := Arr.to' (Arr.al' (Arr.al' Q30 (.cells #[.int .u64 (lim (A * B) 0), .int .u64 (lim (A * B) 1), .int .u64 (lim (A * B) 2), .int .u64 (lim (A * B) 3)] 24)) (.cells #[.int .u64 (lim (A * B / top256) 0), .int .u64 (lim (A * B / top256) 1), .int .u64 (lim (A * B / top256) 2), .int .u64 (lim (A * B / top256) 3)] 24)) hb
  have Q40' := Arr.to' (Arr.al' (Arr.al' Q40 (.cells #[.int .u64 (lim (A * B) 0), .int .u64 (lim (A * B) 1), .int .u64 (lim (A * B) 2), .int .u64 (lim (A * B) 3)] 24)) (.cells #[.int .u64 (lim (A * B / top256) 0), .int .u64 (lim (A * B / top256) 1), .int .u64 (lim (A * B / top256) 2), .int .u64 (lim (A * B / top256) 3)] 24)) hb
  have Q50' := Arr.to' (Arr.al' (Arr.al' Q50 (.cells #[.int .u64 (lim (A * B) 0), .int .u64 (lim (A * B) 1), .int .u64 (lim (A * B) 2), .int .u64 (lim (A * B) 3)] 24)) (.cells #[.int .u64 (lim (A * B / top256) 0), .int .u64 (lim (A * B / top256) 1), .int .u64 (lim (A * B / top256) 2), .int .u64 (lim (A * B / top256) 3)] 24)) hb
  have Q60 := Arr.to' (Arr.mk4 (w := ((w5.alloc (.cells #[.int .u64 (lim (A * B) 0), .int .u64 (lim (A * B) 1), .int .u64 (lim (A * B) 2), .int .u64 (lim (A * B) 3)] 24)).alloc (.cells #[.int .u64 (lim (A * B / top256) 0), .int .u64 (lim (A * B / top256) 1), .int .u64 (lim (A * B / top256) 2), .int .u64 (lim (A * B / top256) 3)] 24))) (b := w5.heap.size) (f := fun j => .int .u64 (lim (A * B) j)) (by simp [go_sem]) (by simp [go_sem]) (by simp [go_sem]) (by simp [go_sem]) (by simp [go_sem]) (by simp [go_sem]) (by simp [go_sem]) (by simp [go_sem])) hb
  have Q61 := Arr.to' (Arr.mk4 (w := ((w5.alloc (.cells #[.int .u64 (lim (A * B) 0), .int .u64 (lim (A * B) 1), .int .u64 (lim (A * B) 2), .int .u64 (lim (A * B) 3)] 24)).alloc (.cells #[.int .u64 (lim (A * B / top256) 0), .int .u64 (lim (A * B / top256) 1), .int .u64 (lim (A * B / top256) 2), .int .u64 (lim (A * B / top256) 3)] 24))) (b := w5.heap.size + 1) (f := fun j => .int .u64 (lim (A * B / top256) j)) (by simp [go_sem]) (by simp [go_sem]) (by simp [go_sem]) (by simp [go_sem]) (by simp [go_sem]) (by simp [go_sem]) (by simp [go_sem]) (by simp [go_sem])) hb
  clear RA RB Q20 Q30 Q40 Q50 hB5 ca cb hb
  have RA := RA'
  have RB := RB'
  have Q20 := Q20'
  have Q30 := Q30'
  have Q40 := Q40'
  have Q50 := Q50'
  clear RA' RB' Q20' Q30' Q40' Q50'
  have FA := (R4.al' (R4.al' RA (.cells #[.int .u64 (lim (A * B) 0), .int .u64 (lim (A * B) 1), .int .u64 (lim (A * B) 2), .int .u64 (lim (A * B) 3)] 24)) (.cells #[.int .u64 (lim (A * B / top256) 0), .int .u64 (lim (A * B / top256) 1), .int .u64 (lim (A * B / top256) 2), .int .u64 (lim (A * B / top256) 3)] 24))
  have FB := (R4.al' (R4.al' RB (.cells #[.int .u64 (lim (A * B) 0), .int .u64 (lim (A * B) 1), .int .u64 (lim (A * B) 2), .int .u64 (lim (A * B) 3)] 24)) (.cells #[.int .u64 (lim (A * B / top256) 0), .int .u64 (lim (A * B / top256) 1), .int .u64 (lim (A * B / top256) 2), .int .u64 (lim (A * B / top256) 3)] 24))
  have FQ20 := (Arr.al' (Arr.al' Q20 (.cells #[.int .u64 (lim (A * B) 0), .int .u64 (lim (A * B) 1), .int .u64 (lim (A * B) 2), .int .u64 (lim (A * B) 3)] 24)) (.cells #[.int .u64 (lim (A * B / top256) 0), .int .u64 (lim (A * B / top256) 1), .int .u64 (lim (A * B / top256) 2), .int .u64 (lim (A * B / top256) 3)] 24))
  have FQ30 := (Arr.al' (Arr.al' Q30 (.cells #[.int .u64 (lim (A * B) 0), .int .u64 (lim (A * B) 1), .int .u64 (lim (A * B) 2), .int .u64 (lim (A * B) 3)] 24)) (.cells #[.int .u64 (lim (A * B / top256) 0), .int .u64 (lim (A * B / top256) 1), .int .u64 (lim (A * B / top256) 2), .int .u64 (lim (A * B / top256) 3)] 24))
  have FQ40 := (Arr.al' (Arr.al' Q40 (.cells #[.int .u64 (lim (A * B) 0), .int .u64 (lim (A * B) 1), .int .u64 (lim (A * B) 2), .int .u64 (lim (A * B) 3)] 24)) (.cells #[.int .u64 (lim (A * B / top256) 0), .int .u64 (lim (A * B / top256) 1), .int .u64 (lim (A * B / top256) 2), .int .u64 (lim (A * B / top256) 3)] 24))
  have FQ50 := (Arr.al' (Arr.al' Q50 (.cells #[.int .u64 (lim (A * B) 0), .int .u64 (lim (A * B) 1), .int .u64 (lim (A * B) 2), .int .u64 (lim (A * B) 3)] 24)) (.cells #[.int .u64 (lim (A * B / top256) 0), .int .u64 (lim (A * B / top256) 1), .int .u64 (lim (A * B / top256) 2), .int .u64 (lim (A * B / top256) 3)] 24))
  have FQ60 := (Arr.al' (Arr.al' Q60 (.cells #[.int .u64 (lim (A * B) 0), .int .u64 (lim (A * B) 1), .int .u64 (lim (A * B) 2), .int .u64 (lim (A * B) 3)] 24)) (.cells #[.int .u64 (lim (A * B / top256) 0), .int .u64 (lim (A * B / top256) 1), .int .u64 (lim (A * B / top256) 2), .int .u64 (lim (A * B / top256) 3)] 24))
  have FQ61 := (Arr.al' (Arr.al' Q61 (.cells #[.int .u64 (lim (A * B) 0), .int .u64 (lim (A * B) 1), .int .u64 (lim (A * B) 2), .int .u64 (lim (A * B) 3)] 24)) (.cells #[.int .u64 (lim (A * B / top256) 0), .int .u64 (lim (A * B / top256) 1), .int .u64 (lim (A * B / top256) 2), .int .u64 (lim (A * B / top256) 3)] 24))
  have FZ0 := Arr.mk4 (w := ((w6.alloc (.cells #[.int .u64 (lim (A * B) 0), .int .u64 (lim (A * B) 1), .int .u64 (lim (A * B) 2), .int .u64 (lim (A * B) 3)] 24)).alloc (.cells #[.int .u64 (lim (A * B / top256) 0), .int .u64 (lim (A * B / top256) 1), .int .u64 (lim (A * B / top256) 2), .int .u64 (lim (A * B / top256) 3)] 24))) (b := w6.heap.size) (f := fun j => .int .u64 (lim (A * B) j)) (by simp [go_sem]) (by simp [go_sem]) (by simp [go_sem]) (by simp [go_sem]) (by simp [go_sem]) (by simp [go_sem]) (by simp [go_sem]) (by simp [go_sem])
  have FZ1 := Arr.mk4 (w := ((w6.alloc (.cells #[.int .u64 (lim (A * B) 0), .int .u64 (lim (A * B) 1), .int .u64 (lim (A * B) 2), .int .u64 (lim (A * B) 3)] 24)).alloc (.cells #[.int .u64 (lim (A * B / top256) 0), .int .u64 (lim (A * B / top256) 1), .int .u64 (lim (A * B / top256) 2), .int .u64 (lim (A * B / top256) 3)] 24))) (b := w6.heap.size + 1) (f := fun j => .int .u64 (lim (A * B / top256) j)) (by simp [go_sem]) (by simp [go_sem]) (by simp [go_sem]) (by simp [go_sem]) (by simp [go_sem]) (by simp [go_sem]) (by simp [go_sem]) (by simp [go_sem])
  have g0x0 := fun ds os => cell_regrown (FA 0 (by omega)) ds os
  have g0x1 := fun ds os => cell_regrown (FA 1 (by omega)) ds os
  have g0x2 := fun ds os => cell_regrown (FA 2 (by omega)) ds os
  have g0x3 := fun ds os => cell_regrown (FA 3 (by omega)) ds os
  have g1x0 := fun ds os => cell_regrown (FB 0 (by omega)) ds os
  have g1x1 := fun ds os => cell_regrown (FB 1 (by omega)) ds os
  have g1x2 := fun ds os => cell_regrown (FB 2 (by omega)) ds os
  have g1x3 := fun ds os => cell_regrown (FB 3 (by omega)) ds os
  have g2x0 := fun ds os => cell_regrown (FQ20.c 0 (by omega)) ds os
  have g2x1 := fun ds os => cell_regrown (FQ20.c 1 (by omega)) ds os
  have g2x2 := fun ds os => cell_regrown (FQ20.c 2 (by omega)) ds os
  have g2x3 := fun ds os => cell_regrown (FQ20.c 3 (by omega)) ds os
  have g3x0 := fun ds os => cell_regrown (FQ30.c 0 (by omega)) ds os
  have g3x1 := fun ds os => cell_regrown (FQ30.c 1 (by omega)) ds os
  have g3x2 := fun ds os => cell_regrown (FQ30.c 2 (by omega)) ds os
  have g3x3 := fun ds os => cell_regrown (FQ30.c 3 (by omega)) ds os
  have g4x0 := fun ds os => cell_regrown (FQ40.c 0 (by omega)) ds os
  have g4x1 := fun ds os => cell_regrown (FQ40.c 1 (by omega)) ds os
  have g4x2 := fun ds os => cell_regrown (FQ40.c 2 (by omega)) ds os
  have g4x3 := fun ds os => cell_regrown (FQ40.c 3 (by omega)) ds os
  have g5x0 := fun ds os => cell_regrown (FQ50.c 0 (by omega)) ds os
  have g5x1 := fun ds os => cell_regrown (FQ50.c 1 (by omega)) ds os
  have g5x2 := fun ds os => cell_regrown (FQ50.c 2 (by omega)) ds os
  have g5x3 := fun ds os => cell_regrown (FQ50.c 3 (by omega)) ds os
  have g6x0 := fun ds os => cell_regrown (FQ60.c 0 (by omega)) ds os
  have g6x1 := fun ds os => cell_regrown (FQ60.c 1 (by omega)) ds os
  have g6x2 := fun ds os => cell_regrown (FQ60.c 2 (by omega)) ds os
  have g6x3 := fun ds os => cell_regrown (FQ60.c 3 (by omega)) ds os
  have g7x0 := fun ds os => cell_regrown (FQ61.c 0 (by omega)) ds os
  have g7x1 := fun ds os => cell_regrown (FQ61.c 1 (by omega)) ds os
  have g7x2 := fun ds os => cell_regrown (FQ61.c 2 (by omega)) ds os
  have g7x3 := fun ds os => cell_regrown (FQ61.c 3 (by omega)) ds os
  have g8x0 := fun ds os => cell_regrown (FZ0.c 0 (by omega)) ds os
  have g8x1 := fun ds os => cell_regrown (FZ0.c 1 (by omega)) ds os
  have g8x2 := fun ds os => cell_regrown (FZ0.c 2 (by omega)) ds os
  have g8x3 := fun ds os => cell_regrown (FZ0.c 3 (by omega)) ds os
  have g9x0 := fun ds os => cell_regrown (FZ1.c 0 (by omega)) ds os
  have g9x1 := fun ds os => cell_regrown (FZ1.c 1 (by omega)) ds os
  have g9x2 := fun ds os => cell_regrown (FZ1.c 2 (by omega)) ds os
  have g9x3 := fun ds os => cell_regrown (FZ1.c 3 (by omega)) ds os
  have hBz := (Bel.al (Bel.al hB6 (.cells #[.int .u64 (lim (A * B) 0), .int .u64 (lim (A * B) 1), .int .u64 (lim (A * B) 2), .int .u64 (lim (A * B) 3)] 24)) (.cells #[.int .u64 (lim (A * B / top256) 0), .int .u64 (lim (A * B / top256) 1), .int .u64 (lim (A * B / top256) 2), .int .u64 (lim (A * B / top256) 3)] 24))
  clear RA RB Q20 Q30 Q40 Q50 Q60 Q61 hB6 FA FB FQ20 FQ30 FQ40 FQ50 FQ60 FQ61 FZ0 FZ1
  go_wp2_with fail
  refine wp_region_quiet_below (by kernel_rfl) (by kernel_rfl) ?_
  repeat (go_big_quiet_step (first | (go_at_call 27; exact Calls.regrown_of (C27 _)) | (go_at_call 28; exact Calls.regrown_of (C28 _)) | (go_at_call 29; exact Calls.regrown_of (C29 _)) | (go_at_call 30; exact Calls.regrown_of (C30 _)) | (go_at_call 31; exact Calls.regrown_of (C31 _)) | (go_at_call 32; exact Calls.regrown_of (C32 _)) | (go_at_call 20; exact Calls.regrown_of (awake_any _))))
  refine wpQuiet_nil ?_
  intro _ hw'
  obtain ⟨⟨dq, osq⟩, hw''⟩ := hw'
  subst hw''
  clear g0x0 g0x1 g0x2 g0x3 g1x0 g1x1 g1x2 g1x3 g2x0 g2x1 g2x2 g2x3 g3x0 g3x1 g3x2 g3x3 g4x0 g4x1 g4x2 g4x3 g5x0 g5x1 g5x2 g5x3 g6x0 g6x1 g6x2 g6x3 g7x0 g7x1 g7x2 g7x3 g8x0 g8x1 g8x2 g8x3 g9x0 g9x1 g9x2 g9x3
  have hBq := Bel.call hBz (below_regrown _ dq osq)
  generalize grow (redrawn ((w6.alloc (.cells #[.int .u64 (lim (A * B) 0), .int .u64 (lim (A * B) 1), .int .u64 (lim (A * B) 2), .int .u64 (lim (A * B) 3)] 24)).alloc (.cells #[.int .u64 (lim (A * B / top256) 0), .int .u64 (lim (A * B / top256) 1), .int .u64 (lim (A * B / top256) 2), .int .u64 (lim (A * B / top256) 3)] 24)) dq) osq = wq at *
  go_wp2
  go_ret
  exact ⟨rfl, hBq⟩
end
theorem sums_any (A B n : Int) (hA : 0 ≤ A) (hA' : A < top256) (hB : 0 ≤ B) (hB' : B < top256) (n0 : -9223372036854775808 ≤ n) (n1 : n ≤ 9223372036854775807) (w : World) :
    Calls Try.prog 4 #[nv A, nv B, .int .i64 n] w fun e w' => e = .returned (.bool true) ∧ Below w.heap.size w w' := by
  refine sums_core A B n (lim (A + B) 4) (bor A B) (sg A B) (win A n % 2) (bitLen A.toNat) w (fun W => add_any A B hA hA' hB hB' W) (fun W => ?_) (fun W => sub_any A B hA hA' hB hB' W) (fun W => ?_) (fun W => mul_any A B hA hA' hB hB' W) (fun W => refMul_raw A B W ⟨hA, hA'⟩ ⟨hB, hB'⟩)
    (fun W => cmp_any A B hA hA' hB hB' W) (fun W => refCmp_any A B hA hA' hB hB' W) (fun W => bit_any A n hA hA' n0 n1 W) (fun W => refBit_any A n hA hA' W) (fun W => len_any A hA hA' W) (fun W => refLen_any A hA hA' W)
  · have := refAdd_raw A B W
    rw [cy_four A B hA hA' hB hB'] at this
    exact this
  · have := refSub_raw A B W
    rw [bw_four A B hA hA' hB hB'] at this
    exact this
set_option maxRecDepth 100000 in
theorem lifted4 (os : Os) (started : os.Started) (H : Type) (enc : TypeId × Value → H) :
    ReturnsInHanded {} Try.checked os 4 .any (Rows.numSumsSpec.pre6 enc Try.prog Try.f4 Rows.numSumsRow.domain false) (Rows.numSumsSpec.post enc Try.prog Try.f4 false true false false) := by
  refine returnsInHanded_of_change (C := Try.checked) own started (by kernel_rfl) Try.func4
    (ChangeSpec.witness6 (enc := enc) (C := Try.checked) false ⟨#[], #[.agg #[.int .u64 0, .int .u64 0, .int .u64 0, .int .u64 0], .agg #[.int .u64 0, .int .u64 0, .int .u64 0, .int .u64 0], .int .i64 0], []⟩ 8 (by kernel_rfl) (by kernel_rfl) (by kernel_rfl) (by kernel_rfl)) ?_
  intro W base args ds gs before hval0 hW hcnd _
  have hval : ∀ (j : Nat) t v, Try.f4.params[j]? = some t → args[j]? = some v → Value.okWide Try.prog W .any base t v := hval0
  have hW' := hW
  obtain ⟨p, q, hA0, hV, rfl, hfz, hnd⟩ := hW
  have hA : DataW.TrodAll enc Try.prog W 0 (fun _ => true) true Try.f4.params.toList args.toList ds p := hA0
  rw [Try.params4] at hA hval
  obtain ⟨v0, vs0, d0, ds0, p0, q0, hargs, rfl, rfl, h0, r0⟩ := trodAll_cons hA
  obtain ⟨v1, vs1, d1, ds1, p1, q1, rfl, rfl, rfl, h1, r1⟩ := trodAll_cons r0
  obtain ⟨v2, vs2, d2, ds2, p2, q2, rfl, rfl, rfl, h2, r2⟩ := trodAll_cons r1
  obtain ⟨rfl, rfl, rfl⟩ := trodAll_nil r2
  obtain rfl : args = #[v0, v1, v2] := by cases args; simp_all
  obtain ⟨rfl, rfl⟩ := trodVars_none hV
  have k0 := h0
  have k1 := h1
  have k2 := h2
  have lt0 : ∀ x ∈ p0, x.block < W.heap.size := by obtain ⟨m, hm⟩ := k0; exact DataW.trod_lt m _ _ _ hm
  have lt1 : ∀ x ∈ p1, x.block < W.heap.size := by obtain ⟨m, hm⟩ := k1; exact DataW.trod_lt m _ _ _ hm
  have lt2 : ∀ x ∈ p2, x.block < W.heap.size := by obtain ⟨m, hm⟩ := k2; exact DataW.trod_lt m _ _ _ hm
  obtain ⟨N0, n0, n0', rfl⟩ := open24 (hval 0 24 v0 rfl rfl) h0
  obtain ⟨N1, n1, n1', rfl⟩ := open24 (hval 1 24 v1 rfl rfl) h1
  obtain ⟨N2, rfl, rfl, rfl, w2⟩ := open_int Try.underlying3 (hval 2 3 v2 rfl rfl) h2
  clear hA0 hval0
  refine (sums_any N0 N1 N2 n0 n0' n1 n1' (bounds_i64 w2).1 (bounds_i64 w2).2 W).mono fun e W' ⟨he, bel⟩ => ?_
  subst he
  exact ⟨_, rfl, _, _, _, [], _, [], hW', trodAll_mk1 (shut_bool Try.underlying4 _), (trodAll_cons_mk (Below.trod laidOut (by kernel_rfl) (of_decide_eq_true (by kernel_rfl)) k0 bel lt0) (trodAll_cons_mk (Below.trod laidOut (by kernel_rfl) (of_decide_eq_true (by kernel_rfl)) k1 bel lt1) (trodAll_cons_mk (Below.trod laidOut (by kernel_rfl) (of_decide_eq_true (by kernel_rfl)) k2 bel lt2) trodAll_mk0))), rfl, bel.frame _, fun h => by cases h⟩
theorem numSums_holds : Rows.NumSumsSaid :=
  OpenClaim.holds_of_wide 4 Try.f4 rfl rfl rfl rfl rfl rfl rfl ⟨rfl, rfl, rfl, rfl, rfl⟩ rfl rfl rfl rfl rfl (by kernel_rfl) Try.func4 (by kernel_rfl)
    (of_decide_eq_true (by kernel_rfl)) (by unfold Func.isWrapper; rw [if_neg (of_decide_eq_false (by kernel_rfl))]; exact ⟨rfl, rfl⟩)
    (fun os started H enc _ => lifted4 os started H enc)
#print axioms numSums_holds
end Go.Proofs.Ytfgeilnaiijldaa
