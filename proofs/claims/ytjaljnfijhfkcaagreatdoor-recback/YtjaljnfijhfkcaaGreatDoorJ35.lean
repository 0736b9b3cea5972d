/- Directions at work: their count, their side, their nonce: of the program. -/
import Derived.Test.YtjaljnfijhfkcaaGreatDoorJ34
import Derived.Test.YtjaljnfijhfkcaaGreatDoorJ19
set_option linter.all false
set_option maxRecDepth 100000
namespace Go.Proofs.YtjaljnfijhfkcaaGreatDoor
open Go.RowKit Go.Sort Lin
theorem Store_any (d : Nat) (q : Int) (u : Value) (w : World) (hc : w.cell? ⟨d, 2, none⟩ = some u) (hz : w.frozen? ⟨d, 2, none⟩ = false) :
    Calls Tryz.prog 33 #[.pointer (some ⟨d, 2, none⟩), .int .u64 q] w fun e w' => e = .returned (.tuple #[]) ∧ w' = w.setCell ⟨d, 2, none⟩ (.int .u64 q) := by
  have hst := run_call_store (P := Tryz.prog) Tryz.func52 (by kernel_rfl) (by kernel_rfl) (by kernel_rfl) (by kernel_rfl) (k := .u64) (y := q) hc hz
  go_enter Tryz.func33, Tryz.ntmps33
  go_wp2
  go_end0
  exact ⟨rfl, rfl⟩
theorem Load_any (d : Nat) (q : Int) (w : World) (hc : w.cell? ⟨d, 2, none⟩ = some (.int .u64 q)) :
    Calls Tryz.prog 57 #[.pointer (some ⟨d, 2, none⟩)] w fun e w' => e = .returned (.int .u64 q) ∧ w' = w := by
  have hl := run_call_load (P := Tryz.prog) Tryz.func81 (by kernel_rfl) (by kernel_rfl) (by kernel_rfl) .u64 (by kernel_rfl) (w := w) (a := ⟨d, 2, none⟩) (x := q) hc
  go_enter Tryz.func57, Tryz.ntmps57
  go_wp2
  go_ret
  exact ⟨rfl, rfl⟩
theorem Add_any (d : Nat) (q : Int) (q0 : 0 ≤ q) (q1 : q < 18446744073709551615) (w : World) (hc : w.cell? ⟨d, 2, none⟩ = some (.int .u64 q)) (hz : w.frozen? ⟨d, 2, none⟩ = false) :
    Calls Tryz.prog 43 #[.pointer (some ⟨d, 2, none⟩), .int .u64 1] w fun e w' => e = .returned (.int .u64 (q + 1)) ∧ w' = w.setCell ⟨d, 2, none⟩ (.int .u64 (q + 1)) := by
  have hadd := run_call_add (P := Tryz.prog) Tryz.func63 (by kernel_rfl) (by kernel_rfl) (by kernel_rfl) .u64 (by kernel_rfl) (y := 1) (s := q + 1) hc hz (by simp [go_sem, IntKind.wrap_u64]; omega)
  go_enter Tryz.func43, Tryz.ntmps43
  go_wp2
  go_ret
  exact ⟨rfl, rfl⟩
/-- A side put into a block. -/
def ssd (w : World) (b : Nat) (key iv : ByteArray) (q : Int) : World := ((w.setCell ⟨b, 0, none⟩ (.string key)).setCell ⟨b, 1, none⟩ (.string iv)).setCell ⟨b, 2, none⟩ (.int .u64 q)
theorem Arr.ssd {w : World} {b : Nat} {f : Nat → Value} (h : Arr w b 3 f) (key iv : ByteArray) (q : Int) : Arr (ssd w b key iv q) b 3 (sd3 key iv q) :=
  (((h.set 0 (by omega) _).set 1 (by omega) _).set 2 (by omega) _).congr (by
    intro j hj
    have : j = 0 ∨ j = 1 ∨ j = 2 := by omega
    rcases this with rfl | rfl | rfl <;> simp [sd3])
theorem Arr.ssdo {w : World} {b b' n : Nat} {f : Nat → Value} (h : Arr w b n f) (hne : b' ≠ b) (key iv : ByteArray) (q : Int) : Arr (Go.Proofs.YtjaljnfijhfkcaaGreatDoor.ssd w b' key iv q) b n f := ((h.other hne _).other hne _).other hne _
theorem Bel.ssd {w W : World} {B : Nat} (h : Below B w W) {b : Nat} (hle : B ≤ b) (key iv : ByteArray) (q : Int) : Below B w (Go.Proofs.YtjaljnfijhfkcaaGreatDoor.ssd W b key iv q) := ((h.setCell (p := ⟨b, 0, none⟩) hle _).setCell (p := ⟨b, 1, none⟩) hle _).setCell (p := ⟨b, 2, none⟩) hle _
theorem Arr.sd {w : World} {b : Nat} {key iv : ByteArray} {q : Int} (h : Arr w b 3 (sd3 key iv q)) : w.cell? ⟨b, 0, none⟩ = some (.string key) ∧ w.cell? ⟨b, 1, none⟩ = some (.string iv) ∧ w.cell? ⟨b, 2, none⟩ = some (.int .u64 q) :=
  ⟨h.c 0 (by omega), h.c 1 (by omega), h.c 2 (by omega)⟩
set_option maxHeartbeats 1000000 in
theorem side_any (d : Nat) (key iv : ByteArray) (x q : Int) (w : World) (A : Arr w d 3 (sd3 key iv x)) :
    Calls Tryz.prog 42 #[.pointer (some ⟨d, 0, none⟩), .int .u64 q] w fun e w' => e = .returned (sdV key iv q) ∧ Below w.heap.size w w' := by
  go_enter Tryz.func42, Tryz.ntmps42
  go_wp2_with fail
  have A0 : Arr _ d 3 _ := A.al' (n := 2) (.cells #[.string ⟨#[]⟩, .string ⟨#[]⟩, .int .u64 0] 24)
  have A1 := Arr.new w _ 24 _ rfl _ 3 (sd3_at ⟨#[]⟩ ⟨#[]⟩ 0)
  have B0 : Below w.heap.size w (w.alloc (.cells #[.string ⟨#[]⟩, .string ⟨#[]⟩, .int .u64 0] 24)) := by go_grown
  generalize w.alloc (.cells #[.string ⟨#[]⟩, .string ⟨#[]⟩, .int .u64 0] 24) = W at *
  have r0 := fun ds os => cell_regrown (A0.cv 0 (by omega) (.string key) rfl) ds os
  have r1 := fun ds os => cell_regrown (A0.cv 1 (by omega) (.string iv) rfl) ds os
  refine wp_region_below_tail 10 (by kernel_rfl) (by kernel_rfl) ?_
  simp only [List.take_succ_cons, List.take_zero, List.drop_succ_cons, List.drop_zero]
  repeat (go_big_quiet_step (fail))
  refine wpQuiet_nil ?_
  intro w1 hw'
  obtain ⟨⟨dq, osq⟩, hw''⟩ := hw'
  have hb1 := below_of hw''
  clear hw'' r0 r1
  have A2 : Arr _ _ 3 _ := A1.to' (n := 2) hb1
  have B1 := Bel.call B0 hb1
  clear A0 A1 B0 hb1 A
  have c := A2.c
  have z := A2.z
  obtain ⟨e0, e1, e2⟩ := (A2.ssd key iv q).sd
  unfold ssd at e0 e1 e2
  go_wp2_with fail
  refine bodyPost_ret (v := sdV key iv q) (by simp [sdV, results, Tryz.results42, go_sem, e0, e1, e2]) rfl ⟨rfl, Bel.ssd B1 (Nat.le_refl _) key iv q⟩
end Go.Proofs.YtjaljnfijhfkcaaGreatDoor
