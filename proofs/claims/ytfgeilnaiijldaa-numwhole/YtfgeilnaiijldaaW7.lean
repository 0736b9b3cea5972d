/- The statement NumWhole's function answers true, whatever the numbers: the walk. -/
import Derived.Test.YtfgeilnaiijldaaN20
import Derived.Test.YtfgeilnaiijldaaN9
set_option linter.all false
namespace Go.Proofs.Ytfgeilnaiijldaa
open Go.RowKit
attribute [local go_sem] eq24
set_option maxHeartbeats 8000000 in
theorem whole_core (lo hi M q0 p0 R A0 B0 C0 B1 X Y ca : Int) (w : World)
    (hz : (lim M 0 == 0 && (lim M 1 == 0 && (lim M 2 == 0 && lim M 3 == 0))) = false)
    (CD : ∀ W, Calls Try.prog 33 #[nv lo, nv hi, nv M] W fun e w' => e = .returned (.tuple #[nv q0, nv p0, nv R, .int .i64 0]) ∧ Below W.heap.size W w')
    (CC : ∀ W, Calls Try.prog 27 #[nv R, nv M] W fun e w' => e = .returned (.int .i64 (-1)) ∧ Below W.heap.size W w')
    (M1 : ∀ W, Calls Try.prog 25 #[nv q0, nv M] W fun e w' => e = .returned (.tuple #[nv A0, nv B0]) ∧ Below W.heap.size W w')
    (M2 : ∀ W, Calls Try.prog 25 #[nv p0, nv M] W fun e w' => e = .returned (.tuple #[nv C0, .agg #[.int .u64 0, .int .u64 0, .int .u64 0, .int .u64 0]]) ∧ Below W.heap.size W w')
    (AD1 : ∀ W, Calls Try.prog 21 #[nv A0, nv R] W fun e w' => e = .returned (.tuple #[nv lo, .int .u64 ca]) ∧ Below W.heap.size W w')
    (AD2 : ∀ W, Calls Try.prog 21 #[nv B0, nv C0] W fun e w' => e = .returned (.tuple #[nv B1, .int .u64 0]) ∧ Below W.heap.size W w')
    (AD3 : ∀ W, Calls Try.prog 21 #[nv B1, .agg #[.int .u64 ca, .int .u64 0, .int .u64 0, .int .u64 0]] W fun e w' => e = .returned (.tuple #[nv hi, .int .u64 0]) ∧ Below W.heap.size W w')
    (M3 : ∀ W, Calls Try.prog 25 #[nv lo, nv hi] W fun e w' => e = .returned (.tuple #[nv X, nv Y]) ∧ Below W.heap.size W w')
    (M4 : ∀ W, Calls Try.prog 25 #[nv hi, nv lo] W fun e w' => e = .returned (.tuple #[nv X, nv Y]) ∧ Below W.heap.size W w')
    (AW : ∀ W, Calls Try.prog 20 #[] W fun e w' => e = .returned (.bool true) ∧ Below W.heap.size W w') :
    Calls Try.prog 7 #[nv lo, nv hi, nv M] w fun e w' => e = .returned (.bool true) ∧ Below w.heap.size w w' := by
  go_enter Try.func7, Try.ntmps7
  go_wp2_with fail
  refine (CD _).mono ?_
  rintro e w1 ⟨rfl, hb1⟩
  have L3 := (Arr.mk4 (f := fun j => .int .u64 (lim lo j)) (b := w.heap.size) (by simp [go_sem]) (by simp [go_sem]) (by simp [go_sem]) (by simp [go_sem]) (by simp [go_sem]) (by simp [go_sem]) (by simp [go_sem]) (by simp [go_sem]) ).below hb1 (by go_size)
  have L4 := (Arr.mk4 (f := fun j => .int .u64 (lim hi j)) (b := w.heap.size + 1) (by simp [go_sem]) (by simp [go_sem]) (by simp [go_sem]) (by simp [go_sem]) (by simp [go_sem]) (by simp [go_sem]) (by simp [go_sem]) (by simp [go_sem]) ).below hb1 (by go_size)
  have L5 := (Arr.mk4 (f := fun j => .int .u64 (lim M j)) (b := w.heap.size + 1 + 1) (by simp [go_sem]) (by simp [go_sem]) (by simp [go_sem]) (by simp [go_sem]) (by simp [go_sem]) (by simp [go_sem]) (by simp [go_sem]) (by simp [go_sem]) ).below hb1 (by go_size)
  have s1 : w.heap.size + 1 + 1 < w1.heap.size := by have := hb1.size; simp at this; omega
  have hB1 : Below w.heap.size w w1 := Below.trans (by go_grown) (hb1.mono (by go_size))
  clear hb1
  have r5 : ∀ o0 o1 o2 j, j < 4 → (((w1.alloc o0).alloc o1).alloc o2).cell? ⟨w.heap.size + 1 + 1, j, none⟩ = some (.int .u64 (lim M j)) := fun o0 o1 o2 j hj => (((L5.alloc (by go_size) o0).alloc (by go_size) o1).alloc (by go_size) o2).c j hj
  go_wp2_with fail
  refine (CC _).mono ?_
  rintro e w2 ⟨rfl, hb2⟩
  have L3' := (((L3.alloc (by go_size) _).alloc (by go_size) _).alloc (by go_size) _).below hb2 (by go_size)
  have L4' := (((L4.alloc (by go_size) _).alloc (by go_size) _).alloc (by go_size) _).below hb2 (by go_size)
  have L5' := (((L5.alloc (by go_size) _).alloc (by go_size) _).alloc (by go_size) _).below hb2 (by go_size)
  have L7 := (Arr.mk4 (f := fun j => .int .u64 (lim q0 j)) (b := w1.heap.size) (by simp [go_sem]) (by simp [go_sem]) (by simp [go_sem]) (by simp [go_sem]) (by simp [go_sem]) (by simp [go_sem]) (by simp [go_sem]) (by simp [go_sem]) ).below hb2 (by go_size)
  have L8 := (Arr.mk4 (f := fun j => .int .u64 (lim p0 j)) (b := w1.heap.size + 1) (by simp [go_sem]) (by simp [go_sem]) (by simp [go_sem]) (by simp [go_sem]) (by simp [go_sem]) (by simp [go_sem]) (by simp [go_sem]) (by simp [go_sem]) ).below hb2 (by go_size)
  have L9 := (Arr.mk4 (f := fun j => .int .u64 (lim R j)) (b := w1.heap.size + 1 + 1) (by simp [go_sem]) (by simp [go_sem]) (by simp [go_sem]) (by simp [go_sem]) (by simp [go_sem]) (by simp [go_sem]) (by simp [go_sem]) (by simp [go_sem]) ).below hb2 (by go_size)
  have s2 : w1.heap.size + 1 + 1 < w2.heap.size := by have := hb2.size; simp at this; omega
  have hB2 : Below w.heap.size w w2 := (((hB1.alloc (by go_size) _).alloc (by go_size) _).alloc (by go_size) _).trans (hb2.mono (by go_size))
  clear L3 L4 L5
  have L3 := L3'; clear L3'
  have L4 := L4'; clear L4'
  have L5 := L5'; clear L5'
  clear hb2 hB1 r5
  have r7 : ∀ j, j < 4 → w2.cell? ⟨w1.heap.size, j, none⟩ = some (.int .u64 (lim q0 j)) := fun j hj => L7.c j hj
  have r5 : ∀ j, j < 4 → w2.cell? ⟨w.heap.size + 1 + 1, j, none⟩ = some (.int .u64 (lim M j)) := fun j hj => L5.c j hj
  go_wp2_with fail
  refine (M1 _).mono ?_
  rintro e w3 ⟨rfl, hb3⟩
  have L3' := L3.below hb3 (by go_size)
  have L4' := L4.below hb3 (by go_size)
  have L5' := L5.below hb3 (by go_size)
  have L8' := L8.below hb3 (by go_size)
  have L9' := L9.below hb3 (by go_size)
  have s3 := hb3.size
  have hB3 : Below w.heap.size w w3 := hB2.trans (hb3.mono hB2.size)
  clear L3 L4 L5 L8 L9
  have L3 := L3'; clear L3'
  have L4 := L4'; clear L4'
  have L5 := L5'; clear L5'
  have L8 := L8'; clear L8'
  have L9 := L9'; clear L9'
  clear hb3 hB2 r7 r5 L7
  have r8 : ∀ o0 o1 j, j < 4 → ((w3.alloc o0).alloc o1).cell? ⟨w1.heap.size + 1, j, none⟩ = some (.int .u64 (lim p0 j)) := fun o0 o1 j hj => ((L8.alloc (by go_size) o0).alloc (by go_size) o1).c j hj
  have r5 : ∀ o0 o1 j, j < 4 → ((w3.alloc o0).alloc o1).cell? ⟨w.heap.size + 1 + 1, j, none⟩ = some (.int .u64 (lim M j)) := fun o0 o1 j hj => ((L5.alloc (by go_size) o0).alloc (by go_size) o1).c j hj
  go_wp2_with fail
  refine (M2 _).mono ?_
  rintro e w4 ⟨rfl, hb4⟩
  have L3' := ((L3.alloc (by go_size) _).alloc (by go_size) _).below hb4 (by go_size)
  have L4' := ((L4.alloc (by go_size) _).alloc (by go_size) _).below hb4 (by go_size)
  have L9' := ((L9.alloc (by go_size) _).alloc (by go_size) _).below hb4 (by go_size)
  have L11 := (Arr.mk4 (f := fun j => .int .u64 (lim A0 j)) (b := w3.heap.size) (by simp [go_sem]) (by simp [go_sem]) (by simp [go_sem]) (by simp [go_sem]) (by simp [go_sem]) (by simp [go_sem]) (by simp [go_sem]) (by simp [go_sem]) ).below hb4 (by go_size)
  have L12 := (Arr.mk4 (f := fun j => .int .u64 (lim B0 j)) (b := w3.heap.size + 1) (by simp [go_sem]) (by simp [go_sem]) (by simp [go_sem]) (by simp [go_sem]) (by simp [go_sem]) (by simp [go_sem]) (by simp [go_sem]) (by simp [go_sem]) ).below hb4 (by go_size)
  have s4 : w3.heap.size + 1 < w4.heap.size := by have := hb4.size; simp at this; omega
  have hB4 : Below w.heap.size w w4 := ((hB3.alloc (by go_size) _).alloc (by go_size) _).trans (hb4.mono (by go_size))
  clear L3 L4 L9
  have L3 := L3'; clear L3'
  have L4 := L4'; clear L4'
  have L9 := L9'; clear L9'
  clear hb4 hB3 r8 r5 L5 L8
  have r11 : ∀ o0 o1 j, j < 4 → ((w4.alloc o0).alloc o1).cell? ⟨w3.heap.size, j, none⟩ = some (.int .u64 (lim A0 j)) := fun o0 o1 j hj => ((L11.alloc (by go_size) o0).alloc (by go_size) o1).c j hj
  have r9 : ∀ o0 o1 j, j < 4 → ((w4.alloc o0).alloc o1).cell? ⟨w1.heap.size + 1 + 1, j, none⟩ = some (.int .u64 (lim R j)) := fun o0 o1 j hj => ((L9.alloc (by go_size) o0).alloc (by go_size) o1).c j hj
  go_wp2_with fail
  refine (AD1 _).mono ?_
  rintro e w5 ⟨rfl, hb5⟩
  have L3' := ((L3.alloc (by go_size) _).alloc (by go_size) _).below hb5 (by go_size)
  have L4' := ((L4.alloc (by go_size) _).alloc (by go_size) _).below hb5 (by go_size)
  have L11' := ((L11.alloc (by go_size) _).alloc (by go_size) _).below hb5 (by go_size)
  have L12' := ((L12.alloc (by go_size) _).alloc (by go_size) _).below hb5 (by go_size)
  have L13 := (Arr.mk4 (f := fun j => .int .u64 (lim C0 j)) (b := w4.heap.size) (by simp [go_sem]) (by simp [go_sem]) (by simp [go_sem]) (by simp [go_sem]) (by simp [go_sem]) (by simp [go_sem]) (by simp [go_sem]) (by simp [go_sem]) ).below hb5 (by go_size)
  have L14 := (Arr.mk4 (f := fun _ => .int .u64 0) (b := w4.heap.size + 1) (by simp [go_sem]) (by simp [go_sem]) (by simp [go_sem]) (by simp [go_sem]) (by simp [go_sem]) (by simp [go_sem]) (by simp [go_sem]) (by simp [go_sem]) ).below hb5 (by go_size)
  have s5 : w4.heap.size + 1 < w5.heap.size := by have := hb5.size; simp at this; omega
  have hB5 : Below w.heap.size w w5 := ((hB4.alloc (by go_size) _).alloc (by go_size) _).trans (hb5.mono (by go_size))
  clear L3 L4 L11 L12
  have L3 := L3'; clear L3'
  have L4 := L4'; clear L4'
  have L11 := L11'; clear L11'
  have L12 := L12'; clear L12'
  clear hb5 hB4 r11 r9 L9
  have c11 := L11.c
  have z11 := L11.z
  have N11 : Arr ((((w5.setCell ⟨w3.heap.size, 0, none⟩ (.int .u64 (lim lo 0))).setCell ⟨w3.heap.size, 1, none⟩ (.int .u64 (lim lo 1))).setCell ⟨w3.heap.size, 2, none⟩ (.int .u64 (lim lo 2))).setCell ⟨w3.heap.size, 3, none⟩ (.int .u64 (lim lo 3))) (w3.heap.size) 4 (fun j => .int .u64 (lim lo j)) := set4 L11 _ _ _ _ _ rfl rfl rfl rfl
  have N3 : Arr ((((w5.setCell ⟨w3.heap.size, 0, none⟩ (.int .u64 (lim lo 0))).setCell ⟨w3.heap.size, 1, none⟩ (.int .u64 (lim lo 1))).setCell ⟨w3.heap.size, 2, none⟩ (.int .u64 (lim lo 2))).setCell ⟨w3.heap.size, 3, none⟩ (.int .u64 (lim lo 3))) (w.heap.size) 4 (fun j => .int .u64 (lim lo j)) := (((L3.other (by omega) _).other (by omega) _).other (by omega) _).other (by omega) _
  have N4 : Arr ((((w5.setCell ⟨w3.heap.size, 0, none⟩ (.int .u64 (lim lo 0))).setCell ⟨w3.heap.size, 1, none⟩ (.int .u64 (lim lo 1))).setCell ⟨w3.heap.size, 2, none⟩ (.int .u64 (lim lo 2))).setCell ⟨w3.heap.size, 3, none⟩ (.int .u64 (lim lo 3))) (w.heap.size + 1) 4 (fun j => .int .u64 (lim hi j)) := (((L4.other (by omega) _).other (by omega) _).other (by omega) _).other (by omega) _
  have N12 : Arr ((((w5.setCell ⟨w3.heap.size, 0, none⟩ (.int .u64 (lim lo 0))).setCell ⟨w3.heap.size, 1, none⟩ (.int .u64 (lim lo 1))).setCell ⟨w3.heap.size, 2, none⟩ (.int .u64 (lim lo 2))).setCell ⟨w3.heap.size, 3, none⟩ (.int .u64 (lim lo 3))) (w3.heap.size + 1) 4 (fun j => .int .u64 (lim B0 j)) := (((L12.other (by omega) _).other (by omega) _).other (by omega) _).other (by omega) _
  have N13 : Arr ((((w5.setCell ⟨w3.heap.size, 0, none⟩ (.int .u64 (lim lo 0))).setCell ⟨w3.heap.size, 1, none⟩ (.int .u64 (lim lo 1))).setCell ⟨w3.heap.size, 2, none⟩ (.int .u64 (lim lo 2))).setCell ⟨w3.heap.size, 3, none⟩ (.int .u64 (lim lo 3))) (w4.heap.size) 4 (fun j => .int .u64 (lim C0 j)) := (((L13.other (by omega) _).other (by omega) _).other (by omega) _).other (by omega) _
  have N14 : Arr ((((w5.setCell ⟨w3.heap.size, 0, none⟩ (.int .u64 (lim lo 0))).setCell ⟨w3.heap.size, 1, none⟩ (.int .u64 (lim lo 1))).setCell ⟨w3.heap.size, 2, none⟩ (.int .u64 (lim lo 2))).setCell ⟨w3.heap.size, 3, none⟩ (.int .u64 (lim lo 3))) (w4.heap.size + 1) 4 (fun _ => .int .u64 0) := (((L14.other (by omega) _).other (by omega) _).other (by omega) _).other (by omega) _
  have hN5 : Below w.heap.size w ((((w5.setCell ⟨w3.heap.size, 0, none⟩ (.int .u64 (lim lo 0))).setCell ⟨w3.heap.size, 1, none⟩ (.int .u64 (lim lo 1))).setCell ⟨w3.heap.size, 2, none⟩ (.int .u64 (lim lo 2))).setCell ⟨w3.heap.size, 3, none⟩ (.int .u64 (lim lo 3))) := (((hB5.setCell (by show _ ≤ w3.heap.size; omega) _).setCell (by show _ ≤ w3.heap.size; omega) _).setCell (by show _ ≤ w3.heap.size; omega) _).setCell (by show _ ≤ w3.heap.size; omega) _
  have r12 : ∀ j, j < 4 → ((((w5.setCell ⟨w3.heap.size, 0, none⟩ (.int .u64 (lim lo 0))).setCell ⟨w3.heap.size, 1, none⟩ (.int .u64 (lim lo 1))).setCell ⟨w3.heap.size, 2, none⟩ (.int .u64 (lim lo 2))).setCell ⟨w3.heap.size, 3, none⟩ (.int .u64 (lim lo 3))).cell? ⟨w3.heap.size + 1, j, none⟩ = some (.int .u64 (lim B0 j)) := N12.c
  have r13 : ∀ j, j < 4 → ((((w5.setCell ⟨w3.heap.size, 0, none⟩ (.int .u64 (lim lo 0))).setCell ⟨w3.heap.size, 1, none⟩ (.int .u64 (lim lo 1))).setCell ⟨w3.heap.size, 2, none⟩ (.int .u64 (lim lo 2))).setCell ⟨w3.heap.size, 3, none⟩ (.int .u64 (lim lo 3))).cell? ⟨w4.heap.size, j, none⟩ = some (.int .u64 (lim C0 j)) := N13.c
  go_wp2_with fail
  refine (AD2 _).mono ?_
  rintro e w6 ⟨rfl, hb6⟩
  have L3' := N3.below hb6 (by simp only [size_set]; omega)
  have L4' := N4.below hb6 (by simp only [size_set]; omega)
  have L12' := N12.below hb6 (by simp only [size_set]; omega)
  have L13' := N13.below hb6 (by simp only [size_set]; omega)
  have L14' := N14.below hb6 (by simp only [size_set]; omega)
  have L11' := N11.below hb6 (by simp only [size_set]; omega)
  have s6 := hb6.size
  simp only [size_set] at s6
  have hB6 : Below w.heap.size w w6 := hN5.trans (hb6.mono hN5.size)
  clear c11 z11 hN5 hB5 hb6 N3 N4 N12 N13 N14 N11 r12 r13
  clear L3 L4 L12 L13 L14 L11
  have L3 := L3'; clear L3'
  have L4 := L4'; clear L4'
  have L12 := L12'; clear L12'
  have L13 := L13'; clear L13'
  have L14 := L14'; clear L14'
  have L11 := L11'; clear L11'
  clear L13
  have c12 := L12.c
  have z12 := L12.z
  have N12 : Arr ((((w6.setCell ⟨w3.heap.size + 1, 0, none⟩ (.int .u64 (lim B1 0))).setCell ⟨w3.heap.size + 1, 1, none⟩ (.int .u64 (lim B1 1))).setCell ⟨w3.heap.size + 1, 2, none⟩ (.int .u64 (lim B1 2))).setCell ⟨w3.heap.size + 1, 3, none⟩ (.int .u64 (lim B1 3))) (w3.heap.size + 1) 4 (fun j => .int .u64 (lim B1 j)) := set4 L12 _ _ _ _ _ rfl rfl rfl rfl
  have N3 : Arr ((((w6.setCell ⟨w3.heap.size + 1, 0, none⟩ (.int .u64 (lim B1 0))).setCell ⟨w3.heap.size + 1, 1, none⟩ (.int .u64 (lim B1 1))).setCell ⟨w3.heap.size + 1, 2, none⟩ (.int .u64 (lim B1 2))).setCell ⟨w3.heap.size + 1, 3, none⟩ (.int .u64 (lim B1 3))) (w.heap.size) 4 (fun j => .int .u64 (lim lo j)) := (((L3.other (by omega) _).other (by omega) _).other (by omega) _).other (by omega) _
  have N4 : Arr ((((w6.setCell ⟨w3.heap.size + 1, 0, none⟩ (.int .u64 (lim B1 0))).setCell ⟨w3.heap.size + 1, 1, none⟩ (.int .u64 (lim B1 1))).setCell ⟨w3.heap.size + 1, 2, none⟩ (.int .u64 (lim B1 2))).setCell ⟨w3.heap.size + 1, 3, none⟩ (.int .u64 (lim B1 3))) (w.heap.size + 1) 4 (fun j => .int .u64 (lim hi j)) := (((L4.other (by omega) _).other (by omega) _).other (by omega) _).other (by omega) _
  have N11 : Arr ((((w6.setCell ⟨w3.heap.size + 1, 0, none⟩ (.int .u64 (lim B1 0))).setCell ⟨w3.heap.size + 1, 1, none⟩ (.int .u64 (lim B1 1))).setCell ⟨w3.heap.size + 1, 2, none⟩ (.int .u64 (lim B1 2))).setCell ⟨w3.heap.size + 1, 3, none⟩ (.int .u64 (lim B1 3))) (w3.heap.size) 4 (fun j => .int .u64 (lim lo j)) := (((L11.other (by omega) _).other (by omega) _).other (by omega) _).other (by omega) _
  have N14 : Arr ((((w6.setCell ⟨w3.heap.size + 1, 0, none⟩ (.int .u64 (lim B1 0))).setCell ⟨w3.heap.size + 1, 1, none⟩ (.int .u64 (lim B1 1))).setCell ⟨w3.heap.size + 1, 2, none⟩ (.int .u64 (lim B1 2))).setCell ⟨w3.heap.size + 1, 3, none⟩ (.int .u64 (lim B1 3))) (w4.heap.size + 1) 4 (fun _ => .int .u64 0) := (((L14.other (by omega) _).other (by omega) _).other (by omega) _).other (by omega) _
  have hN6 : Below w.heap.size w ((((w6.setCell ⟨w3.heap.size + 1, 0, none⟩ (.int .u64 (lim B1 0))).setCell ⟨w3.heap.size + 1, 1, none⟩ (.int .u64 (lim B1 1))).setCell ⟨w3.heap.size + 1, 2, none⟩ (.int .u64 (lim B1 2))).setCell ⟨w3.heap.size + 1, 3, none⟩ (.int .u64 (lim B1 3))) := (((hB6.setCell (by show _ ≤ w3.heap.size + 1; omega) _).setCell (by show _ ≤ w3.heap.size + 1; omega) _).setCell (by show _ ≤ w3.heap.size + 1; omega) _).setCell (by show _ ≤ w3.heap.size + 1; omega) _
  have r12 : ∀ j, j < 4 → ((((w6.setCell ⟨w3.heap.size + 1, 0, none⟩ (.int .u64 (lim B1 0))).setCell ⟨w3.heap.size + 1, 1, none⟩ (.int .u64 (lim B1 1))).setCell ⟨w3.heap.size + 1, 2, none⟩ (.int .u64 (lim B1 2))).setCell ⟨w3.heap.size + 1, 3, none⟩ (.int .u64 (lim B1 3))).cell? ⟨w3.heap.size + 1, j, none⟩ = some (.int .u64 (lim B1 j)) := N12.c
  go_wp2_with fail
  refine (AD3 _).mono ?_
  rintro e w7 ⟨rfl, hb7⟩
  have L3' := N3.below hb7 (by simp only [size_set]; omega)
  have L4' := N4.below hb7 (by simp only [size_set]; omega)
  have L11' := N11.below hb7 (by simp only [size_set]; omega)
  have L14' := N14.below hb7 (by simp only [size_set]; omega)
  have L12' := N12.below hb7 (by simp only [size_set]; omega)
  have s7 := hb7.size
  simp only [size_set] at s7
  have hB7 : Below w.heap.size w w7 := hN6.trans (hb7.mono hN6.size)
  clear c12 z12 hN6 hB6 hb7 N3 N4 N11 N14 N12 r12
  clear L3 L4 L11 L14 L12
  have L3 := L3'; clear L3'
  have L4 := L4'; clear L4'
  have L11 := L11'; clear L11'
  have L14 := L14'; clear L14'
  have L12 := L12'; clear L12'
  have c12 := L12.c
  have z12 := L12.z
  have N12 : Arr ((((w7.setCell ⟨w3.heap.size + 1, 0, none⟩ (.int .u64 (lim hi 0))).setCell ⟨w3.heap.size + 1, 1, none⟩ (.int .u64 (lim hi 1))).setCell ⟨w3.heap.size + 1, 2, none⟩ (.int .u64 (lim hi 2))).setCell ⟨w3.heap.size + 1, 3, none⟩ (.int .u64 (lim hi 3))) (w3.heap.size + 1) 4 (fun j => .int .u64 (lim hi j)) := set4 L12 _ _ _ _ _ rfl rfl rfl rfl
  have N3 : Arr ((((w7.setCell ⟨w3.heap.size + 1, 0, none⟩ (.int .u64 (lim hi 0))).setCell ⟨w3.heap.size + 1, 1, none⟩ (.int .u64 (lim hi 1))).setCell ⟨w3.heap.size + 1, 2, none⟩ (.int .u64 (lim hi 2))).setCell ⟨w3.heap.size + 1, 3, none⟩ (.int .u64 (lim hi 3))) (w.heap.size) 4 (fun j => .int .u64 (lim lo j)) := (((L3.other (by omega) _).other (by omega) _).other (by omega) _).other (by omega) _
  have N4 : Arr ((((w7.setCell ⟨w3.heap.size + 1, 0, none⟩ (.int .u64 (lim hi 0))).setCell ⟨w3.heap.size + 1, 1, none⟩ (.int .u64 (lim hi 1))).setCell ⟨w3.heap.size + 1, 2, none⟩ (.int .u64 (lim hi 2))).setCell ⟨w3.heap.size + 1, 3, none⟩ (.int .u64 (lim hi 3))) (w.heap.size + 1) 4 (fun j => .int .u64 (lim hi j)) := (((L4.other (by omega) _).other (by omega) _).other (by omega) _).other (by omega) _
  have N11 : Arr ((((w7.setCell ⟨w3.heap.size + 1, 0, none⟩ (.int .u64 (lim hi 0))).setCell ⟨w3.heap.size + 1, 1, none⟩ (.int .u64 (lim hi 1))).setCell ⟨w3.heap.size + 1, 2, none⟩ (.int .u64 (lim hi 2))).setCell ⟨w3.heap.size + 1, 3, none⟩ (.int .u64 (lim hi 3))) (w3.heap.size) 4 (fun j => .int .u64 (lim lo j)) := (((L11.other (by omega) _).other (by omega) _).other (by omega) _).other (by omega) _
  have N14 : Arr ((((w7.setCell ⟨w3.heap.size + 1, 0, none⟩ (.int .u64 (lim hi 0))).setCell ⟨w3.heap.size + 1, 1, none⟩ (.int .u64 (lim hi 1))).setCell ⟨w3.heap.size + 1, 2, none⟩ (.int .u64 (lim hi 2))).setCell ⟨w3.heap.size + 1, 3, none⟩ (.int .u64 (lim hi 3))) (w4.heap.size + 1) 4 (fun _ => .int .u64 0) := (((L14.other (by omega) _).other (by omega) _).other (by omega) _).other (by omega) _
  have hN7 : Below w.heap.size w ((((w7.setCell ⟨w3.heap.size + 1, 0, none⟩ (.int .u64 (lim hi 0))).setCell ⟨w3.heap.size + 1, 1, none⟩ (.int .u64 (lim hi 1))).setCell ⟨w3.heap.size + 1, 2, none⟩ (.int .u64 (lim hi 2))).setCell ⟨w3.heap.size + 1, 3, none⟩ (.int .u64 (lim hi 3))) := (((hB7.setCell (by show _ ≤ w3.heap.size + 1; omega) _).setCell (by show _ ≤ w3.heap.size + 1; omega) _).setCell (by show _ ≤ w3.heap.size + 1; omega) _).setCell (by show _ ≤ w3.heap.size + 1; omega) _
  have r3 : ∀ j, j < 4 → ((((w7.setCell ⟨w3.heap.size + 1, 0, none⟩ (.int .u64 (lim hi 0))).setCell ⟨w3.heap.size + 1, 1, none⟩ (.int .u64 (lim hi 1))).setCell ⟨w3.heap.size + 1, 2, none⟩ (.int .u64 (lim hi 2))).setCell ⟨w3.heap.size + 1, 3, none⟩ (.int .u64 (lim hi 3))).cell? ⟨w.heap.size, j, none⟩ = some (.int .u64 (lim lo j)) := N3.c
  have r4 : ∀ j, j < 4 → ((((w7.setCell ⟨w3.heap.size + 1, 0, none⟩ (.int .u64 (lim hi 0))).setCell ⟨w3.heap.size + 1, 1, none⟩ (.int .u64 (lim hi 1))).setCell ⟨w3.heap.size + 1, 2, none⟩ (.int .u64 (lim hi 2))).setCell ⟨w3.heap.size + 1, 3, none⟩ (.int .u64 (lim hi 3))).cell? ⟨w.heap.size + 1, j, none⟩ = some (.int .u64 (lim hi j)) := N4.c
  go_wp2_with fail
  refine (M3 _).mono ?_
  rintro e w8 ⟨rfl, hb8⟩
  have L3' := N3.below hb8 (by simp only [size_set]; omega)
  have L4' := N4.below hb8 (by simp only [size_set]; omega)
  have L11' := N11.below hb8 (by simp only [size_set]; omega)
  have L14' := N14.below hb8 (by simp only [size_set]; omega)
  have L12' := N12.below hb8 (by simp only [size_set]; omega)
  have s8 := hb8.size
  simp only [size_set] at s8
  have hB8 : Below w.heap.size w w8 := hN7.trans (hb8.mono hN7.size)
  clear c12 z12 hN7 hB7 hb8 N3 N4 N11 N14 N12 r3 r4
  clear L3 L4 L11 L14 L12
  have L3 := L3'; clear L3'
  have L4 := L4'; clear L4'
  have L11 := L11'; clear L11'
  have L14 := L14'; clear L14'
  have L12 := L12'; clear L12'
  have r3 : ∀ o0 o1 j, j < 4 → ((w8.alloc o0).alloc o1).cell? ⟨w.heap.size, j, none⟩ = some (.int .u64 (lim lo j)) := fun o0 o1 j hj => ((L3.alloc (by go_size) o0).alloc (by go_size) o1).c j hj
  have r4 : ∀ o0 o1 j, j < 4 → ((w8.alloc o0).alloc o1).cell? ⟨w.heap.size + 1, j, none⟩ = some (.int .u64 (lim hi j)) := fun o0 o1 j hj => ((L4.alloc (by go_size) o0).alloc (by go_size) o1).c j hj
  go_wp2_with fail
  refine (M4 _).mono ?_
  rintro e w9 ⟨rfl, hb9⟩
  have L3' := ((L3.alloc (by go_size) _).alloc (by go_size) _).below hb9 (by go_size)
  have L4' := ((L4.alloc (by go_size) _).alloc (by go_size) _).below hb9 (by go_size)
  have L11' := ((L11.alloc (by go_size) _).alloc (by go_size) _).below hb9 (by go_size)
  have L12' := ((L12.alloc (by go_size) _).alloc (by go_size) _).below hb9 (by go_size)
  have L14' := ((L14.alloc (by go_size) _).alloc (by go_size) _).below hb9 (by go_size)
  have L18 := (Arr.mk4 (f := fun j => .int .u64 (lim X j)) (b := w8.heap.size) (by simp [go_sem]) (by simp [go_sem]) (by simp [go_sem]) (by simp [go_sem]) (by simp [go_sem]) (by simp [go_sem]) (by simp [go_sem]) (by simp [go_sem]) ).below hb9 (by go_size)
  have L19 := (Arr.mk4 (f := fun j => .int .u64 (lim Y j)) (b := w8.heap.size + 1) (by simp [go_sem]) (by simp [go_sem]) (by simp [go_sem]) (by simp [go_sem]) (by simp [go_sem]) (by simp [go_sem]) (by simp [go_sem]) (by simp [go_sem]) ).below hb9 (by go_size)
  have s9 : w8.heap.size + 1 < w9.heap.size := by have := hb9.size; simp at this; omega
  have hB9 : Below w.heap.size w w9 := ((hB8.alloc (by go_size) _).alloc (by go_size) _).trans (hb9.mono (by go_size))
  clear r3 r4
  clear L3 L4 L11 L12 L14
  have L3 := L3'; clear L3'
  have L4 := L4'; clear L4'
  have L11 := L11'; clear L11'
  have L12 := L12'; clear L12'
  have L14 := L14'; clear L14'
  clear hb9 hB8
  have r11 : ∀ o0 o1 j, j < 4 → ((w9.alloc o0).alloc o1).cell? ⟨w3.heap.size, j, none⟩ = some (.int .u64 (lim lo j)) := fun o0 o1 j hj => ((L11.alloc (by go_size) o0).alloc (by go_size) o1).c j hj
  have r3 : ∀ o0 o1 j, j < 4 → ((w9.alloc o0).alloc o1).cell? ⟨w.heap.size, j, none⟩ = some (.int .u64 (lim lo j)) := fun o0 o1 j hj => ((L3.alloc (by go_size) o0).alloc (by go_size) o1).c j hj
  have r12 : ∀ o0 o1 j, j < 4 → ((w9.alloc o0).alloc o1).cell? ⟨w3.heap.size + 1, j, none⟩ = some (.int .u64 (lim hi j)) := fun o0 o1 j hj => ((L12.alloc (by go_size) o0).alloc (by go_size) o1).c j hj
  have r4 : ∀ o0 o1 j, j < 4 → ((w9.alloc o0).alloc o1).cell? ⟨w.heap.size + 1, j, none⟩ = some (.int .u64 (lim hi j)) := fun o0 o1 j hj => ((L4.alloc (by go_size) o0).alloc (by go_size) o1).c j hj
  have r14 : ∀ o0 o1 j, j < 4 → ((w9.alloc o0).alloc o1).cell? ⟨w4.heap.size + 1, j, none⟩ = some (.int .u64 0) := fun o0 o1 j hj => ((L14.alloc (by go_size) o0).alloc (by go_size) o1).c j hj
  have r18 : ∀ o0 o1 j, j < 4 → ((w9.alloc o0).alloc o1).cell? ⟨w8.heap.size, j, none⟩ = some (.int .u64 (lim X j)) := fun o0 o1 j hj => ((L18.alloc (by go_size) o0).alloc (by go_size) o1).c j hj
  have r19 : ∀ o0 o1 j, j < 4 → ((w9.alloc o0).alloc o1).cell? ⟨w8.heap.size + 1, j, none⟩ = some (.int .u64 (lim Y j)) := fun o0 o1 j hj => ((L19.alloc (by go_size) o0).alloc (by go_size) o1).c j hj
  go_wp2_with fail
  refine (AW _).mono ?_
  rintro e w10 ⟨rfl, hb10⟩
  have hB10 : Below w.heap.size w w10 := ((hB9.alloc (by go_size) _).alloc (by go_size) _).trans (hb10.mono (by go_size))
  clear r11 r3 r12 r4 r14 r18 r19
  go_wp2_with fail
  go_ret
  exact ⟨rfl, hB10⟩
end Go.Proofs.Ytfgeilnaiijldaa
