/- What mod.next does of what its callees answer. -/
import Derived.Test.YtoolbnbfbegjaaaGreatJ14
set_option linter.all false
namespace Go.Proofs.YtoolbnbfbegjaaaGreat
open Go.RowKit
abbrev sv (r t : Int) : Value := .agg #[.int .u64 (lim r 0), .int .u64 (lim r 1), .int .u64 (lim r 2), .int .u64 (lim r 3), .int .u64 (lim t 0), .int .u64 (lim t 1), .int .u64 (lim t 2), .int .u64 (lim t 3)]
def sc (r t : Int) (j : Nat) : Value := .int .u64 (if j < 4 then lim r j else lim t (j - 4))
theorem sc0 (r t : Int) : sc r t 0 = .int .u64 (lim r 0) := rfl
theorem sc1 (r t : Int) : sc r t 1 = .int .u64 (lim r 1) := rfl
theorem sc2 (r t : Int) : sc r t 2 = .int .u64 (lim r 2) := rfl
theorem sc3 (r t : Int) : sc r t 3 = .int .u64 (lim r 3) := rfl
theorem sc4 (r t : Int) : sc r t 4 = .int .u64 (lim t 0) := rfl
theorem sc5 (r t : Int) : sc r t 5 = .int .u64 (lim t 1) := rfl
theorem sc6 (r t : Int) : sc r t 6 = .int .u64 (lim t 2) := rfl
theorem sc7 (r t : Int) : sc r t 7 = .int .u64 (lim t 3) := rfl
attribute [local go_sem] sc0 sc1 sc2 sc3 sc4 sc5 sc6 sc7
set_option maxHeartbeats 2000000 in
theorem next_core (r0 t0 r1 t1 q q' l P P' S er : Int) (d : Value) (w : World)
    (D : ∀ W, Calls Tryz.prog 117 #[nv r0, .agg #[.int .u64 0, .int .u64 0, .int .u64 0, .int .u64 0], nv r1] W fun e w' => e = .returned (.tuple #[nv q, nv q', nv l, .int .i64 er]) ∧ Below W.heap.size W w')
    (MU : ∀ W, Calls Tryz.prog 120 #[nv q, nv t1] W fun e w' => e = .returned (.tuple #[nv P, nv P']) ∧ Below W.heap.size W w')
    (AD : ∀ W, Calls Tryz.prog 101 #[nv P, nv t0] W fun e w' => e = .returned (.tuple #[nv S, d]) ∧ Below W.heap.size W w') :
    Calls Tryz.prog 132 #[sv r0 t0, sv r1 t1] w fun e w' => e = .returned (sv l S) ∧ Below w.heap.size w w' := by
  go_enter Tryz.func132, Tryz.ntmps132
  go_wp2_with fail
  refine (D _).mono ?_
  rintro e w1 ⟨rfl, hb1⟩
  have A2 := (Arr.mk8 (f := sc r0 t0) (b := w.heap.size) (by simp [go_sem]) (by simp [go_sem]) (by simp [go_sem]) (by simp [go_sem]) (by simp [go_sem]) (by simp [go_sem]) (by simp [go_sem]) (by simp [go_sem]) (by simp [go_sem])).below hb1 (by go_size)
  have A3 := (Arr.mk8 (f := sc r1 t1) (b := w.heap.size + 1) (by simp [go_sem]) (by simp [go_sem]) (by simp [go_sem]) (by simp [go_sem]) (by simp [go_sem]) (by simp [go_sem]) (by simp [go_sem]) (by simp [go_sem]) (by simp [go_sem])).below hb1 (by go_size)
  have A4 := (Arr.mk8 (f := fun _ => .int .u64 0) (b := w.heap.size + 1 + 1) (by simp [go_sem]) (by simp [go_sem]) (by simp [go_sem]) (by simp [go_sem]) (by simp [go_sem]) (by simp [go_sem]) (by simp [go_sem]) (by simp [go_sem]) (by simp [go_sem])).below hb1 (by go_size)
  have s1 : w.heap.size + 1 + 1 < w1.heap.size := by have := hb1.size; simp at this; omega
  have hB1 : Below w.heap.size w w1 := Below.trans (by go_grown) (hb1.mono (by go_size))
  have c3 : ∀ o1 o2 o3 j, j < 8 → (((w1.alloc o1).alloc o2).alloc o3).cell? ⟨w.heap.size + 1, j, none⟩ = some (sc r1 t1 j) := fun o1 o2 o3 j hj => (((A3.alloc (by omega) o1).alloc (by go_size) o2).alloc (by go_size) o3).c j hj
  clear hb1 D
  go_wp2_with fail
  refine (MU _).mono ?_
  rintro e w2 ⟨rfl, hb2⟩
  have A2' := (((A2.alloc (by omega) _).alloc (by go_size) _).alloc (by go_size) _).below hb2 (by go_size)
  have A4' := (((A4.alloc (by omega) _).alloc (by go_size) _).alloc (by go_size) _).below hb2 (by go_size)
  have A7 := (Arr.mk4 (f := fun j => .int .u64 (lim l j)) (b := w1.heap.size + 1 + 1) (by simp [go_sem]) (by simp [go_sem]) (by simp [go_sem]) (by simp [go_sem]) (by simp [go_sem]) (by simp [go_sem]) (by simp [go_sem]) (by simp [go_sem]) ).below hb2 (by go_size)
  have s2 : w1.heap.size + 1 + 1 < w2.heap.size := by have := hb2.size; simp at this; omega
  have hB2 : Below w.heap.size w w2 := (((hB1.alloc (by go_size) _).alloc (by go_size) _).alloc (by go_size) _).trans (hb2.mono (by go_size))
  have c2 : ∀ o1 o2 j, j < 8 → ((w2.alloc o1).alloc o2).cell? ⟨w.heap.size, j, none⟩ = some (sc r0 t0 j) := fun o1 o2 j hj => ((A2'.alloc (by omega) o1).alloc (by go_size) o2).c j hj
  clear hb2 MU c3 A2 A3 A4 hB1
  go_wp2_with fail
  refine (AD _).mono ?_
  rintro e w3 ⟨rfl, hb3⟩
  have A4 := ((A4'.alloc (by omega) _).alloc (by go_size) _).below hb3 (by go_size)
  have A7' := ((A7.alloc (by omega) _).alloc (by go_size) _).below hb3 (by go_size)
  have s3 : w2.heap.size + 1 < w3.heap.size := by have := hb3.size; simp at this; omega
  have hB3 : Below w.heap.size w w3 := ((hB2.alloc (by go_size) _).alloc (by go_size) _).trans (hb3.mono (by go_size))
  have c7 : ∀ o1 j, j < 4 → (w3.alloc o1).cell? ⟨w1.heap.size + 1 + 1, j, none⟩ = some (.int .u64 (lim l j)) := fun o1 j hj => (A7'.alloc (by omega) o1).c j hj
  have c4 : ∀ o1 j, j < 8 → (w3.alloc o1).cell? ⟨w.heap.size + 1 + 1, j, none⟩ = some (.int .u64 0) := fun o1 j hj => (A4.alloc (by omega) o1).c j hj
  have z4 : ∀ o1 j, j < 8 → (w3.alloc o1).frozen? ⟨w.heap.size + 1 + 1, j, none⟩ = false := fun o1 j hj => (A4.alloc (by omega) o1).z j hj
  clear hb3 AD c2 A2' A4 A4' A7 A7' hB2
  go_wp2_with fail
  refine bodyPost_ret (v := sv l S) (by simp [results, Tryz.results132, go_sem, c4]) rfl ⟨rfl, ?_⟩
  go_grown
end Go.Proofs.YtoolbnbfbegjaaaGreat
