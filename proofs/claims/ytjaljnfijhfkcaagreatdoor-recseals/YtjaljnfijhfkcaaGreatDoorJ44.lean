/- Protect of the program. -/
import Derived.Test.YtjaljnfijhfkcaaGreatDoorJ43
import Derived.Test.YtjaljnfijhfkcaaGreatDoorJ1
set_option linter.all false
set_option maxRecDepth 100000
namespace Go.Proofs.YtjaljnfijhfkcaaGreatDoor
open Go.RowKit Go.Sort Lin
/-- A row of one byte that has been built. -/
def rowV (k : Int) (v : Value) (w : World) : Prop := ∃ g, v = .slice (some ⟨g, 0, none⟩) 1 1 ∧ g < w.heap.size ∧ w.cell? ⟨g, 0, none⟩ = some (.int .u8 (k % 256))
theorem rowV.st {k : Int} {v : Value} {w w' : World} (h : rowV k v w) (hb : Below w.heap.size w w') : rowV k v w' := by
  obtain ⟨g, h1, h2, h3⟩ := h
  exact ⟨g, h1, Nat.lt_of_lt_of_le h2 hb.size, (hb.cell (p := ⟨g, 0, none⟩) h2).trans h3⟩
theorem rowV.conv {k : Int} {v : Value} {w : World} (h : rowV k v w) : (convert 50 9 v).run Tryz.prog w = .ok (.string (mkS [k % 256])) w := by
  obtain ⟨g, rfl, _, h3⟩ := h
  refine convC w g 1 1 [k % 256] rfl (fun j u hu => ?_)
  cases j with
  | zero =>
    simp at hu
    subst hu
    rw [Addr.add_mid, Nat.zero_add]
    exact h3
  | succ j => simp at hu
theorem rowV.new (k : Int) (w : World) : rowV k (.slice (some ⟨w.heap.size, 0, none⟩) 1 1) (w.alloc (.cells #[.int .u8 (k % 256)] 5)) := by
  refine ⟨_, rfl, by simp, ?_⟩
  exact World.cell?_alloc_at (w := w) #[.int .u8 (k % 256)] 5 _ 0 rfl
/-- What the operations of Protect's seal give. -/
def prV (d rb : Nat) (b S1 Y Z X T : ByteArray) (k : Int) (p : Int) : Nat → Value → World → Prop
  | 0, v, _ => v = .pointer (some ⟨d, 0, none⟩)
  | 1, v, _ => v = .pointer (some ⟨rb, 1, none⟩)
  | 2, v, _ => v = .string b
  | 3, v, _ => v = .pointer (some ⟨rb, 0, none⟩)
  | 4, v, _ => v = .int .i64 k
  | 5, v, _ => v = .int .u8 (k % 256)
  | 6, v, w => rowV k v w
  | 7, v, _ => v = .string S1
  | 8, v, _ => v = .string Y
  | 9, v, _ => v = .int .i64 p
  | 10, v, _ => v = .string Z
  | 11, v, _ => v = .string X
  | _, v, _ => v = .string T
theorem prV.st (d rb : Nat) (b S1 Y Z X T : ByteArray) (k : Int) (p : Int) (i : Nat) (v : Value) (w w' : World) (h : prV d rb b S1 Y Z X T k p i v w) (hb : Below w.heap.size w w') : prV d rb b S1 Y Z X T k p i v w' := by
  match i, h with
  | 0, h | 1, h | 2, h | 3, h | 4, h | 5, h | 7, h | 8, h | 9, h | 10, h | 11, h | 12, h => exact h
  | 6, h => exact rowV.st h hb
  | n + 13, h => exact h
set_option maxHeartbeats 4000000 in
theorem Protect_3 (key iv b S1 Y Z X T : ByteArray) (k q : Int) (p : Nat) (hp : p ≤ 100000) (hb : b.size ≤ 100000) (hS1 : mkS [k % 256] = S1) (hY : b ++ S1 = Y) (hX : Y ++ Z = X) (hZ : Z.size ≤ 100000) (q0 : 0 ≤ q) (q1 : q < 18446744073709551615) (w : World)
    (C1 : ∀ W, Calls Tryz.prog 17 #[rcV k b, .int .i64 (p : Int)] W fun e w' => e = .returned (.int .i64 0) ∧ Below W.heap.size W w')
    (C2 : ∀ W, Calls Tryz.prog 18 #[sdV key iv q] W fun e w' => ∃ d, e = .returned (.tuple #[.pointer (some ⟨d, 0, none⟩), .int .i64 0]) ∧ W.heap.size ≤ d ∧ Arr w' d 3 (sd3 key iv q) ∧ Below W.heap.size W w')
    (C3 : ∀ W, Calls Tryz.prog 20 #[.string ⟨#[0]⟩, .int .i64 (p : Int)] W fun e w' => e = .returned (.string Z) ∧ Below W.heap.size W w')
    (C4 : ∀ W d, Arr W d 3 (sd3 key iv q) → Calls Tryz.prog 19 #[.pointer (some ⟨d, 0, none⟩), .string X] W fun e w' => e = .returned (.string T) ∧ Below W.heap.size W w') :
    Calls Tryz.prog 10 #[sdV key iv q, rcV k b, .int .i64 (p : Int)] w fun e w' => e = .returned (.tuple #[sdV key iv (q + 1), .string T, .int .i64 0]) ∧ Below w.heap.size w w' := by
  unfold sdV rcV at *
  have A0 : Arr (((w.alloc (.cells #[.string key, .string iv, .int .u64 q] 24)).alloc (.cells #[.int .i64 k, .string b] 26)).alloc (.cells #[.string ⟨#[]⟩, .string ⟨#[]⟩, .int .u64 0] 24)) w.heap.size 3 (sd3 key iv q) :=
    Arr.al' (n := 2) (Arr.al' (n := 2) (Arr.new w _ 24 _ rfl _ 3 (sd3_at key iv q)) _) _
  have A1 : Arr (((w.alloc (.cells #[.string key, .string iv, .int .u64 q] 24)).alloc (.cells #[.int .i64 k, .string b] 26)).alloc (.cells #[.string ⟨#[]⟩, .string ⟨#[]⟩, .int .u64 0] 24)) (w.heap.size + 1) 2 (rc2 k b) :=
    Arr.al' (n := 1) (Arr.new (w.alloc (.cells #[.string key, .string iv, .int .u64 q] 24)) _ 26 (w.heap.size + 1) (by simp) _ 2 (rc2_at k b)) _
  have A2 : Arr (((w.alloc (.cells #[.string key, .string iv, .int .u64 q] 24)).alloc (.cells #[.int .i64 k, .string b] 26)).alloc (.cells #[.string ⟨#[]⟩, .string ⟨#[]⟩, .int .u64 0] 24)) (w.heap.size + 1 + 1) 3 (sd3 ⟨#[]⟩ ⟨#[]⟩ 0) :=
    Arr.new ((w.alloc (.cells #[.string key, .string iv, .int .u64 q] 24)).alloc (.cells #[.int .i64 k, .string b] 26)) _ 24 (w.heap.size + 1 + 1) (by simp) _ 3 (sd3_at ⟨#[]⟩ ⟨#[]⟩ 0)
  have B0 : Below w.heap.size w (((w.alloc (.cells #[.string key, .string iv, .int .u64 q] 24)).alloc (.cells #[.int .i64 k, .string b] 26)).alloc (.cells #[.string ⟨#[]⟩, .string ⟨#[]⟩, .int .u64 0] 24)) := by go_grown
  go_enter Tryz.func10, Tryz.ntmps10
  go_wp2_with fail
  refine (C1 _).mono ?_
  rintro e w1 ⟨rfl, b1⟩
  replace A0 : Arr _ _ 3 _ := A0.to' (n := 2) b1
  replace A1 : Arr _ _ 2 _ := A1.to' (n := 1) b1
  replace A2 : Arr _ _ 3 _ := A2.to' (n := 2) b1
  replace B0 := Bel.call B0 b1
  clear C1 b1
  obtain ⟨e0, e1, e2⟩ := A0.sd
  have l2 : w.heap.size + 1 + 1 < w1.heap.size := A2.lt (n := 2)
  go_wp2_with fail
  refine (C2 _).mono ?_
  rintro e w2 ⟨d, rfl, hd, D, b2⟩
  replace A1 : Arr _ _ 2 _ := A1.to' (n := 1) b2
  replace A2 : Arr _ _ 3 _ := A2.to' (n := 2) b2
  replace B0 := Bel.call B0 b2
  clear C2 b2 e0 e1 e2 A0
  go_wp2_with fail
  have r1 : ∀ W, Below w2.heap.size w2 W → W.cell? ⟨w.heap.size + 1, 1, none⟩ = some (.string b) := fun W hW => (A1.to' (n := 1) hW).c 1 (by omega)
  have r0 : ∀ W, Below w2.heap.size w2 W → W.cell? ⟨w.heap.size + 1, 0, none⟩ = some (.int .i64 k) := fun W hW => (A1.to' (n := 1) hW).c 0 (by omega)
  refine wp_region_rel 13 (prV d (w.heap.size + 1) b S1 Y Z X T k p) (by kernel_rfl) (by kernel_rfl) (prV.st _ _ _ _ _ _ _ _ _ _) ?_ ?_
  · intro i o ρ W hi ho hW hP hS
    have ci : i = 0 ∨ i = 1 ∨ i = 2 ∨ i = 3 ∨ i = 4 ∨ i = 5 ∨ i = 6 ∨ i = 7 ∨ i = 8 ∨ i = 9 ∨ i = 10 ∨ i = 11 ∨ i = 12 := by omega
    have q1 := r1 W hW
    have q0 := r0 W hW
    have z1 : S1.size = 1 := by rw [← hS1, mkS_size]; rfl
    have zY : b.size + S1.size ≤ 9223372036854775807 := by omega
    have zX : Y.size + Z.size ≤ 9223372036854775807 := by rw [← hY, ByteArray.size_append]; omega
    have hc := hP.c
    have hf := hP.f
    rcases ci with rfl | rfl | rfl | rfl | rfl | rfl | rfl | rfl | rfl | rfl | rfl | rfl | rfl <;> cases ho
    · have h' : ρ (.tmp 10) = .pointer (some ⟨d, 0, none⟩) := hS 10 (by kernel_rfl)
      exact Stp.val (by simp [execOp, h', go_sem] <;> rfl) rfl
    · have h' : ρ (.tmp 4) = .pointer (some ⟨w.heap.size + 1, 0, none⟩) := hS 4 (by kernel_rfl)
      exact Stp.val (by simp [execOp, h', go_sem] <;> rfl) rfl
    · have h' : ρ (.tmp 30) = .pointer (some ⟨w.heap.size + 1, 1, none⟩) := hS 30 (by kernel_rfl)
      exact Stp.val (by simp [execOp, h', go_sem, q1] <;> rfl) rfl
    · have h' : ρ (.tmp 4) = .pointer (some ⟨w.heap.size + 1, 0, none⟩) := hS 4 (by kernel_rfl)
      exact Stp.val (by simp [execOp, h', go_sem] <;> rfl) rfl
    · have h' : ρ (.tmp 32) = .pointer (some ⟨w.heap.size + 1, 0, none⟩) := hS 32 (by kernel_rfl)
      exact Stp.val (by simp [execOp, h', go_sem, q0] <;> rfl) rfl
    · have h' : ρ (.tmp 33) = .int .i64 k := hS 33 (by kernel_rfl)
      exact Stp.val (by simp [execOp, h', go_sem] <;> rfl) rfl
    · have h' : ρ (.tmp 34) = .int .u8 (k % 256) := hS 34 (by kernel_rfl)
      exact Stp.new (w' := W.alloc (.cells #[.int .u8 (k % 256)] 5)) (by simp [execOp, h', go_sem] <;> rfl) ((Below.refl _ W).alloc (Nat.le_refl _) _) (rowV.new k W)
    · have h' : rowV k (ρ (.tmp 35)) W := hS 35 (by kernel_rfl)
      have cv := h'.conv
      rw [hS1] at cv
      exact Stp.val (by simp [execOp, Sem.run_bind, cv] <;> rfl) rfl
    · have h1 : ρ (.tmp 31) = .string b := hS 31 (by kernel_rfl)
      have h2 : ρ (.tmp 36) = .string S1 := hS 36 (by kernel_rfl)
      exact Stp.val (by simp [execOp, h1, h2, go_sem, hY, zY] <;> rfl) rfl
    · have h' : ρ (.tmp 2) = .int .i64 (p : Int) := hS 2 (by kernel_rfl)
      exact Stp.val (by simp [execOp, h', go_sem] <;> rfl) rfl
    · have h' : ρ (.tmp 38) = .int .i64 (p : Int) := hS 38 (by kernel_rfl)
      exact Stp.call (by simp [execOp, h', hc, hf, go_sem] <;> rfl) (C3 W) (fun _ => rfl)
    · have h1 : ρ (.tmp 37) = .string Y := hS 37 (by kernel_rfl)
      have h2 : ρ (.tmp 39) = .string Z := hS 39 (by kernel_rfl)
      exact Stp.val (by simp [execOp, h1, h2, go_sem, hX, zX] <;> rfl) rfl
    · have h1 : ρ (.tmp 29) = .pointer (some ⟨d, 0, none⟩) := hS 29 (by kernel_rfl)
      have h2 : ρ (.tmp 40) = .string X := hS 40 (by kernel_rfl)
      exact Stp.call (by simp [execOp, h1, h2, hf, go_sem] <;> rfl) (C4 W d (D.to' (n := 2) hW)) (fun _ => rfl)
  intro x W hW hV
  have h12 : x 12 = .string T := hV 12 (by omega)
  replace D : Arr _ _ 3 _ := D.to' (n := 2) hW
  replace A2 : Arr _ _ 3 _ := A2.to' (n := 2) hW
  replace B0 := Bel.call B0 hW
  clear hV hW r0 r1 A1 C3 C4
  simp only [puts, List.take_succ_cons, List.take_zero, List.drop_succ_cons, List.drop_zero, Act.put, List.setIfInBounds_toArray, List.set_cons_succ, List.set_cons_zero]
  go_wp2_with fail
  refine (goneOn_any d key iv q q0 q1 _ D).mono ?_
  rintro e w4 ⟨rfl, b4⟩
  have A5 := A2.below b4 (by omega)
  have B5 := B0.trans (b4.mono (by have := B0.size; omega))
  have c := A5.c
  have z := A5.z
  obtain ⟨e0, e1, e2⟩ := (A5.ssd key iv (q + 1)).sd
  unfold ssd at e0 e1 e2
  unfold sdV
  clear D A2 B0 b4
  go_wp2_with fail
  refine bodyPost_ret (v := .tuple #[sdV key iv (q + 1), .string T, .int .i64 0]) (by simp [sdV, results, Tryz.results10, go_sem, e0, e1, e2]) rfl ⟨rfl, Bel.ssd B5 (by omega) key iv (q + 1)⟩
end Go.Proofs.YtjaljnfijhfkcaaGreatDoor
