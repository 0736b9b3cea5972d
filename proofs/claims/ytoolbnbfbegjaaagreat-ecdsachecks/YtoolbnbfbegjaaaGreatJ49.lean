/- The reference's multiple. -/
import Derived.Test.YtoolbnbfbegjaaaGreatJ45
set_option linter.all false
set_option maxRecDepth 100000
namespace Go.Proofs.YtoolbnbfbegjaaaGreat
open Go.RowKit Go.Sort
def MW (w wr : World) (K x y z X Y Z : Int) : Prop :=
  Below w.heap.size w wr ∧ w.heap.size + 1 + 1 + 1 < wr.heap.size ∧ Arr wr w.heap.size 4 (fun j => .int .u64 (lim K j)) ∧ Arr wr (w.heap.size + 1) 12 (trx x y z) ∧ Arr wr (w.heap.size + 1 + 1) 12 trz ∧ Arr wr (w.heap.size + 1 + 1 + 1) 12 (trx X Y Z)
theorem MW.call {w wr wn : World} {K x y z X Y Z : Int} (h : MW w wr K x y z X Y Z) (hb : Below wr.heap.size wr wn) : MW w wn K x y z X Y Z := by
  obtain ⟨a, b, c1, c2, c3, c4⟩ := h
  exact ⟨a.trans (hb.mono a.size), Nat.lt_of_lt_of_le b hb.size, c1.below hb (by omega), c2.below hb (by omega), c3.below hb (by omega), c4.below hb b⟩
theorem MW.put {w wr : World} {K x y z X Y Z : Int} (h : MW w wr K x y z X Y Z) (A B C : Int) : MW w (st12 wr (w.heap.size + 1 + 1 + 1) A B C) K x y z A B C := by
  obtain ⟨a, b, c1, c2, c3, c4⟩ := h
  exact ⟨Bel.st12 a (by omega) A B C, by simp only [st12, size_set]; exact b, c1.st12o (by omega) _ _ _, c2.st12o (by omega) _ _ _, c3.st12o (by omega) _ _ _, c4.st12 A B C⟩
set_option maxHeartbeats 16000000 in
theorem multiple_core (K x y z : Int) (L : Nat) (X Y Z : Nat → Int) (w : World) (hL : L ≤ 256) (e1 : X L = 1) (e2 : Y L = 1) (e3 : Z L = 0)
    (C2 : ∀ W, Calls Tryz.prog 89 #[nv K] W fun e w' => e = .returned (.int .i64 L) ∧ Below W.heap.size W w')
    (CS : ∀ n, n < L → ∃ A B C b : Int, (∀ W, Calls Tryz.prog 90 #[tv (X (n + 1)) (Y (n + 1)) (Z (n + 1))] W fun e w' => e = .returned (tv A B C) ∧ Below W.heap.size W w') ∧
      (∀ W, Calls Tryz.prog 78 #[nv K, .int .i64 (n : Int)] W fun e w' => e = .returned (.int .u64 b) ∧ Below W.heap.size W w') ∧
      ((b = 0 ∧ X n = A ∧ Y n = B ∧ Z n = C) ∨ (b = 1 ∧ ∀ W, Calls Tryz.prog 76 #[tv A B C, tv x y z] W fun e w' => e = .returned (tv (X n) (Y n) (Z n)) ∧ Below W.heap.size W w'))) :
    Calls Tryz.prog 54 #[nv K, tv x y z] w fun e w' => e = .returned (tv (X 0) (Y 0) (Z 0)) ∧ Below w.heap.size w w' := by
  go_enter Tryz.func54, Tryz.ntmps54
  obtain ⟨W0, hW0⟩ : ∃ W0, W0 = ((((w.alloc (.cells #[.int .u64 (lim (K) 0), .int .u64 (lim (K) 1), .int .u64 (lim (K) 2), .int .u64 (lim (K) 3)] 24)).alloc (.cells #[.int .u64 (lim (x) 0), .int .u64 (lim (x) 1), .int .u64 (lim (x) 2), .int .u64 (lim (x) 3), .int .u64 (lim (y) 0), .int .u64 (lim (y) 1), .int .u64 (lim (y) 2), .int .u64 (lim (y) 3), .int .u64 (lim (z) 0), .int .u64 (lim (z) 1), .int .u64 (lim (z) 2), .int .u64 (lim (z) 3)] 81)).alloc (.cells #[.int .u64 0, .int .u64 0, .int .u64 0, .int .u64 0, .int .u64 0, .int .u64 0, .int .u64 0, .int .u64 0, .int .u64 0, .int .u64 0, .int .u64 0, .int .u64 0] 81)).alloc (.cells #[.int .u64 1, .int .u64 0, .int .u64 0, .int .u64 0, .int .u64 1, .int .u64 0, .int .u64 0, .int .u64 0, .int .u64 0, .int .u64 0, .int .u64 0, .int .u64 0] 81)) := ⟨_, rfl⟩
  have Bk : Arr W0 (w.heap.size) 4 (fun j => .int .u64 (lim (K) j)) := by subst hW0; refine Arr.mk4 ?_ ?_ ?_ ?_ ?_ ?_ ?_ ?_ <;> simp [go_sem]
  have Ba : Arr W0 (w.heap.size + 1) 12 (trx (x) (y) (z)) := by subst hW0; refine Arr.mk12 ?_ ?_ ?_ ?_ ?_ ?_ ?_ ?_ ?_ ?_ ?_ ?_ ?_ <;> simp [go_sem, px, sx, zx, trx, trz]
  have Bo : Arr W0 (w.heap.size + 1 + 1) 12 (trz) := by subst hW0; refine Arr.mk12 ?_ ?_ ?_ ?_ ?_ ?_ ?_ ?_ ?_ ?_ ?_ ?_ ?_ <;> simp [go_sem, px, sx, zx, trx, trz]
  subst hW0
  have i0 : lim 1 0 = 1 := by decide
  have i1 : lim 1 1 = 0 := by decide
  have i2 : lim 1 2 = 0 := by decide
  have i3 : lim 1 3 = 0 := by decide
  have j0 : lim 0 0 = 0 := by decide
  have j1 : lim 0 1 = 0 := by decide
  have j2 : lim 0 2 = 0 := by decide
  have j3 : lim 0 3 = 0 := by decide
  have Bt : Arr (((((w.alloc (.cells #[.int .u64 (lim (K) 0), .int .u64 (lim (K) 1), .int .u64 (lim (K) 2), .int .u64 (lim (K) 3)] 24)).alloc (.cells #[.int .u64 (lim (x) 0), .int .u64 (lim (x) 1), .int .u64 (lim (x) 2), .int .u64 (lim (x) 3), .int .u64 (lim (y) 0), .int .u64 (lim (y) 1), .int .u64 (lim (y) 2), .int .u64 (lim (y) 3), .int .u64 (lim (z) 0), .int .u64 (lim (z) 1), .int .u64 (lim (z) 2), .int .u64 (lim (z) 3)] 81)).alloc (.cells #[.int .u64 0, .int .u64 0, .int .u64 0, .int .u64 0, .int .u64 0, .int .u64 0, .int .u64 0, .int .u64 0, .int .u64 0, .int .u64 0, .int .u64 0, .int .u64 0] 81)).alloc (.cells #[.int .u64 1, .int .u64 0, .int .u64 0, .int .u64 0, .int .u64 1, .int .u64 0, .int .u64 0, .int .u64 0, .int .u64 0, .int .u64 0, .int .u64 0, .int .u64 0] 81))) (w.heap.size + 1 + 1 + 1) 12 (trx (1) (1) (0)) := by refine Arr.mk12 ?_ ?_ ?_ ?_ ?_ ?_ ?_ ?_ ?_ ?_ ?_ ?_ ?_ <;> simp [go_sem, px, sx, zx, trx, trz, i0, i1, i2, i3, j0, j1, j2, j3]
  clear i0 i1 i2 i3 j0 j1 j2 j3
  have hB' : Below w.heap.size w ((((w.alloc (.cells #[.int .u64 (lim (K) 0), .int .u64 (lim (K) 1), .int .u64 (lim (K) 2), .int .u64 (lim (K) 3)] 24)).alloc (.cells #[.int .u64 (lim (x) 0), .int .u64 (lim (x) 1), .int .u64 (lim (x) 2), .int .u64 (lim (x) 3), .int .u64 (lim (y) 0), .int .u64 (lim (y) 1), .int .u64 (lim (y) 2), .int .u64 (lim (y) 3), .int .u64 (lim (z) 0), .int .u64 (lim (z) 1), .int .u64 (lim (z) 2), .int .u64 (lim (z) 3)] 81)).alloc (.cells #[.int .u64 0, .int .u64 0, .int .u64 0, .int .u64 0, .int .u64 0, .int .u64 0, .int .u64 0, .int .u64 0, .int .u64 0, .int .u64 0, .int .u64 0, .int .u64 0] 81)).alloc (.cells #[.int .u64 1, .int .u64 0, .int .u64 0, .int .u64 0, .int .u64 1, .int .u64 0, .int .u64 0, .int .u64 0, .int .u64 0, .int .u64 0, .int .u64 0, .int .u64 0] 81)) := by go_grown
  go_wp2_with fail
  refine (C2 _).mono ?_
  rintro e w2 ⟨rfl, hb⟩
  have HW : MW w w2 K x y z 1 1 0 := ⟨Bel.call hB' hb, Nat.lt_of_lt_of_le (by go_size) hb.size, Arr.to' Bk hb, Arr.to' Ba hb, Arr.to' Bo hb, Arr.to' Bt hb⟩
  have HW1 : MW w w2 K x y z (X L) (Y L) (Z L) := by rw [e1, e2, e3]; exact HW
  clear HW
  have HW := HW1
  clear HW1
  clear Bk Ba Bo Bt hB' hb C2 e1 e2 e3
  go_wp2_with fail
  go_loopw [6] (fun i wr => ∃ n : Nat, n ≤ L ∧ i = .int .i64 ((n : Int) - 1) ∧ MW w wr K x y z (X n) (Y n) (Z n)) (fun i _ => (intOf i + 1).toNat)
  case atStart => exact ⟨L, by omega, rfl, HW⟩
  case round =>
    clear HW
    obtain ⟨n, hn, rfl, HW⟩ := hrel
    by_cases hn0 : n = 0
    · subst hn0
      obtain ⟨a, b, c1, c2, c3, c4⟩ := HW
      have r0 := c4.cv 0 (by omega) (.int .u64 (lim (X 0) 0)) rfl
      have r1 := c4.cv 1 (by omega) (.int .u64 (lim (X 0) 1)) rfl
      have r2 := c4.cv 2 (by omega) (.int .u64 (lim (X 0) 2)) rfl
      have r3 := c4.cv 3 (by omega) (.int .u64 (lim (X 0) 3)) rfl
      have r4 := c4.cv 4 (by omega) (.int .u64 (lim (Y 0) 0)) rfl
      have r5 := c4.cv 5 (by omega) (.int .u64 (lim (Y 0) 1)) rfl
      have r6 := c4.cv 6 (by omega) (.int .u64 (lim (Y 0) 2)) rfl
      have r7 := c4.cv 7 (by omega) (.int .u64 (lim (Y 0) 3)) rfl
      have r8 := c4.cv 8 (by omega) (.int .u64 (lim (Z 0) 0)) rfl
      have r9 := c4.cv 9 (by omega) (.int .u64 (lim (Z 0) 1)) rfl
      have r10 := c4.cv 10 (by omega) (.int .u64 (lim (Z 0) 2)) rfl
      have r11 := c4.cv 11 (by omega) (.int .u64 (lim (Z 0) 3)) rfl
      have s3 := c3.c
      have z3 := c3.z
      clear c1 c2 c3 c4 CS
      have hS := a.size
      go_wp2_with fail
      refine bodyPost_ret (v := tv (X 0) (Y 0) (Z 0)) (by simp [results, Tryz.results54, go_sem, s3, trz]) rfl ⟨rfl, ?_⟩
      go_grown
    · obtain ⟨m, rfl⟩ : ∃ m, n = m + 1 := ⟨n - 1, by omega⟩
      have ei : ((m + 1 : Nat) : Int) - 1 = (m : Int) := by omega
      rw [ei]
      have m0 : (0 : Int) ≤ (m : Int) := by omega
      have m4 : (m : Int) < 256 := by omega
      obtain ⟨A, B, C, b, CM, CB, hc⟩ := CS m (by omega)
      clear CS
      have r0 := HW.2.2.2.2.2.cv 0 (by omega) (.int .u64 (lim (X (m + 1)) 0)) rfl
      have r1 := HW.2.2.2.2.2.cv 1 (by omega) (.int .u64 (lim (X (m + 1)) 1)) rfl
      have r2 := HW.2.2.2.2.2.cv 2 (by omega) (.int .u64 (lim (X (m + 1)) 2)) rfl
      have r3 := HW.2.2.2.2.2.cv 3 (by omega) (.int .u64 (lim (X (m + 1)) 3)) rfl
      have r4 := HW.2.2.2.2.2.cv 4 (by omega) (.int .u64 (lim (Y (m + 1)) 0)) rfl
      have r5 := HW.2.2.2.2.2.cv 5 (by omega) (.int .u64 (lim (Y (m + 1)) 1)) rfl
      have r6 := HW.2.2.2.2.2.cv 6 (by omega) (.int .u64 (lim (Y (m + 1)) 2)) rfl
      have r7 := HW.2.2.2.2.2.cv 7 (by omega) (.int .u64 (lim (Y (m + 1)) 3)) rfl
      have r8 := HW.2.2.2.2.2.cv 8 (by omega) (.int .u64 (lim (Z (m + 1)) 0)) rfl
      have r9 := HW.2.2.2.2.2.cv 9 (by omega) (.int .u64 (lim (Z (m + 1)) 1)) rfl
      have r10 := HW.2.2.2.2.2.cv 10 (by omega) (.int .u64 (lim (Z (m + 1)) 2)) rfl
      have r11 := HW.2.2.2.2.2.cv 11 (by omega) (.int .u64 (lim (Z (m + 1)) 3)) rfl
      go_wp2_with fail
      refine (CM _).mono ?_
      rintro e w3 ⟨rfl, hb⟩
      have HW3 := HW.call hb
      clear hb r0 r1 r2 r3 r4 r5 r6 r7 r8 r9 r10 r11 HW CM
      have r0 := HW3.2.2.2.2.2.cv 0 (by omega) (.int .u64 (lim (X (m + 1)) 0)) rfl
      have r1 := HW3.2.2.2.2.2.cv 1 (by omega) (.int .u64 (lim (X (m + 1)) 1)) rfl
      have r2 := HW3.2.2.2.2.2.cv 2 (by omega) (.int .u64 (lim (X (m + 1)) 2)) rfl
      have r3 := HW3.2.2.2.2.2.cv 3 (by omega) (.int .u64 (lim (X (m + 1)) 3)) rfl
      have r4 := HW3.2.2.2.2.2.cv 4 (by omega) (.int .u64 (lim (Y (m + 1)) 0)) rfl
      have r5 := HW3.2.2.2.2.2.cv 5 (by omega) (.int .u64 (lim (Y (m + 1)) 1)) rfl
      have r6 := HW3.2.2.2.2.2.cv 6 (by omega) (.int .u64 (lim (Y (m + 1)) 2)) rfl
      have r7 := HW3.2.2.2.2.2.cv 7 (by omega) (.int .u64 (lim (Y (m + 1)) 3)) rfl
      have r8 := HW3.2.2.2.2.2.cv 8 (by omega) (.int .u64 (lim (Z (m + 1)) 0)) rfl
      have r9 := HW3.2.2.2.2.2.cv 9 (by omega) (.int .u64 (lim (Z (m + 1)) 1)) rfl
      have r10 := HW3.2.2.2.2.2.cv 10 (by omega) (.int .u64 (lim (Z (m + 1)) 2)) rfl
      have r11 := HW3.2.2.2.2.2.cv 11 (by omega) (.int .u64 (lim (Z (m + 1)) 3)) rfl
      have zx := HW3.2.2.2.2.2.z
      have HW4 := HW3.put A B C
      have re := HW4.2.2.1.c
      clear HW3
      go_wp2_with fail
      refine (CB _).mono ?_
      rintro e w5 ⟨rfl, hb⟩
      have HW5 := HW4.call hb
      clear hb r0 r1 r2 r3 r4 r5 r6 r7 r8 r9 r10 r11 zx re HW4 CB
      rcases hc with ⟨rfl, h1, h2, h3⟩ | ⟨rfl, hc⟩
      · rw [← h1, ← h2, ← h3] at HW5
        clear h1 h2 h3
        go_wp2_with fail
        go_roundw
        case rel => exact ⟨m, by omega, by go_num, HW5⟩
        case measure => simp [intOf]
      · have r0 := HW5.2.2.2.2.2.cv 0 (by omega) (.int .u64 (lim (A) 0)) rfl
        have r1 := HW5.2.2.2.2.2.cv 1 (by omega) (.int .u64 (lim (A) 1)) rfl
        have r2 := HW5.2.2.2.2.2.cv 2 (by omega) (.int .u64 (lim (A) 2)) rfl
        have r3 := HW5.2.2.2.2.2.cv 3 (by omega) (.int .u64 (lim (A) 3)) rfl
        have r4 := HW5.2.2.2.2.2.cv 4 (by omega) (.int .u64 (lim (B) 0)) rfl
        have r5 := HW5.2.2.2.2.2.cv 5 (by omega) (.int .u64 (lim (B) 1)) rfl
        have r6 := HW5.2.2.2.2.2.cv 6 (by omega) (.int .u64 (lim (B) 2)) rfl
        have r7 := HW5.2.2.2.2.2.cv 7 (by omega) (.int .u64 (lim (B) 3)) rfl
        have r8 := HW5.2.2.2.2.2.cv 8 (by omega) (.int .u64 (lim (C) 0)) rfl
        have r9 := HW5.2.2.2.2.2.cv 9 (by omega) (.int .u64 (lim (C) 1)) rfl
        have r10 := HW5.2.2.2.2.2.cv 10 (by omega) (.int .u64 (lim (C) 2)) rfl
        have r11 := HW5.2.2.2.2.2.cv 11 (by omega) (.int .u64 (lim (C) 3)) rfl
        have t0 := HW5.2.2.2.1.cv 0 (by omega) (.int .u64 (lim (x) 0)) rfl
        have t1 := HW5.2.2.2.1.cv 1 (by omega) (.int .u64 (lim (x) 1)) rfl
        have t2 := HW5.2.2.2.1.cv 2 (by omega) (.int .u64 (lim (x) 2)) rfl
        have t3 := HW5.2.2.2.1.cv 3 (by omega) (.int .u64 (lim (x) 3)) rfl
        have t4 := HW5.2.2.2.1.cv 4 (by omega) (.int .u64 (lim (y) 0)) rfl
        have t5 := HW5.2.2.2.1.cv 5 (by omega) (.int .u64 (lim (y) 1)) rfl
        have t6 := HW5.2.2.2.1.cv 6 (by omega) (.int .u64 (lim (y) 2)) rfl
        have t7 := HW5.2.2.2.1.cv 7 (by omega) (.int .u64 (lim (y) 3)) rfl
        have t8 := HW5.2.2.2.1.cv 8 (by omega) (.int .u64 (lim (z) 0)) rfl
        have t9 := HW5.2.2.2.1.cv 9 (by omega) (.int .u64 (lim (z) 1)) rfl
        have t10 := HW5.2.2.2.1.cv 10 (by omega) (.int .u64 (lim (z) 2)) rfl
        have t11 := HW5.2.2.2.1.cv 11 (by omega) (.int .u64 (lim (z) 3)) rfl
        go_wp2_with fail
        refine (hc _).mono ?_
        rintro e w6 ⟨rfl, hb⟩
        have HW6 := HW5.call hb
        clear hb r0 r1 r2 r3 r4 r5 r6 r7 r8 r9 r10 r11 t0 t1 t2 t3 t4 t5 t6 t7 t8 t9 t10 t11 HW5 hc
        have r0 := HW6.2.2.2.2.2.cv 0 (by omega) (.int .u64 (lim (A) 0)) rfl
        have r1 := HW6.2.2.2.2.2.cv 1 (by omega) (.int .u64 (lim (A) 1)) rfl
        have r2 := HW6.2.2.2.2.2.cv 2 (by omega) (.int .u64 (lim (A) 2)) rfl
        have r3 := HW6.2.2.2.2.2.cv 3 (by omega) (.int .u64 (lim (A) 3)) rfl
        have r4 := HW6.2.2.2.2.2.cv 4 (by omega) (.int .u64 (lim (B) 0)) rfl
        have r5 := HW6.2.2.2.2.2.cv 5 (by omega) (.int .u64 (lim (B) 1)) rfl
        have r6 := HW6.2.2.2.2.2.cv 6 (by omega) (.int .u64 (lim (B) 2)) rfl
        have r7 := HW6.2.2.2.2.2.cv 7 (by omega) (.int .u64 (lim (B) 3)) rfl
        have r8 := HW6.2.2.2.2.2.cv 8 (by omega) (.int .u64 (lim (C) 0)) rfl
        have r9 := HW6.2.2.2.2.2.cv 9 (by omega) (.int .u64 (lim (C) 1)) rfl
        have r10 := HW6.2.2.2.2.2.cv 10 (by omega) (.int .u64 (lim (C) 2)) rfl
        have r11 := HW6.2.2.2.2.2.cv 11 (by omega) (.int .u64 (lim (C) 3)) rfl
        have zx := HW6.2.2.2.2.2.z
        have HW7 := HW6.put (X m) (Y m) (Z m)
        clear HW6
        go_wp2_with fail
        go_roundw
        case rel => exact ⟨m, by omega, by go_num, HW7⟩
        case measure => simp [intOf]
end Go.Proofs.YtoolbnbfbegjaaaGreat
