/- What the reference's product and Mul answer, for any numbers. -/
import Derived.Test.YtpigofooblmdhaaJ23
set_option linter.all false
set_option maxRecDepth 100000
namespace Go.Proofs.Ytpigofooblmdhaa
open Go.RowKit Go.Sort
def PR (w wr : World) (A Bv : Int) (f : Nat → Int) : Prop :=
  Below w.heap.size w wr ∧ w.heap.size + 1 + 1 + 1 + 1 < wr.heap.size ∧ Arr wr w.heap.size 4 (fun j => .int .u64 (lim A j)) ∧ Arr wr (w.heap.size + 1) 4 (fun j => .int .u64 (lim Bv j)) ∧ Arr wr (w.heap.size + 1 + 1) 4 (fun _ => .int .u64 0) ∧ Arr wr (w.heap.size + 1 + 1 + 1) 4 (fun _ => .int .u64 0) ∧ Arr wr (w.heap.size + 1 + 1 + 1 + 1) 8 (fun j => .int .u64 (f j))
theorem PR.put {w wr : World} {A Bv : Int} {f : Nat → Int} (h : PR w wr A Bv f) (k : Nat) (hk : k < 8) (v : Int) : PR w (wr.setCell ⟨w.heap.size + 1 + 1 + 1 + 1, k, none⟩ (.int .u64 v)) A Bv (upd f k v) := by
  obtain ⟨a, b, c1, c2, c3, c4, c5⟩ := h
  refine ⟨a.setCell (by show _ ≤ w.heap.size + 1 + 1 + 1 + 1; omega) _, by rw [size_set]; exact b, c1.other (by omega) _, c2.other (by omega) _, c3.other (by omega) _, c4.other (by omega) _, (c5.set k hk _).congr ?_⟩
  intro j hj
  unfold upd
  by_cases e : j = k
  · rw [if_pos e, if_pos e]
  · rw [if_neg e, if_neg e]
theorem PR.call {w wr w1 : World} {A Bv : Int} {f : Nat → Int} (h : PR w wr A Bv f) (hb : Below wr.heap.size wr w1) : PR w w1 A Bv f := by
  obtain ⟨a, b, c1, c2, c3, c4, c5⟩ := h
  exact ⟨a.trans (hb.mono a.size), Nat.lt_of_lt_of_le b hb.size, c1.below hb (by omega), c2.below hb (by omega), c3.below hb (by omega), c4.below hb (by omega), c5.below hb b⟩
set_option maxHeartbeats 8000000 in
theorem product_any (A Bv : Int) (hA : 0 ≤ A) (hA' : A < top256) (hB : 0 ≤ Bv) (hB' : Bv < top256) (w : World) :
    Calls Try.prog 66 #[nv A, nv Bv] w fun e w' => e = .returned (.tuple #[nv (A * Bv), nv (A * Bv / top256)]) ∧ Below w.heap.size w w' := by
  go_enter Try.func66, Try.ntmps66
  go_wp2_with fail
  go_loopw [7] (fun i wr => ∃ (k : Nat) (f : Nat → Int), k ≤ 4 ∧ i = .int .i64 k ∧ PR w wr A Bv f ∧ Hid (PI A Bv k 0 f 0)) (fun i _ => 4 - (intOf i).toNat)
  case atStart => exact ⟨0, fun _ => 0, by omega, rfl, ⟨by go_grown, by go_size, Arr.mk4 (by simp [go_sem]) (by simp [go_sem]) (by simp [go_sem]) (by simp [go_sem]) (by simp [go_sem]) (by simp [go_sem]) (by simp [go_sem]) (by simp [go_sem]), Arr.mk4 (by simp [go_sem]) (by simp [go_sem]) (by simp [go_sem]) (by simp [go_sem]) (by simp [go_sem]) (by simp [go_sem]) (by simp [go_sem]) (by simp [go_sem]), Arr.mk4 (by simp [go_sem]) (by simp [go_sem]) (by simp [go_sem]) (by simp [go_sem]) (by simp [go_sem]) (by simp [go_sem]) (by simp [go_sem]) (by simp [go_sem]), Arr.mk4 (by simp [go_sem]) (by simp [go_sem]) (by simp [go_sem]) (by simp [go_sem]) (by simp [go_sem]) (by simp [go_sem]) (by simp [go_sem]) (by simp [go_sem]), Arr.mk8' (by simp [go_sem]) (by simp [go_sem]) (by simp [go_sem]) (by simp [go_sem]) (by simp [go_sem]) (by simp [go_sem]) (by simp [go_sem]) (by simp [go_sem]) (by simp [go_sem])⟩, PI.start A Bv⟩
  case round =>
    obtain ⟨k, f, hk, rfl, HM, HP⟩ := hrel
    by_cases hlt : k < 4
    · have k0 : (0 : Int) ≤ (k : Int) := by omega
      have k4 : (k : Int) < 4 := by omega
      go_wp2_with fail
      go_loopw [8, 9] (fun cc i wr => ∃ (j : Nat) (f : Nat → Int) (c : Int), j ≤ 4 ∧ i = .int .i64 j ∧ cc = .int .u64 c ∧ PR w wr A Bv f ∧ Hid (PI A Bv k j f c)) (fun _ i _ => 4 - (intOf i).toNat)
      case atStart => exact ⟨0, f, 0, by omega, rfl, rfl, HM, HP⟩
      case round =>
        clear HM HP
        obtain ⟨j, f, c, hj, rfl, rfl, HM, HP⟩ := hrel
        by_cases hjt : j < 4
        · have j0 : (0 : Int) ≤ (j : Int) := by omega
          have j4 : (j : Int) < 4 := by omega
          have fb := HP.out.1 (k + j) (by omega)
          have c0 := HP.out.2.2.1
          have c1 := HP.out.2.2.2.1
          have hp := mul_hi_bd (lim A k) (lim Bv j) (lim_nn _ _) (lim_lt _ _) (lim_nn _ _) (lim_lt _ _)
          obtain ⟨h, l, hh, hh', hl, hl', e, M1⟩ := ex49 (lim A k) (lim Bv j) (lim_nn _ _) (lim_lt _ _) (lim_nn _ _) (lim_lt _ _)
          obtain ⟨s1, d1, s10, s11, d10, d11, e1, A1⟩ := ex45 l (f (k + j)) 0 hl hl' fb.1 fb.2 (by omega) (by omega)
          obtain ⟨s2, d2, s20, s21, d20, d21, e2, A2⟩ := ex45 s1 c 0 s10 s11 c0 c1 (by omega) (by omega)
          have hno : h + d1 + d2 < 18446744073709551616 := by omega
          have bd1 : h + d1 ≤ 18446744073709551615 := by omega
          have bd2 : h + d1 + d2 ≤ 18446744073709551615 := by omega
          have HP' : Hid (PI A Bv k (j + 1) (upd f (k + j) s2) (h + d1 + d2)) := HP.out.inner hlt hjt s20 s21 (by omega) hno (by omega)
          have M1' : ∀ W, Calls Try.prog 86 #[.int .u64 (lim A k), .int .u64 (lim Bv j)] W fun e w' => e = .returned (.tuple #[.int .u64 h, .int .u64 l]) ∧ Below W.heap.size W w' := fun W => (M1 W).mono fun _ _ hh => ⟨hh.1, by rw [hh.2]; exact Below.refl _ _⟩
          have ra := fun ds os => cell_regrown (HM.2.2.1.c k hlt) ds os
          have rb := fun ds os => cell_regrown (HM.2.2.2.1.c j hjt) ds os
          clear e e1 e2 M1 HP hp
          go_wp2_with fail
          refine wp_region_quiet_below (by kernel_rfl) (by kernel_rfl) ?_
          repeat (go_big_quiet_step (first | (go_at_call 86; exact Calls.regrown_of (M1' _))))
          refine wpQuiet_nil ?_
          intro _ hw'
          obtain ⟨⟨dq, osq⟩, hw''⟩ := hw'
          subst hw''
          have hbz := below_regrown wr dq osq
          generalize grow (redrawn wr dq) osq = w5 at *
          have HM1 := HM.call hbz
          clear hbz ra rb HM M1'
          have tn : ((k : Int) + (j : Int)).toNat = k + j := by omega
          have rd := HM1.2.2.2.2.2.2.c (k + j) (by omega)
          have rz := HM1.2.2.2.2.2.2.z (k + j) (by omega)
          have HM2 : Hid (PR w (w5.setCell ⟨w.heap.size + 1 + 1 + 1 + 1, k + j, none⟩ (.int .u64 s2)) A Bv (upd f (k + j) s2)) := HM1.put (k + j) (by omega) s2
          clear HM1
          go_wp2_with fail
          go_roundw
          case rel => exact ⟨j + 1, upd f (k + j) s2, h + d1 + d2, by omega, by go_num, rfl, HM2.out, HP'⟩
          case measure => simp [intOf]; omega
        · have j4 : j = 4 := by omega
          subst j4
          have HP' : Hid (PI A Bv (k + 1) 0 (upd f (k + 4) c) 0) := HP.out.outer hlt hB hB'
          have HM1 : Hid (PR w (wr.setCell ⟨w.heap.size + 1 + 1 + 1 + 1, k + 4, none⟩ (.int .u64 c)) A Bv (upd f (k + 4) c)) := HM.put (k + 4) (by omega) c
          have zo := HM.2.2.2.2.2.2.z (k + 4) (by omega)
          have co := HM.2.2.2.2.2.2.c (k + 4) (by omega)
          have tn : ((k : Int) + 4).toNat = k + 4 := by omega
          clear HP HM
          go_wp2_with fail
          go_roundw
          case rel => exact ⟨k + 1, upd f (k + 4) c, by omega, by go_num, HM1.out, HP'⟩
          case measure => simp [intOf]; omega
    · have k4 : k = 4 := by omega
      subst k4
      have D := HP.out.done hA hA'
      obtain ⟨hBl, hz, C1, C2, C3, C4, C5⟩ := HM
      have l4 : lim (A * Bv) 4 = lim (A * Bv / top256) 0 := lim_add4 _ 0
      have l5 : lim (A * Bv) 5 = lim (A * Bv / top256) 1 := lim_add4 _ 1
      have l6 : lim (A * Bv) 6 = lim (A * Bv / top256) 2 := lim_add4 _ 2
      have l7 : lim (A * Bv) 7 = lim (A * Bv / top256) 3 := lim_add4 _ 3
      have c5 := (C5.congr (g := fun j => .int .u64 (lim (A * Bv) j)) (by intro j hj; rw [D j hj])).c
      have q0 := c5 0 (by omega)
      have q1 := c5 1 (by omega)
      have q2 := c5 2 (by omega)
      have q3 := c5 3 (by omega)
      have q4 := c5 4 (by omega)
      have q5 := c5 5 (by omega)
      have q6 := c5 6 (by omega)
      have q7 := c5 7 (by omega)
      rw [l4] at q4
      rw [l5] at q5
      rw [l6] at q6
      rw [l7] at q7
      have z2 := C3.z
      have z3 := C4.z
      have c2 := C3.c
      have c3 := C4.c
      clear D C1 C2 C3 C4 C5 HP l4 l5 l6 l7 c5
      go_wp2_with fail
      go_region_held3 (fun w' => w'.cell? ⟨w.heap.size + 1 + 1 + 1 + 1, 0, none⟩ = some (.int .u64 (lim (A * Bv) 0)) ∧ w'.cell? ⟨w.heap.size + 1 + 1 + 1 + 1, 1, none⟩ = some (.int .u64 (lim (A * Bv) 1)) ∧ w'.cell? ⟨w.heap.size + 1 + 1 + 1 + 1, 2, none⟩ = some (.int .u64 (lim (A * Bv) 2)) ∧ w'.cell? ⟨w.heap.size + 1 + 1 + 1 + 1, 3, none⟩ = some (.int .u64 (lim (A * Bv) 3)) ∧ w'.cell? ⟨w.heap.size + 1 + 1 + 1 + 1, 4, none⟩ = some (.int .u64 (lim (A * Bv / top256) 0)) ∧ w'.cell? ⟨w.heap.size + 1 + 1 + 1 + 1, 5, none⟩ = some (.int .u64 (lim (A * Bv / top256) 1)) ∧ w'.cell? ⟨w.heap.size + 1 + 1 + 1 + 1, 6, none⟩ = some (.int .u64 (lim (A * Bv / top256) 2)) ∧ w'.cell? ⟨w.heap.size + 1 + 1 + 1 + 1, 7, none⟩ = some (.int .u64 (lim (A * Bv / top256) 3))) (go_keep) (fail)
      all_goals
        go_wp2_with fail
        refine bodyPost_ret (v := .tuple #[nv (A * Bv), nv (A * Bv / top256)]) (by simp [results, Try.results66, go_sem, c2, c3]) rfl ⟨rfl, ?_⟩
        go_grown
set_option maxHeartbeats 1000000 in
theorem refMul_core (A Bv M L H R : Int) (w : World)
    (C : ∀ W, Calls Try.prog 66 #[nv A, nv Bv] W fun e w' => e = .returned (.tuple #[nv L, nv H]) ∧ Below W.heap.size W w')
    (D : ∀ W, Calls Try.prog 28 #[nv L, nv H, nv M] W fun e w' => e = .returned (nv R) ∧ Below W.heap.size W w') :
    Calls Try.prog 34 #[nv A, nv Bv, nv M] w fun e w' => e = .returned (nv R) ∧ Below w.heap.size w w' := by
  go_enter Try.func34, Try.ntmps34
  go_wp2_with fail
  refine (C _).mono ?_
  rintro e w1 ⟨rfl, hb1⟩
  have A5 := (Arr.mk4 (f := fun j => .int .u64 (lim M j)) (b := w.heap.size + 1 + 1) (by simp [go_sem]) (by simp [go_sem]) (by simp [go_sem]) (by simp [go_sem]) (by simp [go_sem]) (by simp [go_sem]) (by simp [go_sem]) (by simp [go_sem])).below hb1 (by go_size)
  have A6 := (Arr.mk4 (f := fun j => .int .u64 0) (b := w.heap.size + 1 + 1 + 1) (by simp [go_sem]) (by simp [go_sem]) (by simp [go_sem]) (by simp [go_sem]) (by simp [go_sem]) (by simp [go_sem]) (by simp [go_sem]) (by simp [go_sem])).below hb1 (by go_size)
  have s1 : w.heap.size + 1 + 1 + 1 < w1.heap.size := by have := hb1.size; simp at this; omega
  have hB1 : Below w.heap.size w w1 := Below.trans (by go_grown) (hb1.mono (by go_size))
  have c5 : ∀ o1 o2 j, j < 4 → ((w1.alloc o1).alloc o2).cell? ⟨w.heap.size + 1 + 1, j, none⟩ = some (.int .u64 (lim M j)) := fun o1 o2 j hj => ((A5.alloc (by omega) o1).alloc (by go_size) o2).c j hj
  clear hb1 A5 C
  go_wp2_with fail
  refine (D _).mono ?_
  rintro e w2 ⟨rfl, hb2⟩
  have A6' := ((A6.alloc (by omega) _).alloc (by go_size) _).below hb2 (by go_size)
  have hB2 : Below w.heap.size w w2 := ((hB1.alloc (by go_size) _).alloc (by go_size) _).trans (hb2.mono (by go_size))
  have c6 := A6'.c
  have z6 := A6'.z
  clear hb2 A6 A6' D c5
  go_wp2_with fail
  refine bodyPost_ret (v := nv R) (by simp [results, Try.results34, go_sem, c6]) rfl ⟨rfl, ?_⟩
  go_grown
theorem refMul_any (A B M : Int) (hA : 0 ≤ A) (hA' : A < top256) (hB : 0 ≤ B) (hB' : B < top256) (hM : 0 ≤ M) (hM' : M < top256) (w : World) :
    Calls Try.prog 34 #[nv A, nv B, nv M] w fun e w' => e = .returned (nv (md (A * B) M)) ∧ Below w.heap.size w w' := by
  have p0 : 0 ≤ A * B := Int.mul_nonneg hA hB
  have tp : (0 : Int) < top256 := by decide
  have p1 : A * B / top256 < top256 := Int.ediv_lt_of_lt_mul tp (by
    have h1 : A * B ≤ A * top256 := Int.mul_le_mul_of_nonneg_left (by omega) hA
    have h2 : A * top256 < top256 * top256 := Int.mul_lt_mul_of_pos_right hA' tp
    omega)
  have e : A * B = A * B % top256 + A * B / top256 * top256 := by have := Int.emod_add_mul_ediv (A * B) top256; rw [Int.mul_comm top256] at this; omega
  refine refMul_core A B M (A * B) (A * B / top256) (md (A * B) M) w (fun W => product_any A B hA hA' hB hB' W) fun W => ?_
  have := refRem_any (A * B % top256) (A * B / top256) M (Int.emod_nonneg _ (by omega)) (Int.emod_lt_of_pos _ tp) (Int.ediv_nonneg p0 (by omega)) p1 hM hM' W
  rw [← e] at this
  rw [nv_mod] at this
  exact this
end Go.Proofs.Ytpigofooblmdhaa
