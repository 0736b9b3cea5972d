/- What num.Mul answers, for any two numbers. -/
import Derived.Test.YtgekafmojedlkaaGreatJ4
set_option linter.all false
namespace Go.Proofs.YtgekafmojedlkaaGreat
open Go.RowKit
theorem Arr.mk1 {w : World} {b : Nat} {f : Nat → Value} (h0 : w.cell? ⟨b, 0, none⟩ = some (f 0)) (z0 : w.frozen? ⟨b, 0, none⟩ = false) : Arr w b 1 f := by
  intro j hj
  have h : j = 0 := by omega
  subst h
  exact ⟨h0, z0⟩
theorem Arr.mk8' {w : World} {b : Nat} {f : Nat → Value} (h0 : w.cell? ⟨b, 0, none⟩ = some (f 0)) (h1 : w.cell? ⟨b, 1, none⟩ = some (f 1)) (h2 : w.cell? ⟨b, 2, none⟩ = some (f 2)) (h3 : w.cell? ⟨b, 3, none⟩ = some (f 3))
    (h4 : w.cell? ⟨b, 4, none⟩ = some (f 4)) (h5 : w.cell? ⟨b, 5, none⟩ = some (f 5)) (h6 : w.cell? ⟨b, 6, none⟩ = some (f 6)) (h7 : w.cell? ⟨b, 7, none⟩ = some (f 7)) (z : ∀ j, j < 8 → w.frozen? ⟨b, j, none⟩ = false) : Arr w b 8 f := by
  intro j hj
  refine ⟨?_, z j hj⟩
  have h : j = 0 ∨ j = 1 ∨ j = 2 ∨ j = 3 ∨ j = 4 ∨ j = 5 ∨ j = 6 ∨ j = 7 := by omega
  rcases h with h | h | h | h | h | h | h | h <;> subst h <;> assumption
/-- What holds of memory at the head of each round of num.Mul's loops. -/
def MR (w wr : World) (Bv : Int) (f : Nat → Int) : Prop :=
  Below w.heap.size w wr ∧ w.heap.size + 1 + 1 + 1 + 1 + 1 < wr.heap.size ∧ Arr wr (w.heap.size + 1) 4 (fun j => .int .u64 (lim Bv j)) ∧ Arr wr (w.heap.size + 1 + 1) 4 (fun _ => .int .u64 0) ∧ Arr wr (w.heap.size + 1 + 1 + 1) 4 (fun _ => .int .u64 0) ∧ Arr wr (w.heap.size + 1 + 1 + 1 + 1) 8 (fun j => .int .u64 (f j))
theorem MR.carry {w wr : World} {Bv : Int} {f : Nat → Int} (h : MR w wr Bv f) (v : Value) : MR w (wr.setCell ⟨w.heap.size + 1 + 1 + 1 + 1 + 1, 0, none⟩ v) Bv f := by
  obtain ⟨a, b, c1, c2, c3, c4⟩ := h
  exact ⟨a.setCell (by show _ ≤ w.heap.size + 1 + 1 + 1 + 1 + 1; omega) _, by rw [size_set]; exact b, c1.other (by omega) _, c2.other (by omega) _, c3.other (by omega) _, c4.other (by omega) _⟩
theorem MR.put {w wr : World} {Bv : Int} {f : Nat → Int} (h : MR w wr Bv f) (k : Nat) (hk : k < 8) (v : Int) : MR w (wr.setCell ⟨w.heap.size + 1 + 1 + 1 + 1, k, none⟩ (.int .u64 v)) Bv (upd f k v) := by
  obtain ⟨a, b, c1, c2, c3, c4⟩ := h
  refine ⟨a.setCell (by show _ ≤ w.heap.size + 1 + 1 + 1 + 1; omega) _, by rw [size_set]; exact b, c1.other (by omega) _, c2.other (by omega) _, c3.other (by omega) _, (c4.set k hk _).congr ?_⟩
  intro j hj
  unfold upd
  by_cases e : j = k
  · rw [if_pos e, if_pos e]
  · rw [if_neg e, if_neg e]
set_option maxHeartbeats 8000000 in
theorem mul_any (A Bv : Int) (hA : 0 ≤ A) (hA' : A < top256) (hB : 0 ≤ Bv) (hB' : Bv < top256) (w : World) :
    Calls Tryz.prog 86 #[nv A, nv Bv] w fun e w' => e = .returned (.tuple #[nv (A * Bv), nv (A * Bv / top256)]) ∧ Below w.heap.size w w' := by
  go_enter Tryz.func86, Tryz.ntmps86
  go_wp2_with fail
  go_loopw [15] (fun i wr => ∃ (k : Nat) (f : Nat → Int) (c : Int), k ≤ 4 ∧ i = .int .i64 k ∧ MR w wr Bv f ∧ Arr wr (w.heap.size + 1 + 1 + 1 + 1 + 1) 1 (fun _ => .int .u64 c) ∧ Hid (PI A Bv k 0 f 0))
    (fun i _ => 4 - (intOf i).toNat)
  case atStart =>
    exact ⟨0, fun _ => 0, 0, by omega, rfl, ⟨by go_grown, by go_size, Arr.mk4 (by simp [go_sem]) (by simp [go_sem]) (by simp [go_sem]) (by simp [go_sem]) (by simp [go_sem]) (by simp [go_sem]) (by simp [go_sem]) (by simp [go_sem]) , Arr.mk4 (by simp [go_sem]) (by simp [go_sem]) (by simp [go_sem]) (by simp [go_sem]) (by simp [go_sem]) (by simp [go_sem]) (by simp [go_sem]) (by simp [go_sem]) , Arr.mk4 (by simp [go_sem]) (by simp [go_sem]) (by simp [go_sem]) (by simp [go_sem]) (by simp [go_sem]) (by simp [go_sem]) (by simp [go_sem]) (by simp [go_sem]) , Arr.mk8' (by simp [go_sem]) (by simp [go_sem]) (by simp [go_sem]) (by simp [go_sem]) (by simp [go_sem]) (by simp [go_sem]) (by simp [go_sem]) (by simp [go_sem]) (by simp [go_sem])⟩, Arr.mk1 (by simp [go_sem]) (by simp [go_sem]), PI.start A Bv⟩
  case round =>
    obtain ⟨k, f, c, hk, rfl, HM, C5, HP⟩ := hrel
    by_cases hlt : k < 4
    · have k0 : (0 : Int) ≤ (k : Int) := by omega
      have k4 : (k : Int) < 4 := by omega
      have I : ∀ W, (Instr.index 24 (.agg #[.int .u64 (lim A 0), .int .u64 (lim A 1), .int .u64 (lim A 2), .int .u64 (lim A 3)]) (.int .i64 (k : Int))).run Tryz.prog W = .ok (.int .u64 (lim A k)) W := fun W => idxM A k hlt W
      have c5 := C5.c 0 (by omega)
      have z5 := C5.z 0 (by omega)
      have c1 := (HM.carry (.int .u64 0)).2.2.1.c
      go_wp2_with fail
      have HM0 := HM.carry (.int .u64 0)
      have C50 : Arr (wr.setCell ⟨w.heap.size + 1 + 1 + 1 + 1 + 1, 0, none⟩ (.int .u64 0)) (w.heap.size + 1 + 1 + 1 + 1 + 1) 1 (fun _ => .int .u64 0) := (C5.set 0 (by omega) (.int .u64 0)).congr (by intro j hj; rw [if_pos (by omega)])
      clear c5 z5 c1 C5 HM I
      go_loopw [20] (fun i wr => ∃ (j : Nat) (f : Nat → Int) (c : Int), j ≤ 4 ∧ i = .int .i64 j ∧ MR w wr Bv f ∧ Arr wr (w.heap.size + 1 + 1 + 1 + 1 + 1) 1 (fun _ => .int .u64 c) ∧ Hid (PI A Bv k j f c))
        (fun i _ => 4 - (intOf i).toNat)
      case atStart => exact ⟨0, f, 0, by omega, rfl, HM0, C50, HP⟩
      case round =>
        clear HM0 C50 HP
        obtain ⟨j, f, c, hj, rfl, HM, C5, HP⟩ := hrel
        have c5 := C5.c 0 (by omega)
        have z5 := C5.z 0 (by omega)
        by_cases hjt : j < 4
        · have j0 : (0 : Int) ≤ (j : Int) := by omega
          have j4 : (j : Int) < 4 := by omega
          have I : ∀ W, (Instr.index 24 (.agg #[.int .u64 (lim Bv 0), .int .u64 (lim Bv 1), .int .u64 (lim Bv 2), .int .u64 (lim Bv 3)]) (.int .i64 (j : Int))).run Tryz.prog W = .ok (.int .u64 (lim Bv j)) W := fun W => idxM Bv j hjt W
          have fb := HP.out.1 (k + j) (by omega)
          obtain ⟨lo, hi, l0, l1, g0, g1, e, K⟩ := mulStep (lim A k) (lim Bv j) (f (k + j)) c (lim_nn _ _) (lim_lt _ _) (lim_nn _ _) (lim_lt _ _) fb.1 fb.2 HP.out.2.2.1 HP.out.2.2.2.1
          have HP' : Hid (PI A Bv k (j + 1) (upd f (k + j) lo) hi) := HP.out.inner hlt hjt l0 l1 g0 g1 e
          have KK := K (w.heap.size + 1 + 1 + 1 + 1 + 1) wr c5 z5
          have rd := HM.2.2.2.2.2.c (k + j) (by omega)
          have HM1 := (HM.carry (.int .u64 hi)).put (k + j) (by omega) lo
          have zo := (HM.carry (.int .u64 hi)).2.2.2.2.2.z (k + j) (by omega)
          have co := (HM.carry (.int .u64 hi)).2.2.2.2.2.c (k + j) (by omega)
          have C51 : Arr ((wr.setCell ⟨w.heap.size + 1 + 1 + 1 + 1 + 1, 0, none⟩ (.int .u64 hi)).setCell ⟨w.heap.size + 1 + 1 + 1 + 1, k + j, none⟩ (.int .u64 lo)) (w.heap.size + 1 + 1 + 1 + 1 + 1) 1 (fun _ => .int .u64 hi) := ((C5.set 0 (by omega) (.int .u64 hi)).congr (by intro j hj; rw [if_pos (by omega)])).other (by omega) _
          have tn : ((k : Int) + (j : Int)).toNat = k + j := by omega
          clear e K HP fb C5
          have HM2 : Hid (MR w ((wr.setCell ⟨w.heap.size + 1 + 1 + 1 + 1 + 1, 0, none⟩ (.int .u64 hi)).setCell ⟨w.heap.size + 1 + 1 + 1 + 1, k + j, none⟩ (.int .u64 lo)) Bv (upd f (k + j) lo)) := HM1
          clear HM1 HM
          go_wp2_with (go_at_call 99; refine KK.mono ?_; rintro e w' ⟨rfl, rfl⟩)
          go_roundw
          case rel => exact ⟨j + 1, upd f (k + j) lo, hi, by omega, by go_num, HM2, C51, HP'⟩
          case measure => simp [intOf]; omega
        · have j4 : j = 4 := by omega
          subst j4
          have HP' : Hid (PI A Bv (k + 1) 0 (upd f (k + 4) c) 0) := HP.out.outer hlt hB hB'
          have HM1 := HM.put (k + 4) (by omega) c
          have zo := HM.2.2.2.2.2.z (k + 4) (by omega)
          have co := HM.2.2.2.2.2.c (k + 4) (by omega)
          have C51 := C5.other (b' := w.heap.size + 1 + 1 + 1 + 1) (k := k + 4) (by omega) (.int .u64 c)
          have tn : ((k : Int) + 4).toNat = k + 4 := by omega
          clear HP C5 HM
          go_wp2_with fail
          go_roundw
          case rel => exact ⟨k + 1, upd f (k + 4) c, c, by omega, by go_num, HM1, C51, HP'⟩
          case measure => simp [intOf]; omega
    · have k4 : k = 4 := by omega
      subst k4
      have D := HP.out.done hA hA'
      obtain ⟨hBl, hz, C1, C2, C3, C4⟩ := HM
      have c4 := (C4.congr (g := fun j => .int .u64 (lim (A * Bv) j)) (by intro j hj; rw [D j hj])).c
      go_wp2_with fail
      refine (halves_any _ _ _ _ _ _ _ _ _).mono ?_
      rintro e wh ⟨rfl, hbh⟩
      have E2 := C2.below hbh (by omega)
      have E3 := C3.below hbh (by omega)
      have c2 := E2.c
      have z2 := E2.z
      have c3 := E3.c
      have z3 := E3.z
      have l4 : lim (A * Bv) 4 = lim (A * Bv / top256) 0 := lim_add4 _ 0
      have l5 : lim (A * Bv) 5 = lim (A * Bv / top256) 1 := lim_add4 _ 1
      have l6 : lim (A * Bv) 6 = lim (A * Bv / top256) 2 := lim_add4 _ 2
      have l7 : lim (A * Bv) 7 = lim (A * Bv / top256) 3 := lim_add4 _ 3
      rw [l4, l5, l6, l7]
      clear c4 C4 C1 C2 C3 D HP l4 l5 l6 l7
      go_wp2_with fail
      refine bodyPost_ret (v := .tuple #[nv (A * Bv), nv (A * Bv / top256)]) (by simp [results, Tryz.results86, go_sem, c2, c3]) rfl ⟨rfl, ?_⟩
      have hBc := hBl.trans (hbh.mono hBl.size)
      go_grown
end Go.Proofs.YtgekafmojedlkaaGreat
