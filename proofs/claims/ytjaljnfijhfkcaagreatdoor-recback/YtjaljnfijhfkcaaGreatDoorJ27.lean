/- The reference: columns mixed. -/
import Derived.Test.YtjaljnfijhfkcaaGreatDoorJ24
set_option linter.all false
set_option maxRecDepth 100000
namespace Go.Proofs.YtjaljnfijhfkcaaGreatDoor
open Go.RowKit Go.Sort
/-- The bytes ahead of m are done, the m-th is under way. -/
def mv (y : Nat → By) (p : By) (m : Nat) (j : Nat) : Value := .int .u8 ((if j < m then y j else if j = m then p else 0).val : Int)
theorem mv_set (y : Nat → By) (p q : By) (m : Nat) (j : Nat) : (if j = m then Value.int .u8 (q.val : Int) else mv y p m j) = mv y q m j := by
  unfold mv
  by_cases e : j = m
  · subst e; rw [if_pos rfl, if_neg (by omega), if_pos rfl]
  · rw [if_neg e, if_neg e, if_neg e]
theorem mv_next (y : Nat → By) (m : Nat) (j : Nat) : mv y (y m) m j = mv y 0 (m + 1) j := by
  unfold mv
  by_cases e : j = m
  · subst e; rw [if_neg (by omega), if_pos rfl, if_pos (by omega)]
  · rw [if_neg e]
    by_cases e2 : j < m
    · rw [if_pos e2, if_pos (by omega)]
    · rw [if_neg e2, if_neg (by omega)]
      split <;> rfl
/-- The sum of the first k products. -/
def pq (f mm : Nat → By) (c r : Nat) : Nat → By
  | 0 => 0
  | k + 1 => xr (pq f mm c r k) (tmF (f (4 * c + (r + k) % 4)) (mm k))
theorem pq_4 (f mm : Nat → By) (c r : Nat) (hr : r < 4) : pq f mm c r 4 = mxF (mm 0) (mm 1) (mm 2) (mm 3) f (4 * c + r) := by
  unfold mxF mxB
  rw [show (4 * c + r) / 4 = c by omega, show (4 * c + r) % 4 = r by omega]
  unfold pq pq pq pq pq
  rw [zero_xr, Nat.add_zero, Nat.mod_eq_of_lt hr]
set_option maxHeartbeats 8000000 in
theorem rmixed_core (f mm y : Nat → By) (P : Nat → Nat → Nat → By) (gb cb gm cm : Nat) (hP0 : ∀ c r, P c r 0 = 0) (hP4 : ∀ c r, c < 4 → r < 4 → P c r 4 = y (4 * c + r))
    (C9 : ∀ c r k, c < 4 → r < 4 → k < 4 → ∃ t : By, (∀ W, Calls Tryz.prog 86 #[.int .u8 ((f (4 * c + (r + k) % 4)).val : Int), .int .u8 ((mm k).val : Int)] W fun e w' => e = .returned (.int .u8 (t.val : Int)) ∧ Below W.heap.size W w') ∧ P c r (k + 1) = xr (P c r k) t)
    (w : World) (hA : Arr w gb 16 (bc f)) (hM : Arr w gm 4 (bc mm)) :
    Calls Tryz.prog 89 #[.slice (some ⟨gb, 0, none⟩) 16 cb, .slice (some ⟨gm, 0, none⟩) 4 cm] w fun e w' => e = .returned (.slice (some ⟨w.heap.size, 0, none⟩) 16 16) ∧ Below w.heap.size w w' ∧ Arr w' w.heap.size 16 (bc y) := by
  obtain ⟨i0, hi, hz0, hz1, hz2⟩ := info_parts Tryz.info5
  have mk := run_make (P := Tryz.prog) w 50 5 i0 (.int .u8 0) Tryz.underlying50 hi hz0 .i64 .i64 16 16 (by omega) (by omega) (by rw [hz2]; omega) (by omega)
  rw [hz1] at mk
  go_enter Tryz.func89, Tryz.ntmps89
  go_wp2_with fail
  have A0 : Arr (w.alloc (.cells (madeCells #[.int .u8 0] 16) 5)) w.heap.size 16 (mv y 0 0) := Arr.new _ _ 5 _ rfl _ 16 (fun j hj => by unfold mv; rw [if_neg (by omega), ite_self]; exact made_at 16 j hj)
  have B0 : Below w.heap.size w (w.alloc (.cells (madeCells #[.int .u8 0] 16) 5)) := Bel.al (Below.refl _ w) _
  clear mk hi hz0 hz1 hz2
  go_loopw [6] (fun i wr => ∃ c : Nat, c ≤ 4 ∧ i = .int .i64 c ∧ Below w.heap.size w wr ∧ Arr wr w.heap.size 16 (mv y 0 (4 * c))) (fun i _ => 4 - (intOf i).toNat)
  case atStart => exact ⟨0, by omega, rfl, B0, A0⟩
  case round =>
    clear A0 B0
    obtain ⟨c, hc, rfl, hB, A⟩ := hrel
    have c0 : (0 : Int) ≤ (c : Int) := by omega
    by_cases hlt : c < 4
    · have c4 : (c : Int) < 4 := by omega
      go_wp2_with fail
      go_loopw [7] (fun i wr => ∃ r : Nat, r ≤ 4 ∧ i = .int .i64 r ∧ Below w.heap.size w wr ∧ Arr wr w.heap.size 16 (mv y 0 (4 * c + r))) (fun i _ => 4 - (intOf i).toNat)
      case atStart => exact ⟨0, by omega, rfl, hB, A⟩
      case round =>
        clear A hB
        obtain ⟨r, hr, rfl, hB, A⟩ := hrel
        have r0 : (0 : Int) ≤ (r : Int) := by omega
        by_cases hlr : r < 4
        · have r4 : (r : Int) < 4 := by omega
          go_wp2_with fail
          go_loopw [8] (fun i wr => ∃ k : Nat, k ≤ 4 ∧ i = .int .i64 k ∧ Below w.heap.size w wr ∧ Arr wr w.heap.size 16 (mv y (P c r k) (4 * c + r))) (fun i _ => 4 - (intOf i).toNat)
          case atStart => exact ⟨0, by omega, rfl, hB, by rw [hP0]; exact A⟩
          case round =>
            clear A hB
            obtain ⟨k, hk, rfl, hB, A⟩ := hrel
            have k0 : (0 : Int) ≤ (k : Int) := by omega
            by_cases hlk : k < 4
            · have k4 : (k : Int) < 4 := by omega
              obtain ⟨t, ct, ht⟩ := C9 c r k hlt hlr hlk
              obtain ⟨q, hq⟩ : ∃ q, (r + k) % 4 = q := ⟨_, rfl⟩
              have qi : ((r : Int) + (k : Int)) % 4 = (q : Int) := by omega
              have q4 : (q : Int) < 4 := by omega
              have q0 : (0 : Int) ≤ (q : Int) := by omega
              rw [hq] at ct
              have cf := (hA.to' hB).cv (4 * c + q) (by omega) (.int .u8 ((f (4 * c + q)).val : Int)) rfl
              have cm' := (hM.to' hB).cv k hlk (.int .u8 ((mm k).val : Int)) rfl
              have cp := A.cv (4 * c + r) (by omega) (.int .u8 ((P c r k).val : Int)) (by unfold mv; rw [if_neg (by omega), if_pos rfl])
              have r1 := fun ds os => cell_regrown cf ds os
              have r2 := fun ds os => cell_regrown cm' ds os
              have r3 := fun ds os => cell_regrown cp ds os
              have ex := xr8 (P c r k) t
              rw [← ht] at ex
              have HN : Hid (∀ j, (if j = 4 * c + r then Value.int .u8 ((P c r (k + 1)).val : Int) else mv y (P c r k) (4 * c + r) j) = mv y (P c r (k + 1)) (4 * c + r) j) := fun j => mv_set y _ _ _ j
              clear C9 hP0 hP4 ht hq hA hM cf cm' cp
              generalize f (4 * c + q) = fv at *
              generalize mm k = mk' at *
              go_wp2_with fail
              refine wp_region_below_tail 29 (by kernel_rfl) (by kernel_rfl) ?_
              simp only [List.take_succ_cons, List.take_zero, List.drop_succ_cons, List.drop_zero]
              repeat (go_big_quiet_step (first | (go_at_call 86; exact Calls.regrown_of (ct _))))
              refine wpQuiet_nil ?_
              intro w1 hw'
              obtain ⟨⟨dq, osq⟩, hw''⟩ := hw'
              have hb := below_of hw''
              clear hw'' r1 r2 r3 ct
              have A1 := A.to' hb
              have hB1 := Bel.call hB hb
              clear A hB hb
              have co := A1.c (4 * c + r) (by omega)
              have zo := A1.z (4 * c + r) (by omega)
              go_wp2_with fail
              refine ⟨⟨k + 1, by omega, by go_num, Bel.st hB1 (Nat.le_refl _) _, (A1.set (4 * c + r) (by omega) _).congr (fun j _ => HN.out j)⟩, by simp [intOf]; omega⟩
            · have e : k = 4 := by omega
              rw [show ((k : Nat) : Int) = 4 by omega]
              subst e
              rw [hP4 c r hlt hlr] at A
              have HA : Hid (Arr wr w.heap.size 16 (mv y 0 (4 * c + (r + 1)))) := A.congr fun j _ => mv_next y _ j
              clear hP4 hP0 C9 A
              go_wp2_with fail
              exact ⟨⟨r + 1, by omega, by go_num, hB, HA.out⟩, by simp [intOf]; omega⟩
        · have e : r = 4 := by omega
          rw [show ((r : Nat) : Int) = 4 by omega]
          subst e
          clear hP4 hP0 C9
          go_wp2_with fail
          refine ⟨⟨c + 1, by omega, by go_num, hB, ?_⟩, by simp [intOf]; omega⟩
          rw [show 4 * (c + 1) = 4 * c + 4 by omega]
          exact A
    · have e : c = 4 := by omega
      rw [show ((c : Nat) : Int) = 4 by omega]
      subst e
      have A2 : Arr wr w.heap.size 16 (bc y) := A.congr fun j hj => by unfold mv bc; rw [if_pos (by omega)]
      clear A hP4 hP0 C9
      go_wp2_with fail
      go_ret
      exact ⟨rfl, hB, A2⟩
theorem rmixed_any (f mm : Nat → By) (gb cb gm cm : Nat) (w : World) (hA : Arr w gb 16 (bc f)) (hM : Arr w gm 4 (bc mm)) :
    Calls Tryz.prog 89 #[.slice (some ⟨gb, 0, none⟩) 16 cb, .slice (some ⟨gm, 0, none⟩) 4 cm] w fun e w' => e = .returned (.slice (some ⟨w.heap.size, 0, none⟩) 16 16) ∧ Below w.heap.size w w' ∧ Arr w' w.heap.size 16 (bc (mxF (mm 0) (mm 1) (mm 2) (mm 3) f)) :=
  rmixed_core f mm _ (pq f mm) gb cb gm cm (fun _ _ => rfl) (fun c r _ hr => pq_4 f mm c r hr) (fun c r k _ _ _ => ⟨_, fun W => (rtimes_any _ _ W).mono fun e w' h => ⟨h.1, by rw [h.2]; exact Below.refl _ _⟩, rfl⟩) w hA hM
end Go.Proofs.YtjaljnfijhfkcaaGreatDoor
