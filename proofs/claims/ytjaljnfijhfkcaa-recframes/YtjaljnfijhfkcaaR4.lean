/- The reference: Same, of two rows that are alike (small seat). -/
import Derived.Test.YtjaljnfijhfkcaaLP
import Derived.Test.YtjaljnfijhfkcaaR3
set_option linter.all false
set_option maxRecDepth 100000
namespace Go.Proofs.Ytjaljnfijhfkcaa
open Go.RowKit Go.Shelf Go.Sort Go.Lib
theorem rSame_0 (a1 a2 : Option Addr) (c1 c2 : Nat) (w : World) :
    Calls Try.prog 10 #[.slice a1 0 c1, .slice a2 0 c2] w fun e w' => e = .returned (.bool true) ∧ Below w.heap.size w w' := by
  go_enter Try.func10, Try.ntmps10
  go_wp2_with fail
  refine wp_loop_rounds 1 ?_
  rw [rounds_succ]
  go_wp2_with fail
  go_ret
  exact ⟨rfl, Below.refl _ _⟩
set_option maxHeartbeats 4000000 in
theorem rSame_1 (kd : Int) (l : List ByteArray) (g1 g2 c1 c2 n : Nat) (hl : l.length = n) (n0 : 0 < n) (n9 : n ≤ 1000) (w : World) (R1 : RowC kd l g1 w) (R2 : RowC kd l g2 w) :
    Calls Try.prog 10 #[.slice (some ⟨g1, 0, none⟩) n c1, .slice (some ⟨g2, 0, none⟩) n c2] w fun e w' => e = .returned (.bool true) ∧ Below w.heap.size w w' := by
  go_enter Try.func10, Try.ntmps10
  go_wp2_with fail
  go_loopw [5] (fun i wr => ∃ j : Nat, j ≤ n ∧ i = .int .i64 j ∧ Below w.heap.size w wr ∧ RowC kd l g1 wr ∧ RowC kd l g2 wr) (fun i _ => n - (intOf i).toNat)
  case atStart => exact ⟨0, by omega, rfl, Below.refl _ _, R1, R2⟩
  case round =>
    clear R1 R2
    obtain ⟨j, hj, rfl, hB, R1, R2⟩ := hrel
    have j0 : (0 : Int) ≤ (j : Int) := by omega
    have n1 : (n : Int) ≤ 1000 := by omega
    by_cases hlt : j < n
    · have j1 : (j : Int) < (n : Int) := by omega
      obtain ⟨p, hp⟩ : ∃ p, l[j]? = some p := ⟨_, List.getElem?_eq_getElem (by omega)⟩
      obtain ⟨x0, x1⟩ := R1.2 j p hp
      obtain ⟨y0, y1⟩ := R2.2 j p hp
      have r0 := fun ds os => cell_regrown x0 ds os
      have r1 := fun ds os => cell_regrown x1 ds os
      have r2 := fun ds os => cell_regrown y0 ds os
      have r3 := fun ds os => cell_regrown y1 ds os
      clear hp x0 x1 y0 y1
      go_wp2_with fail
      refine wp_region_quiet_below (by kernel_rfl) (by kernel_rfl) ?_
      repeat (go_big_quiet_step (fail))
      refine wpQuiet_nil ?_
      intro w3 hw'
      obtain ⟨⟨dq, osq⟩, hw''⟩ := hw'
      have hb := below_of hw''
      clear hw'' r0 r1 r2 r3
      have R1' := R1.to hb
      have R2' := R2.to hb
      have B1 := Bel.call hB hb
      clear R1 R2 hB hb
      go_wp2_with fail
      refine ⟨⟨j + 1, by omega, by first | rfl | (congr 1; omega) | simp, B1, R1', R2'⟩, ?_⟩
      simp [intOf]; omega
    · have ej : j = n := by omega
      subst ej
      go_wp2_with fail
      go_ret
      exact ⟨rfl, hB⟩
end Go.Proofs.Ytjaljnfijhfkcaa
