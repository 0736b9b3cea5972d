/- Blocks: rows turned. -/
import Derived.Test.YtjaljnfijhfkcaaGreatDoorJ10
set_option linter.all false
set_option maxRecDepth 100000
namespace Go.Proofs.YtjaljnfijhfkcaaGreatDoor
open Go.RowKit Go.Sort Lin
set_option maxHeartbeats 2000000 in
theorem turned_core (x g : Nat → Int) (hg : ∀ k, k < 4 → bits .or .u32 (bits .or .u32 (bits .or .u32 (bits .and .u32 (x k) 4278190080) (bits .and .u32 (x ((k + 1) % 4)) 16711680)) (bits .and .u32 (x ((k + 2) % 4)) 65280)) (bits .and .u32 (x ((k + 3) % 4)) 255) = g k) (w : World) :
    Calls Tryz.prog 109 #[bv x] w fun e w' => e = .returned (bv g) ∧ Below w.heap.size w w' := by
  unfold bv
  go_enter Tryz.func109, Tryz.ntmps109
  go_wp2_with fail
  go_loopw [5] (fun i wr => ∃ k : Nat, k ≤ 4 ∧ i = .int .i64 k ∧ Below w.heap.size w wr ∧ Arr wr w.heap.size 4 (fun j => .int .u32 (x j)) ∧ Arr wr (w.heap.size + 1) 4 (fun _ => .int .u32 0) ∧ Arr wr (w.heap.size + 1 + 1) 4 (mid g (fun _ => 0) k)) (fun i _ => 4 - (intOf i).toNat)
  case atStart =>
    refine ⟨0, by omega, rfl, by go_grown, ?_, ?_, ?_⟩
    · exact ((Arr.new w _ _ _ rfl _ 4 (h4_at x)).al' _).al' _
    · exact (Arr.new _ _ _ _ (by simp) _ 4 z4_at).al' _
    · exact (Arr.new _ _ _ _ (by simp) _ 4 z4_at).congr fun j _ => (mid_0 (fun _ => 0) g j).symm
  case round =>
    obtain ⟨k, hk, rfl, hB, A0, A1, A2⟩ := hrel
    by_cases hlt : k < 4
    · have k0 : (0 : Int) ≤ (k : Int) := by omega
      have k4 : (k : Int) < 4 := by omega
      obtain ⟨k1, e1⟩ : ∃ m, (k + 1) % 4 = m := ⟨_, rfl⟩
      obtain ⟨k2, e2⟩ : ∃ m, (k + 2) % 4 = m := ⟨_, rfl⟩
      obtain ⟨k3, e3⟩ : ∃ m, (k + 3) % 4 = m := ⟨_, rfl⟩
      have hgk := hg k hlt
      rw [e1, e2, e3] at hgk
      have f1 : ((k : Int) + 1) % 4 = (k1 : Int) := by omega
      have f2 : ((k : Int) + 2) % 4 = (k2 : Int) := by omega
      have f3 : ((k : Int) + 3) % 4 = (k3 : Int) := by omega
      have l1 : (k1 : Int) < 4 := by omega
      have l2 : (k2 : Int) < 4 := by omega
      have l3 : (k3 : Int) < 4 := by omega
      have r0 := fun ds os => cell_regrown (A0.c k hlt) ds os
      have r1 := fun ds os => cell_regrown (A0.c k1 (by omega)) ds os
      have r2 := fun ds os => cell_regrown (A0.c k2 (by omega)) ds os
      have r3 := fun ds os => cell_regrown (A0.c k3 (by omega)) ds os
      clear hg e1 e2 e3
      go_wp2_with fail
      refine wp_region_below_tail 27 (by kernel_rfl) (by kernel_rfl) ?_
      simp only [List.take_succ_cons, List.take_zero, List.drop_succ_cons, List.drop_zero]
      repeat (go_big_quiet_step (fail))
      refine wpQuiet_nil ?_
      intro w1 hw'
      obtain ⟨⟨dq, osq⟩, hw''⟩ := hw'
      have hb := below_of hw''
      clear hw'' r0 r1 r2 r3
      have hB1 := Bel.call hB hb
      have B0 := A0.to' hb
      have B1 := A1.to' hb
      have B2 := A2.to' hb
      clear A0 A1 A2 hB hb
      have c := B2.c k hlt
      have z := B2.z k hlt
      go_wp2_with fail
      refine ⟨⟨k + 1, by omega, by go_num, Bel.st hB1 (by omega) _, B0.other (by omega) _, B1.other (by omega) _, mid_at B2 hlt⟩, by simp [intOf]; omega⟩
    · have e : k = 4 := by omega
      rw [show ((k : Nat) : Int) = 4 by omega]
      subst e
      have A := mid_end A2
      have c0 := A.c 0 (by omega)
      have c1 := A.c 1 (by omega)
      have c2 := A.c 2 (by omega)
      have c3 := A.c 3 (by omega)
      have d := A1.c
      have z := A1.z
      have E := (A1.st4 g).c
      clear A2 hk hlt hg
      go_wp2_with fail
      refine bodyPost_ret (v := bv g) ?_ rfl ⟨rfl, Bel.st4 hB (by omega) g⟩
      simp only [Go.Proofs.YtjaljnfijhfkcaaGreatDoor.st4] at E
      simp [bv, results, Tryz.results109, go_sem, E]
end Go.Proofs.YtjaljnfijhfkcaaGreatDoor
