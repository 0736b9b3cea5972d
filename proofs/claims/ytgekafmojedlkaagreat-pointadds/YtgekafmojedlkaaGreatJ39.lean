/- What Encode answers, of point and of the reference. -/
import Derived.Test.YtgekafmojedlkaaGreatJ24
import Derived.Test.YtgekafmojedlkaaGreatJ1
import Derived.Test.YtgekafmojedlkaaGreatJ6
set_option linter.all false
set_option maxRecDepth 100000
namespace Go.Proofs.YtgekafmojedlkaaGreat
open Go.RowKit Go.Sort
set_option maxHeartbeats 8000000 in
theorem enc_core (X Y : Int) (S1 S2 : ByteArray) (h1 : S1.size = 32) (h2 : S2.size = 32) (w : World)
    (C1 : ∀ W, Calls Tryz.prog 44 #[nv X] W fun e w' => e = .returned (.string S1) ∧ Below W.heap.size W w')
    (C2 : ∀ W, Calls Tryz.prog 44 #[nv Y] W fun e w' => e = .returned (.string S2) ∧ Below W.heap.size W w') :
    Calls Tryz.prog 22 #[pv X Y false] w fun e w' => e = .returned (.string (mkS [4] ++ S1 ++ S2)) ∧ Below w.heap.size w w' := by
  go_enter Tryz.func22, Tryz.ntmps22
  go_wp2_with fail
  have Bp : Arr ((w.alloc (.cells #[.int .u64 (lim (X) 0), .int .u64 (lim (X) 1), .int .u64 (lim (X) 2), .int .u64 (lim (X) 3), .int .u64 (lim (Y) 0), .int .u64 (lim (Y) 1), .int .u64 (lim (Y) 2), .int .u64 (lim (Y) 3), .bool false] 26))) (w.heap.size) 9 (px (X) (Y) false) := by refine Arr.mk9p ?_ ?_ ?_ ?_ ?_ ?_ ?_ ?_ ?_ ?_ <;> simp [go_sem, px, sx, zx]
  have hB' : Below w.heap.size w (w.alloc (.cells #[.int .u64 (lim (X) 0), .int .u64 (lim (X) 1), .int .u64 (lim (X) 2), .int .u64 (lim (X) 3), .int .u64 (lim (Y) 0), .int .u64 (lim (Y) 1), .int .u64 (lim (Y) 2), .int .u64 (lim (Y) 3), .bool false] 26)) := by go_grown
  have Ap := Bp
  have hB := hB'
  clear Bp hB'
  have ad1 := fun W => adds (mkS [4]) S1 (by rw [mkS_size]; decide) (by omega) W
  have ad2 := fun W => adds (mkS [4] ++ S1) S2 (by rw [ByteArray.size_append, mkS_size]; simp; omega) (by omega) W
  apply wp_region_slice_tail 8 #[true, true, true, true, true, true, true, true, true, true, false] (by kernel_rfl) (by kernel_rfl) (by kernel_rfl) (.cells #[.int .u8 4] 5) (fun W => .slice (some ⟨W.heap.size, 0, none⟩) 1 1) _ _ rfl rfl (.string (mkS [4])) (fun _ _ => by simp [go_sem])
  · intro b x1 hb
    refine Or.inl ⟨rfl, fun W hW => ?_⟩
    obtain ⟨q, rfl⟩ := hW
    have c0 : (grow (redrawn (x1.alloc (.cells #[.int .u8 4] 5)) q.d) q.os).cell? ⟨x1.heap.size, 0, none⟩ = some (.int .u8 4) := cell_regrown (v := .int .u8 4) (by simp [go_sem]) q.d q.os
    have cv := convG (grow (redrawn (x1.alloc (.cells #[.int .u8 4] 5)) q.d) q.os) x1.heap.size 1 [4] rfl (fun j hj => by obtain rfl : j = 0 := (by omega); exact c0)
    simp [Oper.quietAt, go_sem, Act.put, hb, cv]
  · intro W hW
    have rp0 := (Arr.to' Ap hW).cg 0 (by omega) (.int .u64 (lim (X) 0)) rfl
    have rp1 := (Arr.to' Ap hW).cg 1 (by omega) (.int .u64 (lim (X) 1)) rfl
    have rp2 := (Arr.to' Ap hW).cg 2 (by omega) (.int .u64 (lim (X) 2)) rfl
    have rp3 := (Arr.to' Ap hW).cg 3 (by omega) (.int .u64 (lim (X) 3)) rfl
    have rp4 := (Arr.to' Ap hW).cg 4 (by omega) (.int .u64 (lim (Y) 0)) rfl
    have rp5 := (Arr.to' Ap hW).cg 5 (by omega) (.int .u64 (lim (Y) 1)) rfl
    have rp6 := (Arr.to' Ap hW).cg 6 (by omega) (.int .u64 (lim (Y) 2)) rfl
    have rp7 := (Arr.to' Ap hW).cg 7 (by omega) (.int .u64 (lim (Y) 3)) rfl
    have rp8 := (Arr.to' Ap hW).cg 8 (by omega) (.bool false) rfl
    simp only [List.drop_succ_cons, List.drop_zero, List.take_succ_cons, List.take_zero, Act.put, List.setIfInBounds_toArray, List.set_cons_succ, List.set_cons_zero]
    repeat (go_big_quiet_step (first | (go_at_call 44; with_reducible first | exact Calls.regrown_of (C1 _) | exact Calls.regrown_of (C2 _))))
    exact wpQuiet_nil rfl
  intro w1 w2 hb1 hb2
  simp only [List.drop_succ_cons, List.drop_zero, Act.put, List.setIfInBounds_toArray, List.set_cons_succ, List.set_cons_zero]
  have hB2 := Bel.call (Bel.al (Bel.call hB hb1) (.cells #[.int .u8 4] 5)) hb2
  go_wp2_with fail
  go_ret
  exact ⟨rfl, hB2⟩
set_option maxHeartbeats 4000000 in
theorem enc_none (X Y : Int) (w : World) : Calls Tryz.prog 22 #[pv X Y true] w fun e w' => e = .returned (.string ⟨#[]⟩) ∧ Below w.heap.size w w' := by
  go_enter Tryz.func22, Tryz.ntmps22
  have Bp : Arr ((w.alloc (.cells #[.int .u64 (lim (X) 0), .int .u64 (lim (X) 1), .int .u64 (lim (X) 2), .int .u64 (lim (X) 3), .int .u64 (lim (Y) 0), .int .u64 (lim (Y) 1), .int .u64 (lim (Y) 2), .int .u64 (lim (Y) 3), .bool true] 26))) (w.heap.size) 9 (px (X) (Y) true) := by refine Arr.mk9p ?_ ?_ ?_ ?_ ?_ ?_ ?_ ?_ ?_ ?_ <;> simp [go_sem, px, sx, zx]
  have hB' : Below w.heap.size w (w.alloc (.cells #[.int .u64 (lim (X) 0), .int .u64 (lim (X) 1), .int .u64 (lim (X) 2), .int .u64 (lim (X) 3), .int .u64 (lim (Y) 0), .int .u64 (lim (Y) 1), .int .u64 (lim (Y) 2), .int .u64 (lim (Y) 3), .bool true] 26)) := by go_grown
  have Ap := Bp
  have hB := hB'
  clear Bp hB'
  have cp_0 := Ap.cv 0 (by omega) (.int .u64 (lim (X) 0)) rfl
  have cp_1 := Ap.cv 1 (by omega) (.int .u64 (lim (X) 1)) rfl
  have cp_2 := Ap.cv 2 (by omega) (.int .u64 (lim (X) 2)) rfl
  have cp_3 := Ap.cv 3 (by omega) (.int .u64 (lim (X) 3)) rfl
  have cp_4 := Ap.cv 4 (by omega) (.int .u64 (lim (Y) 0)) rfl
  have cp_5 := Ap.cv 5 (by omega) (.int .u64 (lim (Y) 1)) rfl
  have cp_6 := Ap.cv 6 (by omega) (.int .u64 (lim (Y) 2)) rfl
  have cp_7 := Ap.cv 7 (by omega) (.int .u64 (lim (Y) 3)) rfl
  have cp_8 := Ap.cv 8 (by omega) (.bool true) rfl
  go_wp2_with fail
  go_ret
  exact ⟨rfl, hB⟩
end Go.Proofs.YtgekafmojedlkaaGreat
