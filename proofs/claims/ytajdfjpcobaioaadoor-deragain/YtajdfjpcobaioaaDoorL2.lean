/- DerOrder's walk. -/
import Derived.Test.YtajdfjpcobaioaaDoorD14
import Derived.Deep.Cut
import Derived.Lib.QuietBelow
set_option linter.all false
set_option maxRecDepth 100000
namespace Go.Proofs.YtajdfjpcobaioaaDoor
open Go.RowKit Go.Sort
/-- Four cells of a block. -/
def C4 (w : World) (b : Nat) (x y z u : Value) : Prop := (w.cell? ⟨b, 0, none⟩ = some x ∧ w.cell? ⟨b, 1, none⟩ = some y ∧ w.cell? ⟨b, 2, none⟩ = some z ∧ w.cell? ⟨b, 3, none⟩ = some u)
theorem C4.to {w w' : World} {b : Nat} {x y z u : Value} (h : C4 w b x y z u) (hb : Below w.heap.size w w') : C4 w' b x y z u := by
  obtain ⟨h0, h1, h2, h3⟩ := h
  exact ⟨(hb.cell (block_lt_of_cell h0)).trans h0, (hb.cell (block_lt_of_cell h1)).trans h1, (hb.cell (block_lt_of_cell h2)).trans h2, (hb.cell (block_lt_of_cell h3)).trans h3⟩
theorem C4.new (w : World) (x y z u : Value) (T : TypeId) : C4 (w.alloc (.cells #[x, y, z, u] T)) w.heap.size x y z u := (four_cells (Below.refl _ _)).1
theorem below_al (w : World) (o : Obj) : Below w.heap.size w (w.alloc o) := by go_grown
set_option maxHeartbeats 4000000 in
theorem order_core (t u : Int) (a0 a1 a2 a3 b0 b1 b2 b3 : Int) (SA SB X Y : ByteArray) (e f c : Int) (q z : Bool) (w : World) (hT : Tab w)
    (hq : (SA.toList == SB.toList) = q) (EQ : ∀ W, (Op.equalIn 10000 48 (.agg #[.int .u64 a0, .int .u64 a1, .int .u64 a2, .int .u64 a3]) (.agg #[.int .u64 b0, .int .u64 b1, .int .u64 b2, .int .u64 b3])).run Tryd.prog W = .ok q W)
    (hl : ¬ 0 < c → (SA.size : Int) ≤ (SB.size : Int)) (ho : e = 0 → f = 0 → decide (t < u) = z ∧ Op.bytesLess X.toList Y.toList = z)
    (T1 : ∀ W, Tab W → Calls Tryd.prog 22 #[.int .i64 t] W fun e' w' => e' = .returned (.tuple #[.string X, .int .i64 e]) ∧ Below W.heap.size W w')
    (T2 : ∀ W, Tab W → Calls Tryd.prog 22 #[.int .i64 u] W fun e' w' => e' = .returned (.tuple #[.string Y, .int .i64 f]) ∧ Below W.heap.size W w')
    (IA : ∀ W, Calls Tryd.prog 18 #[.agg #[.int .u64 a0, .int .u64 a1, .int .u64 a2, .int .u64 a3]] W fun e w' => e = .returned (.string SA) ∧ Below W.heap.size W w')
    (IB : ∀ W, Calls Tryd.prog 18 #[.agg #[.int .u64 b0, .int .u64 b1, .int .u64 b2, .int .u64 b3]] W fun e w' => e = .returned (.string SB) ∧ Below W.heap.size W w')
    (CM : ∀ W, Calls Tryd.prog 24 #[.agg #[.int .u64 a0, .int .u64 a1, .int .u64 a2, .int .u64 a3], .agg #[.int .u64 b0, .int .u64 b1, .int .u64 b2, .int .u64 b3]] W fun e w' => e = .returned (.int .i64 c) ∧ Below W.heap.size W w')
    (CA : ∀ W, Tab W → Calls Tryd.prog 7 #[] W fun e w' => e = .returned (.bool true) ∧ Below W.heap.size W w') :
    Calls Tryd.prog 6 #[.int .i64 t, .int .i64 u, .agg #[.int .u64 a0, .int .u64 a1, .int .u64 a2, .int .u64 a3], .agg #[.int .u64 b0, .int .u64 b1, .int .u64 b2, .int .u64 b3]] w fun e w' => e = .returned (.bool true) ∧ Below w.heap.size w w' := by
  have part : (¬ e = 0) ∨ (e = 0 ∧ ¬ f = 0) ∨ (e = 0 ∧ f = 0) := by omega
  have hc : (0 < c) ∨ (decide (0 < c) = false ∧ (SA.size : Int) ≤ (SB.size : Int)) := by
    by_cases h : 0 < c
    · exact .inl h
    · exact .inr ⟨decide_eq_false h, hl h⟩
  clear hl
  rcases part with h | ⟨h, h2⟩ | ⟨h, h2⟩
  · clear ho
    cases q <;> rcases hc with hc | ⟨hc, hc2⟩
    all_goals
      go_enter Tryd.func6, Tryd.ntmps6
      go_wp2_with fail
      refine (T1 _ (hT.to (Bel.al (below_al w _) _))).mono ?_
      rintro e' w1 ⟨rfl, hb⟩
      have KA := ((C4.new w (.int .u64 a0) (.int .u64 a1) (.int .u64 a2) (.int .u64 a3) 48).to (below_al _ (.cells #[.int .u64 b0, .int .u64 b1, .int .u64 b2, .int .u64 b3] 48))).to hb
      have KB := (C4.new (w.alloc (.cells #[.int .u64 a0, .int .u64 a1, .int .u64 a2, .int .u64 a3] 48)) (.int .u64 b0) (.int .u64 b1) (.int .u64 b2) (.int .u64 b3) 48).to hb
      have hB : Below w.heap.size w w1 := Bel.call (Bel.al (below_al w _) _) hb
      rw [show (w.alloc (.cells #[.int .u64 a0, .int .u64 a1, .int .u64 a2, .int .u64 a3] 48)).heap.size = w.heap.size + 1 by simp] at KB
      clear hb T1
      go_wp2_with fail
      refine (T2 _ (hT.to hB)).mono ?_
      rintro e' w2 ⟨rfl, hb⟩
      replace KA := KA.to hb
      replace KB := KB.to hb
      replace hB := Bel.call hB hb
      clear hb T2
      obtain ⟨x0, x1, x2, x3⟩ := KA
      obtain ⟨y0, y1, y2, y3⟩ := KB
      have hTw := hT.to hB
      go_wp2_with fail
      have rx0 := fun ds os => cell_regrown x0 ds os
      have ry0 := fun ds os => cell_regrown y0 ds os
      have rx1 := fun ds os => cell_regrown x1 ds os
      have ry1 := fun ds os => cell_regrown y1 ds os
      have rx2 := fun ds os => cell_regrown x2 ds os
      have ry2 := fun ds os => cell_regrown y2 ds os
      have rx3 := fun ds os => cell_regrown x3 ds os
      have ry3 := fun ds os => cell_regrown y3 ds os
      refine wp_region_quiet_below (by kernel_rfl) (by kernel_rfl) ?_
      repeat (go_big_quiet_step (first | (go_at_call 18; first | with_reducible exact Calls.regrown_of (IA _) | with_reducible exact Calls.regrown_of (IB _)) | (go_at_call 24; exact Calls.regrown_of (CM _)) | (go_at_call 7; exact Calls.regrown_of (CA _ (hTw.to (below_regrown _ _ _))))))
      refine wpQuiet_nil ?_
      intro w9 hw'
      obtain ⟨⟨dq, osq⟩, hw''⟩ := hw'
      have hb := below_of hw''
      clear hw''
      go_wp2_with fail
      go_ret
      exact ⟨rfl, Bel.call hB hb⟩
  · clear ho
    subst h
    cases q <;> rcases hc with hc | ⟨hc, hc2⟩
    all_goals
      go_enter Tryd.func6, Tryd.ntmps6
      go_wp2_with fail
      refine (T1 _ (hT.to (Bel.al (below_al w _) _))).mono ?_
      rintro e' w1 ⟨rfl, hb⟩
      have KA := ((C4.new w (.int .u64 a0) (.int .u64 a1) (.int .u64 a2) (.int .u64 a3) 48).to (below_al _ (.cells #[.int .u64 b0, .int .u64 b1, .int .u64 b2, .int .u64 b3] 48))).to hb
      have KB := (C4.new (w.alloc (.cells #[.int .u64 a0, .int .u64 a1, .int .u64 a2, .int .u64 a3] 48)) (.int .u64 b0) (.int .u64 b1) (.int .u64 b2) (.int .u64 b3) 48).to hb
      have hB : Below w.heap.size w w1 := Bel.call (Bel.al (below_al w _) _) hb
      rw [show (w.alloc (.cells #[.int .u64 a0, .int .u64 a1, .int .u64 a2, .int .u64 a3] 48)).heap.size = w.heap.size + 1 by simp] at KB
      clear hb T1
      go_wp2_with fail
      refine (T2 _ (hT.to hB)).mono ?_
      rintro e' w2 ⟨rfl, hb⟩
      replace KA := KA.to hb
      replace KB := KB.to hb
      replace hB := Bel.call hB hb
      clear hb T2
      obtain ⟨x0, x1, x2, x3⟩ := KA
      obtain ⟨y0, y1, y2, y3⟩ := KB
      have hTw := hT.to hB
      go_wp2_with fail
      have rx0 := fun ds os => cell_regrown x0 ds os
      have ry0 := fun ds os => cell_regrown y0 ds os
      have rx1 := fun ds os => cell_regrown x1 ds os
      have ry1 := fun ds os => cell_regrown y1 ds os
      have rx2 := fun ds os => cell_regrown x2 ds os
      have ry2 := fun ds os => cell_regrown y2 ds os
      have rx3 := fun ds os => cell_regrown x3 ds os
      have ry3 := fun ds os => cell_regrown y3 ds os
      refine wp_region_quiet_below (by kernel_rfl) (by kernel_rfl) ?_
      repeat (go_big_quiet_step (first | (go_at_call 18; first | with_reducible exact Calls.regrown_of (IA _) | with_reducible exact Calls.regrown_of (IB _)) | (go_at_call 24; exact Calls.regrown_of (CM _)) | (go_at_call 7; exact Calls.regrown_of (CA _ (hTw.to (below_regrown _ _ _))))))
      refine wpQuiet_nil ?_
      intro w9 hw'
      obtain ⟨⟨dq, osq⟩, hw''⟩ := hw'
      have hb := below_of hw''
      clear hw''
      go_wp2_with fail
      go_ret
      exact ⟨rfl, Bel.call hB hb⟩
  · subst h
    subst h2
    obtain ⟨h1, h2⟩ := ho rfl rfl
    clear ho
    cases z
    · have h3 : ¬ t < u := by simpa using h1
      clear h1
      cases q <;> rcases hc with hc | ⟨hc, hc2⟩
      all_goals
        go_enter Tryd.func6, Tryd.ntmps6
        go_wp2_with fail
        refine (T1 _ (hT.to (Bel.al (below_al w _) _))).mono ?_
        rintro e' w1 ⟨rfl, hb⟩
        have KA := ((C4.new w (.int .u64 a0) (.int .u64 a1) (.int .u64 a2) (.int .u64 a3) 48).to (below_al _ (.cells #[.int .u64 b0, .int .u64 b1, .int .u64 b2, .int .u64 b3] 48))).to hb
        have KB := (C4.new (w.alloc (.cells #[.int .u64 a0, .int .u64 a1, .int .u64 a2, .int .u64 a3] 48)) (.int .u64 b0) (.int .u64 b1) (.int .u64 b2) (.int .u64 b3) 48).to hb
        have hB : Below w.heap.size w w1 := Bel.call (Bel.al (below_al w _) _) hb
        rw [show (w.alloc (.cells #[.int .u64 a0, .int .u64 a1, .int .u64 a2, .int .u64 a3] 48)).heap.size = w.heap.size + 1 by simp] at KB
        clear hb T1
        go_wp2_with fail
        refine (T2 _ (hT.to hB)).mono ?_
        rintro e' w2 ⟨rfl, hb⟩
        replace KA := KA.to hb
        replace KB := KB.to hb
        replace hB := Bel.call hB hb
        clear hb T2
        obtain ⟨x0, x1, x2, x3⟩ := KA
        obtain ⟨y0, y1, y2, y3⟩ := KB
        have hTw := hT.to hB
        go_wp2_with fail
        have rx0 := fun ds os => cell_regrown x0 ds os
        have ry0 := fun ds os => cell_regrown y0 ds os
        have rx1 := fun ds os => cell_regrown x1 ds os
        have ry1 := fun ds os => cell_regrown y1 ds os
        have rx2 := fun ds os => cell_regrown x2 ds os
        have ry2 := fun ds os => cell_regrown y2 ds os
        have rx3 := fun ds os => cell_regrown x3 ds os
        have ry3 := fun ds os => cell_regrown y3 ds os
        refine wp_region_quiet_below (by kernel_rfl) (by kernel_rfl) ?_
        repeat (go_big_quiet_step (first | (go_at_call 18; first | with_reducible exact Calls.regrown_of (IA _) | with_reducible exact Calls.regrown_of (IB _)) | (go_at_call 24; exact Calls.regrown_of (CM _)) | (go_at_call 7; exact Calls.regrown_of (CA _ (hTw.to (below_regrown _ _ _))))))
        refine wpQuiet_nil ?_
        intro w9 hw'
        obtain ⟨⟨dq, osq⟩, hw''⟩ := hw'
        have hb := below_of hw''
        clear hw''
        go_wp2_with fail
        go_ret
        exact ⟨rfl, Bel.call hB hb⟩
    · have h3 : t < u := by simpa using h1
      clear h1
      cases q <;> rcases hc with hc | ⟨hc, hc2⟩
      all_goals
        go_enter Tryd.func6, Tryd.ntmps6
        go_wp2_with fail
        refine (T1 _ (hT.to (Bel.al (below_al w _) _))).mono ?_
        rintro e' w1 ⟨rfl, hb⟩
        have KA := ((C4.new w (.int .u64 a0) (.int .u64 a1) (.int .u64 a2) (.int .u64 a3) 48).to (below_al _ (.cells #[.int .u64 b0, .int .u64 b1, .int .u64 b2, .int .u64 b3] 48))).to hb
        have KB := (C4.new (w.alloc (.cells #[.int .u64 a0, .int .u64 a1, .int .u64 a2, .int .u64 a3] 48)) (.int .u64 b0) (.int .u64 b1) (.int .u64 b2) (.int .u64 b3) 48).to hb
        have hB : Below w.heap.size w w1 := Bel.call (Bel.al (below_al w _) _) hb
        rw [show (w.alloc (.cells #[.int .u64 a0, .int .u64 a1, .int .u64 a2, .int .u64 a3] 48)).heap.size = w.heap.size + 1 by simp] at KB
        clear hb T1
        go_wp2_with fail
        refine (T2 _ (hT.to hB)).mono ?_
        rintro e' w2 ⟨rfl, hb⟩
        replace KA := KA.to hb
        replace KB := KB.to hb
        replace hB := Bel.call hB hb
        clear hb T2
        obtain ⟨x0, x1, x2, x3⟩ := KA
        obtain ⟨y0, y1, y2, y3⟩ := KB
        have hTw := hT.to hB
        go_wp2_with fail
        have rx0 := fun ds os => cell_regrown x0 ds os
        have ry0 := fun ds os => cell_regrown y0 ds os
        have rx1 := fun ds os => cell_regrown x1 ds os
        have ry1 := fun ds os => cell_regrown y1 ds os
        have rx2 := fun ds os => cell_regrown x2 ds os
        have ry2 := fun ds os => cell_regrown y2 ds os
        have rx3 := fun ds os => cell_regrown x3 ds os
        have ry3 := fun ds os => cell_regrown y3 ds os
        refine wp_region_quiet_below (by kernel_rfl) (by kernel_rfl) ?_
        repeat (go_big_quiet_step (first | (go_at_call 18; first | with_reducible exact Calls.regrown_of (IA _) | with_reducible exact Calls.regrown_of (IB _)) | (go_at_call 24; exact Calls.regrown_of (CM _)) | (go_at_call 7; exact Calls.regrown_of (CA _ (hTw.to (below_regrown _ _ _))))))
        refine wpQuiet_nil ?_
        intro w9 hw'
        obtain ⟨⟨dq, osq⟩, hw''⟩ := hw'
        have hb := below_of hw''
        clear hw''
        go_wp2_with fail
        go_ret
        exact ⟨rfl, Bel.call hB hb⟩
end Go.Proofs.YtajdfjpcobaioaaDoor
