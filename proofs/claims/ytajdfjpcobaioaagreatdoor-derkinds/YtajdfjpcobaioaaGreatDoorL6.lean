/- DerKinds. -/
import Derived.Test.YtajdfjpcobaioaaGreatDoorD22
import Derived.Test.YtajdfjpcobaioaaGreatDoorR3
import Derived.Test.YtajdfjpcobaioaaGreatDoorR4
import Derived.Test.YtajdfjpcobaioaaGreatDoorR5
import Derived.Test.YtajdfjpcobaioaaGreatDoorR9
import Derived.Test.YtajdfjpcobaioaaGreatDoorD20
import Derived.Test.YtajdfjpcobaioaaGreatDoorM6
import Derived.Deep.Cut
set_option linter.all false
set_option maxRecDepth 100000
namespace Go.Proofs.YtajdfjpcobaioaaGreatDoor
open Go.RowKit Go.Sort
/-- Four cells of a block. -/
def C4 (w : World) (b : Nat) (x y z u : Value) : Prop := (w.cell? ⟨b, 0, none⟩ = some x ∧ w.cell? ⟨b, 1, none⟩ = some y ∧ w.cell? ⟨b, 2, none⟩ = some z ∧ w.cell? ⟨b, 3, none⟩ = some u)
theorem C4.to {w w' : World} {b : Nat} {x y z u : Value} (h : C4 w b x y z u) (hb : Below w.heap.size w w') : C4 w' b x y z u := by
  obtain ⟨h0, h1, h2, h3⟩ := h
  exact ⟨(hb.cell (block_lt_of_cell h0)).trans h0, (hb.cell (block_lt_of_cell h1)).trans h1, (hb.cell (block_lt_of_cell h2)).trans h2, (hb.cell (block_lt_of_cell h3)).trans h3⟩
theorem C4.new (w : World) (x y z u : Value) (T : TypeId) : C4 (w.alloc (.cells #[x, y, z, u] T)) w.heap.size x y z u := (four_cells (Below.refl _ _)).1
set_option maxHeartbeats 8000000 in
theorem kinds_core (a0 a1 a2 a3 b0 b1 b2 b3 t u e1 e2 e3 e4 e5 : Int) (v : Value) (L : List Int) (SA s O X : ByteArray) (w : World) (hT : Tab w)
    (EQ : ∀ W, (Op.equalIn 10000 24 (.agg #[.int .u64 b0, .int .u64 b1, .int .u64 b2, .int .u64 b3]) (.agg #[.int .u64 b0, .int .u64 b1, .int .u64 b2, .int .u64 b3])).run Tryz.prog W = .ok true W)
    (T4 : ∀ W, Calls Tryz.prog 4 #[.string s] W fun e w' => e = .returned (.tuple #[.agg #[.int .u64 b0, .int .u64 b1, .int .u64 b2, .int .u64 b3], .int .i64 e1]) ∧ Below W.heap.size W w')
    (T5 : ∀ W, Calls Tryz.prog 5 #[.string s] W fun e w' => e = .returned (.tuple #[.agg #[.int .u64 b0, .int .u64 b1, .int .u64 b2, .int .u64 b3], .int .i64 e1]) ∧ Below W.heap.size W w')
    (O6 : ∀ W, Below w.heap.size w W → Calls Tryz.prog 6 #[v] W fun e w' => e = .returned (.tuple #[.string O, .int .i64 e2]) ∧ Below W.heap.size W w')
    (O7 : ∀ W, Below w.heap.size w W → Calls Tryz.prog 7 #[v] W fun e w' => e = .returned (.tuple #[.string O, .int .i64 e2]) ∧ Below W.heap.size W w')
    (U8 : ∀ W, Calls Tryz.prog 8 #[.string s] W fun e w' => (∃ m, e = .returned (.tuple #[m, .int .i64 e3]) ∧ Wds w' m L ∧ ∀ a k c, m = .slice (some a) k c → c ≤ maxLen) ∧ Below W.heap.size W w')
    (U9 : ∀ W, Calls Tryz.prog 9 #[.string s] W fun e w' => (∃ m, e = .returned (.tuple #[m, .int .i64 e3]) ∧ Wds w' m L ∧ ∀ a k c, m = .slice (some a) k c → c ≤ maxLen) ∧ Below W.heap.size W w')
    (WS : ∀ m1 m2 W, Wds W m1 L → Wds W m2 L → Calls Tryz.prog 16 #[m1, m2] W fun e w' => e = .returned (.bool true) ∧ Below W.heap.size W w')
    (T10 : ∀ W, Tab W → Calls Tryz.prog 10 #[.int .i64 t] W fun e w' => e = .returned (.tuple #[.string X, .int .i64 e4]) ∧ Below W.heap.size W w')
    (T11 : ∀ W, Calls Tryz.prog 11 #[.int .i64 t] W fun e w' => e = .returned (.tuple #[.string X, .int .i64 e4]) ∧ Below W.heap.size W w')
    (T12 : ∀ W, Calls Tryz.prog 12 #[.string s] W fun e w' => e = .returned (.tuple #[.int .i64 u, .int .i64 e5]) ∧ Below W.heap.size W w')
    (T13 : ∀ W, Calls Tryz.prog 13 #[.string s] W fun e w' => e = .returned (.tuple #[.int .i64 u, .int .i64 e5]) ∧ Below W.heap.size W w')
    (I14 : ∀ W, Calls Tryz.prog 14 #[.agg #[.int .u64 a0, .int .u64 a1, .int .u64 a2, .int .u64 a3]] W fun e w' => e = .returned (.string SA) ∧ Below W.heap.size W w')
    (I15 : ∀ W, Calls Tryz.prog 15 #[.agg #[.int .u64 a0, .int .u64 a1, .int .u64 a2, .int .u64 a3]] W fun e w' => e = .returned (.string SA) ∧ Below W.heap.size W w')
    (CA : ∀ W, Tab W → Calls Tryz.prog 17 #[] W fun e w' => e = .returned (.bool true) ∧ Below W.heap.size W w') :
    Calls Tryz.prog 3 #[.agg #[.int .u64 a0, .int .u64 a1, .int .u64 a2, .int .u64 a3], v, .int .i64 t, .string s] w fun e w' => e = .returned (.bool true) ∧ Below w.heap.size w w' := by
  go_enter Tryz.func3, Tryz.ntmps3
  go_wp2_with fail
  refine (T4 _).mono ?_
  rintro e' w1 ⟨rfl, hb⟩
  have KA := (C4.new w (.int .u64 a0) (.int .u64 a1) (.int .u64 a2) (.int .u64 a3) 24).to hb
  have hB : Below w.heap.size w w1 := Bel.call (below_al w _) hb
  clear hb
  go_upto_region 2 with (fail)
  have KB := C4.new w1 (.int .u64 b0) (.int .u64 b1) (.int .u64 b2) (.int .u64 b3) 24
  replace KA := KA.to (below_al w1 (.cells #[.int .u64 b0, .int .u64 b1, .int .u64 b2, .int .u64 b3] 24))
  replace hB := Bel.al hB (.cells #[.int .u64 b0, .int .u64 b1, .int .u64 b2, .int .u64 b3] 24)
  generalize hq : w1.heap.size = q1 at *
  generalize w1.alloc (.cells #[.int .u64 b0, .int .u64 b1, .int .u64 b2, .int .u64 b3] 24) = w1' at *
  clear hq
  go_wp2_with fail
  refine (T5 _).mono ?_
  rintro e' w2 ⟨rfl, hb⟩
  replace KA := KA.to hb
  replace KB := KB.to hb
  replace hB := Bel.call hB hb
  clear hb
  go_upto_region 3 with (fail)
  have KC := C4.new w2 (.int .u64 b0) (.int .u64 b1) (.int .u64 b2) (.int .u64 b3) 24
  replace KA := KA.to (below_al w2 (.cells #[.int .u64 b0, .int .u64 b1, .int .u64 b2, .int .u64 b3] 24))
  replace KB := KB.to (below_al w2 (.cells #[.int .u64 b0, .int .u64 b1, .int .u64 b2, .int .u64 b3] 24))
  replace hB := Bel.al hB (.cells #[.int .u64 b0, .int .u64 b1, .int .u64 b2, .int .u64 b3] 24)
  generalize hq : w2.heap.size = q2 at *
  generalize w2.alloc (.cells #[.int .u64 b0, .int .u64 b1, .int .u64 b2, .int .u64 b3] 24) = w2' at *
  clear hq
  go_wp2_with fail
  refine (O6 _ hB).mono ?_
  rintro e' w3 ⟨rfl, hb⟩
  replace KA := KA.to hb
  replace KB := KB.to hb
  replace KC := KC.to hb
  replace hB := Bel.call hB hb
  clear hb
  go_wp2_with fail
  refine (O7 _ hB).mono ?_
  rintro e' w4 ⟨rfl, hb⟩
  replace KA := KA.to hb
  replace KB := KB.to hb
  replace KC := KC.to hb
  replace hB := Bel.call hB hb
  clear hb
  go_wp2_with fail
  refine (U8 _).mono ?_
  rintro e' w5 ⟨⟨m1, rfl, W1, _⟩, hb⟩
  replace KA := KA.to hb
  replace KB := KB.to hb
  replace KC := KC.to hb
  replace hB := Bel.call hB hb
  clear hb
  go_wp2_with fail
  refine (U9 _).mono ?_
  rintro e' w6 ⟨⟨m2, rfl, W2, _⟩, hb⟩
  replace KA := KA.to hb
  replace KB := KB.to hb
  replace KC := KC.to hb
  replace W1 := W1.to hb
  replace hB := Bel.call hB hb
  clear hb
  go_wp2_with fail
  refine (T10 _ (hT.to hB)).mono ?_
  rintro e' w7 ⟨rfl, hb⟩
  replace KA := KA.to hb
  replace KB := KB.to hb
  replace KC := KC.to hb
  replace W1 := W1.to hb
  replace W2 := W2.to hb
  replace hB := Bel.call hB hb
  clear hb
  go_wp2_with fail
  refine (T11 _).mono ?_
  rintro e' w8 ⟨rfl, hb⟩
  replace KA := KA.to hb
  replace KB := KB.to hb
  replace KC := KC.to hb
  replace W1 := W1.to hb
  replace W2 := W2.to hb
  replace hB := Bel.call hB hb
  clear hb
  go_wp2_with fail
  refine (T12 _).mono ?_
  rintro e' w9 ⟨rfl, hb⟩
  replace KA := KA.to hb
  replace KB := KB.to hb
  replace KC := KC.to hb
  replace W1 := W1.to hb
  replace W2 := W2.to hb
  replace hB := Bel.call hB hb
  clear hb
  go_wp2_with fail
  refine (T13 _).mono ?_
  rintro e' wa ⟨rfl, hb⟩
  replace KA := KA.to hb
  replace KB := KB.to hb
  replace KC := KC.to hb
  replace W1 := W1.to hb
  replace W2 := W2.to hb
  replace hB := Bel.call hB hb
  clear hb
  have WD := fun W (hW : Below wa.heap.size wa W) => WS m1 m2 W (W1.to hW) (W2.to hW)
  have hTw := hT.to hB
  clear W1 W2 T4 T5 O6 O7 U8 U9 T10 T11 T12 T13 WS
  obtain ⟨x0, x1, x2, x3⟩ := KA
  obtain ⟨y0, y1, y2, y3⟩ := KB
  obtain ⟨z0, z1, z2, z3⟩ := KC
  have rx0 := fun ds os => cell_regrown x0 ds os
  have rx1 := fun ds os => cell_regrown x1 ds os
  have rx2 := fun ds os => cell_regrown x2 ds os
  have rx3 := fun ds os => cell_regrown x3 ds os
  have ry0 := fun ds os => cell_regrown y0 ds os
  have ry1 := fun ds os => cell_regrown y1 ds os
  have ry2 := fun ds os => cell_regrown y2 ds os
  have ry3 := fun ds os => cell_regrown y3 ds os
  have rz0 := fun ds os => cell_regrown z0 ds os
  have rz1 := fun ds os => cell_regrown z1 ds os
  have rz2 := fun ds os => cell_regrown z2 ds os
  have rz3 := fun ds os => cell_regrown z3 ds os
  go_wp2_with fail
  refine wp_region_quiet_below (by kernel_rfl) (by kernel_rfl) ?_
  repeat (go_big_quiet_step (first | (go_at_call 14; exact Calls.regrown_of (I14 _)) | (go_at_call 15; exact Calls.regrown_of (I15 _)) | (go_at_call 16; exact Calls.regrown_of (WD _ (below_regrown _ _ _))) | (go_at_call 17; exact Calls.regrown_of (CA _ (hTw.to (below_regrown _ _ _))))))
  refine wpQuiet_nil ?_
  intro wb hw'
  obtain ⟨⟨dq, osq⟩, hw''⟩ := hw'
  have hb := below_of hw''
  clear hw''
  go_wp2_with fail
  go_ret
  exact ⟨rfl, Bel.call hB hb⟩
theorem kinds_walk (N : Int) (l : List Int) (t : Int) (s : ByteArray) (v : Value) (w : World) (n0 : 0 ≤ N) (n1 : N < top256) (hl : Wds w v l) (hm : l.length ≤ maxLen) (hb : ∀ x ∈ l, 0 ≤ x ∧ x < 4294967296) (hc : ∀ a n c, v = .slice (some a) n c → c ≤ maxLen) (hs : s.size ≤ maxLen) (hT : Tab w) :
    Calls Tryz.prog 3 #[nv N, v, .int .i64 t, .string s] w fun e w' => e = .returned (.bool true) ∧ Below w.heap.size w w' := by
  obtain ⟨b0, b1, b2, b3, e1, T4, T5⟩ : ∃ (b0 b1 b2 b3 e1 : Int), (∀ W, Calls Tryz.prog 4 #[.string s] W fun e w' => e = .returned (.tuple #[.agg #[.int .u64 b0, .int .u64 b1, .int .u64 b2, .int .u64 b3], .int .i64 e1]) ∧ Below W.heap.size W w') ∧ (∀ W, Calls Tryz.prog 5 #[.string s] W fun e w' => e = .returned (.tuple #[.agg #[.int .u64 b0, .int .u64 b1, .int .u64 b2, .int .u64 b3], .int .i64 e1]) ∧ Below W.heap.size W w') := by
    by_cases h : tiE (sL s) = 0
    · exact ⟨_, _, _, _, 0, fun W => toInt_yes s hs h W, fun W => rToInt_yes s hs h W⟩
    · exact ⟨0, 0, 0, 0, _, fun W => toInt_no s hs h W, fun W => rToInt_no s hs h W⟩
  obtain ⟨O, e2, hO⟩ : ∃ (O : ByteArray) (e2 : Int), oidR l = .tuple #[.string O, .int .i64 e2] := by
    unfold oidR
    by_cases h : oidE l = 0
    · exact ⟨_, _, if_pos h⟩
    · exact ⟨_, _, if_neg h⟩
  obtain ⟨X, e4, hX⟩ : ∃ (X : ByteArray) (e4 : Int), timR t = .tuple #[.string X, .int .i64 e4] := by
    unfold timR
    by_cases h : LT ≤ t ∧ t ≤ MT
    · exact ⟨_, _, if_pos h⟩
    · exact ⟨_, _, if_neg h⟩
  obtain ⟨u, e5, T12, T13⟩ : ∃ (u e5 : Int), (∀ W, Calls Tryz.prog 12 #[.string s] W fun e w' => e = .returned (.tuple #[.int .i64 u, .int .i64 e5]) ∧ Below W.heap.size W w') ∧ (∀ W, Calls Tryz.prog 13 #[.string s] W fun e w' => e = .returned (.tuple #[.int .i64 u, .int .i64 e5]) ∧ Below W.heap.size W w') := by
    by_cases c : ttOk s
    · exact ⟨_, 0, fun W => toTime_yes s c W, fun W => rtoTime_yes s c W⟩
    · exact ⟨0, 10, fun W => toTime_no s hs c W, fun W => rtoTime_no s hs c W⟩
  have Llen : (if (toO (sL s)).2 = 0 then (toO (sL s)).1 else []).length ≤ maxLen := by
    split
    · rename_i h
      obtain ⟨_, _, q3, _⟩ := to_oid (sL s) (toO (sL s)).1 (sL_bys s) (by rw [← h])
      unfold maxLen; omega
    · simp
  refine kinds_core (lim N 0) (lim N 1) (lim N 2) (lim N 3) b0 b1 b2 b3 t u e1 e2 (toO (sL s)).2 e4 e5 v (if (toO (sL s)).2 = 0 then (toO (sL s)).1 else []) (mkS (inL N)) s O X w hT (fun W => by rw [eq24]; simp) T4 T5 (fun W hW => ?_) (fun W hW => ?_) (fun W => toOid_any s hs W) (fun W => rtoOid_any s hs W) (fun m1 m2 W h1 h2 => words_same m1 m2 _ Llen W h1 h2) (fun W h => ?_) (fun W => ?_) T12 T13 (fun W => int_any N n0 n1 W) (fun W => rInt_any N W) (fun W h => awake_any W h)
  · have := oid_any v l W (hl.to hW) hm hb hc
    rw [hO] at this; exact this
  · have := roid_any v l W (hl.to hW) hm hb
    rw [hO] at this; exact this
  · have := time_any t W h
    rw [hX] at this; exact this
  · have := rtime_any t W
    rw [hX] at this; exact this
end Go.Proofs.YtajdfjpcobaioaaGreatDoor
