/- SchedSecrets: the law's walk. -/
import Derived.Test.YtfglpcfacjedmaaDoorSH
set_option linter.all false
set_option maxRecDepth 100000
namespace Go.Proofs.YtfglpcfacjedmaaDoor
open Go.RowKit Go.Sort
theorem fields23 : Tryd.prog.underlying 23 = some (.struct (Tryd.prog.fieldsOf 23)) := by kernel_rfl
theorem eq23 (a b c d : ByteArray) (w : World) : (Op.equalIn 10000 23 (.agg #[.string a, .string b, .string c, .string d]) (.agg #[.string a, .string b, .string c, .string d])).run Tryd.prog w = .ok true w := by
  rw [run_equalIn_agg (w := w) 9999 23 _ _ fields23 (by kernel_rfl)]
  simp [go_sem]
theorem fields35 : Tryd.prog.underlying 35 = some (.struct (Tryd.prog.fieldsOf 35)) := by kernel_rfl
theorem eq35 (a b : ByteArray) (n : Int) (w : World) : (Op.equalIn 10000 35 (.agg #[.string a, .string b, .int .u64 n]) (.agg #[.string a, .string b, .int .u64 n])).run Tryd.prog w = .ok true w := by
  rw [run_equalIn_agg (w := w) 9999 35 _ _ fields35 (by kernel_rfl)]
  simp [go_sem]
set_option maxHeartbeats 4000000 in
theorem secrets_core (s d x0 x1 x2 x3 a0 a1 a2 a3 b0 b1 b2 b3 : ByteArray) (e f : Int) (w : World) (hT : Tab w)
    (C6 : ∀ W, Tab W → Calls Tryd.prog 6 #[.string s, .string d] W fun q w' => q = .returned (.tuple #[sec a0 a1 a2 a3, .int .i64 e]) ∧ Below W.heap.size W w')
    (C7 : ∀ W, Calls Tryd.prog 7 #[.string s, .string d] W fun q w' => q = .returned (.tuple #[sec a0 a1 a2 a3, .int .i64 e]) ∧ Below W.heap.size W w')
    (C8 : ∀ W, Tab W → Calls Tryd.prog 8 #[sec x0 x1 x2 x3, .string d] W fun q w' => q = .returned (.tuple #[sec b0 b1 b2 b3, .int .i64 f]) ∧ Below W.heap.size W w')
    (C9 : ∀ W, Calls Tryd.prog 9 #[sec x0 x1 x2 x3, .string d] W fun q w' => q = .returned (.tuple #[sec b0 b1 b2 b3, .int .i64 f]) ∧ Below W.heap.size W w')
    (CA : ∀ W, Tab W → Calls Tryd.prog 10 #[] W fun e w' => e = .returned (.bool true) ∧ Below W.heap.size W w') :
    Calls Tryd.prog 3 #[.string s, .string d, sec x0 x1 x2 x3] w fun e w' => e = .returned (.bool true) ∧ Below w.heap.size w w' := by
  unfold sec at *
  have q1 := eq23 a0 a1 a2 a3
  have q2 := eq23 b0 b1 b2 b3
  go_enter Tryd.func3, Tryd.ntmps3
  go_wp2_with fail
  generalize hW : World.alloc _ _ = W1
  have AX : Arr W1 w.heap.size 4 (sx x0 x1 x2 x3) := by
    rw [← hW]
    exact Arr.new _ _ _ _ rfl _ 4 (sx_at _ _ _ _)
  have B0 : Below w.heap.size w W1 := by rw [← hW]; go_grown
  have T0 := hT.to B0
  clear hW
  refine (C6 _ T0).mono ?_
  rintro q w1 ⟨rfl, hb⟩
  have AX := AX.to' hb
  have B1 := Bel.call B0 hb
  clear hb C6 B0 T0
  go_wp2_with fail
  generalize hW : World.alloc _ _ = W2
  have A1 : Arr W2 w1.heap.size 4 (sx a0 a1 a2 a3) := by
    rw [← hW]
    exact Arr.new _ _ _ _ rfl _ 4 (sx_at _ _ _ _)
  have AX : Arr W2 w.heap.size 4 (sx x0 x1 x2 x3) := by rw [← hW]; exact AX.al' _
  have B2 : Below w.heap.size w W2 := by rw [← hW]; exact Bel.al B1 _
  clear hW B1
  refine (C7 _).mono ?_
  rintro q w3 ⟨rfl, hb⟩
  have AX := AX.to' hb
  have A1 := A1.to' hb
  have B3 := Bel.call B2 hb
  clear hb C7 B2
  obtain ⟨⟨k0, k1, k2, k3⟩, -⟩ := (AX.al' (.cells #[.string a0, .string a1, .string a2, .string a3] 23)).four
  go_wp2_with fail
  generalize hW : World.alloc _ _ = W4
  have A2 : Arr W4 w3.heap.size 4 (sx a0 a1 a2 a3) := by
    rw [← hW]
    exact Arr.new _ _ _ _ rfl _ 4 (sx_at _ _ _ _)
  have AX : Arr W4 w.heap.size 4 (sx x0 x1 x2 x3) := by rw [← hW]; exact AX.al' _
  have A1 : Arr W4 w1.heap.size 4 (sx a0 a1 a2 a3) := by rw [← hW]; exact A1.al' _
  have B4 : Below w.heap.size w W4 := by rw [← hW]; exact Bel.al B3 _
  have T4 := hT.to B4
  clear hW B3 k0 k1 k2 k3
  refine (C8 _ T4).mono ?_
  rintro q w5 ⟨rfl, hb⟩
  have AX := AX.to' hb
  have A1 := A1.to' hb
  have A2 := A2.to' hb
  have B5 := Bel.call B4 hb
  clear hb C8 B4 T4
  obtain ⟨⟨k0, k1, k2, k3⟩, -⟩ := (AX.al' (.cells #[.string b0, .string b1, .string b2, .string b3] 23)).four
  go_wp2_with fail
  generalize hW : World.alloc _ _ = W6
  have A3 : Arr W6 w5.heap.size 4 (sx b0 b1 b2 b3) := by
    rw [← hW]
    exact Arr.new _ _ _ _ rfl _ 4 (sx_at _ _ _ _)
  have A1 : Arr W6 w1.heap.size 4 (sx a0 a1 a2 a3) := by rw [← hW]; exact A1.al' _
  have A2 : Arr W6 w3.heap.size 4 (sx a0 a1 a2 a3) := by rw [← hW]; exact A2.al' _
  have B6 : Below w.heap.size w W6 := by rw [← hW]; exact Bel.al B5 _
  clear hW B5 k0 k1 k2 k3
  refine (C9 _).mono ?_
  rintro q w7 ⟨rfl, hb⟩
  have A1 := (A1.to' hb).al' (.cells #[.string b0, .string b1, .string b2, .string b3] 23)
  have A2 := (A2.to' hb).al' (.cells #[.string b0, .string b1, .string b2, .string b3] 23)
  have A3 := (A3.to' hb).al' (.cells #[.string b0, .string b1, .string b2, .string b3] 23)
  have A4 := Arr.new w7 #[.string b0, .string b1, .string b2, .string b3] 23 _ rfl _ 4 (sx_at _ _ _ _)
  have B7 := Bel.call B6 hb
  have B8 := Bel.al B7 (.cells #[.string b0, .string b1, .string b2, .string b3] 23)
  have T8 := hT.to B8
  clear hb C9 B6 B7
  obtain ⟨⟨c0, c1, c2, c3⟩, -⟩ := A1.four
  obtain ⟨⟨d0, d1, d2, d3⟩, -⟩ := A2.four
  obtain ⟨⟨k0, k1, k2, k3⟩, -⟩ := A3.four
  obtain ⟨⟨j0, j1, j2, j3⟩, -⟩ := A4.four
  clear A1 A2 A3 A4
  go_wp2_with fail
  refine (CA _ T8).mono ?_
  rintro q w9 ⟨rfl, hb⟩
  have B9 := Bel.call B8 hb
  clear hb CA
  go_wp2_with fail
  go_ret
  exact ⟨rfl, B9⟩
theorem secrets_law (s d x0 x1 x2 x3 : ByteArray) (hs : s.size ≤ maxLen) (hd : d.size ≤ maxLen) (hx : x0.size ≤ maxLen) (w : World) (hT : Tab w) :
    Calls Tryd.prog 3 #[.string s, .string d, sec x0 x1 x2 x3] w fun e w' => e = .returned (.bool true) ∧ Below w.heap.size w w' :=
  secrets_core s d x0 x1 x2 x3 _ _ _ _ _ _ _ _ _ _ w hT (fun W hW => hand_any s d hs hd W hW) (fun W => rhand_any s d hs hd W) (fun W hW => mast_any x0 x1 x2 x3 d hx hd W hW) (fun W => rmast_any x0 x1 x2 x3 d hx hd W) (fun W hW => awake_any W hW)
end Go.Proofs.YtfglpcfacjedmaaDoor
