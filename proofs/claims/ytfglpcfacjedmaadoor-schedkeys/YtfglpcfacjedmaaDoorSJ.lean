/- SchedKeys: the law's walk. -/
import Derived.Test.YtfglpcfacjedmaaDoorSI
set_option linter.all false
set_option maxRecDepth 100000
namespace Go.Proofs.YtfglpcfacjedmaaDoor
open Go.RowKit Go.Sort
set_option maxHeartbeats 2000000 in
theorem keys_long (s d x0 x1 x2 x3 l c : ByteArray) (n : Int) (w : World) (hT : Tab w) (hc : c.size ≤ maxLen) (h : 2000 < c.size)
    (CA : ∀ W, Tab W → Calls Tryd.prog 10 #[] W fun e w' => e = .returned (.bool true) ∧ Below W.heap.size W w') :
    Calls Tryd.prog 4 #[.string s, .string d, sec x0 x1 x2 x3, .string l, .string c, .int .i64 n] w fun e w' => e = .returned (.bool true) ∧ Below w.heap.size w w' := by
  unfold sec maxLen at *
  have i1 : (2000 : Int) < (c.size : Int) := by omega
  have B0 : Below w.heap.size w (w.alloc (.cells #[.string x0, .string x1, .string x2, .string x3] 23)) := by go_grown
  have T0 := hT.to B0
  go_enter Tryd.func4, Tryd.ntmps4
  go_wp2_with fail
  refine (CA _ T0).mono ?_
  rintro q w1 ⟨rfl, hb⟩
  have B1 := Bel.call B0 hb
  clear hb CA B0
  go_wp2_with fail
  go_ret
  exact ⟨rfl, B1⟩
set_option maxHeartbeats 4000000 in
theorem keys_core (s d x0 x1 x2 x3 l c K I F X : ByteArray) (n e f g : Int) (w : World) (hT : Tab w) (h : c.size ≤ 2000)
    (C11 : ∀ W, Tab W → Calls Tryd.prog 11 #[.string s] W fun q w' => q = .returned (.tuple #[sid K I, .int .i64 e]) ∧ Below W.heap.size W w')
    (C12 : ∀ W, Calls Tryd.prog 12 #[.string s] W fun q w' => q = .returned (.tuple #[sid K I, .int .i64 e]) ∧ Below W.heap.size W w')
    (C13 : ∀ W, Tab W → Calls Tryd.prog 13 #[.string s, .string d] W fun q w' => q = .returned (.tuple #[.string F, .int .i64 f]) ∧ Below W.heap.size W w')
    (C14 : ∀ W, Calls Tryd.prog 14 #[.string s, .string d] W fun q w' => q = .returned (.tuple #[.string F, .int .i64 f]) ∧ Below W.heap.size W w')
    (C15 : ∀ W, Tab W → Calls Tryd.prog 15 #[sec x0 x1 x2 x3, .string l, .string c, .int .i64 n] W fun q w' => q = .returned (.tuple #[.string X, .int .i64 g]) ∧ Below W.heap.size W w')
    (C16 : ∀ W, Calls Tryd.prog 16 #[sec x0 x1 x2 x3, .string l, .string c, .int .i64 n] W fun q w' => q = .returned (.tuple #[.string X, .int .i64 g]) ∧ Below W.heap.size W w')
    (CA : ∀ W, Tab W → Calls Tryd.prog 10 #[] W fun e w' => e = .returned (.bool true) ∧ Below W.heap.size W w') :
    Calls Tryd.prog 4 #[.string s, .string d, sec x0 x1 x2 x3, .string l, .string c, .int .i64 n] w fun e w' => e = .returned (.bool true) ∧ Below w.heap.size w w' := by
  unfold sec sid at *
  have q1 := eq35 K I 0
  have i1 : ¬ (2000 : Int) < (c.size : Int) := by omega
  go_enter Tryd.func4, Tryd.ntmps4
  go_wp2_with fail
  generalize hW : World.alloc _ _ = W1
  have AX : Arr W1 w.heap.size 4 (sx x0 x1 x2 x3) := by
    rw [← hW]
    exact Arr.new _ _ _ _ rfl _ 4 (sx_at _ _ _ _)
  have B0 : Below w.heap.size w W1 := by rw [← hW]; go_grown
  have T0 := hT.to B0
  clear hW
  refine (C11 _ T0).mono ?_
  rintro q w1 ⟨rfl, hb⟩
  have AX := AX.to' hb
  have B1 := Bel.call B0 hb
  clear hb C11 B0 T0
  go_wp2_with fail
  generalize hW : World.alloc _ _ = W2
  have A1 : Arr W2 w1.heap.size 3 (dx K I) := by
    rw [← hW]
    exact Arr.new _ _ _ _ rfl _ 3 (dx_at _ _)
  have AX : Arr W2 w.heap.size 4 (sx x0 x1 x2 x3) := by rw [← hW]; exact AX.al' _
  have B2 : Below w.heap.size w W2 := by rw [← hW]; exact Bel.al B1 _
  clear hW B1
  refine (C12 _).mono ?_
  rintro q w3 ⟨rfl, hb⟩
  have AX := AX.to' hb
  have A1 := A1.to' hb
  have B3 := Bel.call B2 hb
  clear hb C12 B2
  go_wp2_with fail
  generalize hW : World.alloc _ _ = W4
  have A2 : Arr W4 w3.heap.size 3 (dx K I) := by
    rw [← hW]
    exact Arr.new _ _ _ _ rfl _ 3 (dx_at _ _)
  have AX : Arr W4 w.heap.size 4 (sx x0 x1 x2 x3) := by rw [← hW]; exact AX.al' _
  have A1 : Arr W4 w1.heap.size 3 (dx K I) := by rw [← hW]; exact A1.al' _
  have B4 : Below w.heap.size w W4 := by rw [← hW]; exact Bel.al B3 _
  have T4 := hT.to B4
  clear hW B3
  refine (C13 _ T4).mono ?_
  rintro q w5 ⟨rfl, hb⟩
  have AX := AX.to' hb
  have A1 := A1.to' hb
  have A2 := A2.to' hb
  have B5 := Bel.call B4 hb
  clear hb C13 B4 T4
  go_wp2_with fail
  refine (C14 _).mono ?_
  rintro q w6 ⟨rfl, hb⟩
  have AX := AX.to' hb
  have A1 := A1.to' hb
  have A2 := A2.to' hb
  have B6 := Bel.call B5 hb
  have T6 := hT.to B6
  clear hb C14 B5
  obtain ⟨⟨k0, k1, k2, k3⟩, -⟩ := AX.four
  go_wp2_with fail
  refine (C15 _ T6).mono ?_
  rintro q w7 ⟨rfl, hb⟩
  have AX := AX.to' hb
  have A1 := A1.to' hb
  have A2 := A2.to' hb
  have B7 := Bel.call B6 hb
  clear hb C15 B6 T6 k0 k1 k2 k3
  obtain ⟨⟨k0, k1, k2, k3⟩, -⟩ := AX.four
  go_wp2_with fail
  refine (C16 _).mono ?_
  rintro q w8 ⟨rfl, hb⟩
  have A1 := A1.to' hb
  have A2 := A2.to' hb
  have B8 := Bel.call B7 hb
  have T8 := hT.to B8
  clear hb C16 B7 k0 k1 k2 k3 AX
  obtain ⟨⟨c0, c1, c2⟩, -⟩ := A1.three
  obtain ⟨⟨d0, d1, d2⟩, -⟩ := A2.three
  clear A1 A2
  go_wp2_with fail
  refine (CA _ T8).mono ?_
  rintro q w9 ⟨rfl, hb⟩
  have B9 := Bel.call B8 hb
  clear hb CA
  go_wp2_with fail
  go_ret
  exact ⟨rfl, B9⟩
theorem keys_law (s d x0 x1 x2 x3 l c : ByteArray) (n : Int) (hs : s.size ≤ maxLen) (hd : d.size ≤ maxLen) (hx : x3.size ≤ maxLen) (hl : l.size ≤ maxLen) (hc : c.size ≤ maxLen) (w : World) (hT : Tab w) :
    Calls Tryd.prog 4 #[.string s, .string d, sec x0 x1 x2 x3, .string l, .string c, .int .i64 n] w fun e w' => e = .returned (.bool true) ∧ Below w.heap.size w w' := by
  by_cases h : 2000 < c.size
  · exact keys_long s d x0 x1 x2 x3 l c n w hT hc h (fun W hW => awake_any W hW)
  · exact keys_core s d x0 x1 x2 x3 l c _ _ _ _ n _ _ _ w hT (by omega) (fun W hW => side_any s hs W hW) (fun W => rside_any s hs W) (fun W hW => fin_any s d hs hd W hW) (fun W => rfin_any s d hs hd W)
      (fun W hW => exp_any x0 x1 x2 x3 l c n hx hl (by omega) W hW) (fun W => rexp_any x0 x1 x2 x3 l c n hx hl (by omega) W) (fun W hW => awake_any W hW)
end Go.Proofs.YtfglpcfacjedmaaDoor
