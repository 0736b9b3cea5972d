/- SchedSizes: the law's walk. -/
import Derived.Test.YtfglpcfacjedmaaDoorSI
set_option linter.all false
set_option maxRecDepth 100000
namespace Go.Proofs.YtfglpcfacjedmaaDoor
open Go.RowKit Go.Sort
set_option maxHeartbeats 4000000 in
theorem sizes_no (s d K I F a0 a1 a2 a3 : ByteArray) (n e : Int) (w : World) (hT : Tab w) (hs : s.size ≤ maxLen) (hd : d.size ≤ maxLen) (h : (¬ s.size = 32 ∧ e = 10) ∨ (s.size = 32 ∧ ¬ d.size = 32 ∧ e = 0))
    (C11 : ∀ W, Tab W → Calls Tryd.prog 11 #[.string s] W fun q w' => q = .returned (.tuple #[sid K I, .int .i64 e]) ∧ Below W.heap.size W w')
    (C13 : ∀ W, Tab W → Calls Tryd.prog 13 #[.string s, .string d] W fun q w' => q = .returned (.tuple #[.string F, .int .i64 10]) ∧ Below W.heap.size W w')
    (C6 : ∀ W, Tab W → Calls Tryd.prog 6 #[.string s, .string d] W fun q w' => q = .returned (.tuple #[sec a0 a1 a2 a3, .int .i64 10]) ∧ Below W.heap.size W w')
    (CA : ∀ W, Tab W → Calls Tryd.prog 10 #[] W fun e w' => e = .returned (.bool true) ∧ Below W.heap.size W w') :
    Calls Tryd.prog 5 #[.string s, .string d, .int .u16 n] w fun e w' => e = .returned (.bool true) ∧ Below w.heap.size w w' := by
  unfold sec sid maxLen at *
  go_enter Tryd.func5, Tryd.ntmps5
  go_wp2_with fail
  refine (C11 _ hT).mono ?_
  rintro q w1 ⟨rfl, B1⟩
  have B2 := Bel.al B1 (.cells #[.string K, .string I, .int .u64 0] 35)
  have T2 := hT.to B2
  clear C11 B1
  go_wp2_with fail
  generalize w1.alloc (.cells #[.string K, .string I, .int .u64 0] 35) = W2 at *
  refine (C13 _ T2).mono ?_
  rintro q w3 ⟨rfl, hb⟩
  have B3 := Bel.call B2 hb
  have T3 := hT.to B3
  clear C13 B2 T2 hb
  go_wp2_with fail
  refine (C6 _ T3).mono ?_
  rintro q w4 ⟨rfl, hb⟩
  have B4 := Bel.call B3 hb
  have B5 := Bel.al B4 (.cells #[.string a0, .string a1, .string a2, .string a3] 23)
  have T5 := hT.to B5
  clear C6 B3 T3 hb B4
  rcases h with ⟨h1, rfl⟩ | ⟨h1, h2, rfl⟩
  · have i1 : ¬ (s.size : Int) = 32 := by omega
    go_wp2_with fail
    refine (CA _ T5).mono ?_
    rintro q w6 ⟨rfl, hb⟩
    have B6 := Bel.call B5 hb
    clear hb CA B5
    go_wp2_with fail
    go_ret
    exact ⟨rfl, B6⟩
  · have i1 : (s.size : Int) = 32 := by omega
    have i2 : ¬ (d.size : Int) = 32 := by omega
    go_wp2_with fail
    refine (CA _ T5).mono ?_
    rintro q w6 ⟨rfl, hb⟩
    have B6 := Bel.call B5 hb
    clear hb CA B5
    go_wp2_with fail
    go_ret
    exact ⟨rfl, B6⟩
set_option maxHeartbeats 4000000 in
theorem sizes_yes (s d K I F a0 a1 a2 a3 b0 b1 b2 b3 X : ByteArray) (n : Int) (w : World) (hT : Tab w) (hs : s.size = 32) (hd : d.size = 32) (n0 : 0 ≤ n) (n1 : n < 65536)
    (zK : K.size = 16) (zI : I.size = 12) (zF : F.size = 32) (z1 : a1.size = 32) (z2 : a2.size = 32) (z3 : b3.size = 32) (zX : (X.size : Int) = n % 8000)
    (C11 : ∀ W, Tab W → Calls Tryd.prog 11 #[.string s] W fun q w' => q = .returned (.tuple #[sid K I, .int .i64 0]) ∧ Below W.heap.size W w')
    (C13 : ∀ W, Tab W → Calls Tryd.prog 13 #[.string s, .string d] W fun q w' => q = .returned (.tuple #[.string F, .int .i64 0]) ∧ Below W.heap.size W w')
    (C6 : ∀ W, Tab W → Calls Tryd.prog 6 #[.string s, .string d] W fun q w' => q = .returned (.tuple #[sec a0 a1 a2 a3, .int .i64 0]) ∧ Below W.heap.size W w')
    (C8 : ∀ W, Tab W → Calls Tryd.prog 8 #[sec a0 a1 a2 a3, .string d] W fun q w' => q = .returned (.tuple #[sec b0 b1 b2 b3, .int .i64 0]) ∧ Below W.heap.size W w')
    (C15 : ∀ W, Tab W → Calls Tryd.prog 15 #[sec b0 b1 b2 b3, .string ⟨#[108, 97, 98, 101, 108]⟩, .string ⟨#[99, 111, 110, 116, 101, 120, 116]⟩, .int .i64 (n % 8000)] W fun q w' => q = .returned (.tuple #[.string X, .int .i64 0]) ∧ Below W.heap.size W w')
    (CA : ∀ W, Tab W → Calls Tryd.prog 10 #[] W fun e w' => e = .returned (.bool true) ∧ Below W.heap.size W w') :
    Calls Tryd.prog 5 #[.string s, .string d, .int .u16 n] w fun e w' => e = .returned (.bool true) ∧ Below w.heap.size w w' := by
  unfold sec sid at *
  have i1 : (s.size : Int) = 32 := by omega
  have i2 : (d.size : Int) = 32 := by omega
  have i3 : (K.size : Int) = 16 := by omega
  have i4 : (I.size : Int) = 12 := by omega
  have i5 : (F.size : Int) = 32 := by omega
  have i6 : (a1.size : Int) = 32 := by omega
  have i7 : (a2.size : Int) = 32 := by omega
  have i8 : (b3.size : Int) = 32 := by omega
  clear hs hd zK zI zF z1 z2 z3
  go_enter Tryd.func5, Tryd.ntmps5
  go_wp2_with fail
  refine (C11 _ hT).mono ?_
  rintro q w1 ⟨rfl, B1⟩
  clear C11
  go_wp2_with fail
  generalize hW : World.alloc _ _ = W2
  have A1 : Arr W2 w1.heap.size 3 (dx K I) := by
    rw [← hW]
    exact Arr.new _ _ _ _ rfl _ 3 (dx_at _ _)
  have B2 : Below w.heap.size w W2 := by rw [← hW]; exact Bel.al B1 _
  have T2 := hT.to B2
  clear hW B1
  refine (C13 _ T2).mono ?_
  rintro q w3 ⟨rfl, hb⟩
  have A1 := A1.to' hb
  have B3 := Bel.call B2 hb
  have T3 := hT.to B3
  clear C13 B2 T2 hb
  go_wp2_with fail
  refine (C6 _ T3).mono ?_
  rintro q w4 ⟨rfl, hb⟩
  have A1 := A1.to' hb
  have B4 := Bel.call B3 hb
  clear C6 B3 T3 hb
  have A2 := Arr.new w4 #[.string a0, .string a1, .string a2, .string a3] 23 _ rfl _ 4 (sx_at _ _ _ _)
  obtain ⟨⟨k0, k1, k2, k3⟩, -⟩ := A2.four
  go_wp2_with fail
  clear k0 k1 k2 k3
  have A1 := A1.al' (.cells #[.string a0, .string a1, .string a2, .string a3] 23)
  have B5 := Bel.al B4 (.cells #[.string a0, .string a1, .string a2, .string a3] 23)
  have T5 := hT.to B5
  clear B4
  generalize w4.alloc (.cells #[.string a0, .string a1, .string a2, .string a3] 23) = W5 at *
  refine (C8 _ T5).mono ?_
  rintro q w6 ⟨rfl, hb⟩
  have A1 := A1.to' hb
  have A2 := A2.to' hb
  have B6 := Bel.call B5 hb
  clear C8 B5 T5 hb
  have A3 := Arr.new w6 #[.string b0, .string b1, .string b2, .string b3] 23 _ rfl _ 4 (sx_at _ _ _ _)
  obtain ⟨⟨k0, k1, k2, k3⟩, -⟩ := A3.four
  go_wp2_with fail
  clear k0 k1 k2 k3
  have A1 := A1.al' (.cells #[.string b0, .string b1, .string b2, .string b3] 23)
  have A2 := A2.al' (.cells #[.string b0, .string b1, .string b2, .string b3] 23)
  have B7 := Bel.al B6 (.cells #[.string b0, .string b1, .string b2, .string b3] 23)
  have T7 := hT.to B7
  clear B6
  generalize w6.alloc (.cells #[.string b0, .string b1, .string b2, .string b3] 23) = W7 at *
  refine (C15 _ T7).mono ?_
  rintro q w8 ⟨rfl, hb⟩
  have A1 := A1.to' hb
  have A2 := A2.to' hb
  have A3 := A3.to' hb
  have B8 := Bel.call B7 hb
  have T8 := hT.to B8
  clear C15 B7 T7 hb
  obtain ⟨⟨c0, c1, c2⟩, -⟩ := A1.three
  obtain ⟨⟨d0, d1, d2, d3⟩, -⟩ := A2.four
  obtain ⟨⟨j0, j1, j2, j3⟩, -⟩ := A3.four
  clear A1 A2 A3
  go_wp2_with fail
  refine (CA _ T8).mono ?_
  rintro q w9 ⟨rfl, hb⟩
  have B9 := Bel.call B8 hb
  clear hb CA
  go_wp2_with fail
  go_ret
  exact ⟨rfl, B9⟩
theorem lbS_size (s l c : ByteArray) (n : Int) (h : infE l c n = 0) (n0 : 0 ≤ n) (n1 : n ≤ 8160) : ((lbS s l c n).size : Int) = n := by
  unfold lbS
  rw [if_pos h]
  unfold exS
  rw [if_neg (by omega), expS_size _ _ _ (by omega)]
  omega
theorem infE_small (l c : ByteArray) (n : Int) (hl : l.size ≤ 249) (hc : c.size ≤ 255) (n0 : 0 ≤ n) (n1 : n ≤ 65535) : infE l c n = 0 := by
  unfold infE
  rw [if_neg (by omega), if_neg (by omega)]
theorem lbE_small (l c : ByteArray) (n : Int) (hl : l.size ≤ 249) (hc : c.size ≤ 255) (n0 : 0 ≤ n) (n1 : n ≤ 8160) : lbE l c n = 0 := by
  unfold lbE
  rw [if_pos (infE_small l c n hl hc n0 (by omega))]
  unfold exE
  rw [if_neg (by omega)]
theorem dv_size (s l d : ByteArray) (hl : l.size ≤ 249) (hd : d.size ≤ 255) : (dv s l d).size = 32 := by
  have := lbS_size s l d 32 (infE_small l d 32 hl hd (by omega) (by omega)) (by omega) (by omega)
  unfold dv
  omega
theorem lb_size (s l : ByteArray) (n : Nat) (hl : l.size ≤ 249) (n1 : n ≤ 8160) : (lb s l n).size = n := by
  have := lbS_size s l ⟨#[]⟩ n (infE_small l ⟨#[]⟩ n hl (by decide) (by omega) (by omega)) (by omega) (by omega)
  unfold lb
  omega
theorem sizes_law (s d : ByteArray) (n : Int) (n0 : 0 ≤ n) (n1 : n < 65536) (hs : s.size ≤ maxLen) (hd : d.size ≤ maxLen) (w : World) (hT : Tab w) :
    Calls Tryd.prog 5 #[.string s, .string d, .int .u16 n] w fun e w' => e = .returned (.bool true) ∧ Below w.heap.size w w' := by
  have C11 := fun W hW => side_any s hs W hW
  have C13 := fun W hW => fin_any s d hs hd W hW
  have C6 := fun W hW => hand_any s d hs hd W hW
  by_cases h : ok2 s d
  · have eh : hE s d = 0 := by unfold hE; rw [if_pos h]
    have ed : dE s = 0 := by unfold dE; rw [if_pos h.1]
    have zB : (hB s d).size = 32 := by unfold hB; rw [if_pos h, nxs_size]
    have hm : ok2 (hB s d) d := ⟨zB, h.2⟩
    have em : hE (hB s d) d = 0 := by unfold hE; rw [if_pos hm]
    have zX : (mX (hB s d) d).size = 32 := by unfold mX; rw [if_pos hm, dv_size _ _ _ (by decide) (by have := h.2; omega)]
    have e1 : lbE ⟨#[108, 97, 98, 101, 108]⟩ (ofS ⟨#[]⟩) 32 = 0 := lbE_small _ _ _ (by decide) (by rw [ofS_size]; omega) (by omega) (by omega)
    have xe : xE (mX (hB s d) d) ⟨#[108, 97, 98, 101, 108]⟩ ⟨#[99, 111, 110, 116, 101, 120, 116]⟩ (n % 8000) = 0 := by
      unfold xE
      rw [if_pos zX, if_pos e1]
      exact lbE_small _ _ _ (by decide) (by rw [ofS_size]; omega) (by omega) (by omega)
    have C8 := fun W hW => mast_any (hB s d) (hC s d) (hS s d) ⟨#[]⟩ d (by rw [zB]; decide) hd W hW
    have C15 := fun W hW => exp_any (mB (hB s d) d) (mC (hB s d) d) (mS (hB s d) d) (mX (hB s d) d) ⟨#[108, 97, 98, 101, 108]⟩ ⟨#[99, 111, 110, 116, 101, 120, 116]⟩ (n % 8000) (by rw [zX]; decide) (by decide) (by decide) W hW
    rw [eh] at C13 C6
    rw [ed] at C11
    rw [em] at C8
    rw [xe] at C15
    refine sizes_yes s d _ _ _ _ _ _ _ _ _ _ _ _ n w hT h.1 h.2 n0 n1 ?_ ?_ ?_ ?_ ?_ zX ?_ C11 C13 C6 C8 C15 (fun W hW => awake_any W hW)
    · unfold dK; rw [if_pos h.1]; exact lb_size s _ 16 (by decide) (by omega)
    · unfold dI; rw [if_pos h.1]; exact lb_size s _ 12 (by decide) (by omega)
    · unfold fS; rw [if_pos h]; exact macS_size _ _
    · unfold hC; rw [if_pos h]; exact dv_size _ _ _ (by decide) (by have := h.2; omega)
    · unfold hS; rw [if_pos h]; exact dv_size _ _ _ (by decide) (by have := h.2; omega)
    · unfold xS
      rw [if_pos zX, if_pos e1]
      exact lbS_size _ _ _ _ (infE_small _ _ _ (by decide) (by rw [ofS_size]; omega) (by omega) (by omega)) (by omega) (by omega)
  · have eh : hE s d = 10 := by unfold hE; rw [if_neg h]
    rw [eh] at C13 C6
    refine sizes_no s d _ _ _ _ _ _ _ n _ w hT hs hd ?_ C11 C13 C6 (fun W hW => awake_any W hW)
    by_cases h1 : s.size = 32
    · exact .inr ⟨h1, fun h2 => h ⟨h1, h2⟩, by unfold dE; rw [if_pos h1]⟩
    · exact .inl ⟨h1, by unfold dE; rw [if_neg h1]⟩
end Go.Proofs.YtfglpcfacjedmaaDoor
