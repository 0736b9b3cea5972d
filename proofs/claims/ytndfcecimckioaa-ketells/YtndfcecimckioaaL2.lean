/- KeTells, by what the program's functions do. -/
import Derived.Test.YtndfcecimckioaaL1
set_option linter.all false
set_option maxRecDepth 100000
namespace Go.Proofs.Ytndfcecimckioaa
open Go.RowKit Go.Shelf Go.Sort Go.Lib
theorem tpR_len (s : ByteArray) : (tpR s).length ≤ s.size := by
  unfold tpR
  split
  · rw [tpL_len, len_list]; omega
  · exact Nat.zero_le _
set_option maxHeartbeats 2000000 in
theorem KeTells_any (CW : CWr) (CR : CRd) (CP : CPr) (CT : CTp) (CF : CFd) (CU : CUn) (n : List Int) (s : ByteArray) (l : List Ke) (kd : Int) (vn v : Value) (w : World) (HN : Nls w vn n) (H : Kls w v l) (h9 : l.length ≤ 9223372036854775807) (n9 : n.length ≤ 9223372036854775807) (hs : s.size ≤ 9223372036854775807) :
    Calls Try.prog 4 #[vn, .string s, v, .int .i64 kd] w fun e w' => e = .returned (.bool true) ∧ Below w.heap.size w w' := by
  have CA := awake_any CW CR
  have hv : ∃ a c, v = .slice a l.length c := by obtain ⟨a, c, e, _⟩ := H; exact ⟨a, c, e⟩
  obtain ⟨a, c, rfl⟩ := hv
  have hv : ∃ a c, vn = .slice a n.length c := by obtain ⟨a, c, e, _⟩ := HN; exact ⟨a, c, e⟩
  obtain ⟨a', c', rfl⟩ := hv
  have m1 : (l.length : Int) ≤ 9223372036854775807 := by omega
  have m2 : (n.length : Int) ≤ 9223372036854775807 := by omega
  have m3 : (s.size : Int) ≤ 9223372036854775807 := by omega
  by_cases h0 : 2000 < n.length
  · have i1 : (2000 : Int) < (n.length : Int) := by omega
    clear CW CR CP CT CF CU H HN
    go_enter Try.func4, Try.ntmps4
    go_wp2_with (go_at_call 7; refine (CA _).mono ?_; rintro e w9 ⟨rfl, b9⟩)
    go_ret
    exact ⟨rfl, b9⟩
  have i0 : ¬ (2000 : Int) < (n.length : Int) := by omega
  by_cases h2 : 20000 < s.size
  · have i2 : (20000 : Int) < (s.size : Int) := by omega
    clear CW CR CP CT CF CU H HN
    go_enter Try.func4, Try.ntmps4
    go_wp2_with (go_at_call 7; refine (CA _).mono ?_; rintro e w9 ⟨rfl, b9⟩)
    go_ret
    exact ⟨rfl, b9⟩
  have i2 : ¬ (20000 : Int) < (s.size : Int) := by omega
  by_cases h1 : 2000 < l.length
  · have i1 : (2000 : Int) < (l.length : Int) := by omega
    clear CW CR CP CT CF CU H HN
    go_enter Try.func4, Try.ntmps4
    go_wp2_with (go_at_call 7; refine (CA _).mono ?_; rintro e w9 ⟨rfl, b9⟩)
    go_ret
    exact ⟨rfl, b9⟩
  have i1 : ¬ (2000 : Int) < (l.length : Int) := by omega
  have C1 := fun W (h : Nls W _ n) => CP n (.slice a' n.length c') W h (by omega)
  have C2 := fun W (h : Nls W _ n) => rPairs_any n (.slice a' n.length c') W h n9
  have C3 := fun W => CT s W (by omega)
  have C4 := fun W => rToPairs_any s hs W
  have CI := fun v1 v2 W (k1 : Nls W v1 (tpR s)) (k2 : Nls W v2 (tpR s)) => rInts_any (tpR s) (tpR s) v1 v2 W k1 k2 (by have := tpR_len s; omega) (by have := tpR_len s; omega)
  rw [decide_eq_true rfl] at CI
  have C5 := fun W (h : Kls W _ l) => CF l kd (.slice a l.length c) W h (by omega)
  have C6 := fun W (h : Kls W _ l) => rFind_any l kd (.slice a l.length c) W h (by omega)
  have hF : (fdL l kd).length ≤ 9223372036854775807 := by have := fdL_len l kd; omega
  have CS := fun v1 v2 W (k1 : Kls W v1 (fdL l kd)) (k2 : Kls W v2 (fdL l kd)) => rSame_any (fdL l kd) (fdL l kd) v1 v2 W k1 k2 hF hF
  rw [kesB_self] at CS
  have C7 := fun W (h : Kls W _ l) => CU l (.slice a l.length c) W h (by omega)
  have C8 := fun W (h : Kls W _ l) => rUnknown_any l (.slice a l.length c) W h h9
  clear CW CR CP CT CF CU h1 h2 h0 h9 n9 hs hF
  generalize prS n = S at *
  generalize prE n = E at *
  generalize tpE s.size = F at *
  generalize tpR s = T at *
  generalize fdL l kd = D at *
  generalize unI l 0 = U at *
  go_enter Try.func4, Try.ntmps4
  go_wp2_with fail
  refine (C1 _ HN).mono ?_
  rintro e w1 ⟨rfl, b1⟩
  have N1 := HN.to b1
  have H1 := H.to b1
  clear HN H C1
  go_wp2_with fail
  refine (C2 _ N1).mono ?_
  rintro e w2 ⟨rfl, b2⟩
  have H2 := H1.to b2
  have B2 := Bel.call b1 b2
  clear H1 N1 C2 b1 b2
  go_wp2_with fail
  refine (C3 _).mono ?_
  rintro e w3 ⟨⟨v3, rfl, k3⟩, b3⟩
  have H3 := H2.to b3
  have B3 := Bel.call B2 b3
  clear H2 B2 b3 C3
  go_wp2_with fail
  refine (C4 _).mono ?_
  rintro e w4 ⟨⟨v4, rfl, k4⟩, b4⟩
  have H4 := H3.to b4
  have k3' := k3.to b4
  have B4 := Bel.call B3 b4
  clear H3 B3 b4 C4 k3
  go_wp2_with fail
  refine (CI _ _ _ k3' k4).mono ?_
  rintro e w5 ⟨rfl, b5⟩
  have H5 := H4.to b5
  have B5 := Bel.call B4 b5
  clear H4 B4 b5 CI k3' k4
  go_wp2_with fail
  refine (C5 _ H5).mono ?_
  rintro e w6 ⟨⟨v6, rfl, k6⟩, b6⟩
  have H6 := H5.to b6
  have B6 := Bel.call B5 b6
  clear H5 B5 b6 C5
  go_wp2_with fail
  refine (C6 _ H6).mono ?_
  rintro e w7 ⟨⟨v7, rfl, k7⟩, b7⟩
  have H7 := H6.to b7
  have k6' := k6.to b7
  have B7 := Bel.call B6 b7
  clear H6 B6 b7 C6 k6
  go_wp2_with fail
  refine (CS _ _ _ k6' k7).mono ?_
  rintro e w8 ⟨rfl, b8⟩
  have H8 := H7.to b8
  have B8 := Bel.call B7 b8
  clear H7 B7 b8 CS k6' k7
  go_wp2_with fail
  refine (C7 _ H8).mono ?_
  rintro e w9 ⟨rfl, b9⟩
  have H9 := H8.to b9
  have B9 := Bel.call B8 b9
  clear H8 B8 b9 C7
  go_wp2_with fail
  refine (C8 _ H9).mono ?_
  rintro e w10 ⟨rfl, b10⟩
  have B10 := Bel.call B9 b10
  clear H9 B9 b10 C8
  go_wp2_with fail
  refine (CA _).mono ?_
  rintro e w11 ⟨rfl, b11⟩
  have B11 := Bel.call B10 b11
  clear B10 b11 CA
  go_wp2_with fail
  go_ret
  exact ⟨rfl, B11⟩
end Go.Proofs.Ytndfcecimckioaa
