/- The laws of bytes: AesBytes, AesField. -/
import Derived.Test.YtnmikancbfaejaaL1
set_option linter.all false
set_option maxRecDepth 100000
namespace Go.Proofs.Ytnmikancbfaejaa
open Go.RowKit Go.Sort Lin
set_option maxHeartbeats 4000000 in
theorem bytes_law (a b : By) (w : World) : Calls Try.prog 3 #[.int .u8 (a.val : Int), .int .u8 (b.val : Int)] w fun e w' => e = .returned (.bool true) ∧ Below w.heap.size w w' := by
  have C8 := fun W => times_any a b W
  have C9 := fun W => rtimes_any a b W
  have C10 := fun W => sub_any a W
  have C11 := fun W => rsub_any a W
  have C12 := fun W => awake_any W
  generalize tmF a b = x at *
  generalize sb a = y at *
  go_enter Try.func3, Try.ntmps3
  go_wp2_with fail
  refine (C8 _).mono ?_
  rintro e w1 ⟨rfl, rfl⟩
  go_wp2_with fail
  refine (C9 _).mono ?_
  rintro e w2 ⟨rfl, rfl⟩
  go_wp2_with fail
  refine (C10 _).mono ?_
  rintro e w3 ⟨rfl, B3⟩
  go_wp2_with fail
  refine (C11 _).mono ?_
  rintro e w4 ⟨rfl, rfl⟩
  go_wp2_with fail
  refine (C12 _).mono ?_
  rintro e w5 ⟨rfl, B5⟩
  go_wp2_with fail
  go_ret
  exact ⟨rfl, Bel.call B3 B5⟩
/-- How many of the first k bytes are inverses of a. -/
def cnt (a : By) (k : Nat) : Nat := ((List.range k).filter (fun i => tm a.val i == 1)).length
theorem cnt_yes (a : By) (k : Nat) (h : tm a.val k = 1) : cnt a (k + 1) = cnt a k + 1 := by unfold cnt; rw [List.range_succ, List.filter_append, List.length_append]; simp [h]
theorem cnt_no (a : By) (k : Nat) (h : ¬ tm a.val k = 1) : cnt a (k + 1) = cnt a k := by unfold cnt; rw [List.range_succ, List.filter_append, List.length_append]; simp [h]
theorem cnt_le (a : By) (k : Nat) : cnt a k ≤ k := by unfold cnt; refine Nat.le_trans (List.length_filter_le _ _) ?_; simp
theorem cnt_all (a : By) : cnt a 256 = if a = 0 then 0 else 1 := by
  unfold cnt
  split
  · next h => rw [h]; exact inv_none
  · next h => exact inv_one a (fun e => h (Fin.ext e))
set_option maxHeartbeats 8000000 in
theorem field_core (a b c x y z u v d : By) (w : World) (ea : Bool)
    (Cab : ∀ W, Calls Try.prog 8 #[.int .u8 (a.val : Int), .int .u8 (b.val : Int)] W fun e w' => e = .returned (.int .u8 (x.val : Int)) ∧ w' = W)
    (Cba : ∀ W, Calls Try.prog 8 #[.int .u8 (b.val : Int), .int .u8 (a.val : Int)] W fun e w' => e = .returned (.int .u8 (x.val : Int)) ∧ w' = W)
    (Cxc : ∀ W, Calls Try.prog 8 #[.int .u8 (x.val : Int), .int .u8 (c.val : Int)] W fun e w' => e = .returned (.int .u8 (u.val : Int)) ∧ w' = W)
    (Cbc : ∀ W, Calls Try.prog 8 #[.int .u8 (b.val : Int), .int .u8 (c.val : Int)] W fun e w' => e = .returned (.int .u8 (v.val : Int)) ∧ w' = W)
    (Cav : ∀ W, Calls Try.prog 8 #[.int .u8 (a.val : Int), .int .u8 (v.val : Int)] W fun e w' => e = .returned (.int .u8 (u.val : Int)) ∧ w' = W)
    (hbc : bits .xor .u8 (b.val : Int) (c.val : Int) = (d.val : Int))
    (Cad : ∀ W, Calls Try.prog 8 #[.int .u8 (a.val : Int), .int .u8 (d.val : Int)] W fun e w' => e = .returned (.int .u8 (y.val : Int)) ∧ w' = W)
    (Cac : ∀ W, Calls Try.prog 8 #[.int .u8 (a.val : Int), .int .u8 (c.val : Int)] W fun e w' => e = .returned (.int .u8 (z.val : Int)) ∧ w' = W)
    (hxz : bits .xor .u8 (x.val : Int) (z.val : Int) = (y.val : Int))
    (Ca1 : ∀ W, Calls Try.prog 8 #[.int .u8 (a.val : Int), .int .u8 1] W fun e w' => e = .returned (.int .u8 (a.val : Int)) ∧ w' = W)
    (Cai : ∀ k : Nat, k < 256 → ∀ W, Calls Try.prog 8 #[.int .u8 (a.val : Int), .int .u8 (k : Int)] W fun e w' => e = .returned (.int .u8 ((tm a.val k : Nat) : Int)) ∧ w' = W)
    (s t : By) (hst : s = t ↔ a = b)
    (Csa : ∀ W, Calls Try.prog 10 #[.int .u8 (a.val : Int)] W fun e w' => e = .returned (.int .u8 (s.val : Int)) ∧ Below W.heap.size W w')
    (Csb : ∀ W, Calls Try.prog 10 #[.int .u8 (b.val : Int)] W fun e w' => e = .returned (.int .u8 (t.val : Int)) ∧ Below W.heap.size W w')
    (C12 : ∀ W, Calls Try.prog 12 #[] W fun e w' => e = .returned (.bool true) ∧ Below W.heap.size W w') :
    Calls Try.prog 7 #[.int .u8 (a.val : Int), .int .u8 (b.val : Int), .int .u8 (c.val : Int)] w fun e w' => e = .returned (.bool true) ∧ Below w.heap.size w w' := by
  go_enter Try.func7, Try.ntmps7
  go_wp2_with fail
  refine (Cab _).mono ?_
  rintro e w1 ⟨rfl, rfl⟩
  go_wp2_with fail
  refine (Cba _).mono ?_
  rintro e w1 ⟨rfl, rfl⟩
  go_wp2_with fail
  refine (Cxc _).mono ?_
  rintro e w1 ⟨rfl, rfl⟩
  go_wp2_with fail
  refine (Cbc _).mono ?_
  rintro e w1 ⟨rfl, rfl⟩
  go_wp2_with fail
  refine (Cav _).mono ?_
  rintro e w1 ⟨rfl, rfl⟩
  go_wp2_with fail
  refine (Cad _).mono ?_
  rintro e w1 ⟨rfl, rfl⟩
  go_wp2_with fail
  refine (Cac _).mono ?_
  rintro e w1 ⟨rfl, rfl⟩
  go_wp2_with fail
  refine (Ca1 _).mono ?_
  rintro e w1 ⟨rfl, rfl⟩
  clear Cab Cba Cxc Cbc Cav Cad Cac Ca1 hbc hxz
  go_wp2_with fail
  go_loopw [8, 48] (fun n i wr => ∃ k : Nat, k ≤ 256 ∧ n = .int .i64 (cnt a k : Int) ∧ i = .int .i64 (k : Int) ∧ wr = w1) (fun _ i _ => 256 - (intOf i).toNat)
  case atStart => exact ⟨0, by omega, rfl, rfl, rfl⟩
  case round =>
    obtain ⟨k, hk, rfl, rfl, rfl⟩ := hrel
    have k0 : (0 : Int) ≤ (k : Int) := by omega
    by_cases hlt : k < 256
    · have k1 : (k : Int) < 256 := by omega
      have cl := cnt_le a k
      have n0 : (0 : Int) ≤ (cnt a k : Int) := by omega
      have n1 : (cnt a k : Int) ≤ 256 := by omega
      have ci := Cai k hlt
      by_cases ht : tm a.val k = 1
      · rw [ht] at ci
        rw [show ((1 : Nat) : Int) = 1 from rfl] at ci
        have HC : Hid _ := cnt_yes a k ht
        clear ht Cai cl Csa Csb C12
        go_wp2_with (go_at_call 8; refine (ci _).mono ?_; rintro e w1 ⟨rfl, rfl⟩)
        exact ⟨⟨k + 1, by omega, by rw [HC.out]; go_num, by go_num, trivial⟩, by simp [intOf]; omega⟩
      · have hi : ¬ ((tm a.val k : Nat) : Int) = 1 := by omega
        have HC : Hid _ := cnt_no a k ht
        clear ht Cai cl Csa Csb C12
        generalize ((tm a.val k : Nat) : Int) = q at *
        go_wp2_with (go_at_call 8; refine (ci _).mono ?_; rintro e w1 ⟨rfl, rfl⟩)
        exact ⟨⟨k + 1, by omega, by rw [HC.out], by go_num, trivial⟩, by simp [intOf]; omega⟩
    · have e : k = 256 := by omega
      rw [show ((k : Nat) : Int) = 256 by omega]
      subst e
      have ca := cnt_all a
      clear Cai hk hlt k0
      by_cases h0 : a = 0
      · rw [if_pos h0] at ca
        have hi : (a.val : Int) = 0 := by rw [h0]; rfl
        rw [ca]
        rw [hi] at Csa
        by_cases hab : a = b
        · have es : s = t := hst.2 hab
          subst hab
          subst es
          clear hst Csb ca
          go_wp2_with fail
          refine (Csa _).mono ?_
          rintro e w2 ⟨rfl, B2⟩
          go_wp2_with fail
          refine (Csa _).mono ?_
          rintro e w3 ⟨rfl, B3⟩
          go_wp2_with fail
          refine (C12 _).mono ?_
          rintro e w4 ⟨rfl, B4⟩
          go_wp2_with fail
          go_ret
          exact ⟨rfl, Bel.call (Bel.call B2 B3) B4⟩
        · have ns : ¬ s = t := fun h => hab (hst.1 h)
          have i1 : ¬ (a.val : Int) = (b.val : Int) := fun e => hab (Fin.ext (by omega))
          have i2 : ¬ (s.val : Int) = (t.val : Int) := fun e => ns (Fin.ext (by omega))
          rw [hi] at i1
          have j1 := beq_false_of_ne i1
          have j2 := beq_false_of_ne i2
          clear hst ca hab ns
          go_wp2_with fail
          refine (Csa _).mono ?_
          rintro e w2 ⟨rfl, B2⟩
          go_wp2_with fail
          refine (Csb _).mono ?_
          rintro e w3 ⟨rfl, B3⟩
          go_wp2_with fail
          refine (C12 _).mono ?_
          rintro e w4 ⟨rfl, B4⟩
          go_wp2_with fail
          go_ret
          exact ⟨rfl, Bel.call (Bel.call B2 B3) B4⟩
      · rw [if_neg h0] at ca
        have hi : ¬ (a.val : Int) = 0 := fun e => h0 (Fin.ext (by show a.val = 0; omega))
        have j3 : ((a.val : Int) != 0) = true := by simp [bne, beq_false_of_ne hi]
        rw [ca]
        by_cases hab : a = b
        · have es : s = t := hst.2 hab
          subst hab
          subst es
          clear hst Csb ca
          go_wp2_with fail
          refine (Csa _).mono ?_
          rintro e w2 ⟨rfl, B2⟩
          go_wp2_with fail
          refine (Csa _).mono ?_
          rintro e w3 ⟨rfl, B3⟩
          go_wp2_with fail
          refine (C12 _).mono ?_
          rintro e w4 ⟨rfl, B4⟩
          go_wp2_with fail
          go_ret
          exact ⟨rfl, Bel.call (Bel.call B2 B3) B4⟩
        · have ns : ¬ s = t := fun h => hab (hst.1 h)
          have i1 : ¬ (a.val : Int) = (b.val : Int) := fun e => hab (Fin.ext (by omega))
          have i2 : ¬ (s.val : Int) = (t.val : Int) := fun e => ns (Fin.ext (by omega))
          have j1 := beq_false_of_ne i1
          have j2 := beq_false_of_ne i2
          clear hst ca hab ns
          go_wp2_with fail
          refine (Csa _).mono ?_
          rintro e w2 ⟨rfl, B2⟩
          go_wp2_with fail
          refine (Csb _).mono ?_
          rintro e w3 ⟨rfl, B3⟩
          go_wp2_with fail
          refine (C12 _).mono ?_
          rintro e w4 ⟨rfl, B4⟩
          go_wp2_with fail
          go_ret
          exact ⟨rfl, Bel.call (Bel.call B2 B3) B4⟩
theorem field_law (a b c : By) (w : World) : Calls Try.prog 7 #[.int .u8 (a.val : Int), .int .u8 (b.val : Int), .int .u8 (c.val : Int)] w fun e w' => e = .returned (.bool true) ∧ Below w.heap.size w w' := by
  refine field_core a b c (tmF a b) (tmF a (xr b c)) (tmF a c) (tmF (tmF a b) c) (tmF b c) (xr b c) w true (fun W => times_any a b W) (fun W => ?_) (fun W => times_any _ _ W) (fun W => times_any _ _ W) (fun W => ?_) (xr8 b c) (fun W => times_any _ _ W) (fun W => times_any _ _ W) ?_ (fun W => ?_) (fun k hk W => ?_) (sb a) (sb b) ⟨sb_inj, fun h => by rw [h]⟩ (fun W => sub_any a W) (fun W => sub_any b W) (fun W => awake_any W)
  · have := times_any b a W
    rwa [show tmF b a = tmF a b from Fin.ext (tm_comm b.2 a.2)] at this
  · have := times_any a (tmF b c) W
    rwa [show tmF a (tmF b c) = tmF (tmF a b) c from Fin.ext (tm_assoc a.2 b.2 c.2).symm] at this
  · rw [xr8]
    congr 2
    exact Fin.ext (tm_xor' a.2 b.2 c.2).symm
  · have := times_any a 1 W
    rwa [tm_1] at this
  · exact times_any a ⟨k, hk⟩ W
end Go.Proofs.Ytnmikancbfaejaa
