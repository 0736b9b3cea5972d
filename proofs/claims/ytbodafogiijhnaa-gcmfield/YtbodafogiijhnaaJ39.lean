/- A field: GcmField. -/
import Derived.Test.YtbodafogiijhnaaJ34
import Derived.Test.YtbodafogiijhnaaJ38
set_option linter.all false
set_option maxRecDepth 100000
namespace Go.Proofs.Ytbodafogiijhnaa
open Go.RowKit Go.Sort Lin
set_option maxHeartbeats 1000000 in
theorem t18_any (x y : ByteArray) (w : World) : Calls Try.prog 18 #[.string x, .string y] w fun e w' => e = .returned (.string (tmS x y)) ∧ Below w.heap.size w w' := by
  have C := fun W => gTimes_any x y W
  obtain ⟨T, hT⟩ : ∃ T, tmS x y = T := ⟨_, rfl⟩
  obtain ⟨E, hE⟩ : ∃ E, tmE x y = E := ⟨_, rfl⟩
  rw [hT, hE] at C
  rw [hT]
  clear hT hE
  go_enter Try.func18, Try.ntmps18
  go_wp2_with fail
  refine (C _).mono ?_
  rintro e w1 ⟨rfl, B1⟩
  clear C
  go_wp2_with fail
  go_ret
  exact ⟨rfl, B1⟩
set_option maxHeartbeats 1000000 in
theorem field_no (a b c T : ByteArray) (e : Int) (i1 i2 i3 r : Bool) (h1 : ((a.size : Int) != 16) = i1) (h2 : ((b.size : Int) != 16) = i2) (h3 : ((c.size : Int) != 16) = i3) (h : ((i1 || i2) || i3) = true) (he : (e == 10) = (i1 || i2)) (w : World)
    (C10 : ∀ W, Calls Try.prog 10 #[.string a, .string b] W fun q w' => q = .returned (.tuple #[.string T, .int .i64 e]) ∧ Below W.heap.size W w')
    (C9 : ∀ W, Calls Try.prog 9 #[] W fun e w' => e = .returned (.bool true) ∧ Below W.heap.size W w') :
    Calls Try.prog 6 #[.string a, .string b, .string c] w fun e w' => e = .returned (.bool true) ∧ Below w.heap.size w w' := by
  cases i1 <;> cases i2 <;> cases i3 <;> simp at h <;> simp only [Bool.or_self, Bool.or_false, Bool.or_true, Bool.false_or, Bool.true_or] at he
  all_goals
    go_enter Try.func6, Try.ntmps6
    go_wp2_with fail
    refine (C10 _).mono ?_
    rintro q w1 ⟨rfl, B1⟩
    go_wp2_with fail
    refine (C9 _).mono ?_
    rintro q w2 ⟨rfl, B2⟩
    go_wp2_with fail
    go_ret
    exact ⟨rfl, Bel.call B1 B2⟩
set_option maxHeartbeats 2000000 in
theorem field_yes (a b c x y u v d e : ByteArray) (ha : (a.size : Int) = 16) (hb : (b.size : Int) = 16) (hc : (c.size : Int) = 16) (hx : (x.size : Int) = 16) (hy : (y.size : Int) = 16) (hv : (v.size : Int) = 16) (w : World)
    (Cab : ∀ W, Calls Try.prog 18 #[.string a, .string b] W fun q w' => q = .returned (.string x) ∧ Below W.heap.size W w')
    (Cba : ∀ W, Calls Try.prog 18 #[.string b, .string a] W fun q w' => q = .returned (.string x) ∧ Below W.heap.size W w')
    (Cbc : ∀ W, Calls Try.prog 18 #[.string b, .string c] W fun q w' => q = .returned (.string y) ∧ Below W.heap.size W w')
    (Cxc : ∀ W, Calls Try.prog 18 #[.string x, .string c] W fun q w' => q = .returned (.string u) ∧ Below W.heap.size W w')
    (Cay : ∀ W, Calls Try.prog 18 #[.string a, .string y] W fun q w' => q = .returned (.string u) ∧ Below W.heap.size W w')
    (Cac : ∀ W, Calls Try.prog 18 #[.string a, .string c] W fun q w' => q = .returned (.string v) ∧ Below W.heap.size W w')
    (Xbc : ∀ W, Calls Try.prog 19 #[.string b, .string c] W fun q w' => q = .returned (.string d) ∧ Below W.heap.size W w')
    (Cad : ∀ W, Calls Try.prog 18 #[.string a, .string d] W fun q w' => q = .returned (.string e) ∧ Below W.heap.size W w')
    (Xxv : ∀ W, Calls Try.prog 19 #[.string x, .string v] W fun q w' => q = .returned (.string e) ∧ Below W.heap.size W w')
    (Ca1 : ∀ W, Calls Try.prog 18 #[.string a, .string ⟨#[128, 0, 0, 0, 0, 0, 0, 0, 0, 0, 0, 0, 0, 0, 0, 0]⟩] W fun q w' => q = .returned (.string a) ∧ Below W.heap.size W w')
    (C9 : ∀ W, Calls Try.prog 9 #[] W fun e w' => e = .returned (.bool true) ∧ Below W.heap.size W w') :
    Calls Try.prog 6 #[.string a, .string b, .string c] w fun e w' => e = .returned (.bool true) ∧ Below w.heap.size w w' := by
  go_enter Try.func6, Try.ntmps6
  go_wp2_with fail
  refine (Cab _).mono ?_
  rintro q w1 ⟨rfl, B1⟩
  go_wp2_with fail
  refine (Cba _).mono ?_
  rintro q w2 ⟨rfl, B⟩
  replace B1 := Bel.call B1 B
  clear B Cba
  go_wp2_with fail
  refine (Cbc _).mono ?_
  rintro q w3 ⟨rfl, B⟩
  replace B1 := Bel.call B1 B
  clear B
  go_wp2_with fail
  refine (Cxc _).mono ?_
  rintro q w4 ⟨rfl, B⟩
  replace B1 := Bel.call B1 B
  clear B Cxc
  go_wp2_with fail
  refine (Cbc _).mono ?_
  rintro q w5 ⟨rfl, B⟩
  replace B1 := Bel.call B1 B
  clear B Cbc
  go_wp2_with fail
  refine (Cay _).mono ?_
  rintro q w6 ⟨rfl, B⟩
  replace B1 := Bel.call B1 B
  clear B Cay
  go_wp2_with fail
  refine (Cac _).mono ?_
  rintro q w7 ⟨rfl, B⟩
  replace B1 := Bel.call B1 B
  clear B
  go_wp2_with fail
  refine (Xbc _).mono ?_
  rintro q w8 ⟨rfl, B⟩
  replace B1 := Bel.call B1 B
  clear B Xbc
  go_wp2_with fail
  refine (Cad _).mono ?_
  rintro q w9 ⟨rfl, B⟩
  replace B1 := Bel.call B1 B
  clear B Cad
  go_wp2_with fail
  refine (Cac _).mono ?_
  rintro q w10 ⟨rfl, B⟩
  replace B1 := Bel.call B1 B
  clear B Cac
  go_wp2_with fail
  refine (Xxv _).mono ?_
  rintro q w11 ⟨rfl, B⟩
  replace B1 := Bel.call B1 B
  clear B Xxv
  go_wp2_with fail
  refine (Ca1 _).mono ?_
  rintro q w12 ⟨rfl, B⟩
  replace B1 := Bel.call B1 B
  clear B Ca1
  go_wp2_with fail
  refine (C9 _).mono ?_
  rintro q w13 ⟨rfl, B⟩
  replace B1 := Bel.call B1 B
  clear B C9
  go_wp2_with fail
  go_ret
  exact ⟨rfl, B1⟩
theorem tm_yes {a b : ByteArray} (ha : a.size = 16) (hb : b.size = 16) : tmS a b = tN (tB (bN a) (bN b)) := by unfold tmS; rw [if_pos ⟨ha, hb⟩]
theorem one_is : bN ⟨#[128, 0, 0, 0, 0, 0, 0, 0, 0, 0, 0, 0, 0, 0, 0, 0]⟩ = 2 ^ 127 := by decide +kernel
theorem xS_bN (a b : ByteArray) (ha : a.size = 16) : xS a b = tN (bN a ^^^ bN b) := by
  have := xS_tN (bN_lt a) b
  rwa [tN_bN a ha] at this
theorem field_law (a b c : ByteArray) (w : World) : Calls Try.prog 6 #[.string a, .string b, .string c] w fun e w' => e = .returned (.bool true) ∧ Below w.heap.size w w' := by
  by_cases h : a.size = 16 ∧ b.size = 16 ∧ c.size = 16
  · obtain ⟨ha, hb, hc⟩ := h
    have sz : ∀ p q : ByteArray, p.size = 16 → q.size = 16 → (tmS p q).size = 16 := fun p q hp hq => by rw [tm_yes hp hq, tN_size]
    have nb : ∀ p q : ByteArray, p.size = 16 → q.size = 16 → bN (tmS p q) = tB (bN p) (bN q) := fun p q hp hq => by rw [tm_yes hp hq, bN_tN (tB_lt (bN_lt q))]
    refine field_yes a b c (tmS a b) (tmS b c) (tmS (tmS a b) c) (tmS a c) (xS b c) (tmS a (xS b c)) (by omega) (by omega) (by omega) (by have := sz a b ha hb; omega) (by have := sz b c hb hc; omega) (by have := sz a c ha hc; omega) w (fun W => t18_any _ _ W) (fun W => ?_) (fun W => t18_any _ _ W) (fun W => t18_any _ _ W) (fun W => ?_) (fun W => t18_any _ _ W) (fun W => rXor_any b c (by omega) (by omega) W) (fun W => t18_any _ _ W) (fun W => ?_) (fun W => ?_) (fun W => awake_any W)
    · have := t18_any b a W
      rwa [tm_yes hb ha, tB_comm (bN_lt b) (bN_lt a), ← tm_yes ha hb] at this
    · have := t18_any a (tmS b c) W
      rwa [tm_yes ha (sz b c hb hc), nb b c hb hc, ← tB_assoc (bN_lt a) (bN_lt b) (bN_lt c), ← nb a b ha hb, ← tm_yes (sz a b ha hb) hc] at this
    · have := rXor_any (tmS a b) (tmS a c) (by rw [sz a b ha hb, sz a c ha hc]; exact Nat.le_refl _) (by rw [sz a b ha hb]; decide) W
      rw [xS_bN _ _ (sz a b ha hb), nb a b ha hb, nb a c ha hc, ← tB_xor] at this
      have e : tmS a (xS b c) = tN (tB (bN a) (bN b ^^^ bN c)) := by
        rw [tm_yes ha (by rw [xS_size]; exact hb), xS_bN b c hb, bN_tN (x128 (bN_lt b) (bN_lt c))]
      rwa [← e] at this
    · have := t18_any a ⟨#[128, 0, 0, 0, 0, 0, 0, 0, 0, 0, 0, 0, 0, 0, 0, 0]⟩ W
      rwa [tm_yes ha rfl, one_is, tB_one (bN_lt a), tN_bN a ha] at this
  · refine field_no a b c (tmS a b) (tmE a b) _ _ _ true rfl rfl rfl ?_ ?_ w (fun W => gTimes_any a b W) (fun W => awake_any W)
    · by_cases q1 : (a.size : Int) = 16
      · by_cases q2 : (b.size : Int) = 16
        · by_cases q3 : (c.size : Int) = 16
          · exact absurd ⟨by omega, by omega, by omega⟩ h
          · simp [q3]
        · simp [q2]
      · simp [q1]
    · unfold tmE
      by_cases q1 : (a.size : Int) = 16
      · by_cases q2 : (b.size : Int) = 16
        · rw [if_pos ⟨by omega, by omega⟩]; simp [q1, q2]
        · rw [if_neg (by omega)]; simp [q2]
      · rw [if_neg (by omega)]; simp [q1]
end Go.Proofs.Ytbodafogiijhnaa
