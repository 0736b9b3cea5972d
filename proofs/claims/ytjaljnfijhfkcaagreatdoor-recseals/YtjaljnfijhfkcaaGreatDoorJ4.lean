/- Texts joined: G1, G2, A3, G3, G5. -/
import Derived.Laws.Bits64
import Derived.Test.YtjaljnfijhfkcaaGreatDoorJ3
import Derived.Test.YtjaljnfijhfkcaaGreatDoorJ2
/- Blocks of 16 bytes as numbers below 2^128: products by bits; sums; bytes. -/
set_option linter.all false
set_option maxRecDepth 100000
namespace Lin
/-- The step by which blocks are multiplied: the first bit is the highest. -/
def T128 (a : Nat) : Nat := a / 2 ^^^ (if a.testBit 0 = true then 225 * 2 ^ 120 else 0)
theorem half_xor (a b : Nat) : (a ^^^ b) / 2 = a / 2 ^^^ b / 2 := by
  apply Nat.eq_of_testBit_eq
  intro i
  simp [Nat.testBit_div_two]
theorem T128_L : L T128 := by
  refine ⟨by decide, fun a b => ?_⟩
  unfold T128
  rw [half_xor, Nat.testBit_xor, x4]
  congr 1
  cases a.testBit 0 <;> cases b.testBit 0 <;> decide
theorem T128_lt (v : Nat) (h : v < 2 ^ 128) : T128 v < 2 ^ 128 := by
  unfold T128
  refine Nat.xor_lt_two_pow (Nat.lt_of_le_of_lt (Nat.div_le_self _ _) h) ?_
  split <;> decide
theorem T128_pow (m : Nat) : T128 (2 ^ (m + 1)) = 2 ^ m := by
  unfold T128
  have e : (2 ^ (m + 1)).testBit 0 = false := by rw [Nat.testBit_zero]; simp [Nat.pow_succ]
  rw [e, Nat.pow_succ]
  simp
theorem top_bit (a m : Nat) : (if a.testBit m = true then 2 ^ m else 0) ^^^ a % 2 ^ m = a % 2 ^ (m + 1) := by
  apply Nat.eq_of_testBit_eq
  intro i
  rw [Nat.testBit_xor, Nat.testBit_mod_two_pow, Nat.testBit_mod_two_pow]
  by_cases h : i = m
  · subst h
    cases e : a.testBit i <;> simp [Nat.testBit_two_pow_self]
  · have z : (if a.testBit m = true then 2 ^ m else 0).testBit i = false := by
      split
      · rw [Nat.testBit_two_pow]; simp; omega
      · simp
    rw [z]
    by_cases c : i < m
    · simp [c, show i < m + 1 by omega]
    · simp [c, show ¬ i < m + 1 by omega]
theorem rep128 (a : Nat) : ∀ m, S T128 (fun i => a.testBit (m - i)) (m + 1) (2 ^ m) = a % 2 ^ (m + 1) := by
  intro m
  induction m with
  | zero => simp [S, Nat.testBit_zero]; rcases Nat.mod_two_eq_zero_or_one a with h | h <;> simp [h]
  | succ m ih =>
    show (if a.testBit (m + 1 - 0) = true then 2 ^ (m + 1) else 0) ^^^ S T128 (fun i => a.testBit (m + 1 - (i + 1))) (m + 1) (T128 (2 ^ (m + 1))) = _
    rw [T128_pow]
    have e : (fun i => a.testBit (m + 1 - (i + 1))) = fun i => a.testBit (m - i) := by funext i; congr 1; omega
    rw [e, ih]
    exact top_bit a (m + 1)
theorem R128 : R T128 128 (fun a i => a.testBit (127 - i)) (2 ^ 127) := by
  refine ⟨T128_L, fun a ha => ?_, S_lt T128_lt⟩
  rw [rep128 a 127, Nat.mod_eq_of_lt ha]
/-- A step, k times. -/
def it (T : Nat → Nat) : Nat → Nat → Nat
  | 0, v => v
  | k + 1, v => T (it T k v)
theorem it_T (T : Nat → Nat) : ∀ k v, it T k (T v) = T (it T k v) := by
  intro k
  induction k with
  | zero => intro v; rfl
  | succ k ih => intro v; simp only [it]; rw [ih]
/-- One bit more, at the end. -/
theorem S_end (T : Nat → Nat) : ∀ k f v, S T f (k + 1) v = S T f k v ^^^ (if f k = true then it T k v else 0) := by
  intro k
  induction k with
  | zero => intro f v; simp [S, it]
  | succ k ih =>
    intro f v
    show (if f 0 = true then v else 0) ^^^ S T (fun i => f (i + 1)) (k + 1) (T v) = _
    rw [ih, it_T, ← Nat.xor_assoc]
    rfl
theorem it_lt {T : Nat → Nat} {n : Nat} (ht : ∀ v, v < 2 ^ n → T v < 2 ^ n) : ∀ k v, v < 2 ^ n → it T k v < 2 ^ n := by
  intro k
  induction k with
  | zero => intro v h; exact h
  | succ k ih => intro v h; exact ht _ (ih v h)
/-- The bits of a block, in their order. -/
def bs (a i : Nat) : Bool := a.testBit (127 - i)
/-- The product of two blocks. -/
def tB (a b : Nat) : Nat := S T128 (bs a) 128 b
theorem R128' : R T128 128 bs (2 ^ 127) := R128
theorem tB_lt {a b : Nat} (hb : b < 2 ^ 128) : tB a b < 2 ^ 128 := S_lt T128_lt 128 _ b hb
theorem tB_comm {a b : Nat} (ha : a < 2 ^ 128) (hb : b < 2 ^ 128) : tB a b = tB b a := R128'.comm ha hb
theorem tB_assoc {a b c : Nat} (ha : a < 2 ^ 128) (hb : b < 2 ^ 128) (hc : c < 2 ^ 128) : tB (tB a b) c = tB a (tB b c) := R128'.assoc ha hb hc
theorem tB_xor (a b c : Nat) : tB a (b ^^^ c) = tB a b ^^^ tB a c := R128'.dist a b c
theorem tB_one {a : Nat} (ha : a < 2 ^ 128) : tB a (2 ^ 127) = a := R128'.r a ha
theorem x128 {a b : Nat} (ha : a < 2 ^ 128) (hb : b < 2 ^ 128) : a ^^^ b < 2 ^ 128 := Nat.xor_lt_two_pow ha hb
end Lin
namespace Go.Proofs.YtjaljnfijhfkcaaGreatDoor
open Lin
/-- A block's two words. -/
def hi (n : Nat) : Int := ((n / 2 ^ 64 : Nat) : Int)
def lo (n : Nat) : Int := ((n % 2 ^ 64 : Nat) : Int)
theorem bits_xor64 (a b : Nat) (ha : a < 2 ^ 64) (hb : b < 2 ^ 64) : bits .xor .u64 (a : Int) (b : Int) = ((a ^^^ b : Nat) : Int) := by
  have hx : a ^^^ b < 2 ^ 64 := Nat.xor_lt_two_pow ha hb
  have h1 : (BitVec.ofInt 64 (a : Int)).toNat = a := by rw [BitVec.ofInt_natCast, BitVec.toNat_ofNat]; exact Nat.mod_eq_of_lt ha
  have h2 : (BitVec.ofInt 64 (b : Int)).toNat = b := by rw [BitVec.ofInt_natCast, BitVec.toNat_ofNat]; exact Nat.mod_eq_of_lt hb
  show IntKind.u64.wrap ((BitVec.ofInt 64 (a : Int) ^^^ BitVec.ofInt 64 (b : Int)).toNat : Int) = _
  rw [BitVec.toNat_xor, h1, h2, IntKind.wrap_u64]
  omega
theorem wraps_u64' (n : Int) (h₀ : 0 ≤ n) (h₁ : n < 2 ^ 64) : IntKind.u64.wrap n = n := by rw [IntKind.wrap_u64]; omega
theorem bits_ao64 (a b : Nat) (ha : a < 2 ^ 64) (hb : b < 2 ^ 64) : bits .and .u64 a b = ((a &&& b : Nat) : Int) ∧ bits .or .u64 a b = ((a ||| b : Nat) : Int) :=
  bits_nat .u64 64 (by decide) wraps_u64' a b ha hb
theorem xor_div (a b k : Nat) : (a ^^^ b) / 2 ^ k = a / 2 ^ k ^^^ b / 2 ^ k := by
  apply Nat.eq_of_testBit_eq
  intro i
  simp [Nat.testBit_div_two_pow]
theorem xor_mod (a b k : Nat) : (a ^^^ b) % 2 ^ k = a % 2 ^ k ^^^ b % 2 ^ k := by
  apply Nat.eq_of_testBit_eq
  intro i
  rw [Nat.testBit_xor, Nat.testBit_mod_two_pow, Nat.testBit_mod_two_pow, Nat.testBit_mod_two_pow, Nat.testBit_xor]
  cases decide (i < k) <;> simp
theorem hi_lt {n : Nat} (h : n < 2 ^ 128) : n / 2 ^ 64 < 2 ^ 64 := by omega
theorem lo_lt (n : Nat) : n % 2 ^ 64 < 2 ^ 64 := Nat.mod_lt _ (by decide)
theorem hi_xor {a b : Nat} (ha : a < 2 ^ 128) (hb : b < 2 ^ 128) : bits .xor .u64 (hi a) (hi b) = hi (a ^^^ b) := by
  unfold hi; rw [bits_xor64 _ _ (hi_lt ha) (hi_lt hb), xor_div]
theorem lo_xor (a b : Nat) : bits .xor .u64 (lo a) (lo b) = lo (a ^^^ b) := by
  unfold lo; rw [bits_xor64 _ _ (lo_lt a) (lo_lt b), xor_mod]
theorem and_all (a : Nat) (h : a < 2 ^ 64) : bits .and .u64 (a : Int) 18446744073709551615 = (a : Int) := by
  have := (bits_ao64 a 18446744073709551615 h (by decide)).1
  rw [show ((18446744073709551615 : Nat) : Int) = 18446744073709551615 from rfl] at this
  rw [this]
  congr 1
  have := Nat.and_two_pow_sub_one_eq_mod a 64
  rw [show 18446744073709551615 = 2 ^ 64 - 1 from rfl, this]
  exact Nat.mod_eq_of_lt h
theorem and_none (a : Nat) (h : a < 2 ^ 64) : bits .and .u64 (a : Int) 0 = 0 := by
  have := (bits_ao64 a 0 h (by decide)).1
  rw [show ((0 : Nat) : Int) = 0 from rfl] at this
  rw [this, Nat.and_zero]
  rfl
/-- The lowest bit. -/
theorem and_one (a : Nat) (h : a < 2 ^ 64) : bits .and .u64 (a : Int) 1 = if a.testBit 0 = true then 1 else 0 := by
  have := (bits_ao64 a 1 h (by decide)).1
  rw [show ((1 : Nat) : Int) = 1 from rfl] at this
  rw [this, Nat.and_one_is_mod, Nat.testBit_zero]
  rcases Nat.mod_two_eq_zero_or_one a with e | e <;> simp [e]
theorem half_hi (n : Nat) : hi n / 2 = hi (n / 2) := by unfold hi; omega
theorem half_lo (n : Nat) : bits .or .u64 (hi n * 9223372036854775808 % 18446744073709551616) (lo n / 2) = lo (n / 2) := by
  unfold hi lo
  have e1 : ((n / 2 ^ 64 : Nat) : Int) * 9223372036854775808 % 18446744073709551616 = ((n / 2 ^ 64 % 2 * 2 ^ 63 + 0 : Nat) : Int) := by omega
  have e2 : ((n % 2 ^ 64 : Nat) : Int) / 2 = ((0 * 2 ^ 63 + n % 2 ^ 64 / 2 : Nat) : Int) := by omega
  rw [e1, e2, (bits_ao64 _ _ (by omega) (by omega)).2, or_hi _ _ _ _ 63 (by decide) (by omega)]
  simp
  omega
theorem bit_lo (n : Nat) : bits .and .u64 (lo n) 1 = if n.testBit 0 = true then 1 else 0 := by
  unfold lo
  rw [and_one _ (lo_lt n), Nat.testBit_mod_two_pow]
  simp
/-- The bit k of a word, the highest first. -/
theorem bit_at (a k : Nat) (h : a < 2 ^ 64) (hk : k < 64) : bits .and .u64 ((a : Int) / 2 ^ (63 - k)) 1 = if a.testBit (63 - k) = true then 1 else 0 := by
  have e : (a : Int) / 2 ^ (63 - k) = ((a / 2 ^ (63 - k) : Nat) : Int) := by
    rw [Int.natCast_ediv]
    congr 1
  rw [e, and_one _ (Nat.lt_of_le_of_lt (Nat.div_le_self _ _) h), Nat.testBit_div_two_pow]
  simp
theorem bs_hi (n k : Nat) (hk : k < 64) : (n / 2 ^ 64).testBit (63 - k) = bs n k := by
  unfold bs
  rw [Nat.testBit_div_two_pow]
  congr 1
  omega
theorem bs_lo (n k : Nat) (hk : k < 64) : (n % 2 ^ 64).testBit (63 - k) = bs n (64 + k) := by
  unfold bs
  rw [Nat.testBit_mod_two_pow]
  simp only [show 63 - k < 64 by omega, decide_true, Bool.true_and]
  congr 1
  omega
theorem T128_is (n : Nat) : T128 n = n / 2 ^^^ (if n.testBit 0 = true then 225 * 2 ^ 120 else 0) := rfl
end Go.Proofs.YtjaljnfijhfkcaaGreatDoor
/- Blocks of two words: sums, blocks masked, a block times x. -/
set_option linter.all false
set_option maxRecDepth 100000
namespace Go.Proofs.YtjaljnfijhfkcaaGreatDoor
open Go.RowKit Go.Sort Lin
/-- Two words. -/
def gk (x y : Int) : Value := .agg #[.int .u64 x, .int .u64 y]
/-- A block. -/
def gB (n : Nat) : Value := gk (hi n) (lo n)
/-- A block's cells. -/
def g2 (x y : Int) (j : Nat) : Value := if j = 0 then .int .u64 x else .int .u64 y
theorem g2_at (x y : Int) (j : Nat) (hj : j < 2) : (#[.int .u64 x, .int .u64 y] : Array Value)[j]? = some (g2 x y j) := by
  have : j = 0 ∨ j = 1 := by omega
  rcases this with rfl | rfl <;> rfl
set_option maxHeartbeats 1000000 in
theorem words_core (x y : Int) (w : World) : Calls Tryz.prog 80 #[gk x y] w fun e w' => e = .returned (gk x y) ∧ Below w.heap.size w w' := by
  unfold gk
  go_enter Tryz.func80, Tryz.ntmps80
  go_wp2_with fail
  refine bodyPost_ret (v := gk x y) (by simp [gk, results, Tryz.results80, go_sem]) rfl ⟨rfl, ?_⟩
  go_grown
set_option maxHeartbeats 1000000 in
theorem gplus_core (x y u v p q : Int) (hp : bits .xor .u64 x u = p) (hq : bits .xor .u64 y v = q) (w : World) : Calls Tryz.prog 79 #[gk x y, gk u v] w fun e w' => e = .returned (gk p q) ∧ Below w.heap.size w w' := by
  unfold gk
  go_enter Tryz.func79, Tryz.ntmps79
  go_wp2_with fail
  refine bodyPost_ret (v := gk p q) (by simp [gk, results, Tryz.results79, go_sem, hp, hq]) rfl ⟨rfl, ?_⟩
  go_grown
set_option maxHeartbeats 1000000 in
theorem masked_1 (x y : Int) (hx : bits .and .u64 x 18446744073709551615 = x) (hy : bits .and .u64 y 18446744073709551615 = y) (w : World) : Calls Tryz.prog 116 #[gk x y, .int .u64 1] w fun e w' => e = .returned (gk x y) ∧ Below w.heap.size w w' := by
  unfold gk
  go_enter Tryz.func116, Tryz.ntmps116
  go_wp2_with fail
  refine bodyPost_ret (v := gk x y) (by simp [gk, results, Tryz.results116, go_sem, show IntKind.u64.wrap (-1) = 18446744073709551615 by decide, hx, hy]) rfl ⟨rfl, ?_⟩
  go_grown
set_option maxHeartbeats 1000000 in
theorem masked_0 (x y : Int) (hx : bits .and .u64 x 0 = 0) (hy : bits .and .u64 y 0 = 0) (w : World) : Calls Tryz.prog 116 #[gk x y, .int .u64 0] w fun e w' => e = .returned (gk 0 0) ∧ Below w.heap.size w w' := by
  unfold gk
  go_enter Tryz.func116, Tryz.ntmps116
  go_wp2_with fail
  refine bodyPost_ret (v := gk 0 0) (by simp [gk, results, Tryz.results116, go_sem, hx, hy]) rfl ⟨rfl, ?_⟩
  go_grown
theorem gplus_any {a b : Nat} (ha : a < 2 ^ 128) (hb : b < 2 ^ 128) (w : World) : Calls Tryz.prog 79 #[gB a, gB b] w fun e w' => e = .returned (gB (a ^^^ b)) ∧ Below w.heap.size w w' :=
  gplus_core _ _ _ _ _ _ (hi_xor ha hb) (lo_xor a b) w
theorem masked_any {a : Nat} (ha : a < 2 ^ 128) (c : Bool) (w : World) : Calls Tryz.prog 116 #[gB a, .int .u64 (if c = true then 1 else 0)] w fun e w' => e = .returned (gB (if c = true then a else 0)) ∧ Below w.heap.size w w' := by
  cases c
  · rw [if_neg (by decide), if_neg (by decide)]
    exact masked_0 _ _ (and_none _ (hi_lt ha)) (and_none _ (lo_lt a)) w
  · rw [if_pos rfl, if_pos rfl]
    exact masked_1 _ _ (and_all _ (hi_lt ha)) (and_all _ (lo_lt a)) w
/-- Two words put into a block. -/
def st2 (w : World) (b : Nat) (x y : Int) : World := (w.setCell ⟨b, 0, none⟩ (.int .u64 x)).setCell ⟨b, 1, none⟩ (.int .u64 y)
theorem Arr.st2 {w : World} {b : Nat} {f : Nat → Value} (h : Arr w b 2 f) (x y : Int) : Arr (st2 w b x y) b 2 (g2 x y) :=
  ((h.set 0 (by omega) _).set 1 (by omega) _).congr (by
    intro j hj
    have : j = 0 ∨ j = 1 := by omega
    rcases this with rfl | rfl <;> simp [g2])
theorem Arr.st2o {w : World} {b b' n : Nat} {f : Nat → Value} (h : Arr w b n f) (hne : b' ≠ b) (x y : Int) : Arr (Go.Proofs.YtjaljnfijhfkcaaGreatDoor.st2 w b' x y) b n f := (h.other hne _).other hne _
theorem Bel.st2 {w W : World} (h : Below w.heap.size w W) {b : Nat} (hle : w.heap.size ≤ b) (x y : Int) : Below w.heap.size w (Go.Proofs.YtjaljnfijhfkcaaGreatDoor.st2 W b x y) := Bel.st (Bel.st h hle _) hle _
theorem ko_st2 (W : World) (b : Nat) (x y : Int) : KeepsOthers W (st2 W b x y) := (KeepsOthers.setCell _ _ _).trans (KeepsOthers.setCell _ _ _)
theorem Arr.h {w : World} {b : Nat} {x y : Int} (h : Arr w b 2 (g2 x y)) : w.cell? ⟨b, 0, none⟩ = some (.int .u64 x) := h.c 0 (by omega)
theorem Arr.l {w : World} {b : Nat} {x y : Int} (h : Arr w b 2 (g2 x y)) : w.cell? ⟨b, 1, none⟩ = some (.int .u64 y) := h.c 1 (by omega)
set_option maxHeartbeats 2000000 in
theorem timesX_core (x y a b m r s p q : Int) (ha : x / 2 = a) (hb : bits .or .u64 (IntKind.u64.wrap (x * 9223372036854775808)) (y / 2) = b) (hm : bits .and .u64 y 1 = m)
    (C36 : ∀ W, Calls Tryz.prog 116 #[gk 16212958658533785600 0, .int .u64 m] W fun e w' => e = .returned (gk r s) ∧ Below W.heap.size W w')
    (C35 : ∀ W, Calls Tryz.prog 79 #[gk a b, gk r s] W fun e w' => e = .returned (gk p q) ∧ Below W.heap.size W w') (w : World) :
    Calls Tryz.prog 117 #[gk x y] w fun e w' => e = .returned (gk p q) ∧ Below w.heap.size w w' := by
  unfold gk at *
  go_enter Tryz.func117, Tryz.ntmps117
  go_wp2_with fail
  have A0 := ((((Arr.new w _ 105 _ rfl _ 2 (g2_at x y)).al' (.cells #[.int .u64 0, .int .u64 0] 105)).al' (.cells #[.int .u64 16212958658533785600, .int .u64 0] 105)).al' (.cells #[.int .u64 a, .int .u64 b] 105))
  have A1 := (((Arr.new (w.alloc (.cells #[.int .u64 x, .int .u64 y] 105)) _ 105 (w.heap.size + 1) (by simp) _ 2 (g2_at 0 0)).al' (.cells #[.int .u64 16212958658533785600, .int .u64 0] 105)).al' (.cells #[.int .u64 a, .int .u64 b] 105))
  have A2 := ((Arr.new ((w.alloc (.cells #[.int .u64 x, .int .u64 y] 105)).alloc (.cells #[.int .u64 0, .int .u64 0] 105)) _ 105 (w.heap.size + 1 + 1) (by simp) _ 2 (g2_at 16212958658533785600 0)).al' (.cells #[.int .u64 a, .int .u64 b] 105))
  have A3 := (Arr.new (((w.alloc (.cells #[.int .u64 x, .int .u64 y] 105)).alloc (.cells #[.int .u64 0, .int .u64 0] 105)).alloc (.cells #[.int .u64 16212958658533785600, .int .u64 0] 105)) _ 105 (w.heap.size + 1 + 1 + 1) (by simp) _ 2 (g2_at a b))
  have hB : Below w.heap.size w ((((w.alloc (.cells #[.int .u64 x, .int .u64 y] 105)).alloc (.cells #[.int .u64 0, .int .u64 0] 105)).alloc (.cells #[.int .u64 16212958658533785600, .int .u64 0] 105)).alloc (.cells #[.int .u64 a, .int .u64 b] 105)) := by go_grown
  generalize ((((w.alloc (.cells #[.int .u64 x, .int .u64 y] 105)).alloc (.cells #[.int .u64 0, .int .u64 0] 105)).alloc (.cells #[.int .u64 16212958658533785600, .int .u64 0] 105)).alloc (.cells #[.int .u64 a, .int .u64 b] 105)) = W at *
  have r0 := fun ds os => cell_regrown A0.l ds os
  have r1 := fun ds os => cell_regrown A2.h ds os
  have r2 := fun ds os => cell_regrown A2.l ds os
  have r3 := fun ds os => cell_regrown A3.h ds os
  have r4 := fun ds os => cell_regrown A3.l ds os
  refine wp_region_below_tail 7 (by kernel_rfl) (by kernel_rfl) ?_
  simp only [List.take_succ_cons, List.take_zero, List.drop_succ_cons, List.drop_zero]
  repeat (go_big_quiet_step (first | (go_at_call 116; exact Calls.regrown_of (C36 _)) | (go_at_call 79; exact Calls.regrown_of (C35 _))))
  refine wpQuiet_nil ?_
  intro w1 hw'
  obtain ⟨⟨dq, osq⟩, hw''⟩ := hw'
  have hb1 := below_of hw''
  clear hw'' r0 r1 r2 r3 r4
  have B1 := A1.to' hb1
  have hB1 := Bel.call hB hb1
  clear A0 A1 A2 A3 hB hb1 C36 C35
  have c0 := B1.c 0 (by omega)
  have c1 := B1.c 1 (by omega)
  have z0 := B1.z 0 (by omega)
  have z1 := B1.z 1 (by omega)
  have E := B1.st2 p q
  have e0 := E.h
  have e1 := E.l
  unfold Go.Proofs.YtjaljnfijhfkcaaGreatDoor.st2 at e0 e1
  go_wp2_with fail
  refine bodyPost_ret (v := gk p q) (by simp [gk, results, Tryz.results117, go_sem, e0, e1]) rfl ⟨rfl, Bel.st2 hB1 (by omega) p q⟩
theorem rest_is : gB (225 * 2 ^ 120) = gk 16212958658533785600 0 := by
  unfold gB hi lo; rfl
theorem timesX_any {a : Nat} (ha : a < 2 ^ 128) (w : World) : Calls Tryz.prog 117 #[gB a] w fun e w' => e = .returned (gB (T128 a)) ∧ Below w.heap.size w w' := by
  have hh : a / 2 < 2 ^ 128 := by omega
  have hr : (225 * 2 ^ 120 : Nat) < 2 ^ 128 := by decide
  refine timesX_core (hi a) (lo a) (hi (a / 2)) (lo (a / 2)) (if a.testBit 0 = true then 1 else 0) (hi (if a.testBit 0 = true then 225 * 2 ^ 120 else 0)) (lo (if a.testBit 0 = true then 225 * 2 ^ 120 else 0)) _ _ (half_hi a) (by rw [IntKind.wrap_u64]; exact half_lo a) (bit_lo a) (fun W => ?_) (fun W => ?_) w
  · have := masked_any hr (a.testBit 0) W
    rw [rest_is] at this
    exact this
  · refine gplus_any hh ?_ W
    split
    · exact hr
    · decide
end Go.Proofs.YtjaljnfijhfkcaaGreatDoor
/- Products of bytes: the program's and the reference's. -/
set_option linter.all false
set_option maxRecDepth 100000
namespace Go.Proofs.YtjaljnfijhfkcaaGreatDoor
open Go.RowKit Go.Sort Lin
theorem S_none : ∀ n v, S T8 (fun i => (0 : Nat).testBit i) n v = 0 := by
  intro n
  induction n with
  | zero => intro v; rfl
  | succ n ih => intro v; simp [S]; simpa using ih (T8 v)
/-- What is left to add: the bits of b, n of them. -/
def rst (n : Nat) (b : Nat) (v : Nat) : Nat := S T8 (fun i => b.testBit i) n v
theorem rst_step (n b v : Nat) : rst (n + 1) b v = (if b % 2 = 1 then v else 0) ^^^ rst n (b / 2) (T8 v) := by
  unfold rst
  show (if b.testBit 0 = true then v else 0) ^^^ S T8 (fun i => b.testBit (i + 1)) n (T8 v) = _
  have e : (fun i => b.testBit (i + 1)) = fun i => (b / 2).testBit i := by funext i; rw [Nat.testBit_succ]
  rw [e, Nat.testBit_zero]
  simp
theorem rst_0 (n v : Nat) : rst n 0 v = 0 := S_none n v
theorem dbW_lo (h : By) : dbW (h.val : Int) = ((dF h).val : Int) := by
  have e : ∀ x : By, (x.val : Int) = wd 0 0 0 x := fun x => by unfold wd wdN; simp
  rw [e, dbW_wd, e]
  have : dF 0 = 0 := by decide
  rw [this]
set_option maxHeartbeats 1000000 in
theorem dbl_any (x : Int) (w : World) : Calls Tryz.prog 128 #[.int .u32 x] w fun e w' => e = .returned (.int .u32 (dbW x)) ∧ w' = w := by
  go_enter Tryz.func128, Tryz.ntmps128
  go_wp2
  go_ret
  exact ⟨rfl, rfl⟩
theorem and1 (b : Nat) (hb : b < 256) : bits .and .u8 (b : Int) 1 = ((b % 2 : Nat) : Int) := by
  have := (bits_ao8 b 1 hb (by decide)).1
  rw [show ((1 : Nat) : Int) = 1 from rfl] at this
  rw [this, Nat.and_one_is_mod]
theorem times_any (a b : By) (w : World) : Calls Tryz.prog 136 #[.int .u8 (a.val : Int), .int .u8 (b.val : Int)] w fun e w' => e = .returned (.int .u8 ((tmF a b).val : Int)) ∧ w' = w := by
  have D := fun (h : By) W => dbl_any (h.val : Int) W
  have a0 : (0 : Int) ≤ (a.val : Int) := by omega
  have a1 : (a.val : Int) < 256 := by have := a.2; omega
  go_enter Tryz.func136, Tryz.ntmps136
  go_wp2_with fail
  go_loopw [1, 5, 6] (fun x y z wr => ∃ (n b' : Nat) (h s : By), x = .int .u8 (b' : Int) ∧ y = .int .u32 (h.val : Int) ∧ z = .int .u32 (s.val : Int) ∧ b' < 256 ∧ b' < 2 ^ n ∧ s.val ^^^ rst n b' h.val = tm a.val b.val ∧ wr = w) (fun x _ _ _ => (intOf x).toNat)
  case atStart => exact ⟨8, b.val, a, 0, rfl, rfl, rfl, b.2, b.2, by rw [show (0 : By).val = 0 from rfl, Nat.zero_xor]; rfl, rfl⟩
  case round =>
    obtain ⟨n, b', h, s, rfl, rfl, rfl, hb, hn, hs, rfl⟩ := hrel
    have b0 : (0 : Int) ≤ (b' : Int) := by omega
    have b1 : (b' : Int) < 256 := by omega
    by_cases hz : 0 < b'
    · have z : (0 : Int) < (b' : Int) := by omega
      obtain ⟨m, rfl⟩ : ∃ m, n = m + 1 := ⟨n - 1, by
        rcases n with _ | n
        · simp at hn; omega
        · omega⟩
      have HS : Hid (s.val ^^^ rst (m + 1) b' h.val = tm a.val b.val) := hs
      have HN : Hid (b' < 2 ^ (m + 1)) := hn
      have d := D h
      rw [dbW_lo] at d
      have ea := and1 b' hb
      clear hs hn D
      by_cases p : b' % 2 = 1
      · rw [p] at ea
        rw [show ((1 : Nat) : Int) = 1 from rfl] at ea
        have ex := bits_xor32 s.val h.val (by omega) (by omega)
        have HX : Hid (s.val ^^^ h.val = (xr s h).val) := rfl
        have HD : Hid ((dF h).val = T8 h.val) := rfl
        generalize dF h = h' at *
        go_wp2_with (go_at_call 128; refine (d _).mono ?_; rintro e w1 ⟨rfl, rfl⟩)
        refine ⟨⟨m, b' / 2, h', xr s h, by go_num, rfl, by rw [← HX.out], by omega, ?_, ?_, trivial⟩, by simp [intOf]; omega⟩
        · have := HN.out; rw [Nat.pow_succ] at this; omega
        · have := HS.out
          rw [rst_step, if_pos p, ← Nat.xor_assoc, HX.out] at this
          rw [HD.out]
          exact this
      · have p0 : b' % 2 = 0 := by omega
        rw [p0] at ea
        rw [show ((0 : Nat) : Int) = 0 from rfl] at ea
        have HD : Hid ((dF h).val = T8 h.val) := rfl
        generalize dF h = h' at *
        go_wp2_with (go_at_call 128; refine (d _).mono ?_; rintro e w1 ⟨rfl, rfl⟩)
        refine ⟨⟨m, b' / 2, h', s, by go_num, rfl, rfl, by omega, ?_, ?_, trivial⟩, by simp [intOf]; omega⟩
        · have := HN.out; rw [Nat.pow_succ] at this; omega
        · have := HS.out
          rw [rst_step, if_neg p, Nat.zero_xor] at this
          rw [HD.out]
          exact this
    · have e0 : b' = 0 := by omega
      subst e0
      rw [rst_0, Nat.xor_zero] at hs
      have z : ¬ (0 : Int) < ((0 : Nat) : Int) := by omega
      have s0 : (0 : Int) ≤ (s.val : Int) := by omega
      have s1 : (s.val : Int) < 256 := by have := s.2; omega
      have HS : Hid (s.val = tm a.val b.val) := hs
      clear hs D
      go_wp2_with fail
      go_ret
      refine ⟨?_, rfl⟩
      rw [show (tmF a b).val = s.val from HS.out.symm]
      rfl
theorem hi_is : ∀ a : By, bits .and .u8 (a.val : Int) 128 = ((an a 128).val : Int) := fun a => (bits_ao8 a.val 128 a.2 (by decide)).1
theorem dF_no : ∀ a : By, (an a 128).val = 0 → (dF a).val = a.val * 2 % 256 := by decide +kernel
theorem dF_yes : ∀ a : By, (an a 128).val ≠ 0 → (dF a).val = (a.val * 2 % 256) ^^^ 27 := by decide +kernel
set_option maxHeartbeats 1000000 in
theorem rtimes_any (a b : By) (w : World) : Calls Tryz.prog 86 #[.int .u8 (a.val : Int), .int .u8 (b.val : Int)] w fun e w' => e = .returned (.int .u8 ((tmF a b).val : Int)) ∧ w' = w := by
  go_enter Tryz.func86, Tryz.ntmps86
  go_wp2_with fail
  go_loopw [0, 1, 5, 6] (fun y x z i wr => ∃ (k n b' : Nat) (h s : By), n + k = 8 ∧ i = .int .i64 (k : Int) ∧ x = .int .u8 (b' : Int) ∧ y = .int .u8 (h.val : Int) ∧ z = .int .u8 (s.val : Int) ∧ b' < 256 ∧ s.val ^^^ rst n b' h.val = tm a.val b.val ∧ wr = w) (fun _ _ _ i _ => 8 - (intOf i).toNat)
  case atStart => exact ⟨0, 8, b.val, a, 0, rfl, rfl, rfl, rfl, rfl, b.2, by rw [show (0 : By).val = 0 from rfl, Nat.zero_xor]; rfl, rfl⟩
  case round =>
    obtain ⟨k, n, b', h, s, hk, rfl, rfl, rfl, rfl, hb, hs, rfl⟩ := hrel
    have b0 : (0 : Int) ≤ (b' : Int) := by omega
    have b1 : (b' : Int) < 256 := by omega
    have k0 : (0 : Int) ≤ (k : Int) := by omega
    have k8 : (k : Int) ≤ 8 := by omega
    by_cases hz : k < 8
    · have z : (k : Int) < 8 := by omega
      obtain ⟨m, rfl⟩ : ∃ m, n = m + 1 := ⟨n - 1, by omega⟩
      have HS : Hid (s.val ^^^ rst (m + 1) b' h.val = tm a.val b.val) := hs
      have ea := and1 b' hb
      have eh := hi_is h
      have h0 : (0 : Int) ≤ (h.val : Int) := by omega
      have h1 : (h.val : Int) < 256 := by have := h.2; omega
      have ex : bits .xor .u8 (s.val : Int) (h.val : Int) = ((s.val ^^^ h.val : Nat) : Int) := bits_xor8 s.val h.val s.2 h.2
      have HX : Hid (s.val ^^^ h.val = (xr s h).val) := rfl
      have HD : Hid ((dF h).val = T8 h.val) := rfl
      have HK : Hid (m + 1 + k = 8) := hk
      clear hs hk
      have key : ∀ s' : By, s'.val ^^^ rst m (b' / 2) (dF h).val = tm a.val b.val → Hid (s'.val ^^^ rst m (b' / 2) (dF h).val = tm a.val b.val) := fun _ h => h
      have step : Hid ((if b' % 2 = 1 then xr s h else s).val ^^^ rst m (b' / 2) (dF h).val = tm a.val b.val) := by
        have := HS.out
        rw [rst_step, ← HD.out] at this
        show _ = _
        split
        · next p => rw [if_pos p, ← Nat.xor_assoc] at this; exact this
        · next p => rw [if_neg p, Nat.zero_xor] at this; exact this
      clear HS
      have dn : (an h 128).val = 0 → Hid (((h.val : Int) * 2) % 256 = ((dF h).val : Int)) := fun q => by show _ = _; rw [dF_no h q]; omega
      have dy : (an h 128).val ≠ 0 → Hid (bits .xor .u8 (((h.val : Int) * 2) % 256) 27 = ((dF h).val : Int)) := fun q => by
        show _ = _
        have := bits_xor8 (h.val * 2 % 256) 27 (by omega) (by decide)
        rw [show ((27 : Nat) : Int) = 27 from rfl, show ((h.val * 2 % 256 : Nat) : Int) = (h.val : Int) * 2 % 256 by omega] at this
        rw [this, dF_yes h q]
      by_cases p : b' % 2 = 1
      · rw [p, show ((1 : Nat) : Int) = 1 from rfl] at ea
        rw [if_pos p] at step
        by_cases q : (an h 128).val = 0
        · rw [q, show ((0 : Nat) : Int) = 0 from rfl] at eh
          have D := dn q
          clear dn dy
          go_wp2_with fail
          refine ⟨⟨k + 1, m, b' / 2, dF h, xr s h, by have := HK.out; omega, by go_num, by go_num, ?_, by rw [← HX.out], by omega, step.out, trivial⟩, by simp [intOf]; omega⟩
          rw [← D.out]
        · have q' : ¬ ((an h 128).val : Int) = 0 := by omega
          have D := dy q
          clear dn dy
          go_wp2_with fail
          refine ⟨⟨k + 1, m, b' / 2, dF h, xr s h, by have := HK.out; omega, by go_num, by go_num, ?_, by rw [← HX.out], by omega, step.out, trivial⟩, by simp [intOf]; omega⟩
          rw [← D.out]
      · have p0 : b' % 2 = 0 := by omega
        rw [p0, show ((0 : Nat) : Int) = 0 from rfl] at ea
        rw [if_neg p] at step
        by_cases q : (an h 128).val = 0
        · rw [q, show ((0 : Nat) : Int) = 0 from rfl] at eh
          have D := dn q
          clear dn dy
          go_wp2_with fail
          refine ⟨⟨k + 1, m, b' / 2, dF h, s, by have := HK.out; omega, by go_num, by go_num, ?_, rfl, by omega, step.out, trivial⟩, by simp [intOf]; omega⟩
          rw [← D.out]
        · have q' : ¬ ((an h 128).val : Int) = 0 := by omega
          have D := dy q
          clear dn dy
          go_wp2_with fail
          refine ⟨⟨k + 1, m, b' / 2, dF h, s, by have := HK.out; omega, by go_num, by go_num, ?_, rfl, by omega, step.out, trivial⟩, by simp [intOf]; omega⟩
          rw [← D.out]
    · have e8 : k = 8 := by omega
      have en : n = 0 := by omega
      have z : ¬ (k : Int) < 8 := by omega
      subst en
      have HS : Hid (s.val = tm a.val b.val) := by
        rw [show rst 0 b' h.val = 0 from rfl, Nat.xor_zero] at hs
        exact hs
      clear hs
      go_wp2_with fail
      go_ret
      refine ⟨?_, rfl⟩
      rw [show (tmF a b).val = s.val from HS.out.symm]
      rfl
end Go.Proofs.YtjaljnfijhfkcaaGreatDoor
/- The product of two blocks. -/
set_option linter.all false
set_option maxRecDepth 100000
namespace Go.Proofs.YtjaljnfijhfkcaaGreatDoor
open Go.RowKit Go.Sort Lin
theorem idx59 (x y : Int) (k : Nat) (hk : k < 2) (W : World) : (Instr.index 135 (.agg #[.int .u64 x, .int .u64 y]) (.int .i64 (k : Int))).run Tryz.prog W = .ok (g2 x y k) W := by
  have h0 : (0 : Int) ≤ (k : Int) ∧ (k : Int) < ((2 : Nat) : Int) := by omega
  have hs : (Go.sizeOf 22).run Tryz.prog W = .ok 1 W := by kernel_rfl
  simp only [Instr.index, asIntOf, Sem.run_bind, Sem.run_pure, Result.andThen_ok, run_underlying Tryz.underlying135]
  rw [Sem.run_ite, if_pos h0]
  simp only [Sem.run_bind, hs, Result.andThen_ok, Int.toNat_natCast, Nat.mul_one]
  have ha : (isAgg 22).run Tryz.prog W = .ok false W := by kernel_rfl
  simp [part, Sem.run_bind, ha, g2_at x y k hk]
/-- The word of a block that is gone through in round i. -/
def wi (x y : Int) (i : Nat) : Int := if i = 0 then x else y
theorem g2_wi (x y : Int) (i : Nat) : g2 x y i = .int .u64 (wi x y i) := by unfold g2 wi; split <;> rfl
set_option maxHeartbeats 1000000 in
theorem times_core (x y : Int) (sx sy ox oy m p q : Nat → Int) (h0 : sx 0 = 0) (h1 : sy 0 = 0)
    (hm : ∀ (i k : Nat), i < 2 → k < 64 → bits .and .u64 (wi x y i / 2 ^ (63 - k)) 1 = m (64 * i + k))
    (C36 : ∀ j W, Calls Tryz.prog 116 #[gk (ox j) (oy j), .int .u64 (m j)] W fun e w' => e = .returned (gk (p j) (q j)) ∧ Below W.heap.size W w')
    (C35 : ∀ j W, Calls Tryz.prog 79 #[gk (sx j) (sy j), gk (p j) (q j)] W fun e w' => e = .returned (gk (sx (j + 1)) (sy (j + 1))) ∧ Below W.heap.size W w')
    (C37 : ∀ j W, Calls Tryz.prog 117 #[gk (ox j) (oy j)] W fun e w' => e = .returned (gk (ox (j + 1)) (oy (j + 1))) ∧ Below W.heap.size W w') (w : World) :
    Calls Tryz.prog 102 #[gk x y, gk (ox 0) (oy 0)] w fun e w' => e = .returned (gk (sx 128) (sy 128)) ∧ Below w.heap.size w w' := by
  have C34 := fun W => words_core x y W
  unfold gk at *
  go_enter Tryz.func102, Tryz.ntmps102
  go_wp2_with fail
  have A1 := (((Arr.new (w.alloc (.cells #[.int .u64 x, .int .u64 y] 105)) _ 105 (w.heap.size + 1) (by simp) _ 2 (g2_at (ox 0) (oy 0))).al' (.cells #[.int .u64 0, .int .u64 0] 105)).al' (.cells #[.int .u64 0, .int .u64 0] 105))
  have A2 := ((Arr.new ((w.alloc (.cells #[.int .u64 x, .int .u64 y] 105)).alloc (.cells #[.int .u64 (ox 0), .int .u64 (oy 0)] 105)) _ 105 (w.heap.size + 1 + 1) (by simp) _ 2 (g2_at 0 0)).al' (.cells #[.int .u64 0, .int .u64 0] 105))
  have A3 := (Arr.new (((w.alloc (.cells #[.int .u64 x, .int .u64 y] 105)).alloc (.cells #[.int .u64 (ox 0), .int .u64 (oy 0)] 105)).alloc (.cells #[.int .u64 0, .int .u64 0] 105)) _ 105 (w.heap.size + 1 + 1 + 1) (by simp) _ 2 (g2_at 0 0))
  have hB : Below w.heap.size w ((((w.alloc (.cells #[.int .u64 x, .int .u64 y] 105)).alloc (.cells #[.int .u64 (ox 0), .int .u64 (oy 0)] 105)).alloc (.cells #[.int .u64 0, .int .u64 0] 105)).alloc (.cells #[.int .u64 0, .int .u64 0] 105)) := by go_grown
  generalize ((((w.alloc (.cells #[.int .u64 x, .int .u64 y] 105)).alloc (.cells #[.int .u64 (ox 0), .int .u64 (oy 0)] 105)).alloc (.cells #[.int .u64 0, .int .u64 0] 105)).alloc (.cells #[.int .u64 0, .int .u64 0] 105)) = W at *
  refine (C34 _).mono ?_
  rintro e w1 ⟨rfl, hb⟩
  replace A1 := A1.to' hb
  replace A2 := A2.to' hb
  replace A3 := A3.to' hb
  replace hB := Bel.call hB hb
  clear hb C34
  go_wp2_with fail
  go_loopw [11] (fun i wr => ∃ k : Nat, k ≤ 2 ∧ i = .int .i64 k ∧ Below w.heap.size w wr ∧ Arr wr (w.heap.size + 1) 2 (g2 (ox (64 * k)) (oy (64 * k))) ∧ Arr wr (w.heap.size + 1 + 1) 2 (g2 0 0) ∧ Arr wr (w.heap.size + 1 + 1 + 1) 2 (g2 (sx (64 * k)) (sy (64 * k)))) (fun i _ => 2 - (intOf i).toNat)
  case atStart => exact ⟨0, by omega, rfl, hB, A1, A2, by rw [Nat.mul_zero, h0, h1]; exact A3⟩
  case round =>
    clear A1 A2 A3 hB
    obtain ⟨i, hi2, rfl, hB, A1, A2, A3⟩ := hrel
    by_cases hlt : i < 2
    · have i0 : (0 : Int) ≤ (i : Int) := by omega
      have i2 : (i : Int) < 2 := by omega
      have I := fun W => idx59 x y i hlt W
      rw [g2_wi] at I
      have hmi := fun k hk => hm i k hlt hk
      generalize wi x y i = c at *
      clear hm
      go_wp2_with fail
      go_loopw [14] (fun z ws => ∃ k : Nat, k ≤ 64 ∧ z = .int .i64 k ∧ Below w.heap.size w ws ∧ Arr ws (w.heap.size + 1) 2 (g2 (ox (64 * i + k)) (oy (64 * i + k))) ∧ Arr ws (w.heap.size + 1 + 1) 2 (g2 0 0) ∧ Arr ws (w.heap.size + 1 + 1 + 1) 2 (g2 (sx (64 * i + k)) (sy (64 * i + k)))) (fun z _ => 64 - (intOf z).toNat)
      case atStart => exact ⟨0, by omega, rfl, hB, A1, A2, A3⟩
      case round =>
        clear A1 A2 A3 hB
        obtain ⟨k, hk, rfl, hB, A1, A2, A3⟩ := hrel
        by_cases hlk : k < 64
        · have k0 : (0 : Int) ≤ (k : Int) := by omega
          have k2 : (k : Int) < 64 := by omega
          have hmk := hmi k hlk
          obtain ⟨j, hj⟩ : ∃ j, 64 * i + k = j := ⟨_, rfl⟩
          have HJ : Hid (64 * i + k = j) := hj
          rw [hj] at hmk A1 A3
          have c36 := C36 j
          have c35 := C35 j
          have c37 := C37 j
          have r0 := fun ds os => cell_regrown A1.h ds os
          have r1 := fun ds os => cell_regrown A1.l ds os
          have r2 := fun ds os => cell_regrown A3.h ds os
          have r3 := fun ds os => cell_regrown A3.l ds os
          clear C36 C35 C37 hmi hj I
          go_wp2_with fail
          refine wp_region_below_tail 9 (by kernel_rfl) (by kernel_rfl) ?_
          simp only [List.take_succ_cons, List.take_zero, List.drop_succ_cons, List.drop_zero]
          repeat (go_big_quiet_step (first | (go_at_call 116; exact Calls.regrown_of (c36 _)) | (go_at_call 79; exact Calls.regrown_of (c35 _))))
          refine wpQuiet_nil ?_
          intro w1 hw'
          obtain ⟨⟨dq, osq⟩, hw''⟩ := hw'
          have hb1 := below_of hw''
          clear hw'' r0 r1 r2 r3 c36 c35
          have B1 := A1.to' hb1
          have B2 := A2.to' hb1
          have B3 := A3.to' hb1
          have hB1 := Bel.call hB hb1
          clear A1 A2 A3 hB hb1
          have d0 := B3.c 0 (by omega)
          have d1 := B3.c 1 (by omega)
          have z0 := B3.z 0 (by omega)
          have z1 := B3.z 1 (by omega)
          have e0 := (B1.st2o (show w.heap.size + 1 + 1 + 1 ≠ w.heap.size + 1 by omega) (sx (j + 1)) (sy (j + 1))).h
          have e1 := (B1.st2o (show w.heap.size + 1 + 1 + 1 ≠ w.heap.size + 1 by omega) (sx (j + 1)) (sy (j + 1))).l
          unfold st2 at e0 e1
          go_wp2_with fail
          refine (c37 _).mono ?_
          rintro e w2 ⟨rfl, hb2⟩
          have D1 : Arr _ (w.heap.size + 1) 2 _ := Arr.to' (n := 1) (B1.st2o (show w.heap.size + 1 + 1 + 1 ≠ w.heap.size + 1 by omega) (sx (j + 1)) (sy (j + 1))) hb2
          have D2 : Arr _ (w.heap.size + 1 + 1) 2 _ := Arr.to' (n := 1) (B2.st2o (show w.heap.size + 1 + 1 + 1 ≠ w.heap.size + 1 + 1 by omega) (sx (j + 1)) (sy (j + 1))) hb2
          have D3 : Arr _ (w.heap.size + 1 + 1 + 1) 2 _ := Arr.to' (n := 1) (B3.st2 (sx (j + 1)) (sy (j + 1))) hb2
          have hB2 : Below w.heap.size w w2 := Bel.call (Bel.st2 hB1 (b := w.heap.size + 1 + 1 + 1) (by omega) (sx (j + 1)) (sy (j + 1))) hb2
          clear B1 B2 B3 hB1 hb2 d0 d1 z0 z1 e0 e1 c37
          have d0 := D1.c 0 (by omega)
          have d1 := D1.c 1 (by omega)
          have z0 := D1.z 0 (by omega)
          have z1 := D1.z 1 (by omega)
          go_wp2_with fail
          have hj1 : 64 * i + (k + 1) = j + 1 := by have := HJ.out; omega
          refine ⟨⟨k + 1, by omega, by go_num, Bel.st2 hB2 (by omega) _ _, ?_, D2.st2o (by omega) _ _, ?_⟩, by simp [intOf]; omega⟩
          · rw [hj1]; exact D1.st2 _ _
          · rw [hj1]; exact D3.st2o (by omega) _ _
        · have e : k = 64 := by omega
          rw [show ((k : Nat) : Int) = 64 by omega]
          subst e
          clear hmi C36 C35 C37
          go_wp2_with fail
          rw [show 64 * i + 64 = 64 * (i + 1) by omega] at A1 A3
          exact ⟨⟨i + 1, by omega, by go_num, hB, A1, A2, A3⟩, by simp [intOf]; omega⟩
    · have e : i = 2 := by omega
      rw [show ((i : Nat) : Int) = 2 by omega]
      subst e
      have c0 := A3.h
      have c1 := A3.l
      have d0 := A2.c 0 (by omega)
      have d1 := A2.c 1 (by omega)
      have z0 := A2.z 0 (by omega)
      have z1 := A2.z 1 (by omega)
      have E := A2.st2 (sx (64 * 2)) (sy (64 * 2))
      have e0 := E.h
      have e1 := E.l
      unfold Go.Proofs.YtjaljnfijhfkcaaGreatDoor.st2 at e0 e1
      clear C36 C35 C37 hm
      go_wp2_with fail
      refine bodyPost_ret (v := gk (sx 128) (sy 128)) (by simp [gk, results, Tryz.results102, go_sem, e0, e1]) rfl ⟨rfl, Bel.st2 hB (by omega) _ _⟩
/-- The product of two blocks. -/
theorem btimes_any {a b : Nat} (ha : a < 2 ^ 128) (hb : b < 2 ^ 128) (w : World) : Calls Tryz.prog 102 #[gB a, gB b] w fun e w' => e = .returned (gB (tB a b)) ∧ Below w.heap.size w w' := by
  have ol : ∀ j, it T128 j b < 2 ^ 128 := fun j => it_lt T128_lt j b hb
  have sl : ∀ j, S T128 (bs a) j b < 2 ^ 128 := fun j => S_lt T128_lt j _ b hb
  refine times_core (hi a) (lo a) (fun j => hi (S T128 (bs a) j b)) (fun j => lo (S T128 (bs a) j b)) (fun j => hi (it T128 j b)) (fun j => lo (it T128 j b)) (fun j => if bs a j = true then 1 else 0)
    (fun j => hi (if bs a j = true then it T128 j b else 0)) (fun j => lo (if bs a j = true then it T128 j b else 0)) (by simp [S, hi]) (by simp [S, lo]) (fun i k hi2 hk => ?_) (fun j W => masked_any (ol j) (bs a j) W) (fun j W => ?_) (fun j W => timesX_any (ol j) W) w
  · have : i = 0 ∨ i = 1 := by omega
    rcases this with rfl | rfl
    · show bits .and .u64 (((a / 2 ^ 64 : Nat) : Int) / 2 ^ (63 - k)) 1 = if bs a (64 * 0 + k) = true then 1 else 0
      rw [bit_at _ k (hi_lt ha) hk, bs_hi a k hk, Nat.mul_zero, Nat.zero_add]
    · show bits .and .u64 (((a % 2 ^ 64 : Nat) : Int) / 2 ^ (63 - k)) 1 = if bs a (64 * 1 + k) = true then 1 else 0
      rw [bit_at _ k (lo_lt a) hk, bs_lo a k hk]
  · have := gplus_any (a := S T128 (bs a) j b) (b := if bs a j = true then it T128 j b else 0) (sl j) (by split; exact ol j; decide) W
    rw [← S_end] at this
    exact this
end Go.Proofs.YtjaljnfijhfkcaaGreatDoor
/- A block's 16 bytes as a text. -/
set_option linter.all false
set_option maxRecDepth 100000
namespace Go.Proofs.YtjaljnfijhfkcaaGreatDoor
open Go.RowKit Go.Sort Lin
/-- A word's first j bytes, the highest first. -/
def oL (x : Int) (j : Nat) : List Int := (List.range j).map fun i => x / 2 ^ (56 - 8 * i) % 256
theorem oL_succ (x : Int) (j : Nat) : oL x (j + 1) = oL x j ++ [x / 2 ^ (56 - 8 * j) % 256] := by simp [oL, List.range_succ]
theorem oL_len (x : Int) (j : Nat) : (oL x j).length = j := by simp [oL]
def dL (x y : Int) : Nat → List Int
  | 0 => []
  | k + 1 => dL x y k ++ oL (wi x y k) 8
theorem dL_len (x y : Int) (k : Nat) : (dL x y k).length = 8 * k := by
  induction k with
  | zero => rfl
  | succ k ih => rw [dL, List.length_append, ih, oL_len]; omega
set_option maxHeartbeats 1000000 in
theorem gtext_core (x y : Int) (T : ByteArray) (hT : mkS (dL x y 2) = T) (w : World) : Calls Tryz.prog 56 #[gk x y] w fun e w' => e = .returned (.string T) ∧ Below w.heap.size w w' := by
  have C34 := fun W => words_core x y W
  obtain ⟨i0, hi, hz0, hz1, hz2⟩ := info_parts Tryz.info5
  obtain ⟨wm, hmk, hown, hgm⟩ := run_make_own (P := Tryz.prog) (w.alloc (.cells #[.int .u64 x, .int .u64 y] 105)) w.heap.size 50 5 i0 (.int .u8 0) 1 Tryz.underlying50 hi hz0 hz1 .i64 .i64 16 (by rw [hz2]; omega) (by unfold maxLen; omega) (by simp)
  rw [show ((16 : Nat) : Int) = 16 from rfl] at hmk
  have A0 := Arr.new w _ 105 _ rfl _ 2 (g2_at x y)
  have hmb : Below (w.alloc (.cells #[.int .u64 x, .int .u64 y] 105)).heap.size (w.alloc (.cells #[.int .u64 x, .int .u64 y] 105)) wm := ⟨hgm.os, hgm.tape, hgm.output, hgm.size, fun k hk => hgm.block k hk (by intro e; cases e)⟩
  replace A0 := A0.to' hmb
  have hB := Bel.call ((Below.refl _ w).alloc (Nat.le_refl _) (.cells #[.int .u64 x, .int .u64 y] 105)) hmb
  clear hgm hmb
  have c0 := A0.h
  have c1 := A0.l
  unfold gk at *
  go_enter Tryz.func56, Tryz.ntmps56
  go_wp2_with fail
  clear hmk
  refine (C34 _).mono ?_
  rintro e w1 ⟨rfl, hb⟩
  replace hown := hown.kept (gby hb) (.inr (by simp [Value.ownBlock]))
  replace hB := Bel.call hB hb
  clear hb C34 A0 c0 c1
  rw [World.size_alloc] at hown
  go_wp2_with fail
  go_loopw [3, 10] (fun v i wr => ∃ k : Nat, k ≤ 2 ∧ i = .int .i64 k ∧ wr.ownsRow w.heap.size 5 1 v (8 * k) ((dL x y k).map (Value.int .u8)) ∧ Below w.heap.size w wr) (fun _ i _ => 2 - (intOf i).toNat)
  case atStart => exact ⟨0, by omega, rfl, hown, hB⟩
  case round =>
    clear hown hB
    obtain ⟨k, hk, rfl, hown, hB⟩ := hrel
    by_cases hlt : k < 2
    · have k0 : (0 : Int) ≤ (k : Int) := by omega
      have k2 : (k : Int) < 2 := by omega
      have I := fun W => idx59 x y k hlt W
      rw [g2_wi] at I
      have HC : Hid (dL x y (k + 1) = dL x y k ++ oL (wi x y k) 8) := rfl
      generalize wi x y k = c at *
      go_wp2_with fail
      go_loopw [3, 6] (fun v z ws => ∃ j : Nat, j ≤ 8 ∧ z = .int .i64 (56 - 8 * (j : Int)) ∧ ws.ownsRow w.heap.size 5 1 v (8 * k + j) ((dL x y k ++ oL c j).map (Value.int .u8)) ∧ Below w.heap.size w ws) (fun _ z _ => (intOf z + 8).toNat)
      case atStart => exact ⟨0, by omega, rfl, by simpa [oL] using hown, hB⟩
      case round =>
        clear hown hB
        obtain ⟨j, hj, rfl, hown, hB⟩ := hrel
        by_cases hlj : j < 8
        · obtain ⟨m, hm⟩ : ∃ m, 56 - 8 * j = m := ⟨_, rfl⟩
          have em : (56 : Int) - 8 * (j : Int) = (m : Int) := by omega
          rw [em]
          have m0 : (0 : Int) ≤ (m : Int) := by omega
          have m1 : (m : Int) ≤ 56 := by omega
          obtain ⟨ao, cv, hv⟩ := own_form hown
          subst hv
          have HL : Hid ((dL x y k ++ oL c (j + 1)).map (Value.int .u8) = (dL x y k ++ oL c j).map (Value.int .u8) ++ [.int .u8 (c / 2 ^ m % 256)]) := by
            show _ = _
            rw [oL_succ, hm, ← List.append_assoc, List.map_append (l₁ := dL x y k ++ oL c j)]
            rfl
          have HM : Hid ((56 : Int) - 8 * (j : Int) = (m : Int)) := em
          have HO : Hid (wr.ownsRow w.heap.size 5 1 (.slice ao (8 * k + j) cv) (8 * k + j) ((dL x y k ++ oL c j).map (Value.int .u8))) := hown
          have hs := hB.size
          clear hown em hm I
          generalize (dL x y k ++ oL c j).map (Value.int .u8) = L at *
          go_wp2_with (at_builtin; refine stopAt ?_)
          unfold Stop
          refine wpList_append_own _ rfl _ _ 50 rfl w.heap.size 5 i0 (.int .u8 0) 1 1 Tryz.underlying50 hi hz0 hz1 hz2 rfl (by decide) _ _ _ rfl (World.ownsRow.alloc HO.out _) ⟨_, 0, none⟩ 1 1 [.int .u8 (c / 2 ^ m % 256)] rfl rfl (news_new _ _ _) (by simp [Value.oneCell']) (by unfold maxLen; omega) (by omega) (by simp; omega) ?_
          intro v' w3 hown' hgrow3 hnil3
          have b3 : Below w.heap.size w w3 := (Bel.al hB _).grown hgrow3 (by simp; omega) (fun q hq => (HO.out.lt q hq).1)
          clear hnil3 hgrow3
          go_wp2_with fail
          refine ⟨⟨j + 1, by omega, ?_, ?_, b3⟩, by simp [intOf]; omega⟩
          · have := HM.out
            congr 1
            omega
          · rw [HL.out]
            exact hown'
        · have e : j = 8 := by omega
          subst e
          rw [show (56 : Int) - 8 * ((8 : Nat) : Int) = -8 by omega]
          clear I
          go_wp2_with fail
          refine ⟨⟨k + 1, by omega, by go_num, ?_, hB⟩, by simp [intOf]; omega⟩
          rw [HC.out]
          exact hown
    · have e : k = 2 := by omega
      rw [show ((k : Nat) : Int) = 2 by omega]
      subst e
      obtain ⟨g, c, hv⟩ := own_some hown (by omega)
      subst hv
      have cv := convC wr g 16 c (dL x y 2) (dL_len x y 2) (World.ownsRow.cells hown rfl)
      rw [hT] at cv
      clear hown
      go_wp2_with fail
      go_ret
      exact ⟨rfl, hB⟩
/-- A block's 16 bytes. -/
def tN (n : Nat) : ByteArray := mkS (dL (hi n) (lo n) 2)
theorem gtext_any (n : Nat) (w : World) : Calls Tryz.prog 56 #[gB n] w fun e w' => e = .returned (.string (tN n)) ∧ Below w.heap.size w w' := gtext_core _ _ _ rfl w
theorem tN_size (n : Nat) : (tN n).size = 16 := by unfold tN; rw [mkS_size, dL_len]
end Go.Proofs.YtjaljnfijhfkcaaGreatDoor
