/- Texts joined: G1, A3. -/
import Derived.Laws.Bits64
import Derived.Test.YtjaljnfijhfkcaaGreatDoorJ3
/- Blocks of 16 bytes as numbers below 2^128: products by bits; sums; bytes. -/
set_option linter.all false
set_option maxRecDepth 100000
namespace Lin
/-- The step by which blocks are multiplied: the first bit is the highest. -/
def T128 (a : Nat) : Nat := a / 2 ^^^ (if a.testBit 0 = true then 225 * 2 ^ 120 else 0)
theorem half_xor (a b : Nat) : (a ^^^ b) / 2 = a / 2 ^^^ b / 2 := by
  apply Nat.eq_of_testBit_eq
  intro i
  simp [Nat.testBit_div_two]
theorem T128_L : L T128 := by
  refine ⟨by decide, fun a b => ?_⟩
  unfold T128
  rw [half_xor, Nat.testBit_xor, x4]
  congr 1
  cases a.testBit 0 <;> cases b.testBit 0 <;> decide
theorem T128_lt (v : Nat) (h : v < 2 ^ 128) : T128 v < 2 ^ 128 := by
  unfold T128
  refine Nat.xor_lt_two_pow (Nat.lt_of_le_of_lt (Nat.div_le_self _ _) h) ?_
  split <;> decide
theorem T128_pow (m : Nat) : T128 (2 ^ (m + 1)) = 2 ^ m := by
  unfold T128
  have e : (2 ^ (m + 1)).testBit 0 = false := by rw [Nat.testBit_zero]; simp [Nat.pow_succ]
  rw [e, Nat.pow_succ]
  simp
theorem top_bit (a m : Nat) : (if a.testBit m = true then 2 ^ m else 0) ^^^ a % 2 ^ m = a % 2 ^ (m + 1) := by
  apply Nat.eq_of_testBit_eq
  intro i
  rw [Nat.testBit_xor, Nat.testBit_mod_two_pow, Nat.testBit_mod_two_pow]
  by_cases h : i = m
  · subst h
    cases e : a.testBit i <;> simp [Nat.testBit_two_pow_self]
  · have z : (if a.testBit m = true then 2 ^ m else 0).testBit i = false := by
      split
      · rw [Nat.testBit_two_pow]; simp; omega
      · simp
    rw [z]
    by_cases c : i < m
    · simp [c, show i < m + 1 by omega]
    · simp [c, show ¬ i < m + 1 by omega]
theorem rep128 (a : Nat) : ∀ m, S T128 (fun i => a.testBit (m - i)) (m + 1) (2 ^ m) = a % 2 ^ (m + 1) := by
  intro m
  induction m with
  | zero => simp [S, Nat.testBit_zero]; rcases Nat.mod_two_eq_zero_or_one a with h | h <;> simp [h]
  | succ m ih =>
    show (if a.testBit (m + 1 - 0) = true then 2 ^ (m + 1) else 0) ^^^ S T128 (fun i => a.testBit (m + 1 - (i + 1))) (m + 1) (T128 (2 ^ (m + 1))) = _
    rw [T128_pow]
    have e : (fun i => a.testBit (m + 1 - (i + 1))) = fun i => a.testBit (m - i) := by funext i; congr 1; omega
    rw [e, ih]
    exact top_bit a (m + 1)
theorem R128 : R T128 128 (fun a i => a.testBit (127 - i)) (2 ^ 127) := by
  refine ⟨T128_L, fun a ha => ?_, S_lt T128_lt⟩
  rw [rep128 a 127, Nat.mod_eq_of_lt ha]
/-- A step, k times. -/
def it (T : Nat → Nat) : Nat → Nat → Nat
  | 0, v => v
  | k + 1, v => T (it T k v)
theorem it_T (T : Nat → Nat) : ∀ k v, it T k (T v) = T (it T k v) := by
  intro k
  induction k with
  | zero => intro v; rfl
  | succ k ih => intro v; simp only [it]; rw [ih]
/-- One bit more, at the end. -/
theorem S_end (T : Nat → Nat) : ∀ k f v, S T f (k + 1) v = S T f k v ^^^ (if f k = true then it T k v else 0) := by
  intro k
  induction k with
  | zero => intro f v; simp [S, it]
  | succ k ih =>
    intro f v
    show (if f 0 = true then v else 0) ^^^ S T (fun i => f (i + 1)) (k + 1) (T v) = _
    rw [ih, it_T, ← Nat.xor_assoc]
    rfl
theorem it_lt {T : Nat → Nat} {n : Nat} (ht : ∀ v, v < 2 ^ n → T v < 2 ^ n) : ∀ k v, v < 2 ^ n → it T k v < 2 ^ n := by
  intro k
  induction k with
  | zero => intro v h; exact h
  | succ k ih => intro v h; exact ht _ (ih v h)
/-- The bits of a block, in their order. -/
def bs (a i : Nat) : Bool := a.testBit (127 - i)
/-- The product of two blocks. -/
def tB (a b : Nat) : Nat := S T128 (bs a) 128 b
theorem R128' : R T128 128 bs (2 ^ 127) := R128
theorem tB_lt {a b : Nat} (hb : b < 2 ^ 128) : tB a b < 2 ^ 128 := S_lt T128_lt 128 _ b hb
theorem tB_comm {a b : Nat} (ha : a < 2 ^ 128) (hb : b < 2 ^ 128) : tB a b = tB b a := R128'.comm ha hb
theorem tB_assoc {a b c : Nat} (ha : a < 2 ^ 128) (hb : b < 2 ^ 128) (hc : c < 2 ^ 128) : tB (tB a b) c = tB a (tB b c) := R128'.assoc ha hb hc
theorem tB_xor (a b c : Nat) : tB a (b ^^^ c) = tB a b ^^^ tB a c := R128'.dist a b c
theorem tB_one {a : Nat} (ha : a < 2 ^ 128) : tB a (2 ^ 127) = a := R128'.r a ha
theorem x128 {a b : Nat} (ha : a < 2 ^ 128) (hb : b < 2 ^ 128) : a ^^^ b < 2 ^ 128 := Nat.xor_lt_two_pow ha hb
end Lin
namespace Go.Proofs.YtjaljnfijhfkcaaGreatDoor
open Lin
/-- A block's two words. -/
def hi (n : Nat) : Int := ((n / 2 ^ 64 : Nat) : Int)
def lo (n : Nat) : Int := ((n % 2 ^ 64 : Nat) : Int)
theorem bits_xor64 (a b : Nat) (ha : a < 2 ^ 64) (hb : b < 2 ^ 64) : bits .xor .u64 (a : Int) (b : Int) = ((a ^^^ b : Nat) : Int) := by
  have hx : a ^^^ b < 2 ^ 64 := Nat.xor_lt_two_pow ha hb
  have h1 : (BitVec.ofInt 64 (a : Int)).toNat = a := by rw [BitVec.ofInt_natCast, BitVec.toNat_ofNat]; exact Nat.mod_eq_of_lt ha
  have h2 : (BitVec.ofInt 64 (b : Int)).toNat = b := by rw [BitVec.ofInt_natCast, BitVec.toNat_ofNat]; exact Nat.mod_eq_of_lt hb
  show IntKind.u64.wrap ((BitVec.ofInt 64 (a : Int) ^^^ BitVec.ofInt 64 (b : Int)).toNat : Int) = _
  rw [BitVec.toNat_xor, h1, h2, IntKind.wrap_u64]
  omega
theorem wraps_u64' (n : Int) (h₀ : 0 ≤ n) (h₁ : n < 2 ^ 64) : IntKind.u64.wrap n = n := by rw [IntKind.wrap_u64]; omega
theorem bits_ao64 (a b : Nat) (ha : a < 2 ^ 64) (hb : b < 2 ^ 64) : bits .and .u64 a b = ((a &&& b : Nat) : Int) ∧ bits .or .u64 a b = ((a ||| b : Nat) : Int) :=
  bits_nat .u64 64 (by decide) wraps_u64' a b ha hb
theorem xor_div (a b k : Nat) : (a ^^^ b) / 2 ^ k = a / 2 ^ k ^^^ b / 2 ^ k := by
  apply Nat.eq_of_testBit_eq
  intro i
  simp [Nat.testBit_div_two_pow]
theorem xor_mod (a b k : Nat) : (a ^^^ b) % 2 ^ k = a % 2 ^ k ^^^ b % 2 ^ k := by
  apply Nat.eq_of_testBit_eq
  intro i
  rw [Nat.testBit_xor, Nat.testBit_mod_two_pow, Nat.testBit_mod_two_pow, Nat.testBit_mod_two_pow, Nat.testBit_xor]
  cases decide (i < k) <;> simp
theorem hi_lt {n : Nat} (h : n < 2 ^ 128) : n / 2 ^ 64 < 2 ^ 64 := by omega
theorem lo_lt (n : Nat) : n % 2 ^ 64 < 2 ^ 64 := Nat.mod_lt _ (by decide)
theorem hi_xor {a b : Nat} (ha : a < 2 ^ 128) (hb : b < 2 ^ 128) : bits .xor .u64 (hi a) (hi b) = hi (a ^^^ b) := by
  unfold hi; rw [bits_xor64 _ _ (hi_lt ha) (hi_lt hb), xor_div]
theorem lo_xor (a b : Nat) : bits .xor .u64 (lo a) (lo b) = lo (a ^^^ b) := by
  unfold lo; rw [bits_xor64 _ _ (lo_lt a) (lo_lt b), xor_mod]
theorem and_all (a : Nat) (h : a < 2 ^ 64) : bits .and .u64 (a : Int) 18446744073709551615 = (a : Int) := by
  have := (bits_ao64 a 18446744073709551615 h (by decide)).1
  rw [show ((18446744073709551615 : Nat) : Int) = 18446744073709551615 from rfl] at this
  rw [this]
  congr 1
  have := Nat.and_two_pow_sub_one_eq_mod a 64
  rw [show 18446744073709551615 = 2 ^ 64 - 1 from rfl, this]
  exact Nat.mod_eq_of_lt h
theorem and_none (a : Nat) (h : a < 2 ^ 64) : bits .and .u64 (a : Int) 0 = 0 := by
  have := (bits_ao64 a 0 h (by decide)).1
  rw [show ((0 : Nat) : Int) = 0 from rfl] at this
  rw [this, Nat.and_zero]
  rfl
/-- The lowest bit. -/
theorem and_one (a : Nat) (h : a < 2 ^ 64) : bits .and .u64 (a : Int) 1 = if a.testBit 0 = true then 1 else 0 := by
  have := (bits_ao64 a 1 h (by decide)).1
  rw [show ((1 : Nat) : Int) = 1 from rfl] at this
  rw [this, Nat.and_one_is_mod, Nat.testBit_zero]
  rcases Nat.mod_two_eq_zero_or_one a with e | e <;> simp [e]
theorem half_hi (n : Nat) : hi n / 2 = hi (n / 2) := by unfold hi; omega
theorem half_lo (n : Nat) : bits .or .u64 (hi n * 9223372036854775808 % 18446744073709551616) (lo n / 2) = lo (n / 2) := by
  unfold hi lo
  have e1 : ((n / 2 ^ 64 : Nat) : Int) * 9223372036854775808 % 18446744073709551616 = ((n / 2 ^ 64 % 2 * 2 ^ 63 + 0 : Nat) : Int) := by omega
  have e2 : ((n % 2 ^ 64 : Nat) : Int) / 2 = ((0 * 2 ^ 63 + n % 2 ^ 64 / 2 : Nat) : Int) := by omega
  rw [e1, e2, (bits_ao64 _ _ (by omega) (by omega)).2, or_hi _ _ _ _ 63 (by decide) (by omega)]
  simp
  omega
theorem bit_lo (n : Nat) : bits .and .u64 (lo n) 1 = if n.testBit 0 = true then 1 else 0 := by
  unfold lo
  rw [and_one _ (lo_lt n), Nat.testBit_mod_two_pow]
  simp
/-- The bit k of a word, the highest first. -/
theorem bit_at (a k : Nat) (h : a < 2 ^ 64) (hk : k < 64) : bits .and .u64 ((a : Int) / 2 ^ (63 - k)) 1 = if a.testBit (63 - k) = true then 1 else 0 := by
  have e : (a : Int) / 2 ^ (63 - k) = ((a / 2 ^ (63 - k) : Nat) : Int) := by
    rw [Int.natCast_ediv]
    congr 1
  rw [e, and_one _ (Nat.lt_of_le_of_lt (Nat.div_le_self _ _) h), Nat.testBit_div_two_pow]
  simp
theorem bs_hi (n k : Nat) (hk : k < 64) : (n / 2 ^ 64).testBit (63 - k) = bs n k := by
  unfold bs
  rw [Nat.testBit_div_two_pow]
  congr 1
  omega
theorem bs_lo (n k : Nat) (hk : k < 64) : (n % 2 ^ 64).testBit (63 - k) = bs n (64 + k) := by
  unfold bs
  rw [Nat.testBit_mod_two_pow]
  simp only [show 63 - k < 64 by omega, decide_true, Bool.true_and]
  congr 1
  omega
theorem T128_is (n : Nat) : T128 n = n / 2 ^^^ (if n.testBit 0 = true then 225 * 2 ^ 120 else 0) := rfl
end Go.Proofs.YtjaljnfijhfkcaaGreatDoor
/- Products of bytes: the program's and the reference's. -/
set_option linter.all false
set_option maxRecDepth 100000
namespace Go.Proofs.YtjaljnfijhfkcaaGreatDoor
open Go.RowKit Go.Sort Lin
theorem S_none : ∀ n v, S T8 (fun i => (0 : Nat).testBit i) n v = 0 := by
  intro n
  induction n with
  | zero => intro v; rfl
  | succ n ih => intro v; simp [S]; simpa using ih (T8 v)
/-- What is left to add: the bits of b, n of them. -/
def rst (n : Nat) (b : Nat) (v : Nat) : Nat := S T8 (fun i => b.testBit i) n v
theorem rst_step (n b v : Nat) : rst (n + 1) b v = (if b % 2 = 1 then v else 0) ^^^ rst n (b / 2) (T8 v) := by
  unfold rst
  show (if b.testBit 0 = true then v else 0) ^^^ S T8 (fun i => b.testBit (i + 1)) n (T8 v) = _
  have e : (fun i => b.testBit (i + 1)) = fun i => (b / 2).testBit i := by funext i; rw [Nat.testBit_succ]
  rw [e, Nat.testBit_zero]
  simp
theorem rst_0 (n v : Nat) : rst n 0 v = 0 := S_none n v
theorem dbW_lo (h : By) : dbW (h.val : Int) = ((dF h).val : Int) := by
  have e : ∀ x : By, (x.val : Int) = wd 0 0 0 x := fun x => by unfold wd wdN; simp
  rw [e, dbW_wd, e]
  have : dF 0 = 0 := by decide
  rw [this]
set_option maxHeartbeats 1000000 in
theorem dbl_any (x : Int) (w : World) : Calls Tryz.prog 128 #[.int .u32 x] w fun e w' => e = .returned (.int .u32 (dbW x)) ∧ w' = w := by
  go_enter Tryz.func128, Tryz.ntmps128
  go_wp2
  go_ret
  exact ⟨rfl, rfl⟩
theorem and1 (b : Nat) (hb : b < 256) : bits .and .u8 (b : Int) 1 = ((b % 2 : Nat) : Int) := by
  have := (bits_ao8 b 1 hb (by decide)).1
  rw [show ((1 : Nat) : Int) = 1 from rfl] at this
  rw [this, Nat.and_one_is_mod]
theorem times_any (a b : By) (w : World) : Calls Tryz.prog 136 #[.int .u8 (a.val : Int), .int .u8 (b.val : Int)] w fun e w' => e = .returned (.int .u8 ((tmF a b).val : Int)) ∧ w' = w := by
  have D := fun (h : By) W => dbl_any (h.val : Int) W
  have a0 : (0 : Int) ≤ (a.val : Int) := by omega
  have a1 : (a.val : Int) < 256 := by have := a.2; omega
  go_enter Tryz.func136, Tryz.ntmps136
  go_wp2_with fail
  go_loopw [1, 5, 6] (fun x y z wr => ∃ (n b' : Nat) (h s : By), x = .int .u8 (b' : Int) ∧ y = .int .u32 (h.val : Int) ∧ z = .int .u32 (s.val : Int) ∧ b' < 256 ∧ b' < 2 ^ n ∧ s.val ^^^ rst n b' h.val = tm a.val b.val ∧ wr = w) (fun x _ _ _ => (intOf x).toNat)
  case atStart => exact ⟨8, b.val, a, 0, rfl, rfl, rfl, b.2, b.2, by rw [show (0 : By).val = 0 from rfl, Nat.zero_xor]; rfl, rfl⟩
  case round =>
    obtain ⟨n, b', h, s, rfl, rfl, rfl, hb, hn, hs, rfl⟩ := hrel
    have b0 : (0 : Int) ≤ (b' : Int) := by omega
    have b1 : (b' : Int) < 256 := by omega
    by_cases hz : 0 < b'
    · have z : (0 : Int) < (b' : Int) := by omega
      obtain ⟨m, rfl⟩ : ∃ m, n = m + 1 := ⟨n - 1, by
        rcases n with _ | n
        · simp at hn; omega
        · omega⟩
      have HS : Hid (s.val ^^^ rst (m + 1) b' h.val = tm a.val b.val) := hs
      have HN : Hid (b' < 2 ^ (m + 1)) := hn
      have d := D h
      rw [dbW_lo] at d
      have ea := and1 b' hb
      clear hs hn D
      by_cases p : b' % 2 = 1
      · rw [p] at ea
        rw [show ((1 : Nat) : Int) = 1 from rfl] at ea
        have ex := bits_xor32 s.val h.val (by omega) (by omega)
        have HX : Hid (s.val ^^^ h.val = (xr s h).val) := rfl
        have HD : Hid ((dF h).val = T8 h.val) := rfl
        generalize dF h = h' at *
        go_wp2_with (go_at_call 128; refine (d _).mono ?_; rintro e w1 ⟨rfl, rfl⟩)
        refine ⟨⟨m, b' / 2, h', xr s h, by go_num, rfl, by rw [← HX.out], by omega, ?_, ?_, trivial⟩, by simp [intOf]; omega⟩
        · have := HN.out; rw [Nat.pow_succ] at this; omega
        · have := HS.out
          rw [rst_step, if_pos p, ← Nat.xor_assoc, HX.out] at this
          rw [HD.out]
          exact this
      · have p0 : b' % 2 = 0 := by omega
        rw [p0] at ea
        rw [show ((0 : Nat) : Int) = 0 from rfl] at ea
        have HD : Hid ((dF h).val = T8 h.val) := rfl
        generalize dF h = h' at *
        go_wp2_with (go_at_call 128; refine (d _).mono ?_; rintro e w1 ⟨rfl, rfl⟩)
        refine ⟨⟨m, b' / 2, h', s, by go_num, rfl, rfl, by omega, ?_, ?_, trivial⟩, by simp [intOf]; omega⟩
        · have := HN.out; rw [Nat.pow_succ] at this; omega
        · have := HS.out
          rw [rst_step, if_neg p, Nat.zero_xor] at this
          rw [HD.out]
          exact this
    · have e0 : b' = 0 := by omega
      subst e0
      rw [rst_0, Nat.xor_zero] at hs
      have z : ¬ (0 : Int) < ((0 : Nat) : Int) := by omega
      have s0 : (0 : Int) ≤ (s.val : Int) := by omega
      have s1 : (s.val : Int) < 256 := by have := s.2; omega
      have HS : Hid (s.val = tm a.val b.val) := hs
      clear hs D
      go_wp2_with fail
      go_ret
      refine ⟨?_, rfl⟩
      rw [show (tmF a b).val = s.val from HS.out.symm]
      rfl
theorem hi_is : ∀ a : By, bits .and .u8 (a.val : Int) 128 = ((an a 128).val : Int) := fun a => (bits_ao8 a.val 128 a.2 (by decide)).1
theorem dF_no : ∀ a : By, (an a 128).val = 0 → (dF a).val = a.val * 2 % 256 := by decide +kernel
theorem dF_yes : ∀ a : By, (an a 128).val ≠ 0 → (dF a).val = (a.val * 2 % 256) ^^^ 27 := by decide +kernel
set_option maxHeartbeats 1000000 in
theorem rtimes_any (a b : By) (w : World) : Calls Tryz.prog 86 #[.int .u8 (a.val : Int), .int .u8 (b.val : Int)] w fun e w' => e = .returned (.int .u8 ((tmF a b).val : Int)) ∧ w' = w := by
  go_enter Tryz.func86, Tryz.ntmps86
  go_wp2_with fail
  go_loopw [0, 1, 5, 6] (fun y x z i wr => ∃ (k n b' : Nat) (h s : By), n + k = 8 ∧ i = .int .i64 (k : Int) ∧ x = .int .u8 (b' : Int) ∧ y = .int .u8 (h.val : Int) ∧ z = .int .u8 (s.val : Int) ∧ b' < 256 ∧ s.val ^^^ rst n b' h.val = tm a.val b.val ∧ wr = w) (fun _ _ _ i _ => 8 - (intOf i).toNat)
  case atStart => exact ⟨0, 8, b.val, a, 0, rfl, rfl, rfl, rfl, rfl, b.2, by rw [show (0 : By).val = 0 from rfl, Nat.zero_xor]; rfl, rfl⟩
  case round =>
    obtain ⟨k, n, b', h, s, hk, rfl, rfl, rfl, rfl, hb, hs, rfl⟩ := hrel
    have b0 : (0 : Int) ≤ (b' : Int) := by omega
    have b1 : (b' : Int) < 256 := by omega
    have k0 : (0 : Int) ≤ (k : Int) := by omega
    have k8 : (k : Int) ≤ 8 := by omega
    by_cases hz : k < 8
    · have z : (k : Int) < 8 := by omega
      obtain ⟨m, rfl⟩ : ∃ m, n = m + 1 := ⟨n - 1, by omega⟩
      have HS : Hid (s.val ^^^ rst (m + 1) b' h.val = tm a.val b.val) := hs
      have ea := and1 b' hb
      have eh := hi_is h
      have h0 : (0 : Int) ≤ (h.val : Int) := by omega
      have h1 : (h.val : Int) < 256 := by have := h.2; omega
      have ex : bits .xor .u8 (s.val : Int) (h.val : Int) = ((s.val ^^^ h.val : Nat) : Int) := bits_xor8 s.val h.val s.2 h.2
      have HX : Hid (s.val ^^^ h.val = (xr s h).val) := rfl
      have HD : Hid ((dF h).val = T8 h.val) := rfl
      have HK : Hid (m + 1 + k = 8) := hk
      clear hs hk
      have key : ∀ s' : By, s'.val ^^^ rst m (b' / 2) (dF h).val = tm a.val b.val → Hid (s'.val ^^^ rst m (b' / 2) (dF h).val = tm a.val b.val) := fun _ h => h
      have step : Hid ((if b' % 2 = 1 then xr s h else s).val ^^^ rst m (b' / 2) (dF h).val = tm a.val b.val) := by
        have := HS.out
        rw [rst_step, ← HD.out] at this
        show _ = _
        split
        · next p => rw [if_pos p, ← Nat.xor_assoc] at this; exact this
        · next p => rw [if_neg p, Nat.zero_xor] at this; exact this
      clear HS
      have dn : (an h 128).val = 0 → Hid (((h.val : Int) * 2) % 256 = ((dF h).val : Int)) := fun q => by show _ = _; rw [dF_no h q]; omega
      have dy : (an h 128).val ≠ 0 → Hid (bits .xor .u8 (((h.val : Int) * 2) % 256) 27 = ((dF h).val : Int)) := fun q => by
        show _ = _
        have := bits_xor8 (h.val * 2 % 256) 27 (by omega) (by decide)
        rw [show ((27 : Nat) : Int) = 27 from rfl, show ((h.val * 2 % 256 : Nat) : Int) = (h.val : Int) * 2 % 256 by omega] at this
        rw [this, dF_yes h q]
      by_cases p : b' % 2 = 1
      · rw [p, show ((1 : Nat) : Int) = 1 from rfl] at ea
        rw [if_pos p] at step
        by_cases q : (an h 128).val = 0
        · rw [q, show ((0 : Nat) : Int) = 0 from rfl] at eh
          have D := dn q
          clear dn dy
          go_wp2_with fail
          refine ⟨⟨k + 1, m, b' / 2, dF h, xr s h, by have := HK.out; omega, by go_num, by go_num, ?_, by rw [← HX.out], by omega, step.out, trivial⟩, by simp [intOf]; omega⟩
          rw [← D.out]
        · have q' : ¬ ((an h 128).val : Int) = 0 := by omega
          have D := dy q
          clear dn dy
          go_wp2_with fail
          refine ⟨⟨k + 1, m, b' / 2, dF h, xr s h, by have := HK.out; omega, by go_num, by go_num, ?_, by rw [← HX.out], by omega, step.out, trivial⟩, by simp [intOf]; omega⟩
          rw [← D.out]
      · have p0 : b' % 2 = 0 := by omega
        rw [p0, show ((0 : Nat) : Int) = 0 from rfl] at ea
        rw [if_neg p] at step
        by_cases q : (an h 128).val = 0
        · rw [q, show ((0 : Nat) : Int) = 0 from rfl] at eh
          have D := dn q
          clear dn dy
          go_wp2_with fail
          refine ⟨⟨k + 1, m, b' / 2, dF h, s, by have := HK.out; omega, by go_num, by go_num, ?_, rfl, by omega, step.out, trivial⟩, by simp [intOf]; omega⟩
          rw [← D.out]
        · have q' : ¬ ((an h 128).val : Int) = 0 := by omega
          have D := dy q
          clear dn dy
          go_wp2_with fail
          refine ⟨⟨k + 1, m, b' / 2, dF h, s, by have := HK.out; omega, by go_num, by go_num, ?_, rfl, by omega, step.out, trivial⟩, by simp [intOf]; omega⟩
          rw [← D.out]
    · have e8 : k = 8 := by omega
      have en : n = 0 := by omega
      have z : ¬ (k : Int) < 8 := by omega
      subst en
      have HS : Hid (s.val = tm a.val b.val) := by
        rw [show rst 0 b' h.val = 0 from rfl, Nat.xor_zero] at hs
        exact hs
      clear hs
      go_wp2_with fail
      go_ret
      refine ⟨?_, rfl⟩
      rw [show (tmF a b).val = s.val from HS.out.symm]
      rfl
end Go.Proofs.YtjaljnfijhfkcaaGreatDoor
