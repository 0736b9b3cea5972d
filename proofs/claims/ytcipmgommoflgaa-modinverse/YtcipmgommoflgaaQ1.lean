/- Plain number theory: Fermat's little theorem, and how to show that a great number is prime. -/
set_option linter.all false
namespace Go.Proofs.Ytcipmgommoflgaa.NT
/-- A prime. -/
def Pri (p : Nat) : Prop := 2 ≤ p ∧ ∀ d, d ∣ p → d = 1 ∨ d = p
theorem Pri.cop {p a : Nat} (h : Pri p) (hn : ¬ p ∣ a) : Nat.Coprime p a := by
  rcases h.2 _ (Nat.gcd_dvd_left p a) with e | e
  · exact e
  · exact absurd (e ▸ Nat.gcd_dvd_right p a) hn
theorem Pri.dvd_mul {p a b : Nat} (h : Pri p) (hd : p ∣ a * b) : p ∣ a ∨ p ∣ b := by
  by_cases c : p ∣ a
  · exact .inl c
  · exact .inr ((h.cop c).dvd_of_dvd_mul_left hd)
def ch : Nat → Nat → Nat
  | _, 0 => 1
  | 0, _ + 1 => 0
  | n + 1, k + 1 => ch n k + ch n (k + 1)
theorem ch_big (n : Nat) : ∀ k, n < k → ch n k = 0 := by
  induction n with
  | zero => intro k hk; cases k with
    | zero => omega
    | succ k => rfl
  | succ n ih => intro k hk; cases k with
    | zero => omega
    | succ k => show ch n k + ch n (k + 1) = 0; rw [ih k (by omega), ih (k + 1) (by omega)]
theorem ch_self (n : Nat) : ch n n = 1 := by
  induction n with
  | zero => rfl
  | succ n ih => show ch n n + ch n (n + 1) = 1; rw [ih, ch_big n (n + 1) (by omega)]
theorem ch_zero (n : Nat) : ch n 0 = 1 := by cases n <;> rfl
theorem ch_abs (n : Nat) : ∀ k, (n + 1) * ch n k = ch (n + 1) (k + 1) * (k + 1) := by
  induction n with
  | zero => intro k; cases k with
    | zero => rfl
    | succ k => show 1 * 0 = (0 + ch 0 (k + 1 + 1)) * _; rw [ch_big 0 (k + 1 + 1) (by omega)]; simp
  | succ n ih => intro k; cases k with
    | zero =>
      have h1 := ih 0
      have e1 : ch (n + 1 + 1) (0 + 1) = ch (n + 1) 0 + ch (n + 1) (0 + 1) := rfl
      rw [e1, ch_zero]
      rw [ch_zero] at h1
      omega
    | succ k =>
      have h1 := ih k
      have h2 := ih (k + 1)
      have e1 : ch (n + 1 + 1) (k + 1 + 1) = ch (n + 1) (k + 1) + ch (n + 1) (k + 1 + 1) := rfl
      have e2 : ch (n + 1) (k + 1) = ch n k + ch n (k + 1) := rfl
      rw [e2] at h1 e1
      rw [e1, e2]
      clear e1 e2 ih
      generalize ch (n + 1) (k + 1 + 1) = x at *
      generalize ch n k = y at *
      generalize ch n (k + 1) = z at *
      grind
def S (n a : Nat) : Nat → Nat
  | 0 => 0
  | m + 1 => S n a m + ch n m * a ^ m
theorem S_step (n a m : Nat) : S (n + 1) a (m + 1) = S n a (m + 1) + a * S n a m := by
  induction m with
  | zero => simp [S, ch_zero]
  | succ m ih =>
    show S (n + 1) a (m + 1) + ch (n + 1) (m + 1) * a ^ (m + 1) = _
    have e : ch (n + 1) (m + 1) = ch n m + ch n (m + 1) := rfl
    have e2 : S n a (m + 1 + 1) = S n a (m + 1) + ch n (m + 1) * a ^ (m + 1) := rfl
    have e3 : S n a (m + 1) = S n a m + ch n m * a ^ m := rfl
    rw [ih, e, e2]
    have e4 : a * S n a (m + 1) = a * S n a m + ch n m * a ^ (m + 1) := by rw [e3, Nat.pow_succ]; grind
    rw [e4]; grind
theorem binom (a n : Nat) : S n a (n + 1) = (a + 1) ^ n := by
  induction n with
  | zero => simp [S, ch]
  | succ n ih =>
    rw [S_step]
    show S n a (n + 1) + ch n (n + 1) * _ + _ = _
    rw [ch_big n (n + 1) (by omega), ih, Nat.pow_succ]; grind
theorem Pri.ch {p : Nat} (h : Pri p) (k : Nat) (h0 : 0 < k) (h1 : k < p) : p ∣ ch p k := by
  obtain ⟨j, rfl⟩ : ∃ j, k = j + 1 := ⟨k - 1, by omega⟩
  obtain ⟨n, rfl⟩ : ∃ n, p = n + 1 := ⟨p - 1, by omega⟩
  have e := ch_abs n j
  have d : n + 1 ∣ NT.ch (n + 1) (j + 1) * (j + 1) := e ▸ Nat.dvd_mul_right _ _
  rcases h.dvd_mul d with c | c
  · exact c
  · exact absurd (Nat.le_of_dvd (by omega) c) (by omega)
theorem S_mod {p : Nat} (h : Pri p) (a : Nat) : ∀ m, m + 1 ≤ p → S p a (m + 1) % p = 1 := by
  intro m
  induction m with
  | zero => intro _; simp [S, ch_zero]; exact Nat.mod_eq_of_lt h.1
  | succ m ih =>
    intro hm
    show (S p a (m + 1) + NT.ch p (m + 1) * a ^ (m + 1)) % p = 1
    rw [Nat.add_mod, Nat.mul_mod, Nat.mod_eq_zero_of_dvd (h.ch (m + 1) (by omega) (by omega)), ih (by omega)]
    simp
    exact Nat.mod_eq_of_lt h.1
theorem fermat' {p : Nat} (h : Pri p) (a : Nat) : a ^ p % p = a % p := by
  induction a with
  | zero => rw [Nat.zero_pow (by have := h.1; omega)]
  | succ a ih =>
    rw [← binom]
    show (S p a p + NT.ch p p * a ^ p) % p = _
    obtain ⟨m, hm⟩ : ∃ m, p = m + 1 := ⟨p - 1, by have := h.1; omega⟩
    have s := S_mod h a m (by omega)
    rw [← hm] at s
    rw [ch_self, Nat.one_mul, Nat.add_mod, s, ih, Nat.add_comm 1, Nat.mod_add_mod]
theorem sub_dvd {p x y : Nat} (h : x % p = y % p) : p ∣ x - y := by
  have e1 := Nat.div_add_mod x p
  have e2 := Nat.div_add_mod y p
  refine ⟨x / p - y / p, ?_⟩
  rw [Nat.mul_sub]; omega
theorem fermat {p : Nat} (h : Pri p) (a : Nat) (hn : ¬ p ∣ a) : a ^ (p - 1) % p = 1 := by
  have f := fermat' h a
  obtain ⟨m, hm⟩ : ∃ m, p = m + 1 := ⟨p - 1, by have := h.1; omega⟩
  have e : a ^ p = a * a ^ (p - 1) := by rw [show p - 1 = m by omega]; conv => lhs; rw [hm, Nat.pow_succ, Nat.mul_comm]
  have a0 : 0 < a := by
    rcases Nat.eq_zero_or_pos a with c | c
    · subst c; exact absurd (Nat.dvd_zero p) hn
    · exact c
  have p1 : 1 ≤ a ^ (p - 1) := Nat.pow_pos a0
  rw [e] at f
  have d : p ∣ a * (a ^ (p - 1) - 1) := by
    rw [Nat.mul_sub, Nat.mul_one]
    exact sub_dvd f
  rcases h.dvd_mul d with c | c
  · exact absurd c hn
  · obtain ⟨t, ht⟩ := c
    have e1 : a ^ (p - 1) = 1 + p * t := by omega
    rw [e1, Nat.add_mul_mod_self_left]
    exact Nat.mod_eq_of_lt h.1
theorem pow_one_mod {x r : Nat} (h : x % r = 1 % r) (k : Nat) : x ^ k % r = 1 % r := by
  rw [Nat.pow_mod, h, ← Nat.pow_mod, Nat.one_pow]
theorem pow_gcd {x r : Nat} (a b : Nat) : x ^ a % r = 1 % r → x ^ b % r = 1 % r → x ^ (Nat.gcd a b) % r = 1 % r := by
  induction a, b using Nat.gcd.induction with
  | H0 n => intro _ h; rw [Nat.gcd_zero_left]; exact h
  | H1 m n hm ih =>
    intro h1 h2
    rw [Nat.gcd_rec]
    refine ih ?_ h1
    have e : x ^ n = x ^ (n % m) * (x ^ m) ^ (n / m) := by rw [← Nat.pow_mul, ← Nat.pow_add, Nat.mod_add_div]
    rw [e, Nat.mul_mod, pow_one_mod h1 (n / m), ← Nat.mul_mod, Nat.mul_one] at h2
    exact h2
theorem has_pri (n : Nat) : 2 ≤ n → ∃ p, Pri p ∧ p ∣ n := by
  induction n using Nat.strongRecOn with
  | ind n ih =>
    intro hn
    by_cases c : Pri n
    · exact ⟨n, c, Nat.dvd_refl n⟩
    · have : ∃ d, d ∣ n ∧ d ≠ 1 ∧ d ≠ n := Classical.byContradiction fun h => c ⟨hn, fun d hd => Classical.byContradiction fun h2 => h ⟨d, hd, by omega, by omega⟩⟩
      obtain ⟨d, hd, d1, dn⟩ := this
      have := Nat.le_of_dvd (by omega) hd
      have d0 : d ≠ 0 := by rintro rfl; obtain ⟨t, ht⟩ := hd; omega
      obtain ⟨p, hp, hpd⟩ := ih d (by omega) (by omega)
      exact ⟨p, hp, Nat.dvd_trans hpd hd⟩
theorem small_pri (n : Nat) (hn : 2 ≤ n) (c : ¬ Pri n) : ∃ r, Pri r ∧ r ∣ n ∧ r * r ≤ n := by
  have : ∃ d, d ∣ n ∧ d ≠ 1 ∧ d ≠ n := Classical.byContradiction fun h => c ⟨hn, fun d hd => Classical.byContradiction fun h2 => h ⟨d, hd, by omega, by omega⟩⟩
  obtain ⟨d, ⟨e, he⟩, d1, dn⟩ := this
  have d0 : d ≠ 0 := by rintro rfl; omega
  have e0 : e ≠ 0 := by rintro rfl; omega
  have e1 : e ≠ 1 := by rintro rfl; omega
  rcases Nat.le_total d e with h | h
  · obtain ⟨r, hr, hrd⟩ := has_pri d (by omega)
    have := Nat.le_of_dvd (by omega) hrd
    exact ⟨r, hr, he ▸ Nat.dvd_trans hrd (Nat.dvd_mul_right d e), he ▸ Nat.mul_le_mul this (by omega)⟩
  · obtain ⟨r, hr, hrd⟩ := has_pri e (by omega)
    have := Nat.le_of_dvd (by omega) hrd
    exact ⟨r, hr, he ▸ Nat.dvd_trans hrd (Nat.dvd_mul_left e d), he ▸ Nat.mul_le_mul (by omega) this⟩
theorem pock {n g q r : Nat} (hn : 2 ≤ n) (hq : Pri q) (hqn : q ∣ n - 1) (h1 : g ^ (n - 1) % n = 1) (h2 : Nat.gcd (g ^ ((n - 1) / q) % n + (n - 1)) n = 1) (hr : Pri r) (hrn : r ∣ n) : q ∣ r - 1 := by
  refine Classical.byContradiction fun hc => ?_
  have r2 := hr.1
  have er : (1 : Nat) % r = 1 := Nat.mod_eq_of_lt r2
  have g1 : g ^ (n - 1) % r = 1 % r := by rw [← Nat.mod_mod_of_dvd _ hrn, h1]
  have rg : ¬ r ∣ g := fun h => by
    have : r ∣ g ^ (n - 1) := Nat.dvd_trans h ⟨g ^ (n - 1 - 1), by rw [← Nat.pow_succ', show (n - 1 - 1).succ = n - 1 by omega]⟩
    have := Nat.mod_eq_zero_of_dvd this
    omega
  have g2 : g ^ (r - 1) % r = 1 % r := by rw [fermat hr g rg, er]
  have g3 := pow_gcd _ _ g1 g2
  obtain ⟨c, hcq⟩ := hqn
  have ec : (n - 1) / q = c := by rw [hcq, Nat.mul_div_cancel_left _ (by have := hq.1; omega)]
  have cop : Nat.Coprime q (Nat.gcd (n - 1) (r - 1)) := hq.cop fun h => hc (Nat.dvd_trans h (Nat.gcd_dvd_right _ _))
  have dc : Nat.gcd (n - 1) (r - 1) ∣ c := cop.symm.dvd_of_dvd_mul_left (hcq ▸ Nat.gcd_dvd_left (n - 1) (r - 1))
  obtain ⟨k, hk⟩ := dc
  have g4 : g ^ c % r = 1 % r := by rw [hk, Nat.pow_mul]; exact pow_one_mod g3 k
  rw [ec] at h2
  have g5 : g ^ c % n % r = 1 % r := by rw [Nat.mod_mod_of_dvd _ hrn, g4]
  have d1 : r ∣ g ^ c % n - 1 := sub_dvd g5
  have ge : 1 ≤ g ^ c % n := by
    rcases Nat.eq_zero_or_pos (g ^ c % n) with h | h
    · rw [h, Nat.zero_mod] at g5; omega
    · exact h
  have d2 : r ∣ g ^ c % n + (n - 1) := by
    have := Nat.dvd_add d1 hrn
    rwa [show g ^ c % n - 1 + n = g ^ c % n + (n - 1) by omega] at this
  have d3 := Nat.dvd_gcd d2 hrn
  rw [h2] at d3
  have := Nat.le_of_dvd (by omega) d3
  omega
theorem pock_end {n F : Nat} (hn : 2 ≤ n) (hF : n < (F + 1) * (F + 1)) (h : ∀ r, Pri r → r ∣ n → F ∣ r - 1) : Pri n := by
  refine Classical.byContradiction fun c => ?_
  obtain ⟨r, hr, hrn, hrr⟩ := small_pri n hn c
  have r2 := hr.1
  have := Nat.le_of_dvd (by omega) (h r hr hrn)
  have := Nat.mul_le_mul (show F + 1 ≤ r by omega) (show F + 1 ≤ r by omega)
  omega
def pmod (n : Nat) : Nat → Nat → Nat → Nat
  | 0, _, _ => 1 % n
  | f + 1, g, e => if e % 2 = 1 then g * pmod n f (g * g % n) (e / 2) % n else pmod n f (g * g % n) (e / 2)
theorem pmod_eq (n : Nat) : ∀ f g e, e < 2 ^ f → pmod n f g e = g ^ e % n := by
  intro f
  induction f with
  | zero => intro g e he; have : e = 0 := by omega
            subst this; rfl
  | succ f ih =>
    intro g e he
    have he2 : e / 2 < 2 ^ f := by rw [Nat.pow_succ] at he; omega
    have sq : (g * g % n) ^ (e / 2) % n = g ^ (2 * (e / 2)) % n := by rw [← Nat.pow_mod, Nat.pow_mul, Nat.pow_two]
    show (if e % 2 = 1 then g * pmod n f (g * g % n) (e / 2) % n else pmod n f (g * g % n) (e / 2)) = _
    rw [ih _ _ he2, sq]
    split
    · rw [Nat.mul_mod, Nat.mod_mod, ← Nat.mul_mod, ← Nat.pow_succ', show (2 * (e / 2)).succ = e by omega]
    · rw [show 2 * (e / 2) = e by omega]
def tst (n g q : Nat) : Bool := decide (2 ≤ n) && ((n - 1) % q == 0 && (pmod n 256 g (n - 1) == 1 && Nat.gcd (pmod n 256 g ((n - 1) / q) + (n - 1)) n == 1))
theorem pock' {n q r : Nat} (g : Nat) (hb : n < 2 ^ 256) (ht : tst n g q = true) (hq : Pri q) (hr : Pri r) (hrn : r ∣ n) : q ∣ r - 1 := by
  simp only [tst, Bool.and_eq_true, decide_eq_true_eq, beq_iff_eq] at ht
  obtain ⟨t1, t2, t3, t4⟩ := ht
  have q2 := hq.1
  rw [pmod_eq _ _ _ _ (by omega)] at t3
  rw [pmod_eq _ _ _ _ (Nat.lt_of_le_of_lt (Nat.div_le_self _ _) (by omega))] at t4
  exact pock t1 hq (Nat.dvd_of_mod_eq_zero t2) t3 t4 hr hrn
theorem pri1 {n q : Nat} (g : Nat) (hb : n < 2 ^ 256) (ht : tst n g q = true) (hF : n < (q + 1) * (q + 1)) (hq : Pri q) : Pri n :=
  pock_end (F := q) (by simp only [tst, Bool.and_eq_true, decide_eq_true_eq] at ht; exact ht.1) hF fun r hr hrn => pock' g hb ht hq hr hrn
theorem pri2 {n p q : Nat} (g : Nat) (hb : n < 2 ^ 256) (ht : tst n g p = true) (ht' : tst n g q = true) (hF : n < (p * q + 1) * (p * q + 1)) (hne : Nat.gcd p q = 1) (hp : Pri p) (hq : Pri q) : Pri n :=
  pock_end (F := p * q) (by simp only [tst, Bool.and_eq_true, decide_eq_true_eq] at ht; exact ht.1) hF fun r hr hrn =>
    Nat.Coprime.mul_dvd_of_dvd_of_dvd hne (pock' g hb ht hp hr hrn) (pock' g hb ht' hq hr hrn)
def small (n : Nat) : Bool := decide (2 ≤ n) && (List.range n).all fun d => d == 0 || d == 1 || n % d != 0
theorem pri_small {n : Nat} (h : small n = true) : Pri n := by
  simp only [small, Bool.and_eq_true, decide_eq_true_eq, List.all_eq_true, List.mem_range] at h
  refine ⟨h.1, fun d hd => ?_⟩
  have := Nat.le_of_dvd (by omega) hd
  rcases Nat.lt_or_ge d n with c | c
  · have t := h.2 d c
    have z := Nat.mod_eq_zero_of_dvd hd
    have d0 : d ≠ 0 := by rintro rfl; obtain ⟨t, ht⟩ := hd; omega
    simp [z, d0] at t
    exact .inl t
  · exact .inr (by omega)
theorem p0 : Pri 991 := pri2 2 (by decide +kernel) (by decide +kernel) (by decide +kernel) (by decide +kernel) (by decide +kernel) (pri_small (n := 11) (by decide +kernel)) (pri_small (n := 5) (by decide +kernel))
theorem p1 : Pri 8574133 := pri2 2 (by decide +kernel) (by decide +kernel) (by decide +kernel) (by decide +kernel) (by decide +kernel) p0 (pri_small (n := 103) (by decide +kernel))
theorem p2 : Pri 1919519569386763 := pri2 2 (by decide +kernel) (by decide +kernel) (by decide +kernel) (by decide +kernel) (by decide +kernel) p1 (pri_small (n := 127) (by decide +kernel))
theorem p3 : Pri 419 := pri2 2 (by decide +kernel) (by decide +kernel) (by decide +kernel) (by decide +kernel) (by decide +kernel) (pri_small (n := 19) (by decide +kernel)) (pri_small (n := 11) (by decide +kernel))
theorem p4 : Pri 569003 := pri2 2 (by decide +kernel) (by decide +kernel) (by decide +kernel) (by decide +kernel) (by decide +kernel) p3 (pri_small (n := 97) (by decide +kernel))
theorem p5 : Pri 2773320623 := pri1 2 (by decide +kernel) (by decide +kernel) (by decide +kernel) p4
theorem p6 : Pri 72106336199 := pri1 2 (by decide +kernel) (by decide +kernel) (by decide +kernel) p5
theorem p7 : Pri 75445702479781427272750846543864801 := pri2 2 (by decide +kernel) (by decide +kernel) (by decide +kernel) (by decide +kernel) (by decide +kernel) p2 p6
theorem p8 : Pri 1723 := pri1 2 (by decide +kernel) (by decide +kernel) (by decide +kernel) (pri_small (n := 41) (by decide +kernel))
theorem p9 : Pri 430751 := pri1 2 (by decide +kernel) (by decide +kernel) (by decide +kernel) p8
theorem p10 : Pri 4153 := pri1 2 (by decide +kernel) (by decide +kernel) (by decide +kernel) (pri_small (n := 173) (by decide +kernel))
theorem p11 : Pri 31757755568855353 := pri2 2 (by decide +kernel) (by decide +kernel) (by decide +kernel) (by decide +kernel) (by decide +kernel) p9 p10
theorem p12 : Pri 74058212732561358302231226437062788676166966415465897661863160754340907 := pri2 2 (by decide +kernel) (by decide +kernel) (by decide +kernel) (by decide +kernel) (by decide +kernel) p7 p11
theorem p13 : Pri 57896044618658097711785492504343953926634992332820282019728792003956564819949 := pri1 2 (by decide +kernel) (by decide +kernel) (by decide +kernel) p12
theorem p14 : Pri 704251 := pri2 2 (by decide +kernel) (by decide +kernel) (by decide +kernel) (by decide +kernel) (by decide +kernel) (pri_small (n := 313) (by decide +kernel)) (pri_small (n := 5) (by decide +kernel))
theorem p15 : Pri 1087 := pri1 2 (by decide +kernel) (by decide +kernel) (by decide +kernel) (pri_small (n := 181) (by decide +kernel))
theorem p16 : Pri 4349 := pri1 2 (by decide +kernel) (by decide +kernel) (by decide +kernel) p15
theorem p17 : Pri 78283 := pri1 2 (by decide +kernel) (by decide +kernel) (by decide +kernel) p16
theorem p18 : Pri 46076956964474543 := pri2 2 (by decide +kernel) (by decide +kernel) (by decide +kernel) (by decide +kernel) (by decide +kernel) p14 p17
theorem p19 : Pri 919 := pri2 5 (by decide +kernel) (by decide +kernel) (by decide +kernel) (by decide +kernel) (by decide +kernel) (pri_small (n := 17) (by decide +kernel)) (pri_small (n := 3) (by decide +kernel))
theorem p20 : Pri 3677 := pri1 2 (by decide +kernel) (by decide +kernel) (by decide +kernel) p19
theorem p21 : Pri 66417393611 := pri2 2 (by decide +kernel) (by decide +kernel) (by decide +kernel) (by decide +kernel) (by decide +kernel) p20 (pri_small (n := 197) (by decide +kernel))
theorem p22 : Pri 11290956913871 := pri1 2 (by decide +kernel) (by decide +kernel) (by decide +kernel) p21
theorem p23 : Pri 774023187263532362759620327192479577272145303 := pri2 2 (by decide +kernel) (by decide +kernel) (by decide +kernel) (by decide +kernel) (by decide +kernel) p18 p22
theorem p24 : Pri 835945042244614951780389953367877943453916927241 := pri1 2 (by decide +kernel) (by decide +kernel) (by decide +kernel) p23
theorem p25 : Pri 115792089210356248762697446949407573530086143415290314195533631308867097853951 := pri1 2 (by decide +kernel) (by decide +kernel) (by decide +kernel) p24
theorem p26 : Pri 155317 := Classical.byContradiction fun c => by
  obtain ⟨r, hr, hrn, hrr⟩ := small_pri 155317 (by decide) c
  have all : ((List.range 400).all fun d => d == 0 || d == 1 || 155317 % d != 0) = true := by decide +kernel
  rw [List.all_eq_true] at all
  have r4 : r < 400 := by
    rcases Nat.lt_or_ge r 400 with h | h
    · exact h
    · have := Nat.mul_le_mul h h; omega
  have t := all r (List.mem_range.2 r4)
  have r2 := hr.1
  have z := Nat.mod_eq_zero_of_dvd hrn
  simp [z] at t
  omega
theorem p27 : Pri 191039911 := pri1 2 (by decide +kernel) (by decide +kernel) (by decide +kernel) p26
theorem p28 : Pri 1511 := pri1 2 (by decide +kernel) (by decide +kernel) (by decide +kernel) (pri_small (n := 151) (by decide +kernel))
theorem p29 : Pri 3023 := pri1 2 (by decide +kernel) (by decide +kernel) (by decide +kernel) p28
theorem p30 : Pri 208150935158385979 := pri2 2 (by decide +kernel) (by decide +kernel) (by decide +kernel) (by decide +kernel) (by decide +kernel) p27 p29
theorem p31 : Pri 2624747550333869278416773953 := pri1 2 (by decide +kernel) (by decide +kernel) (by decide +kernel) p30
theorem p32 : Pri 104471 := pri1 2 (by decide +kernel) (by decide +kernel) (by decide +kernel) (pri_small (n := 337) (by decide +kernel))
theorem p33 : Pri 3969899 := pri1 2 (by decide +kernel) (by decide +kernel) (by decide +kernel) p32
theorem p34 : Pri 1002328039319 := pri1 2 (by decide +kernel) (by decide +kernel) (by decide +kernel) p33
theorem p35 : Pri 115792089210356248762697446949407573529996955224135760342422259061068512044369 := pri2 2 (by decide +kernel) (by decide +kernel) (by decide +kernel) (by decide +kernel) (by decide +kernel) p31 p34
end Go.Proofs.Ytcipmgommoflgaa.NT
