/- The calendar. -/
import Derived.Test.YtajdfjpcobaioaaGreatDoorB3
set_option linter.all false
namespace Go.Proofs.YtajdfjpcobaioaaGreatDoor
def dA (y : Int) : Int := 365 * (y - 1) + (y - 1) / 4 - (y - 1) / 100 + (y - 1) / 400
def lp (y : Int) : Int := if y % 4 = 0 ∧ (y % 100 ≠ 0 ∨ y % 400 = 0) then 1 else 0
theorem lp_bd (y : Int) : 0 ≤ lp y ∧ lp y ≤ 1 := by unfold lp; split <;> omega
theorem dA_next (y : Int) : dA (y + 1) - dA y = 365 + lp y := by
  unfold dA lp; split <;> omega
def mD (y m : Int) : Int := if m = 2 then 28 + lp y else if m = 4 ∨ m = 6 ∨ m = 9 ∨ m = 11 then 30 else 31
theorem mD_bd (y m : Int) : 28 ≤ mD y m ∧ mD y m ≤ 31 := by have := lp_bd y; unfold mD; split <;> (try split) <;> omega
def cum (y : Int) : Nat → Int
  | 0 => 0
  | k + 1 => cum y k + mD y ((k : Int) + 1)
theorem cum_s (y : Int) (k : Nat) : cum y (k + 1) = cum y k + mD y ((k : Int) + 1) := rfl
theorem cum_12 (y : Int) : cum y 12 = 365 + lp y := by
  simp [cum, mD]; omega
theorem cum_mono (y : Int) (j k : Nat) (h : j ≤ k) : cum y j ≤ cum y k := by
  induction k with
  | zero => have : j = 0 := by omega
            subst this; omega
  | succ k ih =>
    by_cases e : j = k + 1
    · subst e; omega
    · have := ih (by omega); have := mD_bd y ((k : Int) + 1); rw [cum_s]; omega
theorem cum_0 (y : Int) (k : Nat) : 0 ≤ cum y k := cum_mono y 0 k (by omega)
theorem dA_mono (a b : Int) (h : a ≤ b) : dA a ≤ dA b := by unfold dA; omega
theorem dA_lt (a b : Int) (h : a < b) : dA (a + 1) ≤ dA b := dA_mono _ _ (by omega)
/- the year -/
def yr (d : Int) : Int := if d < dA (1 + d * 400 / 146097) then d * 400 / 146097 else if dA (2 + d * 400 / 146097) ≤ d then 2 + d * 400 / 146097 else 1 + d * 400 / 146097
theorem yr_uniq (a b d : Int) (h1 : dA a ≤ d) (h2 : d < dA (a + 1)) (h3 : dA b ≤ d) (h4 : d < dA (b + 1)) : a = b := by
  rcases Int.lt_trichotomy a b with h | h | h
  · have := dA_lt a b h; omega
  · exact h
  · have := dA_lt b a h; omega
theorem yr_bd (d : Int) : dA (yr d) ≤ d ∧ d < dA (yr d + 1) := by
  unfold yr
  generalize hq : d * 400 / 146097 = q
  have h1 : 146097 * q ≤ d * 400 := by omega
  have h2 : d * 400 < 146097 * q + 146097 := by omega
  clear hq
  split
  · rename_i h; refine ⟨?_, by rw [Int.add_comm]; exact h⟩
    unfold dA; omega
  · split
    · rename_i h1 h2; refine ⟨h2, ?_⟩
      unfold dA; omega
    · rename_i h1 h2; refine ⟨by omega, ?_⟩
      rw [show 1 + q + 1 = 2 + q by omega]; omega
theorem yr_is (y d : Int) (h1 : dA y ≤ d) (h2 : d < dA (y + 1)) : yr d = y := yr_uniq _ _ d (yr_bd d).1 (yr_bd d).2 h1 h2
theorem yr_1 (d : Int) (h : 0 ≤ d) (h9 : d < 3652059) : 1 ≤ yr d ∧ yr d ≤ 9999 := by
  have hb := yr_bd d
  constructor
  · apply Int.not_lt.1; intro c
    have := dA_mono (yr d + 1) 1 (by omega)
    have e : dA 1 = 0 := by decide
    omega
  · apply Int.not_lt.1; intro c
    have := dA_mono 10000 (yr d) (by omega)
    have e : dA 10000 = 3652059 := by decide
    omega
/- the month (those past) -/
def moF (y r : Int) : Nat → Nat → Nat
  | 0, k => k
  | f + 1, k => if r < cum y (k + 1) then k else moF y r f (k + 1)
theorem moF_bd (y r : Int) : ∀ f k : Nat, cum y k ≤ r → r < cum y (k + f) → moF y r f k < k + f ∧ cum y (moF y r f k) ≤ r ∧ r < cum y (moF y r f k + 1) := by
  intro f
  induction f with
  | zero => intro k h1 h2; rw [Nat.add_zero] at h2; omega
  | succ f ih =>
    intro k h1 h2
    rw [moF]
    by_cases g : r < cum y (k + 1)
    · rw [if_pos g]; exact ⟨by omega, h1, g⟩
    · rw [if_neg g]
      have := ih (k + 1) (by omega) (by rw [show k + 1 + f = k + (f + 1) by omega]; exact h2)
      exact ⟨by omega, this.2⟩
def mo (y r : Int) : Nat := moF y r 12 0
theorem mo_bd (y r : Int) (h0 : 0 ≤ r) (h1 : r < 365 + lp y) : mo y r < 12 ∧ cum y (mo y r) ≤ r ∧ r < cum y (mo y r + 1) := by
  have := moF_bd y r 12 0 h0 (by rw [Nat.zero_add, cum_12]; exact h1)
  exact ⟨by have := this.1; unfold mo; omega, this.2⟩
theorem mo_uniq (y r : Int) (j k : Nat) (h1 : cum y j ≤ r) (h2 : r < cum y (j + 1)) (h3 : cum y k ≤ r) (h4 : r < cum y (k + 1)) : j = k := by
  rcases Nat.lt_trichotomy j k with h | h | h
  · have := cum_mono y (j + 1) k h; omega
  · exact h
  · have := cum_mono y (k + 1) j h; omega
theorem mo_is (y r : Int) (k : Nat) (hk : k < 12) (h1 : cum y k ≤ r) (h2 : r < cum y (k + 1)) : mo y r = k := by
  have h0 := cum_0 y k
  have h3 := cum_mono y (k + 1) 12 (by omega)
  rw [cum_12] at h3
  have hb := mo_bd y r (by omega) (by omega)
  exact mo_uniq y r _ _ hb.2.1 hb.2.2 h1 h2
/- the six parts -/
def LT : Int := -62135596800
def MT : Int := 253402300799
def tD (t : Int) : Int := (t - LT) / 86400
def tS (t : Int) : Int := (t - LT) % 86400
def tY (t : Int) : Int := yr (tD t)
def tR (t : Int) : Int := tD t - dA (tY t)
def tM (t : Int) : Int := (mo (tY t) (tR t) : Int) + 1
def tQ (t : Int) : Int := tR t - cum (tY t) (mo (tY t) (tR t)) + 1
def secs (y m d h i s : Int) : Int := LT + (dA y + (cum y (m - 1).toNat + (d - 1))) * 86400 + (3600 * h + 60 * i + s)
structure Cal (y m d h i s : Int) : Prop where
  y0 : 1 ≤ y
  y1 : y ≤ 9999
  m0 : 1 ≤ m
  m1 : m ≤ 12
  d0 : 1 ≤ d
  d1 : d ≤ mD y m
  h0 : 0 ≤ h
  h1 : h ≤ 23
  i0 : 0 ≤ i
  i1 : i ≤ 59
  s0 : 0 ≤ s
  s1 : s ≤ 59
theorem tR_bd (t : Int) : 0 ≤ tR t ∧ tR t < 365 + lp (tY t) := by
  have h := yr_bd (tD t); have e := dA_next (tY t)
  unfold tR; unfold tY at e ⊢; omega
theorem tD_bd (t : Int) (h0 : LT ≤ t) (h1 : t ≤ MT) : 0 ≤ tD t ∧ tD t < 3652059 := by unfold tD LT MT at *; omega
theorem cal_of (t : Int) (h0 : LT ≤ t) (h1 : t ≤ MT) : Cal (tY t) (tM t) (tQ t) (tS t / 3600) (tS t / 60 % 60) (tS t % 60) := by
  have hd := tD_bd t h0 h1
  have hy := yr_1 _ hd.1 hd.2
  have hr := tR_bd t
  have hm := mo_bd _ _ hr.1 hr.2
  have hs : 0 ≤ tS t ∧ tS t < 86400 := by unfold tS; omega
  have hc := cum_s (tY t) (mo (tY t) (tR t))
  refine ⟨hy.1, hy.2, ?_, ?_, ?_, ?_, ?_, ?_, ?_, ?_, ?_, ?_⟩ <;> (try unfold tM) <;> (try unfold tQ) <;> omega
theorem secs_of (t : Int) : secs (tY t) (tM t) (tQ t) (tS t / 3600) (tS t / 60 % 60) (tS t % 60) = t := by
  have hr := tR_bd t
  unfold secs tM tQ
  rw [show ((mo (tY t) (tR t) : Int) + 1 - 1).toNat = mo (tY t) (tR t) by omega]
  have e : tR t = tD t - dA (tY t) := rfl
  have e2 : tD t = (t - LT) / 86400 := rfl
  have e3 : tS t = (t - LT) % 86400 := rfl
  generalize cum (tY t) (mo (tY t) (tR t)) = c at *
  generalize dA (tY t) = a at *
  rw [show a + (c + (tR t - c + 1 - 1)) = tD t by omega]
  clear hr e
  generalize tS t = s at *; generalize tD t = d at *
  omega
theorem secs_parts (y m d h i s : Int) (c : Cal y m d h i s) : LT ≤ secs y m d h i s ∧ secs y m d h i s ≤ MT ∧ tY (secs y m d h i s) = y ∧ tM (secs y m d h i s) = m ∧ tQ (secs y m d h i s) = d ∧ tS (secs y m d h i s) / 3600 = h ∧ tS (secs y m d h i s) / 60 % 60 = i ∧ tS (secs y m d h i s) % 60 = s := by
  obtain ⟨k, hk⟩ : ∃ k : Nat, (k : Int) = m - 1 := ⟨(m - 1).toNat, by have := c.m0; omega⟩
  have hk12 : k < 12 := by have := c.m1; omega
  have ek : (m - 1).toNat = k := by omega
  have em : ((k : Int) + 1) = m := by omega
  have c1 := cum_s y k
  rw [em] at c1
  have c2 := cum_0 y k
  have c3 := cum_mono y (k + 1) 12 (by omega)
  have c4 := cum_12 y
  have n1 := dA_next y
  have d0 := c.d0; have d1 := c.d1; have y0 := c.y0; have y1 := c.y1
  have h0 := c.h0; have h1 := c.h1; have i0 := c.i0; have i1 := c.i1; have s0 := c.s0; have s1 := c.s1
  have a0 := dA_mono 1 y y0
  have a1 := dA_mono (y + 1) 10000 (by omega)
  have e0 : dA 1 = 0 := by decide
  have e1 : dA 10000 = 3652059 := by decide
  have ht : secs y m d h i s = LT + (dA y + (cum y k + (d - 1))) * 86400 + (3600 * h + 60 * i + s) := by unfold secs; rw [ek]
  generalize secs y m d h i s = t at *
  have hD : tD t = dA y + (cum y k + (d - 1)) := by
    unfold tD; rw [ht]; generalize dA y + (cum y k + (d - 1)) = u; omega
  have hS : tS t = 3600 * h + 60 * i + s := by
    unfold tS; rw [ht]; generalize dA y + (cum y k + (d - 1)) = u; omega
  have hY : tY t = y := by unfold tY; rw [hD]; exact yr_is _ _ (by omega) (by omega)
  have hR : tR t = cum y k + (d - 1) := by unfold tR; rw [hY, hD]; omega
  have hM : mo y (cum y k + (d - 1)) = k := mo_is _ _ _ hk12 (by omega) (by omega)
  refine ⟨?_, ?_, hY, ?_, ?_, ?_, ?_, ?_⟩
  · rw [ht]; unfold LT; omega
  · rw [ht]; unfold LT MT; omega
  · unfold tM; rw [hY, hR, hM]; exact em
  · unfold tQ; rw [hY, hR, hM]; omega
  · rw [hS]; omega
  · rw [hS]; omega
  · rw [hS]; omega
theorem sec_lt (a b : Int) (a0 : 0 ≤ a) (h : a < b) (b1 : b < 86400) : a / 3600 * 10000 + a / 60 % 60 * 100 + a % 60 < b / 3600 * 10000 + b / 60 % 60 * 100 + b % 60 := by
  have k1 : a / 60 / 60 = a / 3600 := by omega
  have k2 : b / 60 / 60 = b / 3600 := by omega
  rcases Int.lt_trichotomy (a / 3600) (b / 3600) with c | c | c
  · omega
  · rcases Int.lt_trichotomy (a / 60 % 60) (b / 60 % 60) with d | d | d <;> omega
  · omega
/- one number for all -/
def tN (t : Int) : Int := ((((tY t * 100 + tM t) * 100 + tQ t) * 100 + tS t / 3600) * 100 + tS t / 60 % 60) * 100 + tS t % 60
theorem tN_lt (t u : Int) (a0 : LT ≤ t) (a1 : t ≤ MT) (b0 : LT ≤ u) (b1 : u ≤ MT) (h : t < u) : tN t < tN u := by
  have ct := cal_of t a0 a1
  have cu := cal_of u b0 b1
  have et := secs_of t
  have eu := secs_of u
  have q1 := mD_bd (tY t) (tM t)
  have q2 := mD_bd (tY u) (tM u)
  have hD : tD t ≤ tD u := by unfold tD; omega
  have eS : tD t = tD u → tS t < tS u := by unfold tD tS; omega
  have st : 0 ≤ tS t ∧ tS t < 86400 := by unfold tS; omega
  have su : 0 ≤ tS u ∧ tS u < 86400 := by unfold tS; omega
  have yt := yr_bd (tD t)
  have yu := yr_bd (tD u)
  have rt := tR_bd t
  have ru := tR_bd u
  have mt := mo_bd _ _ rt.1 rt.2
  have mu := mo_bd _ _ ru.1 ru.2
  have t0 := ct.m0; have t1 := ct.m1; have t2 := ct.d0; have t3 := ct.d1; have u0 := cu.m0; have u1 := cu.m1; have u2 := cu.d0; have u3 := cu.d1
  have x0 : tS t / 3600 * 10000 + tS t / 60 % 60 * 100 + tS t % 60 < 240000 := by omega
  have x1 : tS u / 3600 * 10000 + tS u / 60 % 60 * 100 + tS u % 60 ≥ 0 := by omega
  have hmt : tM t = (mo (tY t) (tR t) : Int) + 1 := rfl
  have hmu : tM u = (mo (tY u) (tR u) : Int) + 1 := rfl
  rcases Int.lt_trichotomy (tY t) (tY u) with c | c | c
  · unfold tN; omega
  · have hr : tR t ≤ tR u := by unfold tR; rw [c]; omega
    rw [c] at mt hmt
    rcases Nat.lt_trichotomy (mo (tY u) (tR t)) (mo (tY u) (tR u)) with e | e | e
    · unfold tN; omega
    · have hq : tQ t ≤ tQ u := by unfold tQ; rw [c, e]; omega
      have hmm : tM t = tM u := by rw [hmt, hmu, e]
      rcases Int.lt_trichotomy (tQ t) (tQ u) with g | g | g
      · unfold tN; omega
      · have er : tR t = tR u := by unfold tQ at g; rw [c, e] at g; omega
        have ed : tD t = tD u := by unfold tR at er; rw [c] at er; omega
        have := eS ed
        have hl := sec_lt _ _ st.1 this su.2
        unfold tN; rw [c, hmm, g]; omega
      · omega
    · have := cum_mono (tY u) (mo (tY u) (tR u) + 1) (mo (tY u) (tR t)) e
      omega
  · have := dA_lt _ _ c
    unfold tY at this c; omega
theorem tN_iff (t u : Int) (a0 : LT ≤ t) (a1 : t ≤ MT) (b0 : LT ≤ u) (b1 : u ≤ MT) : t < u ↔ tN t < tN u := by
  constructor
  · exact tN_lt t u a0 a1 b0 b1
  · intro h
    rcases Int.lt_trichotomy t u with c | c | c
    · exact c
    · subst c; omega
    · have := tN_lt u t b0 b1 a0 a1 c; omega
theorem dA_bd (y : Int) (h0 : 1 ≤ y) (h1 : y ≤ 20000) : 0 ≤ dA y ∧ dA y ≤ 7400000 := by unfold dA; omega
end Go.Proofs.YtajdfjpcobaioaaGreatDoor
