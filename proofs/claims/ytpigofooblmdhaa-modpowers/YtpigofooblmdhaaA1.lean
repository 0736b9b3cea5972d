/- Plain facts on the reference's division part by part (tail): partial sums of parts, what a round does to nine parts. -/
import Derived.Test.YtpigofooblmdhaaB0
import Derived.Test.YtpigofooblmdhaaM5
set_option linter.all false
namespace Go.Proofs.Ytpigofooblmdhaa
/-- The number of the first k parts of g. -/
def ps (g : Nat → Int) : Nat → Int
  | 0 => 0
  | k + 1 => ps g k + g k * 18446744073709551616 ^ k
theorem ps_congr {f g : Nat → Int} : ∀ n, (∀ j, j < n → f j = g j) → ps f n = ps g n := by
  intro n
  induction n with
  | zero => intro _; rfl
  | succ n ih => intro h; simp only [ps]; rw [ih (fun j hj => h j (by omega)), h n (by omega)]
theorem ps4 (g : Nat → Int) : ps g 4 = V4 (g 0) (g 1) (g 2) (g 3) := by simp only [ps, V4]; omega
theorem ps5 (g : Nat → Int) : ps g 5 = V4 (g 0) (g 1) (g 2) (g 3) + g 4 * 115792089237316195423570985008687907853269984665640564039457584007913129639936 := by simp only [ps, V4]; omega
/-- The parts from i on. -/
def fr (f : Nat → Int) (i : Nat) : Nat → Int := fun j => f (i + j)
/-- All parts lie below 2^64. -/
def Pt (f : Nat → Int) : Prop := ∀ j, 0 ≤ f j ∧ f j < 18446744073709551616
theorem Pt.upd {f : Nat → Int} (h : Pt f) (k : Nat) (v : Int) (v0 : 0 ≤ v) (v1 : v < 18446744073709551616) : Pt (upd f k v) := fun j => by
  unfold Go.Proofs.Ytpigofooblmdhaa.upd; split
  · exact ⟨v0, v1⟩
  · exact h j
theorem ps_nn {g : Nat → Int} (h : ∀ j, 0 ≤ g j ∧ g j < 18446744073709551616) : ∀ k, 0 ≤ ps g k ∧ ps g k < 18446744073709551616 ^ k := by
  intro k
  induction k with
  | zero => simp [ps]
  | succ k ih =>
    have h0 := h k
    have p : (0 : Int) < 18446744073709551616 ^ k := Int.pow_pos (by omega)
    simp only [ps]
    have e : (18446744073709551616 : Int) ^ (k + 1) = 18446744073709551616 ^ k * 18446744073709551616 := Int.pow_succ ..
    have a : 0 ≤ g k * 18446744073709551616 ^ k := Int.mul_nonneg h0.1 (by omega)
    have b : g k * 18446744073709551616 ^ k ≤ 18446744073709551615 * 18446744073709551616 ^ k := Int.mul_le_mul_of_nonneg_right (by omega) (by omega)
    omega
/-- While q times M is taken off: behind k parts. f0: the parts ahead. -/
def SubI (f0 f : Nat → Int) (M q : Int) (i k : Nat) (c b : Int) : Prop :=
  Pt f ∧ 0 ≤ c ∧ c < 18446744073709551616 ∧ 0 ≤ b ∧ b ≤ 1 ∧ (∀ j, ¬ (i ≤ j ∧ j < i + k) → f j = f0 j) ∧
    ps (fr f0 i) k - q * ps (lim M) k = ps (fr f i) k - (c + b) * 18446744073709551616 ^ k
theorem fr_upd_lt (f : Nat → Int) (i k : Nat) (v : Int) : ps (fr (upd f (i + k) v) i) k = ps (fr f i) k := by
  refine ps_congr k fun j hj => ?_
  unfold fr upd; rw [if_neg (by omega)]
theorem SubI.start {f0 : Nat → Int} (h : Pt f0) (M q : Int) (i : Nat) : SubI f0 f0 M q i 0 0 0 :=
  ⟨h, by omega, by omega, by omega, by omega, fun _ _ => rfl, by simp [ps]⟩
theorem SubI.step {f0 f : Nat → Int} {M q : Int} {i k : Nat} {c b : Int} (h : SubI f0 f M q i k c b) {hi lo s d r b' : Int}
    (e1 : q * lim M k = hi * 18446744073709551616 + lo) (e2 : lo + c + 0 = s + 18446744073709551616 * d) (e3 : f (i + k) - s - b = r - 18446744073709551616 * b')
    (r0 : 0 ≤ r) (r1 : r < 18446744073709551616) (hb0 : 0 ≤ b') (hb1 : b' ≤ 1) (c0 : 0 ≤ hi + d) (c1 : hi + d < 18446744073709551616) :
    SubI f0 (upd f (i + k) r) M q i (k + 1) (hi + d) b' := by
  obtain ⟨p, _, _, _, _, fx, e⟩ := h
  refine ⟨p.upd _ _ r0 r1, c0, c1, hb0, hb1, ?_, ?_⟩
  · intro j hj
    unfold upd; rw [if_neg (by omega)]; exact fx j (by omega)
  · have f00 : fr f0 i k = f (i + k) := (fx (i + k) (by omega)).symm
    have f01 : fr (upd f (i + k) r) i k = r := by unfold fr upd; rw [if_pos rfl]
    simp only [ps, f00, f01, fr_upd_lt, Int.pow_succ]
    generalize (18446744073709551616 : Int) ^ k = P at *
    have t1 : f (i + k) * P - q * (lim M k * P) = (r + b + c) * P - (hi + d + b') * (P * 18446744073709551616) := by
      rw [← Int.mul_assoc q, e1]
      have : f (i + k) = r - 18446744073709551616 * b' + s + b := by omega
      rw [this]
      have : s = lo + c - 18446744073709551616 * d := by omega
      rw [this]
      grind
    have t2 : q * (ps (lim M) k + lim M k * P) = q * ps (lim M) k + q * (lim M k * P) := Int.mul_add ..
    have t3 : (r + b + c) * P = r * P + (c + b) * P := by grind
    omega
/-- While M is put back: behind k parts. -/
def AddI (f0 f : Nat → Int) (M : Int) (i k : Nat) (d : Int) : Prop :=
  Pt f ∧ 0 ≤ d ∧ d ≤ 1 ∧ (∀ j, ¬ (i ≤ j ∧ j < i + k) → f j = f0 j) ∧
    ps (fr f0 i) k + ps (lim M) k = ps (fr f i) k + d * 18446744073709551616 ^ k
theorem AddI.start {f0 : Nat → Int} (h : Pt f0) (M : Int) (i : Nat) : AddI f0 f0 M i 0 0 :=
  ⟨h, by omega, by omega, fun _ _ => rfl, by simp [ps]⟩
theorem AddI.step {f0 f : Nat → Int} {M : Int} {i k : Nat} {d : Int} (h : AddI f0 f M i k d) {s d' : Int}
    (e : f (i + k) + lim M k + d = s + 18446744073709551616 * d') (s0 : 0 ≤ s) (s1 : s < 18446744073709551616) (d0 : 0 ≤ d') (d1 : d' ≤ 1) :
    AddI f0 (upd f (i + k) s) M i (k + 1) d' := by
  obtain ⟨p, _, _, fx, e0⟩ := h
  refine ⟨p.upd _ _ s0 s1, d0, d1, ?_, ?_⟩
  · intro j hj
    unfold upd; rw [if_neg (by omega)]; exact fx j (by omega)
  · have f00 : fr f0 i k = f (i + k) := (fx (i + k) (by omega)).symm
    have f01 : fr (upd f (i + k) s) i k = s := by unfold fr upd; rw [if_pos rfl]
    simp only [ps, f00, f01, fr_upd_lt, Int.pow_succ]
    generalize (18446744073709551616 : Int) ^ k = P at *
    have t : f (i + k) * P + lim M k * P + d * P = s * P + d' * (P * 18446744073709551616) := by
      rw [← Int.add_mul, ← Int.add_mul, e]; grind
    omega
/-- At the head of the loop that puts M back: X is what stood in the window at first. -/
def BackI (g f : Nat → Int) (M X : Int) (i : Nat) (b : Int) : Prop :=
  Pt f ∧ 0 ≤ b ∧ b ≤ 1 ∧ (∀ j, ¬ (i ≤ j ∧ j < i + 5) → f j = g j) ∧ ∃ t : Int, 0 ≤ t ∧ X - t * M = ps (fr f i) 5 - b * 18446744073709551616 ^ 5 ∧ X - t * M < M
theorem lim_ps (M : Int) (h0 : 0 ≤ M) (h1 : M < top256) : ps (lim M) 4 = M := by rw [ps4]; exact V4_lim M h0 h1
theorem SubI.done {f0 f : Nat → Int} {M q : Int} {i : Nat} {c b : Int} (h : SubI f0 f M q i 4 c b) (hM : 0 ≤ M) (hM' : M < top256) (hq : 0 ≤ q) (X : Int) (hX : X = ps (fr f0 i) 5) (hqt : X < (q + 1) * M) {r b' : Int}
    (e : f (i + 4) - c - b = r - 18446744073709551616 * b') (r0 : 0 ≤ r) (r1 : r < 18446744073709551616) (hb0 : 0 ≤ b') (hb1 : b' ≤ 1) : BackI f0 (upd f (i + 4) r) M X i b' := by
  obtain ⟨p, _, _, _, _, fx, e0⟩ := h
  refine ⟨p.upd _ _ r0 r1, hb0, hb1, ?_, q, hq, ?_, ?_⟩
  · intro j hj
    unfold upd; rw [if_neg (by omega)]; exact fx j (by omega)
  rotate_left
  · have : (q + 1) * M = q * M + M := by grind
    omega
  · have f00 : fr f0 i 4 = f (i + 4) := (fx (i + 4) (by omega)).symm
    have f01 : fr (upd f (i + 4) r) i 4 = r := by unfold fr upd; rw [if_pos rfl]
    rw [lim_ps M hM hM'] at e0
    rw [hX]
    have s1 : ps (fr f0 i) 5 = ps (fr f0 i) 4 + fr f0 i 4 * 18446744073709551616 ^ 4 := rfl
    have s2 : ps (fr (upd f (i + 4) r) i) 5 = ps (fr (upd f (i + 4) r) i) 4 + fr (upd f (i + 4) r) i 4 * 18446744073709551616 ^ 4 := rfl
    rw [s1, s2, f00, f01, fr_upd_lt, show (18446744073709551616 : Int) ^ 5 = 18446744073709551616 ^ 4 * 18446744073709551616 from rfl]
    generalize (18446744073709551616 : Int) ^ 4 = P at *
    have t : f (i + 4) * P = r * P + (c + b) * P - b' * (P * 18446744073709551616) := by
      have : f (i + 4) = r - 18446744073709551616 * b' + c + b := by omega
      rw [this]; grind
    omega
theorem AddI.done {g f0 f : Nat → Int} {M X : Int} {i : Nat} {d : Int} (h : AddI f0 f M i 4 d) (hB : BackI g f0 M X i 1) (hX : 0 ≤ X) (hM : 0 ≤ M) (hM' : M < top256) {r d' : Int}
    (e : f (i + 4) + 0 + d = r + 18446744073709551616 * d') (r0 : 0 ≤ r) (r1 : r < 18446744073709551616) (d0 : 0 ≤ d') (d1 : d' ≤ 1) :
    BackI g (upd f (i + 4) r) M X i (1 - d') ∧ ps (fr (upd f (i + 4) r) i) 5 - (1 - d') * 18446744073709551616 ^ 5 = ps (fr f0 i) 5 - 1 * 18446744073709551616 ^ 5 + M := by
  obtain ⟨p, _, _, fx, e0⟩ := h
  obtain ⟨p0, _, _, gx, t, t0, et, lt⟩ := hB
  have key : ps (fr (upd f (i + 4) r) i) 5 - (1 - d') * 18446744073709551616 ^ 5 = ps (fr f0 i) 5 - 1 * 18446744073709551616 ^ 5 + M := by
    have f00 : fr f0 i 4 = f (i + 4) := (fx (i + 4) (by omega)).symm
    have f01 : fr (upd f (i + 4) r) i 4 = r := by unfold fr upd; rw [if_pos rfl]
    rw [lim_ps M hM hM'] at e0
    have s1 : ps (fr f0 i) 5 = ps (fr f0 i) 4 + fr f0 i 4 * 18446744073709551616 ^ 4 := rfl
    have s2 : ps (fr (upd f (i + 4) r) i) 5 = ps (fr (upd f (i + 4) r) i) 4 + fr (upd f (i + 4) r) i 4 * 18446744073709551616 ^ 4 := rfl
    rw [s1, s2, f00, f01, fr_upd_lt, show (18446744073709551616 : Int) ^ 5 = 18446744073709551616 ^ 4 * 18446744073709551616 from rfl]
    generalize (18446744073709551616 : Int) ^ 4 = P at *
    have t : f (i + 4) * P + d * P = r * P + d' * (P * 18446744073709551616) := by
      rw [← Int.add_mul]
      have : f (i + 4) + d = r + 18446744073709551616 * d' := by omega
      rw [this]; grind
    have u : (1 - d') * (P * 18446744073709551616) = P * 18446744073709551616 - d' * (P * 18446744073709551616) := by grind
    omega
  refine ⟨⟨p.upd _ _ r0 r1, by omega, by omega, ?_, t - 1, ?_, ?_, ?_⟩, key⟩
  · intro j hj
    unfold upd; rw [if_neg (by omega), fx j (by omega)]; exact gx j hj
  · have b := (ps_nn (fun j => p0 (i + j)) 5).2
    have hh : X - t * M < 0 := by rw [et]; unfold fr; omega
    by_cases c : t = 0
    · subst c; omega
    · omega
  · have : (t - 1) * M = t * M - M := by grind
    omega
  · have b := (ps_nn (fun j => p0 (i + j)) 5).2
    have hh : X - t * M < 0 := by rw [et]; unfold fr; omega
    have : (t - 1) * M = t * M - M := by grind
    omega
/-- Ahead of the round for place n - 1: U is what is asked about. -/
def TI (U M : Int) (n : Nat) (f : Nat → Int) : Prop :=
  Pt f ∧ (∀ j, n + 4 ≤ j → j < 9 → f j = 0) ∧ ps (fr f n) 4 < M ∧ ps f 9 % M = U % M
theorem ps_add (g : Nat → Int) (a : Nat) : ∀ b, ps g (a + b) = ps g a + ps (fr g a) b * 18446744073709551616 ^ a := by
  intro b
  induction b with
  | zero => simp [ps]
  | succ b ih =>
    show ps g (a + b) + g (a + b) * 18446744073709551616 ^ (a + b) = ps g a + (ps (fr g a) b + g (a + b) * 18446744073709551616 ^ b) * 18446744073709551616 ^ a
    rw [ih, Int.pow_add]
    grind
theorem ps_zero (g : Nat → Int) : ∀ n, (∀ j, j < n → g j = 0) → ps g n = 0 := by
  intro n
  induction n with
  | zero => intro _; rfl
  | succ n ih => intro h; simp only [ps]; rw [ih (fun j hj => h j (by omega)), h n (by omega)]; omega
theorem BackI.done {g f : Nat → Int} {M X U : Int} {i : Nat} (hi : i < 5) (h : BackI g f M X i 0) (hX : X = ps (fr g i) 5) (hM : 0 < M) (hM' : M < top256) (hT : TI U M (i + 1) g) : TI U M i f := by
  obtain ⟨p, _, _, fx, t, t0, et, lt⟩ := h
  obtain ⟨pg, zg, _, eU⟩ := hT
  have e5 : ps (fr f i) 5 = X - t * M := by omega
  have n4 := ps_nn (fun j => p (i + j)) 4
  have n5 := ps_nn (fun j => p (i + j)) 5
  have s5 : ps (fr f i) 5 = ps (fr f i) 4 + f (i + 4) * 115792089237316195423570985008687907853269984665640564039457584007913129639936 := by rw [ps5, ps4]; rfl
  have p4 := p (i + 4)
  have n4' : 0 ≤ ps (fr f i) 4 := n4.1
  have z4 : f (i + 4) = 0 := by unfold top256 at hM'; omega
  refine ⟨p, ?_, ?_, ?_⟩
  · intro j h1 h2
    by_cases c : j = i + 4
    · rw [c]; exact z4
    · rw [fx j (by omega)]; exact zg j (by omega) h2
  · rw [z4] at s5; omega
  · rw [← eU]
    have a1 := ps_add f i 5
    have a2 := ps_add g i 5
    have a3 := ps_add f (i + 5) (4 - i)
    have a4 := ps_add g (i + 5) (4 - i)
    have c1 : ps f i = ps g i := ps_congr i fun j hj => fx j (by omega)
    have c2 : ps (fr f (i + 5)) (4 - i) = ps (fr g (i + 5)) (4 - i) := ps_congr _ fun j hj => fx _ (by omega)
    rw [show i + 5 + (4 - i) = 9 by omega] at a3 a4
    rw [a3, a4, a1, a2, c1, c2, ← hX, e5]
    generalize (18446744073709551616 : Int) ^ i = P
    have : (X - t * M) * P = X * P - M * (t * P) := by grind
    rw [this, show ps g i + (X * P - M * (t * P)) + ps (fr g (i + 5)) (4 - i) * 18446744073709551616 ^ (i + 5) = (ps g i + X * P + ps (fr g (i + 5)) (4 - i) * 18446744073709551616 ^ (i + 5)) - M * (t * P) by omega]
    exact Int.sub_mul_emod_self_left ..
theorem TI.end {U M : Int} {f : Nat → Int} (h : TI U M 0 f) (hM : 0 < M) : V4 (f 0) (f 1) (f 2) (f 3) = U % M := by
  obtain ⟨p, z, l, e⟩ := h
  have a := ps_add f 4 5
  have c : ps (fr f 4) 5 = 0 := ps_zero _ 5 fun j hj => z (4 + j) (by omega) (by omega)
  have f0 : fr f 0 = f := by funext j; unfold fr; rw [Nat.zero_add]
  rw [f0] at l
  rw [show 4 + 5 = 9 from rfl, c, Int.zero_mul, Int.add_zero] at a
  rw [← ps4, ← e, a]
  exact (Int.emod_eq_of_lt (ps_nn p 4).1 l).symm
/-- The guessed part is never too small. -/
theorem guess_ge {X M q u4 u3 rest m3 mr : Int} (hX : X = (u4 * 18446744073709551616 + u3) * 6277101735386680763835789423207666416102355444464034512896 + rest) (hr : rest < 6277101735386680763835789423207666416102355444464034512896)
    (hM : M = m3 * 6277101735386680763835789423207666416102355444464034512896 + mr) (hmr : 0 ≤ mr) (hm3 : 0 < m3) (hq : q = (u4 * 18446744073709551616 + u3) / m3) (hq0 : 0 ≤ q) : X < (q + 1) * M := by
  have a : u4 * 18446744073709551616 + u3 < (q + 1) * m3 := by rw [hq]; exact Int.lt_ediv_add_one_mul_self _ hm3
  have b : (q + 1) * M = (q + 1) * m3 * 6277101735386680763835789423207666416102355444464034512896 + (q + 1) * mr := by rw [hM]; grind
  have c : 0 ≤ (q + 1) * mr := Int.mul_nonneg (by omega) hmr
  rw [b]
  generalize (q + 1) * m3 = Y at *
  omega
end Go.Proofs.Ytpigofooblmdhaa
