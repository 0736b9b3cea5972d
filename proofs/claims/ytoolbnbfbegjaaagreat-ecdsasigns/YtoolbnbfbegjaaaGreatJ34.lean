/- Plain facts on the inverse by halves and differences, and on Euclid's rows. -/
import Derived.Test.YtoolbnbfbegjaaaGreatJ33
import Derived.Test.YtoolbnbfbegjaaaGreatJ23
set_option linter.all false
namespace Go.Proofs.YtoolbnbfbegjaaaGreat
def OI (A M U V X Y : Int) : Prop :=
  0 ≤ U ∧ U < top256 ∧ 0 < V ∧ V < top256 ∧ V % 2 = 1 ∧ 0 ≤ X ∧ X < M ∧ 0 ≤ Y ∧ Y < M ∧ M ∣ A * X - U ∧ M ∣ A * Y - V ∧ Nat.gcd U.toNat V.toNat = Nat.gcd M.toNat A.toNat
theorem dvd_half {M t : Int} (h : M % 2 = 1) (hd : M ∣ 2 * t) : M ∣ t := by
  have e : t = M * t - M / 2 * (2 * t) := by
    have m : M = 2 * (M / 2) + 1 := by omega
    have k : M * t = 2 * (M / 2) * t + t := by conv => lhs; rw [m]
                                               grind
    grind
  rw [e]
  exact Int.dvd_sub (Int.dvd_mul_right _ _) (Int.dvd_trans hd (Int.dvd_mul_left _ _))
theorem gcd_half {u v : Nat} (hu : u % 2 = 0) (hv : v % 2 = 1) : Nat.gcd (u / 2) v = Nat.gcd u v := by
  have c : Nat.Coprime 2 v := by
    unfold Nat.Coprime
    have h := Nat.gcd_dvd_left 2 v
    have g := Nat.gcd_dvd_right 2 v
    have l := Nat.le_of_dvd (by omega) h
    have h2 : Nat.gcd 2 v = 1 ∨ Nat.gcd 2 v = 2 ∨ Nat.gcd 2 v = 0 := by omega
    rcases h2 with h2 | h2 | h2
    · exact h2
    · rw [h2] at g; omega
    · rw [h2] at h; omega
  have e : u = 2 * (u / 2) := by omega
  conv => rhs; rw [e]
  exact (Nat.Coprime.gcd_mul_left_cancel (u / 2) c).symm
theorem hm_bd {X M : Int} (h0 : 0 ≤ X) (h1 : X < M) (hM : M % 2 = 1) : 0 ≤ hm X M ∧ hm X M < M := by
  unfold hm; split <;> omega
theorem hm_two {X M : Int} (hM : M % 2 = 1) : 2 * hm X M = X ∨ 2 * hm X M = X + M := by
  unfold hm; split
  · right; omega
  · left; omega
theorem OI.even {A M U V X Y : Int} (h : OI A M U V X Y) (hM : M % 2 = 1) (hu : U % 2 = 0) : OI A M (U / 2) V (hm X M) Y := by
  obtain ⟨u0, u1, v0, v1, vo, x0, x1, y0, y1, dx, dy, g⟩ := h
  have b := hm_bd x0 x1 hM
  refine ⟨by omega, by omega, v0, v1, vo, b.1, b.2, y0, y1, ?_, dy, ?_⟩
  · refine dvd_half hM ?_
    have e : 2 * (A * hm X M - U / 2) = A * (2 * hm X M) - U := by
      have : 2 * (U / 2) = U := by omega
      grind
    rw [e]
    rcases hm_two (X := X) hM with t | t
    · rw [t]; exact dx
    · rw [t, show A * (X + M) - U = (A * X - U) + A * M by grind]
      exact Int.dvd_add dx (Int.dvd_mul_left _ _)
  · rw [← g, ← gcd_half (u := U.toNat) (v := V.toNat) (by omega) (by omega)]
    congr 1; omega
theorem OI.swap {A M U V X Y : Int} (h : OI A M U V X Y) (hu : U % 2 = 1) : OI A M V U Y X := by
  obtain ⟨u0, u1, v0, v1, vo, x0, x1, y0, y1, dx, dy, g⟩ := h
  exact ⟨by omega, v1, by omega, u1, hu, y0, y1, x0, x1, dy, dx, by rw [Nat.gcd_comm]; exact g⟩
theorem OI.sub {A M U V X Y : Int} (h : OI A M U V X Y) (hu : V ≤ U) : OI A M (U - V) V (if X < Y then X - Y + M else X - Y) Y := by
  obtain ⟨u0, u1, v0, v1, vo, x0, x1, y0, y1, dx, dy, g⟩ := h
  refine ⟨by omega, by omega, v0, v1, vo, by split <;> omega, by split <;> omega, y0, y1, ?_, dy, ?_⟩
  · have d := Int.dvd_sub dx dy
    split
    · rw [show A * (X - Y + M) - (U - V) = (A * X - U - (A * Y - V)) + A * M by grind]
      exact Int.dvd_add d (Int.dvd_mul_left _ _)
    · rw [show A * (X - Y) - (U - V) = A * X - U - (A * Y - V) by grind]
      exact d
  · rw [← g, show (U - V).toNat = U.toNat - V.toNat by omega]
    exact Nat.gcd_sub_self_left (by omega)
theorem OI.start {A M : Int} (hA : 0 ≤ A) (hM0 : 0 < M) (hM1 : M < top256) (hM : M % 2 = 1) : OI A M (A % M) M (1 % M) 0 := by
  have a0 := Int.emod_nonneg A (show M ≠ 0 by omega)
  have a1 := Int.emod_lt_of_pos A hM0
  have b0 := Int.emod_nonneg 1 (show M ≠ 0 by omega)
  have b1 := Int.emod_lt_of_pos 1 hM0
  refine ⟨a0, by omega, hM0, hM1, hM, b0, b1, by omega, hM0, ?_, ?_, ?_⟩
  · refine Int.dvd_of_emod_eq_zero ?_
    rw [Int.sub_emod, Int.mul_emod, Int.emod_emod, ← Int.mul_emod, Int.mul_one, Int.emod_emod, Int.sub_self, Int.zero_emod]
  · rw [Int.mul_zero, Int.zero_sub]; exact Int.dvd_neg.2 (Int.dvd_refl M)
  · rw [Int.toNat_emod hA (by omega), ← Nat.gcd_rec]
theorem OI.end1 {A M V X Y : Int} (h : OI A M 0 V X Y) (hV : V = 1) : IV A M (Y % M) true := by
  obtain ⟨u0, u1, v0, v1, vo, x0, x1, y0, y1, dx, dy, g⟩ := h
  subst hV
  have M0 : 0 < M := by omega
  have e : Y % M = Y := Int.emod_eq_of_lt y0 y1
  rw [e]
  refine ⟨y0, fun _ => ⟨y1, dy⟩, fun h => by (cases h), ⟨fun _ => ⟨M0, ?_⟩, fun _ => rfl⟩⟩
  rw [← g]; rfl
theorem OI.endN {A M V X Y : Int} (h : OI A M 0 V X Y) (hV : ¬ V = 1) : IV A M 0 false := by
  obtain ⟨u0, u1, v0, v1, vo, x0, x1, y0, y1, dx, dy, g⟩ := h
  refine ⟨by omega, fun h => by (cases h), fun _ => rfl, ⟨fun h => by (cases h), fun ⟨_, t⟩ => ?_⟩⟩
  rw [← g] at t
  simp at t
  omega
theorem IV.uniq {A M x y : Int} {a b : Bool} (h : IV A M x a) (g : IV A M y b) : x = y ∧ a = b := by
  obtain ⟨x0, x1, x2, x3⟩ := h
  obtain ⟨y0, y1, y2, y3⟩ := g
  have ab : a = b := by
    cases a <;> cases b <;> first | rfl | (exfalso; first | exact absurd (x3.2 (y3.1 rfl)) (by decide) | exact absurd (y3.2 (x3.1 rfl)) (by decide))
  subst ab
  refine ⟨?_, rfl⟩
  cases a
  · rw [x2 rfl, y2 rfl]
  · obtain ⟨xl, xd⟩ := x1 rfl
    obtain ⟨yl, yd⟩ := y1 rfl
    have M0 := (x3.1 rfl).1
    have d : M ∣ x - y := by
      have e : x - y = (A * x - 1) * y - (A * y - 1) * x := by grind
      rw [e]
      exact Int.dvd_sub (Int.dvd_trans xd (Int.dvd_mul_right _ _)) (Int.dvd_trans yd (Int.dvd_mul_right _ _))
    have z : (x - y) % M = 0 := Int.emod_eq_zero_of_dvd d
    have xm := Int.emod_eq_of_lt x0 xl
    have ym := Int.emod_eq_of_lt y0 yl
    rw [← xm, ← ym]
    exact Int.emod_eq_emod_iff_emod_sub_eq_zero.2 z
def EI (A M R S X Y : Int) : Prop :=
  0 < R ∧ R < top256 ∧ 0 ≤ S ∧ S < top256 ∧ 0 ≤ X ∧ X < M ∧ 0 ≤ Y ∧ Y < M ∧ M ∣ A * X - R ∧ M ∣ A * Y - S ∧ Nat.gcd S.toNat R.toNat = Nat.gcd M.toNat A.toNat
theorem EI.start {A M : Int} (hA : 0 ≤ A) (hM0 : 0 < M) (hM1 : M < top256) : EI A M M (A % M) 0 (1 % M) := by
  have a0 := Int.emod_nonneg A (show M ≠ 0 by omega)
  have a1 := Int.emod_lt_of_pos A hM0
  have b0 := Int.emod_nonneg 1 (show M ≠ 0 by omega)
  have b1 := Int.emod_lt_of_pos 1 hM0
  refine ⟨hM0, hM1, a0, by omega, by omega, hM0, b0, b1, ?_, ?_, ?_⟩
  · rw [Int.mul_zero, Int.zero_sub]; exact Int.dvd_neg.2 (Int.dvd_refl M)
  · refine Int.dvd_of_emod_eq_zero ?_
    rw [Int.sub_emod, Int.mul_emod, Int.emod_emod, ← Int.mul_emod, Int.mul_one, Int.emod_emod, Int.sub_self, Int.zero_emod]
  · rw [Int.toNat_emod hA (by omega), ← Nat.gcd_rec]
theorem EI.step {A M R S X Y : Int} (h : EI A M R S X Y) (hS : ¬ S = 0) : EI A M S (R % S) Y ((X - R / S * Y % M) % M) := by
  obtain ⟨r0, r1, s0, s1, x0, x1, y0, y1, dx, dy, g⟩ := h
  have M0 : 0 < M := by omega
  have S0 : 0 < S := by omega
  have a0 := Int.emod_nonneg R (show S ≠ 0 by omega)
  have a1 := Int.emod_lt_of_pos R S0
  refine ⟨S0, s1, a0, by omega, y0, y1, Int.emod_nonneg _ (by omega), Int.emod_lt_of_pos _ M0, dy, ?_, ?_⟩
  · have e1 : (X - R / S * Y % M) % M = (X - R / S * Y) % M := by rw [Int.sub_emod, Int.emod_emod, ← Int.sub_emod]
    rw [e1]
    have e2 : M ∣ A * (X - R / S * Y) - R % S := by
      have hr : R % S = R - R / S * S := by have := Int.emod_add_mul_ediv R S; rw [Int.mul_comm] at this; omega
      rw [hr, show A * (X - R / S * Y) - (R - R / S * S) = (A * X - R) - R / S * (A * Y - S) by grind]
      exact Int.dvd_sub dx (Int.dvd_trans dy (Int.dvd_mul_left _ _))
    have e3 : A * ((X - R / S * Y) % M) - R % S = (A * (X - R / S * Y) - R % S) - M * (A * ((X - R / S * Y) / M)) := by
      have := Int.emod_add_mul_ediv (X - R / S * Y) M
      grind
    rw [e3]
    exact Int.dvd_sub e2 (Int.dvd_mul_right _ _)
  · rw [← g, Int.toNat_emod (by omega) s0, ← Nat.gcd_rec]
theorem EI.end1 {A M R X Y : Int} (h : EI A M R 0 X Y) (hR : R = 1) : IV A M X true := by
  obtain ⟨r0, r1, s0, s1, x0, x1, y0, y1, dx, dy, g⟩ := h
  subst hR
  refine ⟨x0, fun _ => ⟨x1, dx⟩, fun h => by (cases h), ⟨fun _ => ⟨by omega, ?_⟩, fun _ => rfl⟩⟩
  rw [← g]; rfl
theorem EI.endN {A M R X Y : Int} (h : EI A M R 0 X Y) (hR : ¬ R = 1) : IV A M 0 false := by
  obtain ⟨r0, r1, s0, s1, x0, x1, y0, y1, dx, dy, g⟩ := h
  refine ⟨by omega, fun h => by (cases h), fun _ => rfl, ⟨fun h => by (cases h), fun ⟨_, t⟩ => ?_⟩⟩
  rw [← g] at t
  simp at t
  omega
end Go.Proofs.YtoolbnbfbegjaaaGreat
