/- Euclid's row, as plain numbers. -/
import Derived.Test.YtgekafmojedlkaaJ21
set_option linter.all false
namespace Go.Proofs.Ytgekafmojedlkaa
/-- The sign of the second share's times. -/
def sgn (less : Bool) : Int := if less then -1 else 1
/-- What holds between two rounds. -/
structure Eu (A M : Int) (less : Bool) (r0 t0 r1 t1 : Int) : Prop where
  r1n : 0 ≤ r1
  r1r : r1 < r0
  r0m : r0 ≤ M
  t0n : 0 ≤ t0
  t0m : t0 < M
  t1n : 0 ≤ t1
  det : r0 * t1 + r1 * t0 = M
  c1 : M ∣ r1 - sgn less * t1 * A
  c0 : M ∣ r0 + sgn less * t0 * A
  gc : Nat.gcd r0.toNat r1.toNat = Nat.gcd M.toNat A.toNat
theorem Eu.start (A M : Int) (hA : 0 ≤ A) (hM : 0 < M) : Eu A M false M 0 (A % M) 1 where
  r1n := Int.emod_nonneg _ (by omega)
  r1r := Int.emod_lt_of_pos _ hM
  r0m := Int.le_refl _
  t0n := by omega
  t0m := hM
  t1n := by omega
  det := by omega
  c1 := by
    have : A % M - sgn false * 1 * A = -(M * (A / M)) := by have := Int.emod_add_mul_ediv A M; simp [sgn]; omega
    rw [this]; exact Int.dvd_neg.2 (Int.dvd_mul_right _ _)
  c0 := by simp
  gc := by
    rw [Int.toNat_emod hA (by omega), Nat.gcd_comm, ← Nat.gcd_rec]
theorem Eu.step {A M : Int} {less : Bool} {r0 t0 r1 t1 : Int} (h : Eu A M less r0 t0 r1 t1) (hr : 0 < r1) :
    Eu A M (!less) r1 t1 (r0 % r1) (r0 / r1 * t1 + t0) where
  r1n := Int.emod_nonneg _ (by omega)
  r1r := Int.emod_lt_of_pos _ hr
  r0m := by have := h.r1r; have := h.r0m; omega
  t0n := h.t1n
  t0m := by
    have a := h.det
    have b : 0 ≤ r1 * t0 := Int.mul_nonneg h.r1n h.t0n
    have c : 2 * t1 ≤ r0 * t1 := Int.mul_le_mul_of_nonneg_right (by have := h.r1r; omega) h.t1n
    have := h.t0n; have := h.t0m
    have := h.t1n
    omega
  t1n := Int.add_nonneg (Int.mul_nonneg (Int.ediv_nonneg (by have := h.r1r; omega) (by omega)) h.t1n) h.t0n
  det := by
    have a := h.det
    have e := Int.emod_add_mul_ediv r0 r1
    generalize r0 / r1 = q at *
    generalize r0 % r1 = l at *
    subst e
    grind
  c1 := by
    have e := Int.emod_add_mul_ediv r0 r1
    have s : sgn (!less) = - sgn less := by cases less <;> rfl
    obtain ⟨x, hx⟩ := h.c1
    obtain ⟨y, hy⟩ := h.c0
    refine ⟨y - r0 / r1 * x, ?_⟩
    rw [s]
    generalize r0 / r1 = q at *
    generalize r0 % r1 = l at *
    generalize sgn less = g at *
    grind
  c0 := by
    have s : sgn (!less) = - sgn less := by cases less <;> rfl
    rw [s]
    have e : r1 + -sgn less * t1 * A = r1 - sgn less * t1 * A := by grind
    rw [e]; exact h.c1
  gc := by
    rw [← h.gc, Int.toNat_emod (by have := h.r1n; have := h.r1r; omega) (by omega), Nat.gcd_comm, ← Nat.gcd_rec, Nat.gcd_comm]
theorem Eu.t1le {A M : Int} {less : Bool} {r0 t0 r1 t1 : Int} (h : Eu A M less r0 t0 r1 t1) (hr : 0 < r0) : t1 ≤ M := by
  have a := h.det
  have b : 0 ≤ r1 * t0 := Int.mul_nonneg h.r1n h.t0n
  have c : 1 * t1 ≤ r0 * t1 := Int.mul_le_mul_of_nonneg_right (by omega) h.t1n
  omega
/-- What the row's end tells: the greatest divisor in common, and how many times A it is. -/
theorem Eu.fin {A M : Int} {less : Bool} {r0 t0 t1 : Int} (h : Eu A M less r0 t0 0 t1) :
    r0.toNat = Nat.gcd M.toNat A.toNat ∧ M ∣ A * (if less then t0 else (0 - t0) % M) - r0 := by
  refine ⟨?_, ?_⟩
  · have := h.gc; simpa using this
  · obtain ⟨y, hy⟩ := h.c0
    cases less with
    | true =>
      simp only [if_true]
      exact ⟨-y, by simp [sgn] at hy; grind⟩
    | false =>
      simp only [Bool.false_eq_true, if_false]
      have e := Int.emod_add_mul_ediv (0 - t0) M
      refine ⟨-y - A * ((0 - t0) / M), ?_⟩
      simp [sgn] at hy
      generalize (0 - t0) / M = q at *
      generalize (0 - t0) % M = l at *
      grind
end Go.Proofs.Ytgekafmojedlkaa
