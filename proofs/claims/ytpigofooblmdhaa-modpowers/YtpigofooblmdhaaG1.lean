/- PROVED: the function pendulumlaw02.ModPowers answers true for every input, and each argument reads behind the call as it read before; no condition. -/
import Derived.Lib.QuietBelow
import Derived.BigQuiet
import Derived.Test.YtpigofooblmdhaaI1
import Derived.Test.YtpigofooblmdhaaK8
import Derived.Test.YtpigofooblmdhaaA3
import Derived.Test.YtpigofooblmdhaaK6
import Derived.Test.YtpigofooblmdhaaZ1
import Derived.Test.YtpigofooblmdhaaR7
import Derived.Test.YtpigofooblmdhaaA5
import Derived.Test.YtpigofooblmdhaaK10
import Derived.Test.YtpigofooblmdhaaF0
/- Plain facts on the inverse by halves and differences, and on Euclid's rows. -/
set_option linter.all false
namespace Go.Proofs.Ytpigofooblmdhaa
/-- What holds in each round of the inverse modulo an odd number. -/
def OI (A M U V X Y : Int) : Prop :=
  0 ≤ U ∧ U < top256 ∧ 0 < V ∧ V < top256 ∧ V % 2 = 1 ∧ 0 ≤ X ∧ X < M ∧ 0 ≤ Y ∧ Y < M ∧ M ∣ A * X - U ∧ M ∣ A * Y - V ∧ Nat.gcd U.toNat V.toNat = Nat.gcd M.toNat A.toNat
theorem dvd_half {M t : Int} (h : M % 2 = 1) (hd : M ∣ 2 * t) : M ∣ t := by
  have e : t = M * t - M / 2 * (2 * t) := by
    have m : M = 2 * (M / 2) + 1 := by omega
    have k : M * t = 2 * (M / 2) * t + t := by conv => lhs; rw [m]
                                               grind
    grind
  rw [e]
  exact Int.dvd_sub (Int.dvd_mul_right _ _) (Int.dvd_trans hd (Int.dvd_mul_left _ _))
theorem gcd_half {u v : Nat} (hu : u % 2 = 0) (hv : v % 2 = 1) : Nat.gcd (u / 2) v = Nat.gcd u v := by
  have c : Nat.Coprime 2 v := by
    unfold Nat.Coprime
    have h := Nat.gcd_dvd_left 2 v
    have g := Nat.gcd_dvd_right 2 v
    have l := Nat.le_of_dvd (by omega) h
    have h2 : Nat.gcd 2 v = 1 ∨ Nat.gcd 2 v = 2 ∨ Nat.gcd 2 v = 0 := by omega
    rcases h2 with h2 | h2 | h2
    · exact h2
    · rw [h2] at g; omega
    · rw [h2] at h; omega
  have e : u = 2 * (u / 2) := by omega
  conv => rhs; rw [e]
  exact (Nat.Coprime.gcd_mul_left_cancel (u / 2) c).symm
theorem hm_bd {X M : Int} (h0 : 0 ≤ X) (h1 : X < M) (hM : M % 2 = 1) : 0 ≤ hm X M ∧ hm X M < M := by
  unfold hm; split <;> omega
theorem hm_two {X M : Int} (hM : M % 2 = 1) : 2 * hm X M = X ∨ 2 * hm X M = X + M := by
  unfold hm; split
  · right; omega
  · left; omega
theorem OI.even {A M U V X Y : Int} (h : OI A M U V X Y) (hM : M % 2 = 1) (hu : U % 2 = 0) : OI A M (U / 2) V (hm X M) Y := by
  obtain ⟨u0, u1, v0, v1, vo, x0, x1, y0, y1, dx, dy, g⟩ := h
  have b := hm_bd x0 x1 hM
  refine ⟨by omega, by omega, v0, v1, vo, b.1, b.2, y0, y1, ?_, dy, ?_⟩
  · refine dvd_half hM ?_
    have e : 2 * (A * hm X M - U / 2) = A * (2 * hm X M) - U := by
      have : 2 * (U / 2) = U := by omega
      grind
    rw [e]
    rcases hm_two (X := X) hM with t | t
    · rw [t]; exact dx
    · rw [t, show A * (X + M) - U = (A * X - U) + A * M by grind]
      exact Int.dvd_add dx (Int.dvd_mul_left _ _)
  · rw [← g, ← gcd_half (u := U.toNat) (v := V.toNat) (by omega) (by omega)]
    congr 1; omega
theorem OI.swap {A M U V X Y : Int} (h : OI A M U V X Y) (hu : U % 2 = 1) : OI A M V U Y X := by
  obtain ⟨u0, u1, v0, v1, vo, x0, x1, y0, y1, dx, dy, g⟩ := h
  exact ⟨by omega, v1, by omega, u1, hu, y0, y1, x0, x1, dy, dx, by rw [Nat.gcd_comm]; exact g⟩
theorem OI.sub {A M U V X Y : Int} (h : OI A M U V X Y) (hu : V ≤ U) : OI A M (U - V) V (if X < Y then X - Y + M else X - Y) Y := by
  obtain ⟨u0, u1, v0, v1, vo, x0, x1, y0, y1, dx, dy, g⟩ := h
  refine ⟨by omega, by omega, v0, v1, vo, by split <;> omega, by split <;> omega, y0, y1, ?_, dy, ?_⟩
  · have d := Int.dvd_sub dx dy
    split
    · rw [show A * (X - Y + M) - (U - V) = (A * X - U - (A * Y - V)) + A * M by grind]
      exact Int.dvd_add d (Int.dvd_mul_left _ _)
    · rw [show A * (X - Y) - (U - V) = A * X - U - (A * Y - V) by grind]
      exact d
  · rw [← g, show (U - V).toNat = U.toNat - V.toNat by omega]
    exact Nat.gcd_sub_self_left (by omega)
theorem OI.start {A M : Int} (hA : 0 ≤ A) (hM0 : 0 < M) (hM1 : M < top256) (hM : M % 2 = 1) : OI A M (A % M) M (1 % M) 0 := by
  have a0 := Int.emod_nonneg A (show M ≠ 0 by omega)
  have a1 := Int.emod_lt_of_pos A hM0
  have b0 := Int.emod_nonneg 1 (show M ≠ 0 by omega)
  have b1 := Int.emod_lt_of_pos 1 hM0
  refine ⟨a0, by omega, hM0, hM1, hM, b0, b1, by omega, hM0, ?_, ?_, ?_⟩
  · refine Int.dvd_of_emod_eq_zero ?_
    rw [Int.sub_emod, Int.mul_emod, Int.emod_emod, ← Int.mul_emod, Int.mul_one, Int.emod_emod, Int.sub_self, Int.zero_emod]
  · rw [Int.mul_zero, Int.zero_sub]; exact Int.dvd_neg.2 (Int.dvd_refl M)
  · rw [Int.toNat_emod hA (by omega), ← Nat.gcd_rec]
theorem OI.end1 {A M V X Y : Int} (h : OI A M 0 V X Y) (hV : V = 1) : IV A M (Y % M) true := by
  obtain ⟨u0, u1, v0, v1, vo, x0, x1, y0, y1, dx, dy, g⟩ := h
  subst hV
  have M0 : 0 < M := by omega
  have e : Y % M = Y := Int.emod_eq_of_lt y0 y1
  rw [e]
  refine ⟨y0, fun _ => ⟨y1, dy⟩, fun h => by (cases h), ⟨fun _ => ⟨M0, ?_⟩, fun _ => rfl⟩⟩
  rw [← g]; rfl
theorem OI.endN {A M V X Y : Int} (h : OI A M 0 V X Y) (hV : ¬ V = 1) : IV A M 0 false := by
  obtain ⟨u0, u1, v0, v1, vo, x0, x1, y0, y1, dx, dy, g⟩ := h
  refine ⟨by omega, fun h => by (cases h), fun _ => rfl, ⟨fun h => by (cases h), fun ⟨_, t⟩ => ?_⟩⟩
  rw [← g] at t
  simp at t
  omega
/-- There is one answer alone. -/
theorem IV.uniq {A M x y : Int} {a b : Bool} (h : IV A M x a) (g : IV A M y b) : x = y ∧ a = b := by
  obtain ⟨x0, x1, x2, x3⟩ := h
  obtain ⟨y0, y1, y2, y3⟩ := g
  have ab : a = b := by
    cases a <;> cases b <;> first | rfl | (exfalso; first | exact absurd (x3.2 (y3.1 rfl)) (by decide) | exact absurd (y3.2 (x3.1 rfl)) (by decide))
  subst ab
  refine ⟨?_, rfl⟩
  cases a
  · rw [x2 rfl, y2 rfl]
  · obtain ⟨xl, xd⟩ := x1 rfl
    obtain ⟨yl, yd⟩ := y1 rfl
    have M0 := (x3.1 rfl).1
    have d : M ∣ x - y := by
      have e : x - y = (A * x - 1) * y - (A * y - 1) * x := by grind
      rw [e]
      exact Int.dvd_sub (Int.dvd_trans xd (Int.dvd_mul_right _ _)) (Int.dvd_trans yd (Int.dvd_mul_right _ _))
    have z : (x - y) % M = 0 := Int.emod_eq_zero_of_dvd d
    have xm := Int.emod_eq_of_lt x0 xl
    have ym := Int.emod_eq_of_lt y0 yl
    rw [← xm, ← ym]
    exact Int.emod_eq_emod_iff_emod_sub_eq_zero.2 z
/-- What holds in each round of Euclid's rows. -/
def EI (A M R S X Y : Int) : Prop :=
  0 < R ∧ R < top256 ∧ 0 ≤ S ∧ S < top256 ∧ 0 ≤ X ∧ X < M ∧ 0 ≤ Y ∧ Y < M ∧ M ∣ A * X - R ∧ M ∣ A * Y - S ∧ Nat.gcd S.toNat R.toNat = Nat.gcd M.toNat A.toNat
theorem EI.start {A M : Int} (hA : 0 ≤ A) (hM0 : 0 < M) (hM1 : M < top256) : EI A M M (A % M) 0 (1 % M) := by
  have a0 := Int.emod_nonneg A (show M ≠ 0 by omega)
  have a1 := Int.emod_lt_of_pos A hM0
  have b0 := Int.emod_nonneg 1 (show M ≠ 0 by omega)
  have b1 := Int.emod_lt_of_pos 1 hM0
  refine ⟨hM0, hM1, a0, by omega, by omega, hM0, b0, b1, ?_, ?_, ?_⟩
  · rw [Int.mul_zero, Int.zero_sub]; exact Int.dvd_neg.2 (Int.dvd_refl M)
  · refine Int.dvd_of_emod_eq_zero ?_
    rw [Int.sub_emod, Int.mul_emod, Int.emod_emod, ← Int.mul_emod, Int.mul_one, Int.emod_emod, Int.sub_self, Int.zero_emod]
  · rw [Int.toNat_emod hA (by omega), ← Nat.gcd_rec]
theorem EI.step {A M R S X Y : Int} (h : EI A M R S X Y) (hS : ¬ S = 0) : EI A M S (R % S) Y ((X - R / S * Y % M) % M) := by
  obtain ⟨r0, r1, s0, s1, x0, x1, y0, y1, dx, dy, g⟩ := h
  have M0 : 0 < M := by omega
  have S0 : 0 < S := by omega
  have a0 := Int.emod_nonneg R (show S ≠ 0 by omega)
  have a1 := Int.emod_lt_of_pos R S0
  refine ⟨S0, s1, a0, by omega, y0, y1, Int.emod_nonneg _ (by omega), Int.emod_lt_of_pos _ M0, dy, ?_, ?_⟩
  · have e1 : (X - R / S * Y % M) % M = (X - R / S * Y) % M := by rw [Int.sub_emod, Int.emod_emod, ← Int.sub_emod]
    rw [e1]
    have e2 : M ∣ A * (X - R / S * Y) - R % S := by
      have hr : R % S = R - R / S * S := by have := Int.emod_add_mul_ediv R S; rw [Int.mul_comm] at this; omega
      rw [hr, show A * (X - R / S * Y) - (R - R / S * S) = (A * X - R) - R / S * (A * Y - S) by grind]
      exact Int.dvd_sub dx (Int.dvd_trans dy (Int.dvd_mul_left _ _))
    have e3 : A * ((X - R / S * Y) % M) - R % S = (A * (X - R / S * Y) - R % S) - M * (A * ((X - R / S * Y) / M)) := by
      have := Int.emod_add_mul_ediv (X - R / S * Y) M
      grind
    rw [e3]
    exact Int.dvd_sub e2 (Int.dvd_mul_right _ _)
  · rw [← g, Int.toNat_emod (by omega) s0, ← Nat.gcd_rec]
theorem EI.end1 {A M R X Y : Int} (h : EI A M R 0 X Y) (hR : R = 1) : IV A M X true := by
  obtain ⟨r0, r1, s0, s1, x0, x1, y0, y1, dx, dy, g⟩ := h
  subst hR
  refine ⟨x0, fun _ => ⟨x1, dx⟩, fun h => by (cases h), ⟨fun _ => ⟨by omega, ?_⟩, fun _ => rfl⟩⟩
  rw [← g]; rfl
theorem EI.endN {A M R X Y : Int} (h : EI A M R 0 X Y) (hR : ¬ R = 1) : IV A M 0 false := by
  obtain ⟨r0, r1, s0, s1, x0, x1, y0, y1, dx, dy, g⟩ := h
  refine ⟨by omega, fun h => by (cases h), fun _ => rfl, ⟨fun h => by (cases h), fun ⟨_, t⟩ => ?_⟩⟩
  rw [← g] at t
  simp at t
  omega
end Go.Proofs.Ytpigofooblmdhaa
/- What the reference's odd and Inv answer. -/
set_option linter.all false
set_option maxRecDepth 100000
namespace Go.Proofs.Ytpigofooblmdhaa
open Go.RowKit Go.Sort
/-- Two numbers together, by a world's own cells. -/
def sz2 (w : World) (b c : Nat) : Nat := (V4 (cI w b 0) (cI w b 1) (cI w b 2) (cI w b 3) + V4 (cI w c 0) (cI w c 1) (cI w c 2) (cI w c 3)).toNat
theorem cI_of {w : World} {b j : Nat} {N : Int} (h : Arr w b 4 (fun j => .int .u64 (lim N j))) (hj : j < 4) : cI w b j = lim N j := by unfold cI; rw [h.c j hj]
theorem V4_of {w : World} {b : Nat} {N : Int} (h : Arr w b 4 (fun j => .int .u64 (lim N j))) (n0 : 0 ≤ N) (n1 : N < top256) : V4 (cI w b 0) (cI w b 1) (cI w b 2) (cI w b 3) = N := by
  rw [cI_of h (by omega), cI_of h (by omega), cI_of h (by omega), cI_of h (by omega)]; exact V4_lim N n0 n1
theorem sz2_of {w : World} {b c : Nat} {N K : Int} (h : Arr w b 4 (fun j => .int .u64 (lim N j))) (g : Arr w c 4 (fun j => .int .u64 (lim K j))) (n0 : 0 ≤ N) (n1 : N < top256) (k0 : 0 ≤ K) (k1 : K < top256) : sz2 w b c = (N + K).toNat := by
  unfold sz2; rw [V4_of h n0 n1, V4_of g k0 k1]
theorem z4_zero : (lim 0 0 == 0 && (lim 0 1 == 0 && (lim 0 2 == 0 && lim 0 3 == 0))) = true := by decide
section
attribute [local go_sem] eq24
set_option maxHeartbeats 16000000 in
theorem odd_core (A M : Int) (hA : 0 ≤ A) (hM0 : 0 < M) (hM1 : M < top256) (hM : M % 2 = 1) (w : World)
    (CA : ∀ W, Calls Try.prog 28 #[nv A, .agg #[.int .u64 0, .int .u64 0, .int .u64 0, .int .u64 0], nv M] W fun e w' => e = .returned (nv (A % M)) ∧ Below W.heap.size W w')
    (C1 : ∀ W, Calls Try.prog 28 #[.agg #[.int .u64 1, .int .u64 0, .int .u64 0, .int .u64 0], .agg #[.int .u64 0, .int .u64 0, .int .u64 0, .int .u64 0], nv M] W fun e w' => e = .returned (nv (1 % M)) ∧ Below W.heap.size W w')
    (CY : ∀ Y, 0 ≤ Y → Y < M → ∀ W, Calls Try.prog 28 #[nv Y, .agg #[.int .u64 0, .int .u64 0, .int .u64 0, .int .u64 0], nv M] W fun e w' => e = .returned (nv (Y % M)) ∧ Below W.heap.size W w') :
    Calls Try.prog 69 #[nv A, nv M] w fun e w' => (∃ x ok, IV A M x ok ∧ e = .returned (.tuple #[nv x, .bool ok])) ∧ Below w.heap.size w w' := by
  have l00 : lim 0 0 = 0 := by decide
  have l01 : lim 0 1 = 0 := by decide
  have l02 : lim 0 2 = 0 := by decide
  have l03 : lim 0 3 = 0 := by decide
  go_enter Try.func69, Try.ntmps69
  have Ba := Arr.mk4 (w := (((w.alloc (.cells #[.int .u64 (lim (A) 0), .int .u64 (lim (A) 1), .int .u64 (lim (A) 2), .int .u64 (lim (A) 3)] 24)).alloc (.cells #[.int .u64 (lim (M) 0), .int .u64 (lim (M) 1), .int .u64 (lim (M) 2), .int .u64 (lim (M) 3)] 24)).alloc (.cells #[.int .u64 0, .int .u64 0, .int .u64 0, .int .u64 0] 24))) (f := fun j => .int .u64 (lim (A) j)) (b := w.heap.size) (by simp [go_sem]) (by simp [go_sem]) (by simp [go_sem]) (by simp [go_sem]) (by simp [go_sem]) (by simp [go_sem]) (by simp [go_sem]) (by simp [go_sem])
  have Bm := Arr.mk4 (w := (((w.alloc (.cells #[.int .u64 (lim (A) 0), .int .u64 (lim (A) 1), .int .u64 (lim (A) 2), .int .u64 (lim (A) 3)] 24)).alloc (.cells #[.int .u64 (lim (M) 0), .int .u64 (lim (M) 1), .int .u64 (lim (M) 2), .int .u64 (lim (M) 3)] 24)).alloc (.cells #[.int .u64 0, .int .u64 0, .int .u64 0, .int .u64 0] 24))) (f := fun j => .int .u64 (lim (M) j)) (b := w.heap.size + 1) (by simp [go_sem]) (by simp [go_sem]) (by simp [go_sem]) (by simp [go_sem]) (by simp [go_sem]) (by simp [go_sem]) (by simp [go_sem]) (by simp [go_sem])
  have Bz := Arr.mk4 (w := (((w.alloc (.cells #[.int .u64 (lim (A) 0), .int .u64 (lim (A) 1), .int .u64 (lim (A) 2), .int .u64 (lim (A) 3)] 24)).alloc (.cells #[.int .u64 (lim (M) 0), .int .u64 (lim (M) 1), .int .u64 (lim (M) 2), .int .u64 (lim (M) 3)] 24)).alloc (.cells #[.int .u64 0, .int .u64 0, .int .u64 0, .int .u64 0] 24))) (f := fun _ => .int .u64 0) (b := w.heap.size + 1 + 1) (by simp [go_sem]) (by simp [go_sem]) (by simp [go_sem]) (by simp [go_sem]) (by simp [go_sem]) (by simp [go_sem]) (by simp [go_sem]) (by simp [go_sem])
  have hB' : Below w.heap.size w (((w.alloc (.cells #[.int .u64 (lim (A) 0), .int .u64 (lim (A) 1), .int .u64 (lim (A) 2), .int .u64 (lim (A) 3)] 24)).alloc (.cells #[.int .u64 (lim (M) 0), .int .u64 (lim (M) 1), .int .u64 (lim (M) 2), .int .u64 (lim (M) 3)] 24)).alloc (.cells #[.int .u64 0, .int .u64 0, .int .u64 0, .int .u64 0] 24)) := by go_grown
  have Aa := Ba
  have Am := Bm
  have Az := Bz
  have hB := hB'
  clear Ba Bm Bz hB'
  go_wp2_with fail
  refine (CA _).mono ?_
  rintro e w1 ⟨rfl, hb⟩
  have Bm := Arr.to' Am hb
  have Bz := Arr.to' Az hb
  have hB' := Bel.call hB hb
  clear hb Aa Am Az hB CA
  have Am := Bm
  have Az := Bz
  have hB := hB'
  clear Bm Bz hB'
  have h01' := hB.size
  have cm1 := Am.c
  have lm_2 := Am.lt
  have lz_2 := Az.lt
  have lB_2 := hB.size
  have Bm := (Arr.al' (Arr.al' Am (.cells #[.int .u64 (lim (A % M) 0), .int .u64 (lim (A % M) 1), .int .u64 (lim (A % M) 2), .int .u64 (lim (A % M) 3)] 24)) (.cells #[.int .u64 (lim (M) 0), .int .u64 (lim (M) 1), .int .u64 (lim (M) 2), .int .u64 (lim (M) 3)] 24))
  have Bz := (Arr.al' (Arr.al' Az (.cells #[.int .u64 (lim (A % M) 0), .int .u64 (lim (A % M) 1), .int .u64 (lim (A % M) 2), .int .u64 (lim (A % M) 3)] 24)) (.cells #[.int .u64 (lim (M) 0), .int .u64 (lim (M) 1), .int .u64 (lim (M) 2), .int .u64 (lim (M) 3)] 24))
  have Bu := Arr.mk4 (w := ((w1.alloc (.cells #[.int .u64 (lim (A % M) 0), .int .u64 (lim (A % M) 1), .int .u64 (lim (A % M) 2), .int .u64 (lim (A % M) 3)] 24)).alloc (.cells #[.int .u64 (lim (M) 0), .int .u64 (lim (M) 1), .int .u64 (lim (M) 2), .int .u64 (lim (M) 3)] 24))) (f := fun j => .int .u64 (lim (A % M) j)) (b := w1.heap.size) (by simp [go_sem]) (by simp [go_sem]) (by simp [go_sem]) (by simp [go_sem]) (by simp [go_sem]) (by simp [go_sem]) (by simp [go_sem]) (by simp [go_sem])
  have Bv := Arr.mk4 (w := ((w1.alloc (.cells #[.int .u64 (lim (A % M) 0), .int .u64 (lim (A % M) 1), .int .u64 (lim (A % M) 2), .int .u64 (lim (A % M) 3)] 24)).alloc (.cells #[.int .u64 (lim (M) 0), .int .u64 (lim (M) 1), .int .u64 (lim (M) 2), .int .u64 (lim (M) 3)] 24))) (f := fun j => .int .u64 (lim (M) j)) (b := w1.heap.size + 1) (by simp [go_sem]) (by simp [go_sem]) (by simp [go_sem]) (by simp [go_sem]) (by simp [go_sem]) (by simp [go_sem]) (by simp [go_sem]) (by simp [go_sem])
  have hB' := (Bel.al (Bel.al hB (.cells #[.int .u64 (lim (A % M) 0), .int .u64 (lim (A % M) 1), .int .u64 (lim (A % M) 2), .int .u64 (lim (A % M) 3)] 24)) (.cells #[.int .u64 (lim (M) 0), .int .u64 (lim (M) 1), .int .u64 (lim (M) 2), .int .u64 (lim (M) 3)] 24))
  clear Am Az hB
  have Am := Bm
  have Az := Bz
  have Au := Bu
  have Av := Bv
  have hB := hB'
  clear Bm Bz Bu Bv hB'
  have cm := Am.c
  go_wp2_with fail
  refine (C1 _).mono ?_
  rintro e w2 ⟨rfl, hb⟩
  have Bm := Arr.to' Am hb
  have Bz := Arr.to' Az hb
  have Bu := Arr.to' Au hb
  have Bv := Arr.to' Av hb
  have hB' := Bel.call hB hb
  clear hb cm1 cm Am Az Au Av hB C1
  have Am := Bm
  have Az := Bz
  have Au := Bu
  have Av := Bv
  have hB := hB'
  clear Bm Bz Bu Bv hB'
  have h01 : w.heap.size + 1 + 1 < w1.heap.size := by omega
  have h12 : w1.heap.size + 1 < w2.heap.size := by have := Av.lt; omega
  have S0 : Hid (OI A M (A % M) M (1 % M) 0) := OI.start hA hM0 hM1 hM
  go_wp2_with fail
  go_loopw [] (fun wr => ∃ U V X Y, Hid (OI A M U V X Y) ∧ Below w.heap.size w wr ∧ (w.heap.size + 1 + 1 < w1.heap.size ∧ w1.heap.size + 1 < w2.heap.size) ∧ Arr wr (w.heap.size + 1) 4 (fun j => .int .u64 (lim (M) j)) ∧ Arr wr (w.heap.size + 1 + 1) 4 (fun _ => .int .u64 0) ∧ Arr wr w1.heap.size 4 (fun j => .int .u64 (lim (U) j)) ∧ Arr wr (w1.heap.size + 1) 4 (fun j => .int .u64 (lim (V) j)) ∧ Arr wr w2.heap.size 4 (fun j => .int .u64 (lim (X) j)) ∧ Arr wr (w2.heap.size + 1) 4 (fun j => .int .u64 (lim (Y) j))) (fun wr => sz2 wr w1.heap.size (w1.heap.size + 1))
  case atStart => exact ⟨_, _, _, _, S0, Bel.al (Bel.al hB _) _, ⟨h01, h12⟩, Arr.al' (Arr.al' Am _) _, Arr.al' (Arr.al' Az _) _, Arr.al' (Arr.al' Au _) _, Arr.al' (Arr.al' Av _) _, Arr.mk4 (by simp [go_sem]) (by simp [go_sem]) (by simp [go_sem]) (by simp [go_sem]) (by simp [go_sem]) (by simp [go_sem]) (by simp [go_sem]) (by simp [go_sem]), Arr.mk4 (by simp [go_sem, l00, l01, l02, l03]) (by simp [go_sem, l00, l01, l02, l03]) (by simp [go_sem, l00, l01, l02, l03]) (by simp [go_sem, l00, l01, l02, l03]) (by simp [go_sem, l00, l01, l02, l03]) (by simp [go_sem, l00, l01, l02, l03]) (by simp [go_sem, l00, l01, l02, l03]) (by simp [go_sem, l00, l01, l02, l03])⟩
  case round =>
    clear hB Am Az Au Av S0
    obtain ⟨U, V, X, Y, HO, hB, _, Am, Az, Au, Av, Ax, Ay⟩ := hrel
    obtain ⟨u0, u1, v0, v1, vo, x0, x1, y0, y1, _, _, _⟩ := HO.out
    have M0 : Hid (sz2 wr w1.heap.size (w1.heap.size + 1) = (U + V).toNat) := sz2_of Au Av u0 u1 (by omega) v1
    by_cases hu0 : U = 0
    · subst hu0
      by_cases hV : V = 1
      · have hv1 : (lim V 0 == 1 && (lim V 1 == 0 && (lim V 2 == 0 && lim V 3 == 0))) = true := by rw [hV]; decide
        have hz := z4_zero
        have CR := CY Y y0 y1
        clear CY l00 l01 l02 l03
        have cu := Au.c
        have cv := Av.c
        have cy := Ay.c
        have cm := Am.c
        go_wp2_with fail
        refine (CR _).mono ?_
        rintro e w13 ⟨rfl, hb⟩
        have Bz := Arr.to' Az hb
        have hB' := Bel.call hB hb
        clear hb cu cv cy cm Am Az Au Av Ax Ay hB
        have Az := Bz
        have hB := hB'
        clear Bz hB'
        have cz := Az.c
        have zz := Az.z
        have lz := Az.lt
        have hS := hB.size
        go_wp2_with fail
        refine bodyPost_ret (v := .tuple #[nv (Y % M), .bool true]) (by simp [results, Try.results69, go_sem, cz, lz]) rfl ⟨⟨_, _, HO.out.end1 hV, rfl⟩, ?_⟩
        go_grown
      · have hv1 : (lim V 0 == 1 && (lim V 1 == 0 && (lim V 2 == 0 && lim V 3 == 0))) = false := by rw [eq_one V (by omega) v1]; simpa using hV
        have hz := z4_zero
        clear CY
        have cu := Au.c
        have cv := Av.c
        have cy := Ay.c
        have cm := Am.c
        have cz := Az.c
        have zz := Az.z
        have lz := Az.lt
        have hS := hB.size
        go_wp2_with fail
        refine bodyPost_ret (v := .tuple #[nv 0, .bool false]) (by simp [results, Try.results69, go_sem, cz, lz, l00, l01, l02, l03]) rfl ⟨⟨_, _, HO.out.endN hV, rfl⟩, ?_⟩
        go_grown
    have hz := nz24 U (by omega) u1
    have n0 := lim_nn U 0
    have n1 := lim_lt U 0
    have e0 : lim U 0 % 2 = U % 2 := by rw [lim0]; omega
    clear CY l00 l01 l02 l03
    by_cases hp : U % 2 = 0
    · have hp' : (lim U 0 % 2 == 0) = true := by rw [e0, hp]; rfl
      have hpe : lim U 0 % 2 = 0 := by rw [e0, hp]
      have HO2 : Hid (OI A M (U / 2) V (hm X M) Y) := HO.out.even hM hp
      clear e0 HO
      have cu := Au.c
      have zu := Au.z
      go_wp2_with fail
      refine (half_any U u0 u1 _).mono ?_
      rintro e w13 ⟨rfl, hb⟩
      have Bm := Arr.to' Am hb
      have Bz := Arr.to' Az hb
      have Bu := Arr.to' Au hb
      have Bv := Arr.to' Av hb
      have Bx := Arr.to' Ax hb
      have By := Arr.to' Ay hb
      have hB' := Bel.call hB hb
      clear hb cu zu Am Az Au Av Ax Ay hB
      have Am := Bm
      have Az := Bz
      have Au := Bu
      have Av := Bv
      have Ax := Bx
      have Ay := By
      have hB := hB'
      clear Bm Bz Bu Bv Bx By hB'
      have cu := Au.c
      have zu := Au.z
      have cx := Ax.c
      have cm := Am.c
      have Bm := Arr.st4o (b' := w1.heap.size) Am (by have := Am.lt; have := Au.lt; omega) (U / 2)
      have Bz := Arr.st4o (b' := w1.heap.size) Az (by have := Az.lt; have := Au.lt; omega) (U / 2)
      have Bu := Arr.st4 Au (U / 2)
      have Bv := Arr.st4o (b' := w1.heap.size) Av (by have := Av.lt; have := Au.lt; omega) (U / 2)
      have Bx := Arr.st4o (b' := w1.heap.size) Ax (by have := Ax.lt; have := Au.lt; omega) (U / 2)
      have By := Arr.st4o (b' := w1.heap.size) Ay (by have := Ay.lt; have := Au.lt; omega) (U / 2)
      have hB' := Bel.st4 hB (b := w1.heap.size) (by have := hB.size; omega) (U / 2)
      clear Am Az Au Av Ax Ay hB
      have Am := Bm
      have Az := Bz
      have Au := Bu
      have Av := Bv
      have Ax := Bx
      have Ay := By
      have hB := hB'
      clear Bm Bz Bu Bv Bx By hB'
      go_wp2_with fail
      refine (halved_any X M x0 (by omega) (by omega) hM1 _).mono ?_
      rintro e w14 ⟨rfl, hb⟩
      have Bm := Arr.to' Am hb
      have Bz := Arr.to' Az hb
      have Bu := Arr.to' Au hb
      have Bv := Arr.to' Av hb
      have Bx := Arr.to' Ax hb
      have By := Arr.to' Ay hb
      have hB' := Bel.call hB hb
      clear hb cu zu cx cm Am Az Au Av Ax Ay hB
      have Am := Bm
      have Az := Bz
      have Au := Bu
      have Av := Bv
      have Ax := Bx
      have Ay := By
      have hB := hB'
      clear Bm Bz Bu Bv Bx By hB'
      have cx := Ax.c
      have zx := Ax.z
      have Bm := Arr.st4o (b' := w2.heap.size) Am (by have := Am.lt; have := Ax.lt; omega) (hm X M)
      have Bz := Arr.st4o (b' := w2.heap.size) Az (by have := Az.lt; have := Ax.lt; omega) (hm X M)
      have Bu := Arr.st4o (b' := w2.heap.size) Au (by have := Au.lt; have := Ax.lt; omega) (hm X M)
      have Bv := Arr.st4o (b' := w2.heap.size) Av (by have := Av.lt; have := Ax.lt; omega) (hm X M)
      have Bx := Arr.st4 Ax (hm X M)
      have By := Arr.st4o (b' := w2.heap.size) Ay (by have := Ay.lt; have := Ax.lt; omega) (hm X M)
      have hB' := Bel.st4 hB (b := w2.heap.size) (by have := hB.size; omega) (hm X M)
      clear Am Az Au Av Ax Ay hB
      have Am := Bm
      have Az := Bz
      have Au := Bu
      have Av := Bv
      have Ax := Bx
      have Ay := By
      have hB := hB'
      clear Bm Bz Bu Bv Bx By hB'
      have MS : Hid (sz2 ((st4 w14 (w2.heap.size) (hm X M))) w1.heap.size (w1.heap.size + 1) = ((U / 2) + (V)).toNat) := sz2_of Au Av (by omega) (by omega) (by omega) (by omega)
      go_wp2_with fail
      go_roundw
      case rel => exact ⟨_, _, _, _, HO2, hB, ⟨h01, h12⟩, Am, Az, Au, Av, Ax, Ay⟩
      case measure => first | (rw [MS.out, M0.out]; omega) | (show sz2 _ _ _ < sz2 _ _ _; rw [MS.out, M0.out]; omega)
    · have hp' : (lim U 0 % 2 == 0) = false := by rw [e0]; simpa using hp
      have hpe : ¬ lim U 0 % 2 = 0 := by rw [e0]; exact hp
      have ho : U % 2 = 1 := by omega
      by_cases hc : U < V
      · have HO2 : Hid (OI A M (V - U) U (if Y < X then Y - X + M else Y - X) X) := (HO.out.swap ho).sub (by omega)
        have CC : ∀ W, Calls Try.prog 92 #[nv U, nv V] W fun e w' => e = .returned (.int .i64 (-1)) ∧ Below W.heap.size W w' := fun W => by
          have := refCmp_any U V u0 u1 (by omega) v1 W
          rw [sg_lt hc] at this
          exact this
        clear e0 HO
        have cu := Au.c
        have zu := Au.z
        have cv := Av.c
        have zv := Av.z
        go_wp2_with fail
        refine (CC _).mono ?_
        rintro e w13 ⟨rfl, hb⟩
        have Bm := Arr.to' Am hb
        have Bz := Arr.to' Az hb
        have Bu := Arr.to' Au hb
        have Bv := Arr.to' Av hb
        have Bx := Arr.to' Ax hb
        have By := Arr.to' Ay hb
        have hB' := Bel.call hB hb
        clear hb cu zu cv zv Am Az Au Av Ax Ay hB
        have Am := Bm
        have Az := Bz
        have Au := Bu
        have Av := Bv
        have Ax := Bx
        have Ay := By
        have hB := hB'
        clear Bm Bz Bu Bv Bx By hB'
        have cu := Au.c
        have zu := Au.z
        have cv := Av.c
        have zv := Av.z
        have cx := Ax.c
        have zx := Ax.z
        have cy := Ay.c
        have zy := Ay.z
        have Bm := Arr.st4o (b' := w1.heap.size) Am (by have := Am.lt; have := Au.lt; omega) (V)
        have Bz := Arr.st4o (b' := w1.heap.size) Az (by have := Az.lt; have := Au.lt; omega) (V)
        have Bu := Arr.st4 Au (V)
        have Bv := Arr.st4o (b' := w1.heap.size) Av (by have := Av.lt; have := Au.lt; omega) (V)
        have Bx := Arr.st4o (b' := w1.heap.size) Ax (by have := Ax.lt; have := Au.lt; omega) (V)
        have By := Arr.st4o (b' := w1.heap.size) Ay (by have := Ay.lt; have := Au.lt; omega) (V)
        have hB' := Bel.st4 hB (b := w1.heap.size) (by have := hB.size; omega) (V)
        clear Am Az Au Av Ax Ay hB
        have Am := Bm
        have Az := Bz
        have Au := Bu
        have Av := Bv
        have Ax := Bx
        have Ay := By
        have hB := hB'
        clear Bm Bz Bu Bv Bx By hB'
        have Bm := Arr.st4o (b' := w1.heap.size + 1) Am (by have := Am.lt; have := Av.lt; omega) (U)
        have Bz := Arr.st4o (b' := w1.heap.size + 1) Az (by have := Az.lt; have := Av.lt; omega) (U)
        have Bu := Arr.st4o (b' := w1.heap.size + 1) Au (by have := Au.lt; have := Av.lt; omega) (U)
        have Bv := Arr.st4 Av (U)
        have Bx := Arr.st4o (b' := w1.heap.size + 1) Ax (by have := Ax.lt; have := Av.lt; omega) (U)
        have By := Arr.st4o (b' := w1.heap.size + 1) Ay (by have := Ay.lt; have := Av.lt; omega) (U)
        have hB' := Bel.st4 hB (b := w1.heap.size + 1) (by have := hB.size; omega) (U)
        clear Am Az Au Av Ax Ay hB
        have Am := Bm
        have Az := Bz
        have Au := Bu
        have Av := Bv
        have Ax := Bx
        have Ay := By
        have hB := hB'
        clear Bm Bz Bu Bv Bx By hB'
        have Bm := Arr.st4o (b' := w2.heap.size) Am (by have := Am.lt; have := Ax.lt; omega) (Y)
        have Bz := Arr.st4o (b' := w2.heap.size) Az (by have := Az.lt; have := Ax.lt; omega) (Y)
        have Bu := Arr.st4o (b' := w2.heap.size) Au (by have := Au.lt; have := Ax.lt; omega) (Y)
        have Bv := Arr.st4o (b' := w2.heap.size) Av (by have := Av.lt; have := Ax.lt; omega) (Y)
        have Bx := Arr.st4 Ax (Y)
        have By := Arr.st4o (b' := w2.heap.size) Ay (by have := Ay.lt; have := Ax.lt; omega) (Y)
        have hB' := Bel.st4 hB (b := w2.heap.size) (by have := hB.size; omega) (Y)
        clear Am Az Au Av Ax Ay hB
        have Am := Bm
        have Az := Bz
        have Au := Bu
        have Av := Bv
        have Ax := Bx
        have Ay := By
        have hB := hB'
        clear Bm Bz Bu Bv Bx By hB'
        have Bm := Arr.st4o (b' := w2.heap.size + 1) Am (by have := Am.lt; have := Ay.lt; omega) (X)
        have Bz := Arr.st4o (b' := w2.heap.size + 1) Az (by have := Az.lt; have := Ay.lt; omega) (X)
        have Bu := Arr.st4o (b' := w2.heap.size + 1) Au (by have := Au.lt; have := Ay.lt; omega) (X)
        have Bv := Arr.st4o (b' := w2.heap.size + 1) Av (by have := Av.lt; have := Ay.lt; omega) (X)
        have Bx := Arr.st4o (b' := w2.heap.size + 1) Ax (by have := Ax.lt; have := Ay.lt; omega) (X)
        have By := Arr.st4 Ay (X)
        have hB' := Bel.st4 hB (b := w2.heap.size + 1) (by have := hB.size; omega) (X)
        clear Am Az Au Av Ax Ay hB
        have Am := Bm
        have Az := Bz
        have Au := Bu
        have Av := Bv
        have Ax := Bx
        have Ay := By
        have hB := hB'
        clear Bm Bz Bu Bv Bx By hB'
        go_wp2_with fail
        refine (refSub_raw V U _).mono ?_
        rintro e w14 ⟨rfl, hb⟩
        have Bm := Arr.to' Am hb
        have Bz := Arr.to' Az hb
        have Bu := Arr.to' Au hb
        have Bv := Arr.to' Av hb
        have Bx := Arr.to' Ax hb
        have By := Arr.to' Ay hb
        have hB' := Bel.call hB hb
        clear hb cu zu cv zv cx zx cy zy Am Az Au Av Ax Ay hB
        have Am := Bm
        have Az := Bz
        have Au := Bu
        have Av := Bv
        have Ax := Bx
        have Ay := By
        have hB := hB'
        clear Bm Bz Bu Bv Bx By hB'
        have cu := Au.c
        have zu := Au.z
        have cx := Ax.c
        have cy := Ay.c
        have cm := Am.c
        have Bm := Arr.st4o (b' := w1.heap.size) Am (by have := Am.lt; have := Au.lt; omega) (V - U)
        have Bz := Arr.st4o (b' := w1.heap.size) Az (by have := Az.lt; have := Au.lt; omega) (V - U)
        have Bu := Arr.st4 Au (V - U)
        have Bv := Arr.st4o (b' := w1.heap.size) Av (by have := Av.lt; have := Au.lt; omega) (V - U)
        have Bx := Arr.st4o (b' := w1.heap.size) Ax (by have := Ax.lt; have := Au.lt; omega) (V - U)
        have By := Arr.st4o (b' := w1.heap.size) Ay (by have := Ay.lt; have := Au.lt; omega) (V - U)
        have hB' := Bel.st4 hB (b := w1.heap.size) (by have := hB.size; omega) (V - U)
        clear Am Az Au Av Ax Ay hB
        have Am := Bm
        have Az := Bz
        have Au := Bu
        have Av := Bv
        have Ax := Bx
        have Ay := By
        have hB := hB'
        clear Bm Bz Bu Bv Bx By hB'
        go_wp2_with fail
        refine (less_any Y X M y0 (by omega) x0 (by omega) _).mono ?_
        rintro e w15 ⟨rfl, hb⟩
        have Bm := Arr.to' Am hb
        have Bz := Arr.to' Az hb
        have Bu := Arr.to' Au hb
        have Bv := Arr.to' Av hb
        have Bx := Arr.to' Ax hb
        have By := Arr.to' Ay hb
        have hB' := Bel.call hB hb
        clear hb cu zu cx cy cm Am Az Au Av Ax Ay hB
        have Am := Bm
        have Az := Bz
        have Au := Bu
        have Av := Bv
        have Ax := Bx
        have Ay := By
        have hB := hB'
        clear Bm Bz Bu Bv Bx By hB'
        have cx := Ax.c
        have zx := Ax.z
        have Bm := Arr.st4o (b' := w2.heap.size) Am (by have := Am.lt; have := Ax.lt; omega) (if Y < X then Y - X + M else Y - X)
        have Bz := Arr.st4o (b' := w2.heap.size) Az (by have := Az.lt; have := Ax.lt; omega) (if Y < X then Y - X + M else Y - X)
        have Bu := Arr.st4o (b' := w2.heap.size) Au (by have := Au.lt; have := Ax.lt; omega) (if Y < X then Y - X + M else Y - X)
        have Bv := Arr.st4o (b' := w2.heap.size) Av (by have := Av.lt; have := Ax.lt; omega) (if Y < X then Y - X + M else Y - X)
        have Bx := Arr.st4 Ax (if Y < X then Y - X + M else Y - X)
        have By := Arr.st4o (b' := w2.heap.size) Ay (by have := Ay.lt; have := Ax.lt; omega) (if Y < X then Y - X + M else Y - X)
        have hB' := Bel.st4 hB (b := w2.heap.size) (by have := hB.size; omega) (if Y < X then Y - X + M else Y - X)
        clear Am Az Au Av Ax Ay hB
        have Am := Bm
        have Az := Bz
        have Au := Bu
        have Av := Bv
        have Ax := Bx
        have Ay := By
        have hB := hB'
        clear Bm Bz Bu Bv Bx By hB'
        have MS : Hid (sz2 ((st4 w15 (w2.heap.size) (if Y < X then Y - X + M else Y - X))) w1.heap.size (w1.heap.size + 1) = ((V - U) + (U)).toNat) := sz2_of Au Av (by omega) (by omega) (by omega) (by omega)
        go_wp2_with fail
        go_roundw
        case rel => exact ⟨_, _, _, _, HO2, hB, ⟨h01, h12⟩, Am, Az, Au, Av, Ax, Ay⟩
        case measure => first | (rw [MS.out, M0.out]; omega) | (show sz2 _ _ _ < sz2 _ _ _; rw [MS.out, M0.out]; omega)
      · have HO2 : Hid (OI A M (U - V) V (if X < Y then X - Y + M else X - Y) Y) := HO.out.sub (by omega)
        have hsg := sg_ge (a := U) (b := V) (by omega)
        have CC := fun W => refCmp_any U V u0 u1 (by omega) v1 W
        generalize sg U V = s at CC hsg
        clear e0 HO
        have cu := Au.c
        have zu := Au.z
        have cv := Av.c
        have zv := Av.z
        go_wp2_with fail
        refine (CC _).mono ?_
        rintro e w13 ⟨rfl, hb⟩
        have Bm := Arr.to' Am hb
        have Bz := Arr.to' Az hb
        have Bu := Arr.to' Au hb
        have Bv := Arr.to' Av hb
        have Bx := Arr.to' Ax hb
        have By := Arr.to' Ay hb
        have hB' := Bel.call hB hb
        clear hb cu zu cv zv Am Az Au Av Ax Ay hB
        have Am := Bm
        have Az := Bz
        have Au := Bu
        have Av := Bv
        have Ax := Bx
        have Ay := By
        have hB := hB'
        clear Bm Bz Bu Bv Bx By hB'
        have cu := Au.c
        have zu := Au.z
        have cv := Av.c
        have zv := Av.z
        have cx := Ax.c
        have zx := Ax.z
        have cy := Ay.c
        have zy := Ay.z
        go_wp2_with fail
        refine (refSub_raw U V _).mono ?_
        rintro e w14 ⟨rfl, hb⟩
        have Bm := Arr.to' Am hb
        have Bz := Arr.to' Az hb
        have Bu := Arr.to' Au hb
        have Bv := Arr.to' Av hb
        have Bx := Arr.to' Ax hb
        have By := Arr.to' Ay hb
        have hB' := Bel.call hB hb
        clear hb cu zu cv zv cx zx cy zy Am Az Au Av Ax Ay hB
        have Am := Bm
        have Az := Bz
        have Au := Bu
        have Av := Bv
        have Ax := Bx
        have Ay := By
        have hB := hB'
        clear Bm Bz Bu Bv Bx By hB'
        have cu := Au.c
        have zu := Au.z
        have cx := Ax.c
        have cy := Ay.c
        have cm := Am.c
        have Bm := Arr.st4o (b' := w1.heap.size) Am (by have := Am.lt; have := Au.lt; omega) (U - V)
        have Bz := Arr.st4o (b' := w1.heap.size) Az (by have := Az.lt; have := Au.lt; omega) (U - V)
        have Bu := Arr.st4 Au (U - V)
        have Bv := Arr.st4o (b' := w1.heap.size) Av (by have := Av.lt; have := Au.lt; omega) (U - V)
        have Bx := Arr.st4o (b' := w1.heap.size) Ax (by have := Ax.lt; have := Au.lt; omega) (U - V)
        have By := Arr.st4o (b' := w1.heap.size) Ay (by have := Ay.lt; have := Au.lt; omega) (U - V)
        have hB' := Bel.st4 hB (b := w1.heap.size) (by have := hB.size; omega) (U - V)
        clear Am Az Au Av Ax Ay hB
        have Am := Bm
        have Az := Bz
        have Au := Bu
        have Av := Bv
        have Ax := Bx
        have Ay := By
        have hB := hB'
        clear Bm Bz Bu Bv Bx By hB'
        go_wp2_with fail
        refine (less_any X Y M x0 (by omega) y0 (by omega) _).mono ?_
        rintro e w15 ⟨rfl, hb⟩
        have Bm := Arr.to' Am hb
        have Bz := Arr.to' Az hb
        have Bu := Arr.to' Au hb
        have Bv := Arr.to' Av hb
        have Bx := Arr.to' Ax hb
        have By := Arr.to' Ay hb
        have hB' := Bel.call hB hb
        clear hb cu zu cx cy cm Am Az Au Av Ax Ay hB
        have Am := Bm
        have Az := Bz
        have Au := Bu
        have Av := Bv
        have Ax := Bx
        have Ay := By
        have hB := hB'
        clear Bm Bz Bu Bv Bx By hB'
        have cx := Ax.c
        have zx := Ax.z
        have Bm := Arr.st4o (b' := w2.heap.size) Am (by have := Am.lt; have := Ax.lt; omega) (if X < Y then X - Y + M else X - Y)
        have Bz := Arr.st4o (b' := w2.heap.size) Az (by have := Az.lt; have := Ax.lt; omega) (if X < Y then X - Y + M else X - Y)
        have Bu := Arr.st4o (b' := w2.heap.size) Au (by have := Au.lt; have := Ax.lt; omega) (if X < Y then X - Y + M else X - Y)
        have Bv := Arr.st4o (b' := w2.heap.size) Av (by have := Av.lt; have := Ax.lt; omega) (if X < Y then X - Y + M else X - Y)
        have Bx := Arr.st4 Ax (if X < Y then X - Y + M else X - Y)
        have By := Arr.st4o (b' := w2.heap.size) Ay (by have := Ay.lt; have := Ax.lt; omega) (if X < Y then X - Y + M else X - Y)
        have hB' := Bel.st4 hB (b := w2.heap.size) (by have := hB.size; omega) (if X < Y then X - Y + M else X - Y)
        clear Am Az Au Av Ax Ay hB
        have Am := Bm
        have Az := Bz
        have Au := Bu
        have Av := Bv
        have Ax := Bx
        have Ay := By
        have hB := hB'
        clear Bm Bz Bu Bv Bx By hB'
        have MS : Hid (sz2 ((st4 w15 (w2.heap.size) (if X < Y then X - Y + M else X - Y))) w1.heap.size (w1.heap.size + 1) = ((U - V) + (V)).toNat) := sz2_of Au Av (by omega) (by omega) (by omega) (by omega)
        go_wp2_with fail
        go_roundw
        case rel => exact ⟨_, _, _, _, HO2, hB, ⟨h01, h12⟩, Am, Az, Au, Av, Ax, Ay⟩
        case measure => first | (rw [MS.out, M0.out]; omega) | (show sz2 _ _ _ < sz2 _ _ _; rw [MS.out, M0.out]; omega)
end
end Go.Proofs.Ytpigofooblmdhaa
/- A law on regions that draw their order: operations that only read or call, then one that makes a variable (it may come up at any time), then stores. -/
set_option linter.all false
set_option autoImplicit false
namespace Go.Proofs.Ytpigofooblmdhaa
open Go Go.Sort Go.RowKit
section
variable {P : Program} {ops : Array Oper} {md : Region.Mode} {C : World → Prop} {n : Nat} {L : Array Bool → Act → Prop}
/-- W, with whatever was laid behind it. -/
abbrev CW (W : World) : World → Prop := fun w' => ∃ p : Regrown, w' = grow (redrawn W p.d) p.os
theorem cw_self (W : World) : CW W W := ⟨⟨W.drawn, #[]⟩, by rw [grow_empty]; rfl⟩
theorem cw_bel {W w' : World} (h : CW W w') : Below W.heap.size W w' := by obtain ⟨p, rfl⟩ := h; exact below_regrown _ _ _
theorem put_size (a : Act) (d : Option Tmp) (v : Value) : (a.put d v).tmps.size = a.tmps.size := by cases d <;> simp [Act.put]
theorem put_get (a : Act) (d : Nat) (v : Value) (h : d < a.tmps.size) : (a.put (some d) v).tmps.getD d undef = v := by simp [Act.put, h]
theorem put_oth (a : Act) (x : Option Tmp) (d : Nat) (v : Value) (h : x ≠ some d) : (a.put x v).tmps.getD d undef = a.tmps.getD d undef := by
  cases x with
  | none => rfl
  | some e =>
    have ne : e ≠ d := fun c => h (by rw [c])
    simp [Act.put, Array.getElem?_setIfInBounds_ne ne]
theorem QL.pin {aF : Act} (hL : ∀ ls a, L ls a → a = aF) (d : Nat) (f : Nat) : ∀ ls a, (∀ i o, i < n → ls.getD i true = false → ops[i]? = some o → o.dst ≠ some d) → QL P md ops C n L f ls a →
    a.tmps.getD d undef = aF.tmps.getD d undef := by
  induction f with
  | zero => intro ls a _ h; rw [hL _ _ h]
  | succ f ih =>
    intro ls a hd h
    cases hr : Region.ready md ops ls with
    | nil => exact absurd hr h.1
    | cons i r =>
      have hi : i ∈ Region.ready md ops ls := by rw [hr]; exact List.mem_cons_self
      obtain ⟨iu, o, ho, _⟩ := mem_ready.1 hi
      obtain ⟨v, _, hK⟩ := yieldsIn_of_qOp ho (h.2 i hi).2
      have t := ih _ _ (fun j p hj hu hp => by
        by_cases c : i = j
        · subst c
          have hlt : i < ls.size := by
            rcases Nat.lt_or_ge i ls.size with x | x
            · exact x
            · simp [Array.getElem?_eq_none x] at iu
          simp [hlt] at hu
        · rw [getD_set_ne true c] at hu
          exact hd j p hj hu hp) hK
      rw [put_oth _ _ _ _ (hd i o (h.2 i hi).1 iu ho)] at t
      exact t
theorem T.step {w : World} {aF : Act} (hL : ∀ ls a, L ls a → a = aF) {f : Nat} {ls : Array Bool} {a : Act} (h : ∀ W, Below w.heap.size w W → QL P md ops (CW W) n L (f + 1) ls a) {j d : Nat} {o : Oper}
    (hj : j ∈ Region.ready md ops ls) (ho : ops[j]? = some o) (hd : o.dst = some d) (hb : d < a.tmps.size) (dis : ∀ i p, i < n → ls.getD i true = false → i ≠ j → ops[i]? = some p → p.dst ≠ some d) :
    ∀ W, Below w.heap.size w W → YieldsIn P ops (CW W) o (aF.tmps.getD d undef) a ∧ QL P md ops (CW W) n L f (ls.setIfInBounds j true) (a.put o.dst (aF.tmps.getD d undef)) := by
  intro W hW
  obtain ⟨v, hy, hK⟩ := yieldsIn_of_qOp ho ((h W hW).2 j hj).2
  have ju := (mem_ready.1 hj).1
  have hlt : j < ls.size := by
    rcases Nat.lt_or_ge j ls.size with x | x
    · exact x
    · simp [Array.getElem?_eq_none x] at ju
  have e : v = aF.tmps.getD d undef := by
    rw [← QL.pin hL d f _ _ (fun i p hi hu hp => ?_) hK, hd, put_get _ _ _ hb]
    by_cases c : i = j
    · subst c; simp [hlt] at hu
    · rw [getD_set_ne true (fun x => c x.symm)] at hu
      exact dis i p hi hu c hp
  rw [← e]
  exact ⟨hy, hK⟩
theorem qOp_shift {x o : Oper} {p : Value} {i : Nat} (ho : ops[i]? = some o) (hap : x.apart ops o = true) (hs : ∀ cs b, o.op ≠ .select cs b) {K : Act → Prop} {a : Act} (h : qOp P ops C i K a) :
    qOp P ops C i (fun a' => ∃ a0, K a0 ∧ a' = a0.put x.dst p) (a.put x.dst p) := by
  obtain ⟨h1, h2, h3⟩ := Oper.apart_spec hap
  unfold qOp at *
  simp only [ho] at *
  rw [wanted_put o a x.dst p h1]
  split
  · rename_i hw
    simp only [hw, if_true] at h
    obtain ⟨u, hu, hn⟩ := h
    refine ⟨u, fun w hw' => ?_, _, hn, Act.put_comm a p u h2⟩
    have t := hu w hw'
    unfold Oper.quietAt at *
    rwa [execOp_put o hs a x.dst p h1]
  · rename_i hw
    simp only [hw] at h
    exact ⟨_, h, Act.put_comm a p undef h2⟩
theorem QL.shift {x : Oper} {p : Value} {α : Nat} (ap : ∀ i o, i < n → i ≠ α → ops[i]? = some o → x.apart ops o = true) (sel : ∀ (j : Nat) (p : Oper) cs b, ops[j]? = some p → p.op ≠ .select cs b) (f : Nat) :
    ∀ ls a, ls.getD α true = true → QL P md ops C n L f ls a → QL P md ops C n (fun ls' a' => ∃ a0, L ls' a0 ∧ a' = a0.put x.dst p) f ls (a.put x.dst p) := by
  induction f with
  | zero => intro ls a _ h; exact ⟨a, h, rfl⟩
  | succ f ih =>
    intro ls a hα h
    refine ⟨h.1, fun i hi => ⟨(h.2 i hi).1, ?_⟩⟩
    obtain ⟨iu, o, ho, _⟩ := mem_ready.1 hi
    have ne : i ≠ α := fun c => by rw [c, hα] at iu; cases iu
    refine qOp_mono (fun a' ⟨a0, h0, e⟩ => ?_) (qOp_shift (p := p) ho (ap i o (h.2 i hi).1 ne ho) (fun cs b => sel i o cs b ho) (h.2 i hi).2)
    rw [e]
    exact ih _ _ (by rw [getD_set_ne true ne]; exact hα) h0
/-- The order of the text, the operation behind the first ones being through. -/
def lexA (md : Region.Mode) (ops : Array Oper) (g : Nat) : Nat → Nat → Array Bool → Bool
  | 0, k, ls => Region.seqB md ops g (k + 1) ls
  | f + 1, k, ls => (Region.ready md ops ls).contains k && Region.free md ops ls k && lexA md ops g f (k + 1) (ls.setIfInBounds k true)
theorem QL.lexA {g : Nat} {R : Act → Prop} (sel : Region.noSelect ops = true) (hs : Region.sinkB md ops n = true) (hc : Region.chainB md ops n = true) (hn : n < ops.size) (l : List Oper) :
    ∀ (k : Nat) (ls : Array Bool) (a : Act), (∀ j, j < l.length → l[j]? = ops[k + j]?) → k + l.length + 1 = n → HeadInv md ops n ls → lexA md ops g l.length k ls = true → wpQuiet P ops C R l a →
      QL P md ops C n (fun ls' a' => Region.seqB md ops g n ls' = true ∧ R a') l.length ls a := by
  induction l with
  | nil =>
    intro k ls a _ hk _ hB h
    obtain rfl : k + 1 = n := hk
    exact ⟨hB, h⟩
  | cons o l ih =>
    intro k ls a hl hk inv hB h
    have h0 : ops[k]? = some o := by simpa using (hl 0 (Nat.succ_pos _)).symm
    have kn : k < n := by rw [List.length_cons] at hk; omega
    simp only [List.length_cons, Go.Proofs.Ytpigofooblmdhaa.lexA, Bool.and_eq_true] at hB
    have rk : k ∈ Region.ready md ops ls := by simpa using hB.1.1
    have q : qOp P ops C k (wpQuiet P ops C R l) a := by unfold qOp; simp only [h0]; exact h
    obtain ⟨v, hy, hK⟩ := yieldsIn_of_qOp h0 q
    refine QL.first h0 kn hn (Region.noSelect_spec sel) hs hc (fun ls' a' x => seqB_ready x.1) l.length ls a inv (Region.free_spec h0 hB.1.2) rk hy ?_
    refine ih (k + 1) _ _ (fun j hj => ?_) (by rw [← hk, List.length_cons]; omega) (inv.set rk kn) hB.2 hK
    have t := hl (j + 1) (by simpa using hj)
    rw [List.getElem?_cons_succ] at t
    rw [t]; congr 1; omega
/-- What is asked of the operations' make. -/
def allocB (ops : Array Oper) (m N : Nat) : Bool :=
  match ops[m]? with
  | none => false
  | some x => x.after.isEmpty && x.guard.isNone && (List.range m).all fun j => match ops[j]? with
    | none => false
    | some p => (match p.dst with
      | none => false
      | some d => decide (d < N)) && x.apart ops p && (List.range m).all fun i => i == j || match ops[i]? with
        | none => true
        | some q => q.dst != p.dst
theorem wp_region_alloc_tail {id : Nat} {Q : Exit → Act → World → Prop} {a : Act} {w : World} {l : List Oper} (m : Nat) (hm : P.follows .mixedOrders = true)
    (hB : (Region.noSelect l.toArray && decide (m + 1 < l.length) && Region.sinkB .any l.toArray (m + 1) && Region.chainB .any l.toArray (m + 1) && lexA .any l.toArray (l.length - (m + 1)) m 0 ((Array.replicate l.length false).setIfInBounds m true)) = true)
    (hA : allocB l.toArray m a.tmps.size = true) (obj : Obj) (x : Oper) (hx : l[m]? = some x)
    (hal : ∀ (a : Act) (w : World), (execOp a.eval x).run P w = .ok (.value (.pointer (some ⟨w.heap.size, 0, none⟩))) (w.alloc obj)) (aF : Act)
    (h : ∀ W, Below w.heap.size w W → wpQuiet P l.toArray (CW W) (fun a' => a' = aF) (l.take m) a)
    (hT : ∀ w1 w2, Below w.heap.size w w1 → Below (w1.alloc obj).heap.size (w1.alloc obj) w2 → wpList P l.toArray Q (l.drop (m + 1)) (aF.put x.dst (.pointer (some ⟨w1.heap.size, 0, none⟩))) w2) :
    (Code.region id l.toArray true).wp P Q a w := by
  simp only [Bool.and_eq_true, decide_eq_true_eq] at hB
  obtain ⟨⟨⟨⟨sel, hn⟩, hs⟩, hc⟩, lex⟩ := hB
  have hxa : l.toArray[m]? = some x := by simpa using hx
  unfold allocB at hA
  rw [hxa] at hA
  simp only [Bool.and_eq_true, List.all_eq_true, List.mem_range] at hA
  obtain ⟨⟨xe, xg⟩, hall⟩ := hA
  have xe' : x.after = #[] := by simpa using xe
  have xg' : x.guard = none := by simpa using xg
  have hz : l.toArray.size = l.length := by simp
  have hn' : m + 1 < l.toArray.size := by rw [hz]; exact hn
  have tl : (l.take m).length = m := by rw [List.length_take]; omega
  have spec := Region.noSelect_spec sel
  have fact : ∀ j o, j < m → l.toArray[j]? = some o → ∃ d, o.dst = some d ∧ d < a.tmps.size ∧ x.apart l.toArray o = true ∧ ∀ i p, i < m → i ≠ j → l.toArray[i]? = some p → p.dst ≠ some d := by
    intro j o hj ho
    have t := hall j hj
    rw [ho] at t
    simp only [Bool.and_eq_true] at t
    obtain ⟨⟨t1, t2⟩, t3⟩ := t
    cases hd : o.dst with
    | none => rw [hd] at t1; cases t1
    | some d =>
      rw [hd] at t1
      refine ⟨d, rfl, by simpa using t1, t2, fun i p hi hne hp => ?_⟩
      have u := List.all_eq_true.1 t3 i (List.mem_range.2 hi)
      rw [hp] at u
      simp only [Bool.or_eq_true, beq_iff_eq, bne_iff_ne] at u
      rcases u with u | u
      · exact absurd u hne
      · rw [hd] at u; exact u
  let g := l.length - (m + 1)
  let L0 : Array Bool → Act → Prop := fun ls' a' => Region.seqB .any l.toArray g (m + 1) ls' = true ∧ a' = aF
  have hL : ∀ ls a, L0 ls a → a = aF := fun _ _ h => h.2
  have i0 : HeadInv .any l.toArray (m + 1) (Array.replicate l.length false) :=
    ⟨by simp, fun j oj _ hl => (by rw [getD_replicate_false] at hl; cases hl), fun t _ ht => getD_in (by simpa using ht) (getD_replicate_false _ _)⟩
  have am : ∀ ls : Array Bool, ls.getD m true = false → m ∈ Region.ready .any l.toArray ls := fun ls hu => mem_ready.2 ⟨hu, x, hxa, fun e he => by rw [xe'] at he; simp at he⟩
  have mlt : ∀ ls : Array Bool, ls.getD m true = false → m < ls.size := fun ls hu => by
    rcases Nat.lt_or_ge m ls.size with y | y
    · exact y
    · simp [Array.getElem?_eq_none y] at hu
  have r0 : (Array.replicate l.length false).getD m true = false := getD_in (by simp; omega) (getD_replicate_false _ _)
  have T0 : ∀ W, Below w.heap.size w W → QL P .any l.toArray (CW W) (m + 1) L0 m ((Array.replicate l.length false).setIfInBounds m true) a := fun W hW => by
    have t := QL.lexA (P := P) (C := CW W) (md := .any) (g := g) (n := m + 1) sel hs hc hn' (l.take m) 0 _ a (fun j hj => by
      rw [tl] at hj
      simp [hj]) (by rw [tl]; omega) (i0.set (am _ r0) (by omega)) (by rw [tl]; exact lex) (h W hW)
    rw [tl] at t
    exact t
  have post : ∀ f ls b (x1 w2 : World), ls.getD m true = true → Below w.heap.size w x1 → CW (x1.alloc obj) w2 → QL P .any l.toArray (CW (x1.alloc obj)) (m + 1) L0 f ls b →
      wpAny P .any l.toArray Q (f + g) ls (b.put x.dst (.pointer (some ⟨x1.heap.size, 0, none⟩))) w2 := by
    intro f ls b x1 w2 hu hx1 hw2 hq
    have sh := QL.shift (x := x) (p := .pointer (some ⟨x1.heap.size, 0, none⟩)) (α := m) (fun i o hi hne ho => by
      obtain ⟨_, _, _, t, _⟩ := fact i o (by omega) ho
      exact t) spec f ls b hu hq
    refine QL.any (Q := Q) (g := g) (fun ls' a' w' hw' hL' => ?_) f ls _ w2 hw2 sh
    obtain ⟨a0, ⟨hq1, rfl⟩, rfl⟩ := hL'
    have dl : (l.drop (m + 1)).length = g := by rw [List.length_drop]
    have t := wpAny_of_seq (md := .any) (P := P) (ops := l.toArray) (Q' := Q) (l.drop (m + 1)) (m + 1) ls' (a0.put x.dst (.pointer (some ⟨x1.heap.size, 0, none⟩))) w' (fun j => by simp [List.getElem?_drop]) (by rw [dl]; exact hq1)
      (hT x1 w' hx1 (cw_bel hw'))
    rwa [dl] at t
  have pre : ∀ f ls b (x1 : World), b.tmps.size = a.tmps.size → Below w.heap.size w x1 → HeadInv .any l.toArray (m + 1) ls → ls.getD m true = false →
      (∀ W, Below w.heap.size w W → QL P .any l.toArray (CW W) (m + 1) L0 f (ls.setIfInBounds m true) b) → wpAny P .any l.toArray Q (f + 1 + g) ls b x1 := by
    intro f
    induction f with
    | zero =>
      intro ls b x1 hb hx1 inv hu ht
      rw [show 0 + 1 + g = g + 1 by omega]
      refine ⟨fun e => absurd (am ls hu) (by rw [e]; simp), fun i hi => ?_⟩
      by_cases c : i = m
      · subst c
        unfold wpOp
        simp only [hxa]
        rw [if_pos (by unfold Region.wanted; rw [xg'])]
        left
        unfold Oper.wp
        rw [hal]
        have := post 0 (ls.setIfInBounds i true) b x1 (x1.alloc obj) (by simp [mlt ls hu]) hx1 (cw_self _) (ht _ (hx1.alloc hx1.size _))
        rw [Nat.zero_add] at this
        exact this
      · have q := ht x1 hx1
        exact absurd hi (tail_waits hs hc hn' inv _ m rfl (by omega) hu i (seqB_ready q.1 i (ready_mono hi c)))
    | succ f ih =>
      intro ls b x1 hb hx1 inv hu ht
      rw [show f + 1 + 1 + g = f + 1 + g + 1 by omega]
      refine ⟨fun e => absurd (am ls hu) (by rw [e]; simp), fun i hi => ?_⟩
      by_cases c : i = m
      · subst c
        unfold wpOp
        simp only [hxa]
        rw [if_pos (by unfold Region.wanted; rw [xg'])]
        left
        unfold Oper.wp
        rw [hal]
        exact post (f + 1) (ls.setIfInBounds i true) b x1 (x1.alloc obj) (by simp [mlt ls hu]) hx1 (cw_self _) (ht _ (hx1.alloc hx1.size _))
      · have hi2 := ready_mono (i := m) hi c
        have ilt : i < m := by have := ((ht x1 hx1).2 i hi2).1; omega
        obtain ⟨iu, o, ho, _⟩ := mem_ready.1 hi
        obtain ⟨d, hd, hdb, _, dis⟩ := fact i o ilt ho
        have st := T.step (w := w) (aF := aF) hL ht hi2 ho hd (by rw [hb]; exact hdb) (fun j p hj hju hne hp => by
          by_cases cm : j = m
          · subst cm; simp [mlt ls hu] at hju
          · exact dis j p (by omega) hne hp)
        have yq := (st x1 hx1).1.qOp ho (K := fun a' => a' = b.put o.dst (aF.tmps.getD d undef)) rfl
        refine wpOp_of_qOp (cw_self x1) (fun a' w' hw' e => ?_) yq
        rw [e]
        refine ih _ _ w' (by rw [put_size]; exact hb) (hx1.trans ((cw_bel hw').mono hx1.size)) (inv.set hi (by omega)) (by rw [getD_set_ne true c]; exact hu) (fun W hW => ?_)
        rw [Array.setIfInBounds_comm _ _ c]
        exact (st W hW).2
  have fin := pre m (Array.replicate l.length false) a { w with drawn := w.drawn + 1 } rfl (Below.drew (Below.refl _ _)) i0 r0 T0
  rw [show m + 1 + g = l.toArray.size by rw [hz]; omega] at fin
  refine wp_region_any hm ?_
  rw [hz]
  rw [hz] at fin
  exact fin
end
end Go.Proofs.Ytpigofooblmdhaa
/- What the reference's Inv answers. -/
set_option linter.all false
set_option maxRecDepth 100000
namespace Go.Proofs.Ytpigofooblmdhaa
open Go.RowKit Go.Sort
theorem al3c (w : World) (o1 o2 o3 : Obj) (b j : Nat) (h : b < w.heap.size) : (((w.alloc o1).alloc o2).alloc o3).cell? ⟨b, j, none⟩ = w.cell? ⟨b, j, none⟩ :=
  ((Bel.al (Bel.al (Bel.al (Below.refl w.heap.size w) o1) o2) o3).cell (p := ⟨b, j, none⟩) h)
theorem al3f (w : World) (o1 o2 o3 : Obj) (b j : Nat) (h : b < w.heap.size) : (((w.alloc o1).alloc o2).alloc o3).frozen? ⟨b, j, none⟩ = w.frozen? ⟨b, j, none⟩ :=
  ((Bel.al (Bel.al (Bel.al (Below.refl w.heap.size w) o1) o2) o3).frozen (p := ⟨b, j, none⟩) h)
section
attribute [local go_sem] eq24
set_option maxHeartbeats 2000000 in
theorem rinv_zero (A : Int) (w : World) : Calls Try.prog 37 #[nv A, .agg #[.int .u64 0, .int .u64 0, .int .u64 0, .int .u64 0]] w fun e w' => e = .returned (.tuple #[nv 0, .bool false]) ∧ Below w.heap.size w w' := by
  rw [nv_zero]
  go_enter Try.func37, Try.ntmps37
  go_wp2_with fail
  go_returns
  exact ⟨rfl, by go_grown⟩
set_option maxHeartbeats 2000000 in
theorem rinv_odd (A M : Int) (hz : (lim M 0 == 0 && (lim M 1 == 0 && (lim M 2 == 0 && lim M 3 == 0))) = false) (hp : lim M 0 % 2 = 1) (w : World)
    (CO : ∀ W, Calls Try.prog 69 #[nv A, nv M] W fun e w' => (∃ x ok, IV A M x ok ∧ e = .returned (.tuple #[nv x, .bool ok])) ∧ Below W.heap.size W w') :
    Calls Try.prog 37 #[nv A, nv M] w fun e w' => (∃ x ok, IV A M x ok ∧ e = .returned (.tuple #[nv x, .bool ok])) ∧ Below w.heap.size w w' := by
  have n0 := lim_nn M 0
  have n1 := lim_lt M 0
  go_enter Try.func37, Try.ntmps37
  have Ba := Arr.mk4 (w := (((w.alloc (.cells #[.int .u64 (lim (A) 0), .int .u64 (lim (A) 1), .int .u64 (lim (A) 2), .int .u64 (lim (A) 3)] 24)).alloc (.cells #[.int .u64 (lim (M) 0), .int .u64 (lim (M) 1), .int .u64 (lim (M) 2), .int .u64 (lim (M) 3)] 24)).alloc (.cells #[.int .u64 0, .int .u64 0, .int .u64 0, .int .u64 0] 24))) (f := fun j => .int .u64 (lim (A) j)) (b := w.heap.size) (by simp [go_sem]) (by simp [go_sem]) (by simp [go_sem]) (by simp [go_sem]) (by simp [go_sem]) (by simp [go_sem]) (by simp [go_sem]) (by simp [go_sem])
  have Bm := Arr.mk4 (w := (((w.alloc (.cells #[.int .u64 (lim (A) 0), .int .u64 (lim (A) 1), .int .u64 (lim (A) 2), .int .u64 (lim (A) 3)] 24)).alloc (.cells #[.int .u64 (lim (M) 0), .int .u64 (lim (M) 1), .int .u64 (lim (M) 2), .int .u64 (lim (M) 3)] 24)).alloc (.cells #[.int .u64 0, .int .u64 0, .int .u64 0, .int .u64 0] 24))) (f := fun j => .int .u64 (lim (M) j)) (b := w.heap.size + 1) (by simp [go_sem]) (by simp [go_sem]) (by simp [go_sem]) (by simp [go_sem]) (by simp [go_sem]) (by simp [go_sem]) (by simp [go_sem]) (by simp [go_sem])
  have Bz := Arr.mk4 (w := (((w.alloc (.cells #[.int .u64 (lim (A) 0), .int .u64 (lim (A) 1), .int .u64 (lim (A) 2), .int .u64 (lim (A) 3)] 24)).alloc (.cells #[.int .u64 (lim (M) 0), .int .u64 (lim (M) 1), .int .u64 (lim (M) 2), .int .u64 (lim (M) 3)] 24)).alloc (.cells #[.int .u64 0, .int .u64 0, .int .u64 0, .int .u64 0] 24))) (f := fun _ => .int .u64 0) (b := w.heap.size + 1 + 1) (by simp [go_sem]) (by simp [go_sem]) (by simp [go_sem]) (by simp [go_sem]) (by simp [go_sem]) (by simp [go_sem]) (by simp [go_sem]) (by simp [go_sem])
  have hB' : Below w.heap.size w (((w.alloc (.cells #[.int .u64 (lim (A) 0), .int .u64 (lim (A) 1), .int .u64 (lim (A) 2), .int .u64 (lim (A) 3)] 24)).alloc (.cells #[.int .u64 (lim (M) 0), .int .u64 (lim (M) 1), .int .u64 (lim (M) 2), .int .u64 (lim (M) 3)] 24)).alloc (.cells #[.int .u64 0, .int .u64 0, .int .u64 0, .int .u64 0] 24)) := by go_grown
  have Aa := Ba
  have Am := Bm
  have Az := Bz
  have hB := hB'
  clear Ba Bm Bz hB'
  go_wp2_with fail
  refine (CO _).mono ?_
  rintro e w1 ⟨⟨x, ok, hI, rfl⟩, hb⟩
  have Bz := Arr.to' Az hb
  have hB' := Bel.call hB hb
  clear hb Aa Am Az hB CO
  have Az := Bz
  have hB := hB'
  clear Bz hB'
  have cz := Az.c
  have zz := Az.z
  have lz := Az.lt
  have hS := hB.size
  go_wp2_with fail
  refine bodyPost_ret (v := .tuple #[nv x, .bool ok]) (by simp [results, Try.results37, go_sem, cz, lz]) rfl ⟨⟨_, _, hI, rfl⟩, ?_⟩
  go_grown
set_option maxHeartbeats 16000000 in
theorem rinv_even (A M : Int) (hA : 0 ≤ A) (hM0 : 0 < M) (hM1 : M < top256) (hzM : (lim M 0 == 0 && (lim M 1 == 0 && (lim M 2 == 0 && lim M 3 == 0))) = false) (hp : ¬ lim M 0 % 2 = 1) (w : World)
    (CA : ∀ W, Calls Try.prog 28 #[nv A, .agg #[.int .u64 0, .int .u64 0, .int .u64 0, .int .u64 0], nv M] W fun e w' => e = .returned (nv (A % M)) ∧ Below W.heap.size W w')
    (C1 : ∀ W, Calls Try.prog 28 #[.agg #[.int .u64 1, .int .u64 0, .int .u64 0, .int .u64 0], .agg #[.int .u64 0, .int .u64 0, .int .u64 0, .int .u64 0], nv M] W fun e w' => e = .returned (nv (1 % M)) ∧ Below W.heap.size W w')
    (CDD : ∀ R S, 0 ≤ R → R < top256 → 0 < S → S < top256 → ∃ P, ∀ W, Calls Try.prog 60 #[nv R, .agg #[.int .u64 0, .int .u64 0, .int .u64 0, .int .u64 0], nv S] W fun e w' => e = .returned (.tuple #[nv (R / S), nv P, nv (R % S), .int .i64 0]) ∧ Below W.heap.size W w')
    (CMM : ∀ Q Y, 0 ≤ Q → Q < top256 → 0 ≤ Y → Y < top256 → ∀ W, Calls Try.prog 34 #[nv Q, nv Y, nv M] W fun e w' => e = .returned (nv (Q * Y % M)) ∧ Below W.heap.size W w')
    (CSS : ∀ X T, 0 ≤ X → X < top256 → 0 ≤ T → T < top256 → ∀ W, Calls Try.prog 32 #[nv X, nv T, nv M] W fun e w' => e = .returned (nv ((X - T) % M)) ∧ Below W.heap.size W w') :
    Calls Try.prog 37 #[nv A, nv M] w fun e w' => (∃ x ok, IV A M x ok ∧ e = .returned (.tuple #[nv x, .bool ok])) ∧ Below w.heap.size w w' := by
  have n0 := lim_nn M 0
  have n1 := lim_lt M 0
  have hp' : (lim M 0 % 2 == 1) = false := by simpa using hp
  go_enter Try.func37, Try.ntmps37
  have Ba := Arr.mk4 (w := ((((w.alloc (.cells #[.int .u64 (lim (A) 0), .int .u64 (lim (A) 1), .int .u64 (lim (A) 2), .int .u64 (lim (A) 3)] 24)).alloc (.cells #[.int .u64 (lim (M) 0), .int .u64 (lim (M) 1), .int .u64 (lim (M) 2), .int .u64 (lim (M) 3)] 24)).alloc (.cells #[.int .u64 0, .int .u64 0, .int .u64 0, .int .u64 0] 24)).alloc (.cells #[.int .u64 (lim (M) 0), .int .u64 (lim (M) 1), .int .u64 (lim (M) 2), .int .u64 (lim (M) 3)] 24))) (f := fun j => .int .u64 (lim (A) j)) (b := w.heap.size) (by simp [go_sem]) (by simp [go_sem]) (by simp [go_sem]) (by simp [go_sem]) (by simp [go_sem]) (by simp [go_sem]) (by simp [go_sem]) (by simp [go_sem])
  have Bm := Arr.mk4 (w := ((((w.alloc (.cells #[.int .u64 (lim (A) 0), .int .u64 (lim (A) 1), .int .u64 (lim (A) 2), .int .u64 (lim (A) 3)] 24)).alloc (.cells #[.int .u64 (lim (M) 0), .int .u64 (lim (M) 1), .int .u64 (lim (M) 2), .int .u64 (lim (M) 3)] 24)).alloc (.cells #[.int .u64 0, .int .u64 0, .int .u64 0, .int .u64 0] 24)).alloc (.cells #[.int .u64 (lim (M) 0), .int .u64 (lim (M) 1), .int .u64 (lim (M) 2), .int .u64 (lim (M) 3)] 24))) (f := fun j => .int .u64 (lim (M) j)) (b := w.heap.size + 1) (by simp [go_sem]) (by simp [go_sem]) (by simp [go_sem]) (by simp [go_sem]) (by simp [go_sem]) (by simp [go_sem]) (by simp [go_sem]) (by simp [go_sem])
  have Bz := Arr.mk4 (w := ((((w.alloc (.cells #[.int .u64 (lim (A) 0), .int .u64 (lim (A) 1), .int .u64 (lim (A) 2), .int .u64 (lim (A) 3)] 24)).alloc (.cells #[.int .u64 (lim (M) 0), .int .u64 (lim (M) 1), .int .u64 (lim (M) 2), .int .u64 (lim (M) 3)] 24)).alloc (.cells #[.int .u64 0, .int .u64 0, .int .u64 0, .int .u64 0] 24)).alloc (.cells #[.int .u64 (lim (M) 0), .int .u64 (lim (M) 1), .int .u64 (lim (M) 2), .int .u64 (lim (M) 3)] 24))) (f := fun _ => .int .u64 0) (b := w.heap.size + 1 + 1) (by simp [go_sem]) (by simp [go_sem]) (by simp [go_sem]) (by simp [go_sem]) (by simp [go_sem]) (by simp [go_sem]) (by simp [go_sem]) (by simp [go_sem])
  have Br := Arr.mk4 (w := ((((w.alloc (.cells #[.int .u64 (lim (A) 0), .int .u64 (lim (A) 1), .int .u64 (lim (A) 2), .int .u64 (lim (A) 3)] 24)).alloc (.cells #[.int .u64 (lim (M) 0), .int .u64 (lim (M) 1), .int .u64 (lim (M) 2), .int .u64 (lim (M) 3)] 24)).alloc (.cells #[.int .u64 0, .int .u64 0, .int .u64 0, .int .u64 0] 24)).alloc (.cells #[.int .u64 (lim (M) 0), .int .u64 (lim (M) 1), .int .u64 (lim (M) 2), .int .u64 (lim (M) 3)] 24))) (f := fun j => .int .u64 (lim (M) j)) (b := w.heap.size + 1 + 1 + 1) (by simp [go_sem]) (by simp [go_sem]) (by simp [go_sem]) (by simp [go_sem]) (by simp [go_sem]) (by simp [go_sem]) (by simp [go_sem]) (by simp [go_sem])
  have hB' : Below w.heap.size w ((((w.alloc (.cells #[.int .u64 (lim (A) 0), .int .u64 (lim (A) 1), .int .u64 (lim (A) 2), .int .u64 (lim (A) 3)] 24)).alloc (.cells #[.int .u64 (lim (M) 0), .int .u64 (lim (M) 1), .int .u64 (lim (M) 2), .int .u64 (lim (M) 3)] 24)).alloc (.cells #[.int .u64 0, .int .u64 0, .int .u64 0, .int .u64 0] 24)).alloc (.cells #[.int .u64 (lim (M) 0), .int .u64 (lim (M) 1), .int .u64 (lim (M) 2), .int .u64 (lim (M) 3)] 24)) := by go_grown
  have Aa := Ba
  have Am := Bm
  have Az := Bz
  have Ar := Br
  have hB := hB'
  clear Ba Bm Bz Br hB'
  go_wp2_with fail
  refine (CA _).mono ?_
  rintro e w1 ⟨rfl, hb⟩
  have Bm := Arr.to' Am hb
  have Bz := Arr.to' Az hb
  have Br := Arr.to' Ar hb
  have hB' := Bel.call hB hb
  clear hb Aa Am Az Ar hB CA
  have Am := Bm
  have Az := Bz
  have Ar := Br
  have hB := hB'
  clear Bm Bz Br hB'
  have h01' := hB.size
  have cm1 := Am.c
  have l00 : lim 0 0 = 0 := by decide
  have l01 : lim 0 1 = 0 := by decide
  have l02 : lim 0 2 = 0 := by decide
  have l03 : lim 0 3 = 0 := by decide
  have lm_2 := Am.lt
  have lz_2 := Az.lt
  have lr_2 := Ar.lt
  have lB_2 := hB.size
  have Bm := (Arr.al' (Arr.al' Am (.cells #[.int .u64 (lim (A % M) 0), .int .u64 (lim (A % M) 1), .int .u64 (lim (A % M) 2), .int .u64 (lim (A % M) 3)] 24)) (.cells #[.int .u64 0, .int .u64 0, .int .u64 0, .int .u64 0] 24))
  have Bz := (Arr.al' (Arr.al' Az (.cells #[.int .u64 (lim (A % M) 0), .int .u64 (lim (A % M) 1), .int .u64 (lim (A % M) 2), .int .u64 (lim (A % M) 3)] 24)) (.cells #[.int .u64 0, .int .u64 0, .int .u64 0, .int .u64 0] 24))
  have Br := (Arr.al' (Arr.al' Ar (.cells #[.int .u64 (lim (A % M) 0), .int .u64 (lim (A % M) 1), .int .u64 (lim (A % M) 2), .int .u64 (lim (A % M) 3)] 24)) (.cells #[.int .u64 0, .int .u64 0, .int .u64 0, .int .u64 0] 24))
  have Bs := Arr.mk4 (w := ((w1.alloc (.cells #[.int .u64 (lim (A % M) 0), .int .u64 (lim (A % M) 1), .int .u64 (lim (A % M) 2), .int .u64 (lim (A % M) 3)] 24)).alloc (.cells #[.int .u64 0, .int .u64 0, .int .u64 0, .int .u64 0] 24))) (f := fun j => .int .u64 (lim (A % M) j)) (b := w1.heap.size) (by simp [go_sem]) (by simp [go_sem]) (by simp [go_sem]) (by simp [go_sem]) (by simp [go_sem]) (by simp [go_sem]) (by simp [go_sem]) (by simp [go_sem])
  have Bx := Arr.mk4 (w := ((w1.alloc (.cells #[.int .u64 (lim (A % M) 0), .int .u64 (lim (A % M) 1), .int .u64 (lim (A % M) 2), .int .u64 (lim (A % M) 3)] 24)).alloc (.cells #[.int .u64 0, .int .u64 0, .int .u64 0, .int .u64 0] 24))) (f := fun j => .int .u64 (lim (0) j)) (b := w1.heap.size + 1) (by simp [go_sem, l00, l01, l02, l03]) (by simp [go_sem, l00, l01, l02, l03]) (by simp [go_sem, l00, l01, l02, l03]) (by simp [go_sem, l00, l01, l02, l03]) (by simp [go_sem, l00, l01, l02, l03]) (by simp [go_sem, l00, l01, l02, l03]) (by simp [go_sem, l00, l01, l02, l03]) (by simp [go_sem, l00, l01, l02, l03])
  have hB' := (Bel.al (Bel.al hB (.cells #[.int .u64 (lim (A % M) 0), .int .u64 (lim (A % M) 1), .int .u64 (lim (A % M) 2), .int .u64 (lim (A % M) 3)] 24)) (.cells #[.int .u64 0, .int .u64 0, .int .u64 0, .int .u64 0] 24))
  clear Am Az Ar hB
  have Am := Bm
  have Az := Bz
  have Ar := Br
  have As := Bs
  have Ax := Bx
  have hB := hB'
  clear Bm Bz Br Bs Bx hB'
  have cm := Am.c
  go_wp2_with fail
  refine (C1 _).mono ?_
  rintro e w2 ⟨rfl, hb⟩
  have Bm := Arr.to' Am hb
  have Bz := Arr.to' Az hb
  have Br := Arr.to' Ar hb
  have Bs := Arr.to' As hb
  have Bx := Arr.to' Ax hb
  have hB' := Bel.call hB hb
  clear hb cm1 cm Am Az Ar As Ax hB C1
  have Am := Bm
  have Az := Bz
  have Ar := Br
  have As := Bs
  have Ax := Bx
  have hB := hB'
  clear Bm Bz Br Bs Bx hB'
  have h01 : w.heap.size + 1 + 1 + 1 < w1.heap.size := by omega
  have h12 : w1.heap.size + 1 < w2.heap.size := by have := Ax.lt; omega
  have S0 : Hid (EI A M M (A % M) 0 (1 % M)) := EI.start hA hM0 hM1
  clear hzM hp n0 n1 hp'
  go_wp2_with fail
  go_loopw [] (fun wr => ∃ R S X Y, Hid (EI A M R S X Y) ∧ Below w.heap.size w wr ∧ (w.heap.size + 1 + 1 + 1 < w1.heap.size ∧ w1.heap.size + 1 < w2.heap.size) ∧ Arr wr (w.heap.size + 1) 4 (fun j => .int .u64 (lim (M) j)) ∧ Arr wr (w.heap.size + 1 + 1) 4 (fun _ => .int .u64 0) ∧ Arr wr (w.heap.size + 1 + 1 + 1) 4 (fun j => .int .u64 (lim (R) j)) ∧ Arr wr w1.heap.size 4 (fun j => .int .u64 (lim (S) j)) ∧ Arr wr (w1.heap.size + 1) 4 (fun j => .int .u64 (lim (X) j)) ∧ Arr wr w2.heap.size 4 (fun j => .int .u64 (lim (Y) j))) (fun wr => sz2 wr w1.heap.size w1.heap.size)
  case atStart => exact ⟨_, _, _, _, S0, Bel.al hB _, ⟨h01, h12⟩, Arr.al' Am _, Arr.al' Az _, Arr.al' Ar _, Arr.al' As _, Arr.al' Ax _, Arr.mk4 (by simp [go_sem]) (by simp [go_sem]) (by simp [go_sem]) (by simp [go_sem]) (by simp [go_sem]) (by simp [go_sem]) (by simp [go_sem]) (by simp [go_sem])⟩
  case round =>
    clear hB Am Az Ar As Ax S0
    obtain ⟨R, S, X, Y, HE, hB, _, Am, Az, Ar, As, Ax, Ay⟩ := hrel
    obtain ⟨r0, r1, s0, s1, x0, x1, y0, y1, _, _, _⟩ := HE.out
    have M0 : Hid (sz2 wr w1.heap.size w1.heap.size = (S + S).toNat) := sz2_of As As s0 s1 s0 s1
    by_cases hs0 : S = 0
    · subst hs0
      have hz := z4_zero
      have cs := As.c
      have cr := Ar.c
      have cx := Ax.c
      have cz := Az.c
      have zz := Az.z
      have lz := Az.lt
      have hS := hB.size
      clear CDD CMM CSS
      by_cases hR : R = 1
      · have hr1 : (lim R 0 == 1 && (lim R 1 == 0 && (lim R 2 == 0 && lim R 3 == 0))) = true := by rw [hR]; decide
        clear l00 l01 l02 l03
        go_wp2_with fail
        refine bodyPost_ret (v := .tuple #[nv X, .bool true]) (by simp [results, Try.results37, go_sem, cz, lz]) rfl ⟨⟨_, _, HE.out.end1 hR, rfl⟩, ?_⟩
        go_grown
      · have hr1 : (lim R 0 == 1 && (lim R 1 == 0 && (lim R 2 == 0 && lim R 3 == 0))) = false := by rw [eq_one R (by omega) r1]; simpa using hR
        go_wp2_with fail
        refine bodyPost_ret (v := .tuple #[nv 0, .bool false]) (by simp [results, Try.results37, go_sem, cz, lz, l00, l01, l02, l03]) rfl ⟨⟨_, _, HE.out.endN hR, rfl⟩, ?_⟩
        go_grown
    have hz := nz24 S (by omega) s1
    have HE2 : Hid (EI A M S (R % S) Y ((X - R / S * Y % M) % M)) := HE.out.step hs0
    obtain ⟨P, CD⟩ := CDD R S (by omega) r1 (by omega) s1
    have q0 : 0 ≤ R / S := Int.ediv_nonneg (by omega) s0
    have q1 : R / S < top256 := Int.lt_of_le_of_lt (Int.ediv_le_self _ (by omega)) r1
    have a0 := Int.emod_nonneg R (show S ≠ 0 by omega)
    have a1 := Int.emod_lt_of_pos R (show 0 < S by omega)
    have CM := CMM (R / S) Y q0 q1 y0 (by omega)
    have b0 := Int.emod_nonneg (R / S * Y) (show M ≠ 0 by omega)
    have b1 := Int.emod_lt_of_pos (R / S * Y) hM0
    have CS := CSS X (R / S * Y % M) x0 (by omega) b0 (by omega)
    clear CDD CMM CSS l00 l01 l02 l03 HE
    generalize (X - R / S * Y % M) % M = T at CS HE2
    generalize R / S * Y % M = U at CM CS b0 b1
    generalize R / S = Q at CD CM q0 q1
    generalize R % S = L at CD HE2 a0 a1
    clear b0 b1 q0 q1
    have cr := Ar.c
    have zr := Ar.z
    have cs := As.c
    have zs := As.z
    go_wp2_with fail
    refine (CD _).mono ?_
    rintro e w13 ⟨rfl, hb⟩
    have Bm := Arr.to' Am hb
    have Bz := Arr.to' Az hb
    have Br := Arr.to' Ar hb
    have Bs := Arr.to' As hb
    have Bx := Arr.to' Ax hb
    have By := Arr.to' Ay hb
    have hB' := Bel.call hB hb
    clear hb cr zr cs zs Am Az Ar As Ax Ay hB CD
    have Am := Bm
    have Az := Bz
    have Ar := Br
    have As := Bs
    have Ax := Bx
    have Ay := By
    have hB := hB'
    clear Bm Bz Br Bs Bx By hB'
    have cr := Ar.c
    have zr := Ar.z
    have cs := As.c
    have zs := As.z
    have lr3 := Ar.lt
    have ls3 := As.lt
    have hS3 := hB.size
    have qs : ∀ (W : World) (o1 o2 o3 : Obj) (j : Nat), W.heap.size = w13.heap.size → (((W.alloc o1).alloc o2).alloc o3).cell? ⟨w1.heap.size, j, none⟩ = W.cell? ⟨w1.heap.size, j, none⟩ := fun W o1 o2 o3 j h => al3c W o1 o2 o3 _ j (by omega)
    have ps : ∀ (W : World) (o1 o2 o3 : Obj) (j : Nat), W.heap.size = w13.heap.size → (((W.alloc o1).alloc o2).alloc o3).frozen? ⟨w1.heap.size, j, none⟩ = W.frozen? ⟨w1.heap.size, j, none⟩ := fun W o1 o2 o3 j h => al3f W o1 o2 o3 _ j (by omega)
    have qr : ∀ (W : World) (o1 o2 o3 : Obj) (j : Nat), W.heap.size = w13.heap.size → (((W.alloc o1).alloc o2).alloc o3).cell? ⟨w.heap.size + 1 + 1 + 1, j, none⟩ = W.cell? ⟨w.heap.size + 1 + 1 + 1, j, none⟩ := fun W o1 o2 o3 j h => al3c W o1 o2 o3 _ j (by omega)
    have pr : ∀ (W : World) (o1 o2 o3 : Obj) (j : Nat), W.heap.size = w13.heap.size → (((W.alloc o1).alloc o2).alloc o3).frozen? ⟨w.heap.size + 1 + 1 + 1, j, none⟩ = W.frozen? ⟨w.heap.size + 1 + 1 + 1, j, none⟩ := fun W o1 o2 o3 j h => al3f W o1 o2 o3 _ j (by omega)
    go_wp2_with fail
    clear cr zr cs zs qs ps qr pr
    have lm_1 := Am.lt
    have lz_1 := Az.lt
    have lr_1 := Ar.lt
    have ls_1 := As.lt
    have lx_1 := Ax.lt
    have ly_1 := Ay.lt
    have lB_1 := hB.size
    have Bm := (Arr.al' (Arr.al' (Arr.al' Am (.cells #[.int .u64 (lim (Q) 0), .int .u64 (lim (Q) 1), .int .u64 (lim (Q) 2), .int .u64 (lim (Q) 3)] 24)) (.cells #[.int .u64 (lim (P) 0), .int .u64 (lim (P) 1), .int .u64 (lim (P) 2), .int .u64 (lim (P) 3)] 24)) (.cells #[.int .u64 (lim (L) 0), .int .u64 (lim (L) 1), .int .u64 (lim (L) 2), .int .u64 (lim (L) 3)] 24))
    have Bz := (Arr.al' (Arr.al' (Arr.al' Az (.cells #[.int .u64 (lim (Q) 0), .int .u64 (lim (Q) 1), .int .u64 (lim (Q) 2), .int .u64 (lim (Q) 3)] 24)) (.cells #[.int .u64 (lim (P) 0), .int .u64 (lim (P) 1), .int .u64 (lim (P) 2), .int .u64 (lim (P) 3)] 24)) (.cells #[.int .u64 (lim (L) 0), .int .u64 (lim (L) 1), .int .u64 (lim (L) 2), .int .u64 (lim (L) 3)] 24))
    have Br := (Arr.al' (Arr.al' (Arr.al' Ar (.cells #[.int .u64 (lim (Q) 0), .int .u64 (lim (Q) 1), .int .u64 (lim (Q) 2), .int .u64 (lim (Q) 3)] 24)) (.cells #[.int .u64 (lim (P) 0), .int .u64 (lim (P) 1), .int .u64 (lim (P) 2), .int .u64 (lim (P) 3)] 24)) (.cells #[.int .u64 (lim (L) 0), .int .u64 (lim (L) 1), .int .u64 (lim (L) 2), .int .u64 (lim (L) 3)] 24))
    have Bs := (Arr.al' (Arr.al' (Arr.al' As (.cells #[.int .u64 (lim (Q) 0), .int .u64 (lim (Q) 1), .int .u64 (lim (Q) 2), .int .u64 (lim (Q) 3)] 24)) (.cells #[.int .u64 (lim (P) 0), .int .u64 (lim (P) 1), .int .u64 (lim (P) 2), .int .u64 (lim (P) 3)] 24)) (.cells #[.int .u64 (lim (L) 0), .int .u64 (lim (L) 1), .int .u64 (lim (L) 2), .int .u64 (lim (L) 3)] 24))
    have Bx := (Arr.al' (Arr.al' (Arr.al' Ax (.cells #[.int .u64 (lim (Q) 0), .int .u64 (lim (Q) 1), .int .u64 (lim (Q) 2), .int .u64 (lim (Q) 3)] 24)) (.cells #[.int .u64 (lim (P) 0), .int .u64 (lim (P) 1), .int .u64 (lim (P) 2), .int .u64 (lim (P) 3)] 24)) (.cells #[.int .u64 (lim (L) 0), .int .u64 (lim (L) 1), .int .u64 (lim (L) 2), .int .u64 (lim (L) 3)] 24))
    have By := (Arr.al' (Arr.al' (Arr.al' Ay (.cells #[.int .u64 (lim (Q) 0), .int .u64 (lim (Q) 1), .int .u64 (lim (Q) 2), .int .u64 (lim (Q) 3)] 24)) (.cells #[.int .u64 (lim (P) 0), .int .u64 (lim (P) 1), .int .u64 (lim (P) 2), .int .u64 (lim (P) 3)] 24)) (.cells #[.int .u64 (lim (L) 0), .int .u64 (lim (L) 1), .int .u64 (lim (L) 2), .int .u64 (lim (L) 3)] 24))
    have Bq := Arr.mk4 (w := (((w13.alloc (.cells #[.int .u64 (lim (Q) 0), .int .u64 (lim (Q) 1), .int .u64 (lim (Q) 2), .int .u64 (lim (Q) 3)] 24)).alloc (.cells #[.int .u64 (lim (P) 0), .int .u64 (lim (P) 1), .int .u64 (lim (P) 2), .int .u64 (lim (P) 3)] 24)).alloc (.cells #[.int .u64 (lim (L) 0), .int .u64 (lim (L) 1), .int .u64 (lim (L) 2), .int .u64 (lim (L) 3)] 24))) (f := fun j => .int .u64 (lim (Q) j)) (b := w13.heap.size) (by simp [go_sem]) (by simp [go_sem]) (by simp [go_sem]) (by simp [go_sem]) (by simp [go_sem]) (by simp [go_sem]) (by simp [go_sem]) (by simp [go_sem])
    have Bl := Arr.mk4 (w := (((w13.alloc (.cells #[.int .u64 (lim (Q) 0), .int .u64 (lim (Q) 1), .int .u64 (lim (Q) 2), .int .u64 (lim (Q) 3)] 24)).alloc (.cells #[.int .u64 (lim (P) 0), .int .u64 (lim (P) 1), .int .u64 (lim (P) 2), .int .u64 (lim (P) 3)] 24)).alloc (.cells #[.int .u64 (lim (L) 0), .int .u64 (lim (L) 1), .int .u64 (lim (L) 2), .int .u64 (lim (L) 3)] 24))) (f := fun j => .int .u64 (lim (L) j)) (b := w13.heap.size + 1 + 1) (by simp [go_sem]) (by simp [go_sem]) (by simp [go_sem]) (by simp [go_sem]) (by simp [go_sem]) (by simp [go_sem]) (by simp [go_sem]) (by simp [go_sem])
    have hB' := (Bel.al (Bel.al (Bel.al hB (.cells #[.int .u64 (lim (Q) 0), .int .u64 (lim (Q) 1), .int .u64 (lim (Q) 2), .int .u64 (lim (Q) 3)] 24)) (.cells #[.int .u64 (lim (P) 0), .int .u64 (lim (P) 1), .int .u64 (lim (P) 2), .int .u64 (lim (P) 3)] 24)) (.cells #[.int .u64 (lim (L) 0), .int .u64 (lim (L) 1), .int .u64 (lim (L) 2), .int .u64 (lim (L) 3)] 24))
    clear Am Az Ar As Ax Ay hB
    have Am := Bm
    have Az := Bz
    have Ar := Br
    have As := Bs
    have Ax := Bx
    have Ay := By
    have Aq := Bq
    have Al := Bl
    have hB := hB'
    clear Bm Bz Br Bs Bx By Bq Bl hB'
    have Bm := Arr.st4o (b' := w.heap.size + 1 + 1 + 1) Am (by have := Am.lt; have := Ar.lt; omega) (S)
    have Bz := Arr.st4o (b' := w.heap.size + 1 + 1 + 1) Az (by have := Az.lt; have := Ar.lt; omega) (S)
    have Br := Arr.st4 Ar (S)
    have Bs := Arr.st4o (b' := w.heap.size + 1 + 1 + 1) As (by have := As.lt; have := Ar.lt; omega) (S)
    have Bx := Arr.st4o (b' := w.heap.size + 1 + 1 + 1) Ax (by have := Ax.lt; have := Ar.lt; omega) (S)
    have By := Arr.st4o (b' := w.heap.size + 1 + 1 + 1) Ay (by have := Ay.lt; have := Ar.lt; omega) (S)
    have Bq := Arr.st4o (b' := w.heap.size + 1 + 1 + 1) Aq (by have := Aq.lt; have := Ar.lt; omega) (S)
    have Bl := Arr.st4o (b' := w.heap.size + 1 + 1 + 1) Al (by have := Al.lt; have := Ar.lt; omega) (S)
    have hB' := Bel.st4 hB (b := w.heap.size + 1 + 1 + 1) (by have := hB.size; omega) (S)
    clear Am Az Ar As Ax Ay Aq Al hB
    have Am := Bm
    have Az := Bz
    have Ar := Br
    have As := Bs
    have Ax := Bx
    have Ay := By
    have Aq := Bq
    have Al := Bl
    have hB := hB'
    clear Bm Bz Br Bs Bx By Bq Bl hB'
    have Bm := Arr.st4o (b' := w1.heap.size) Am (by have := Am.lt; have := As.lt; omega) (L)
    have Bz := Arr.st4o (b' := w1.heap.size) Az (by have := Az.lt; have := As.lt; omega) (L)
    have Br := Arr.st4o (b' := w1.heap.size) Ar (by have := Ar.lt; have := As.lt; omega) (L)
    have Bs := Arr.st4 As (L)
    have Bx := Arr.st4o (b' := w1.heap.size) Ax (by have := Ax.lt; have := As.lt; omega) (L)
    have By := Arr.st4o (b' := w1.heap.size) Ay (by have := Ay.lt; have := As.lt; omega) (L)
    have Bq := Arr.st4o (b' := w1.heap.size) Aq (by have := Aq.lt; have := As.lt; omega) (L)
    have Bl := Arr.st4o (b' := w1.heap.size) Al (by have := Al.lt; have := As.lt; omega) (L)
    have hB' := Bel.st4 hB (b := w1.heap.size) (by have := hB.size; omega) (L)
    clear Am Az Ar As Ax Ay Aq Al hB
    have Am := Bm
    have Az := Bz
    have Ar := Br
    have As := Bs
    have Ax := Bx
    have Ay := By
    have Aq := Bq
    have Al := Bl
    have hB := hB'
    clear Bm Bz Br Bs Bx By Bq Bl hB'
    apply wp_region_alloc_tail 7 (by kernel_rfl) (by kernel_rfl) (by kernel_rfl) (.cells #[.int .u64 0, .int .u64 0, .int .u64 0, .int .u64 0] 24) _ rfl (fun _ _ => by simp [go_sem])
    · intro W hW
      have rx0 := fun ds os => cell_regrown ((Arr.to' Ax hW).c 0 (by omega)) ds os
      have rx1 := fun ds os => cell_regrown ((Arr.to' Ax hW).c 1 (by omega)) ds os
      have rx2 := fun ds os => cell_regrown ((Arr.to' Ax hW).c 2 (by omega)) ds os
      have rx3 := fun ds os => cell_regrown ((Arr.to' Ax hW).c 3 (by omega)) ds os
      have rq0 := fun ds os => cell_regrown ((Arr.to' Aq hW).c 0 (by omega)) ds os
      have rq1 := fun ds os => cell_regrown ((Arr.to' Aq hW).c 1 (by omega)) ds os
      have rq2 := fun ds os => cell_regrown ((Arr.to' Aq hW).c 2 (by omega)) ds os
      have rq3 := fun ds os => cell_regrown ((Arr.to' Aq hW).c 3 (by omega)) ds os
      have ry0 := fun ds os => cell_regrown ((Arr.to' Ay hW).c 0 (by omega)) ds os
      have ry1 := fun ds os => cell_regrown ((Arr.to' Ay hW).c 1 (by omega)) ds os
      have ry2 := fun ds os => cell_regrown ((Arr.to' Ay hW).c 2 (by omega)) ds os
      have ry3 := fun ds os => cell_regrown ((Arr.to' Ay hW).c 3 (by omega)) ds os
      have rm0 := fun ds os => cell_regrown ((Arr.to' Am hW).c 0 (by omega)) ds os
      have rm1 := fun ds os => cell_regrown ((Arr.to' Am hW).c 1 (by omega)) ds os
      have rm2 := fun ds os => cell_regrown ((Arr.to' Am hW).c 2 (by omega)) ds os
      have rm3 := fun ds os => cell_regrown ((Arr.to' Am hW).c 3 (by omega)) ds os
      simp only [List.take_succ_cons, List.take_zero]
      repeat (go_big_quiet_step (first | (go_at_call 34; with_reducible exact Calls.regrown_of (CM _)) | (go_at_call 32; with_reducible exact Calls.regrown_of (CS _))))
      exact wpQuiet_nil rfl
    intro u4 w14 hb1 hb2
    simp only [List.drop_succ_cons, List.drop_zero, Act.put, List.setIfInBounds_toArray, List.set_cons_succ, List.set_cons_zero]
    have Em := Arr.to' Am hb1
    have lm_u4 := Em.lt
    have Bm := Arr.to' (Arr.al' Em (.cells #[.int .u64 0, .int .u64 0, .int .u64 0, .int .u64 0] 24)) hb2
    have Ez := Arr.to' Az hb1
    have lz_u4 := Ez.lt
    have Bz := Arr.to' (Arr.al' Ez (.cells #[.int .u64 0, .int .u64 0, .int .u64 0, .int .u64 0] 24)) hb2
    have Er := Arr.to' Ar hb1
    have lr_u4 := Er.lt
    have Br := Arr.to' (Arr.al' Er (.cells #[.int .u64 0, .int .u64 0, .int .u64 0, .int .u64 0] 24)) hb2
    have Es := Arr.to' As hb1
    have ls_u4 := Es.lt
    have Bs := Arr.to' (Arr.al' Es (.cells #[.int .u64 0, .int .u64 0, .int .u64 0, .int .u64 0] 24)) hb2
    have Ex := Arr.to' Ax hb1
    have lx_u4 := Ex.lt
    have Bx := Arr.to' (Arr.al' Ex (.cells #[.int .u64 0, .int .u64 0, .int .u64 0, .int .u64 0] 24)) hb2
    have Ey := Arr.to' Ay hb1
    have ly_u4 := Ey.lt
    have By := Arr.to' (Arr.al' Ey (.cells #[.int .u64 0, .int .u64 0, .int .u64 0, .int .u64 0] 24)) hb2
    have Bt := (Arr.mk4 (w := (u4.alloc (.cells #[.int .u64 0, .int .u64 0, .int .u64 0, .int .u64 0] 24))) (f := fun _ => .int .u64 0) (b := u4.heap.size) (by simp [go_sem]) (by simp [go_sem]) (by simp [go_sem]) (by simp [go_sem]) (by simp [go_sem]) (by simp [go_sem]) (by simp [go_sem]) (by simp [go_sem])).below hb2 (by go_size)
    have lB_u4 := (Bel.call hB hb1).size
    have hB' := Bel.call (Bel.al (Bel.call hB hb1) (.cells #[.int .u64 0, .int .u64 0, .int .u64 0, .int .u64 0] 24)) hb2
    clear hb1 hb2 Em Ez Er Es Ex Ey Am Az Ar As Ax Ay Aq Al hB CM CS
    have Am := Bm
    have Az := Bz
    have Ar := Br
    have As := Bs
    have Ax := Bx
    have Ay := By
    have At := Bt
    have hB := hB'
    clear Bm Bz Br Bs Bx By Bt hB'
    have ct := At.c
    have zt := At.z
    have cx := Ax.c
    have zx := Ax.z
    have cy := Ay.c
    have zy := Ay.z
    have Bm := Arr.st4o (b' := u4.heap.size) Am (by have := Am.lt; have := At.lt; omega) (T)
    have Bz := Arr.st4o (b' := u4.heap.size) Az (by have := Az.lt; have := At.lt; omega) (T)
    have Br := Arr.st4o (b' := u4.heap.size) Ar (by have := Ar.lt; have := At.lt; omega) (T)
    have Bs := Arr.st4o (b' := u4.heap.size) As (by have := As.lt; have := At.lt; omega) (T)
    have Bx := Arr.st4o (b' := u4.heap.size) Ax (by have := Ax.lt; have := At.lt; omega) (T)
    have By := Arr.st4o (b' := u4.heap.size) Ay (by have := Ay.lt; have := At.lt; omega) (T)
    have Bt := Arr.st4 At (T)
    have hB' := Bel.st4 hB (b := u4.heap.size) (by have := hB.size; omega) (T)
    clear Am Az Ar As Ax Ay At hB
    have Am := Bm
    have Az := Bz
    have Ar := Br
    have As := Bs
    have Ax := Bx
    have Ay := By
    have At := Bt
    have hB := hB'
    clear Bm Bz Br Bs Bx By Bt hB'
    have hS4 := hB.size
    have lt4 := At.lt
    have lx4 := Ax.lt
    have ly4 := Ay.lt
    have Bm := Arr.st4o (b' := w1.heap.size + 1) Am (by have := Am.lt; have := Ax.lt; omega) (Y)
    have Bz := Arr.st4o (b' := w1.heap.size + 1) Az (by have := Az.lt; have := Ax.lt; omega) (Y)
    have Br := Arr.st4o (b' := w1.heap.size + 1) Ar (by have := Ar.lt; have := Ax.lt; omega) (Y)
    have Bs := Arr.st4o (b' := w1.heap.size + 1) As (by have := As.lt; have := Ax.lt; omega) (Y)
    have Bx := Arr.st4 Ax (Y)
    have By := Arr.st4o (b' := w1.heap.size + 1) Ay (by have := Ay.lt; have := Ax.lt; omega) (Y)
    have Bt := Arr.st4o (b' := w1.heap.size + 1) At (by have := At.lt; have := Ax.lt; omega) (Y)
    have hB' := Bel.st4 hB (b := w1.heap.size + 1) (by have := hB.size; omega) (Y)
    clear Am Az Ar As Ax Ay At hB
    have Am := Bm
    have Az := Bz
    have Ar := Br
    have As := Bs
    have Ax := Bx
    have Ay := By
    have At := Bt
    have hB := hB'
    clear Bm Bz Br Bs Bx By Bt hB'
    have Bm := Arr.st4o (b' := w2.heap.size) Am (by have := Am.lt; have := Ay.lt; omega) (T)
    have Bz := Arr.st4o (b' := w2.heap.size) Az (by have := Az.lt; have := Ay.lt; omega) (T)
    have Br := Arr.st4o (b' := w2.heap.size) Ar (by have := Ar.lt; have := Ay.lt; omega) (T)
    have Bs := Arr.st4o (b' := w2.heap.size) As (by have := As.lt; have := Ay.lt; omega) (T)
    have Bx := Arr.st4o (b' := w2.heap.size) Ax (by have := Ax.lt; have := Ay.lt; omega) (T)
    have By := Arr.st4 Ay (T)
    have Bt := Arr.st4o (b' := w2.heap.size) At (by have := At.lt; have := Ay.lt; omega) (T)
    have hB' := Bel.st4 hB (b := w2.heap.size) (by have := hB.size; omega) (T)
    clear Am Az Ar As Ax Ay At hB
    have Am := Bm
    have Az := Bz
    have Ar := Br
    have As := Bs
    have Ax := Bx
    have Ay := By
    have At := Bt
    have hB := hB'
    clear Bm Bz Br Bs Bx By Bt hB'
    have MS : Hid (sz2 ((st4 (st4 (st4 w14 (u4.heap.size) (T)) (w1.heap.size + 1) (Y)) (w2.heap.size) (T))) w1.heap.size w1.heap.size = (L + L).toNat) := sz2_of As As a0 (by omega) a0 (by omega)
    go_wp2_with fail
    go_roundw
    case rel => exact ⟨_, _, _, _, HE2, hB, ⟨h01, h12⟩, Am, Az, Ar, As, Ax, Ay⟩
    case measure => first | (rw [MS.out, M0.out]; omega) | (show sz2 _ _ _ < sz2 _ _ _; rw [MS.out, M0.out]; omega)
end
end Go.Proofs.Ytpigofooblmdhaa
/- What the reference's Inv answers, for any numbers. -/
set_option linter.all false
set_option maxRecDepth 100000
namespace Go.Proofs.Ytpigofooblmdhaa
open Go.RowKit Go.Sort
/-- What the reference's Inv answers, for any numbers. -/
theorem refInv_any (A M : Int) (hA : 0 ≤ A) (hA' : A < top256) (hM : 0 ≤ M) (hM' : M < top256) (w : World) :
    Calls Try.prog 37 #[nv A, nv M] w fun e w' => (∃ x ok, IV A M x ok ∧ e = .returned (.tuple #[nv x, .bool ok])) ∧ Below w.heap.size w w' := by
  by_cases c : M = 0
  · subst c
    have h := rinv_zero A w
    rw [← nv_zero] at h
    exact h.mono fun e w' ⟨h1, h2⟩ => ⟨⟨0, false, ⟨by omega, fun h => by (cases h), fun _ => rfl, ⟨fun h => by (cases h), fun h => absurd h.1 (by omega)⟩⟩, h1⟩, h2⟩
  have M0 : 0 < M := by omega
  have R1 : ∀ N, 0 ≤ N → N < top256 → ∀ W, Calls Try.prog 28 #[nv N, .agg #[.int .u64 0, .int .u64 0, .int .u64 0, .int .u64 0], nv M] W fun e w' => e = .returned (nv (N % M)) ∧ Below W.heap.size W w' := fun N h0 h1 W => by
    have := refRem_any N 0 M h0 h1 (by omega) (by decide) hM hM' W
    rw [nv_zero, Int.zero_mul, Int.add_zero, md_pos _ M0] at this
    exact this
  have C1 : ∀ W, Calls Try.prog 28 #[.agg #[.int .u64 1, .int .u64 0, .int .u64 0, .int .u64 0], .agg #[.int .u64 0, .int .u64 0, .int .u64 0, .int .u64 0], nv M] W fun e w' => e = .returned (nv (1 % M)) ∧ Below W.heap.size W w' := fun W => by
    have := R1 1 (by omega) (by decide) W
    rw [nv_one] at this
    exact this
  have hz := nz24 M M0 hM'
  by_cases hp : lim M 0 % 2 = 1
  · have ho : M % 2 = 1 := by rw [lim0] at hp; omega
    exact rinv_odd A M hz hp w (fun W => odd_core A M hA M0 hM' ho W (R1 A hA hA') C1 (fun Y y0 y1 => R1 Y y0 (by omega)))
  · refine rinv_even A M hA M0 hM' hz hp w (R1 A hA hA') C1 ?_ ?_ ?_
    · intro R S r0 r1 s0 s1
      refine ⟨R / S / top256, fun W => ?_⟩
      have := refDiv_any R 0 S r0 r1 (by omega) (by decide) s0 s1 W
      rw [nv_zero, Int.zero_mul, Int.add_zero] at this
      exact this
    · intro Q Y q0 q1 y0 y1 W
      have := refMul_any Q Y M q0 q1 y0 y1 hM hM' W
      rw [md_pos _ M0] at this
      exact this
    · intro X T x0 x1 t0 t1 W
      have := ref2Sub_any X T M x0 x1 t0 t1 hM hM' W
      rw [md_pos _ M0] at this
      exact this
end Go.Proofs.Ytpigofooblmdhaa
/- The chapter's examples, which each statement plays at its end, come out. -/
set_option linter.all false
namespace Go.Proofs.Ytpigofooblmdhaa
open Go.RowKit Go.Sort
/-- A small number as the translation holds it. -/
abbrev sm (x : Int) : Value := .agg #[.int .u64 x, .int .u64 0, .int .u64 0, .int .u64 0]
theorem nv_sm (x : Int) (h0 : 0 ≤ x) (h1 : x < 18446744073709551616) : nv x = sm x := by
  have e0 : lim x 0 = x := by rw [lim0]; omega
  have e1 : lim x 1 = 0 := by rw [lim1]; omega
  have e2 : lim x 2 = 0 := by rw [lim2]; omega
  have e3 : lim x 3 = 0 := by rw [lim3]; omega
  simp only [nv, e0, e1, e2, e3]
set_option maxHeartbeats 1000000 in
theorem n39 (x : Int) (w : World) : Calls Try.prog 67 #[.int .u64 x] w fun e w' => e = .returned (sm x) ∧ Below w.heap.size w w' := by
  go_enter Try.func67, Try.ntmps67
  go_wp2
  refine bodyPost_ret (v := sm x) (by simp [results, Try.results67, go_sem]) rfl ⟨rfl, ?_⟩
  go_grown
theorem ex_inv29 (w : World) : Calls Try.prog 36 #[sm 2, sm 9] w fun e w' => e = .returned (.tuple #[sm 5, .bool true]) ∧ Below w.heap.size w w' := by
  have := inv_any 2 9 (by omega) (by decide) (by omega) (by decide) w
  rw [nv_sm 2 (by omega) (by omega), nv_sm 9 (by omega) (by omega)] at this
  refine this.mono ?_
  rintro e w' ⟨⟨x, ok, ⟨x0, h1, h2, h3⟩, rfl⟩, hb⟩
  have ok1 : ok = true := h3.2 ⟨by omega, by decide⟩
  subst ok1
  obtain ⟨a, ⟨t, ht⟩⟩ := h1 rfl
  have : x = 5 := by omega
  subst this
  exact ⟨by rw [nv_sm 5 (by omega) (by omega)], hb⟩
theorem ex_inv39 (w : World) : Calls Try.prog 36 #[sm 3, sm 9] w fun e w' => e = .returned (.tuple #[sm 0, .bool false]) ∧ Below w.heap.size w w' := by
  have := inv_any 3 9 (by omega) (by decide) (by omega) (by decide) w
  rw [nv_sm 3 (by omega) (by omega), nv_sm 9 (by omega) (by omega)] at this
  refine this.mono ?_
  rintro e w' ⟨⟨x, ok, ⟨x0, h1, h2, h3⟩, rfl⟩, hb⟩
  have ok1 : ok = false := by
    cases ok with
    | false => rfl
    | true => exact absurd (h3.1 rfl).2 (by decide)
  subst ok1
  have := h2 rfl
  subst this
  exact ⟨by rw [nv_sm 0 (by omega) (by omega)], hb⟩
theorem ex_mul (w : World) : Calls Try.prog 33 #[sm 5, sm 7, sm 9] w fun e w' => e = .returned (sm 8) ∧ Below w.heap.size w w' := by
  have := mmul_any 5 7 9 (by omega) (by decide) (by omega) (by decide) (by omega) (by decide) w
  rw [show md (5 * 7) 9 = 8 by decide, nv_sm 5 (by omega) (by omega), nv_sm 7 (by omega) (by omega), nv_sm 9 (by omega) (by omega), nv_sm 8 (by omega) (by omega)] at this
  exact this
theorem ex_sub (w : World) : Calls Try.prog 31 #[sm 2, sm 5, sm 9] w fun e w' => e = .returned (sm 6) ∧ Below w.heap.size w w' := by
  have := msub_any 2 5 9 (by omega) (by decide) (by omega) (by decide) (by omega) (by decide) w
  rw [show md (2 - 5) 9 = 6 by decide, nv_sm 2 (by omega) (by omega), nv_sm 5 (by omega) (by omega), nv_sm 9 (by omega) (by omega), nv_sm 6 (by omega) (by omega)] at this
  exact this
theorem ex_pow (w : World) : Calls Try.prog 38 #[sm 2, sm 10, sm 1000] w fun e w' => e = .returned (sm 24) ∧ Below w.heap.size w w' := by
  have := pow_any 2 10 1000 (by omega) (by decide) (by omega) (by decide) (by omega) (by decide) w
  rw [show md (2 ^ (10 : Int).toNat) 1000 = 24 by decide, nv_sm 2 (by omega) (by omega), nv_sm 10 (by omega) (by omega), nv_sm 1000 (by omega) (by omega), nv_sm 24 (by omega) (by omega)] at this
  exact this
attribute [local go_sem] eq24
set_option maxHeartbeats 4000000 in
theorem awake_any (w : World) : Calls Try.prog 35 #[] w fun e w' => e = .returned (.bool true) ∧ Below w.heap.size w w' := by
  go_enter Try.func35, Try.ntmps35
  go_wp2_with fail
  refine (n39 _ _).mono ?_
  rintro e wa ⟨rfl, ha⟩
  go_wp2_with fail
  refine (n39 _ _).mono ?_
  rintro e wb ⟨rfl, hb⟩
  go_wp2_with fail
  refine (ex_inv29 _).mono ?_
  rintro e w1 ⟨rfl, h1⟩
  have hB1 := Bel.call (Bel.call ha hb) h1
  clear ha hb h1
  go_wp2_with fail
  refine (n39 _ _).mono ?_
  rintro e wc ⟨rfl, hc⟩
  have A2 := (Arr.mk4 (f := fun j => .int .u64 (if j = 0 then 5 else 0)) (b := w1.heap.size) (by simp [go_sem]) (by simp [go_sem]) (by simp [go_sem]) (by simp [go_sem]) (by simp [go_sem]) (by simp [go_sem]) (by simp [go_sem]) (by simp [go_sem]) ).below hc (by go_size)
  have hBc := Bel.call (Bel.al hB1 _) hc
  clear hc hB1
  go_wp2_with fail
  refine (n39 _ _).mono ?_
  rintro e wd ⟨rfl, hd⟩
  have A2' := A2.below hd A2.lt
  have hBd := Bel.call hBc hd
  clear hd hBc A2
  go_wp2_with fail
  refine (ex_inv39 _).mono ?_
  rintro e w2 ⟨rfl, h2⟩
  have A2 := A2'.below h2 A2'.lt
  have hB2 := Bel.call hBd h2
  clear h2 hBd A2'
  go_wp2_with fail
  have A3 := A2.alloc A2.lt (.cells #[.int .u64 0, .int .u64 0, .int .u64 0, .int .u64 0] 24)
  have n0 := fun ds os => cell_regrown (A3.c 0 (by omega)) ds os
  have n1 := fun ds os => cell_regrown (A3.c 1 (by omega)) ds os
  have n2 := fun ds os => cell_regrown (A3.c 2 (by omega)) ds os
  have n3 := fun ds os => cell_regrown (A3.c 3 (by omega)) ds os
  simp only [if_true, Nat.one_ne_zero, if_false] at n0 n1 n2 n3
  refine wp_region_quiet_below (by kernel_rfl) (by kernel_rfl) ?_
  repeat (go_big_quiet_step (first | (go_at_call 67; exact Calls.regrown_of (n39 _ _)) | (go_at_call 33; exact Calls.regrown_of (ex_mul _)) | (go_at_call 31; exact Calls.regrown_of (ex_sub _)) | (go_at_call 38; exact Calls.regrown_of (ex_pow _))))
  refine wpQuiet_nil ?_
  intro _ hw'
  obtain ⟨⟨dq, osq⟩, hw''⟩ := hw'
  subst hw''
  clear n0 n1 n2 n3
  go_wp2
  go_ret
  exact ⟨rfl, Bel.call (Bel.al hB2 _) (below_regrown _ _ _)⟩
end Go.Proofs.Ytpigofooblmdhaa
set_option linter.all false
set_option maxRecDepth 100000
namespace Go.Proofs.Ytpigofooblmdhaa
open Go.ChangeShapes Go.WideShapes Go.ChangeAt Go.RowKit Go.Sort
open Go.Sort (grow)
open Go.ChangeMaps (open_string shut_string)
section
attribute [local go_sem] eq24
set_option maxHeartbeats 8000000 in
theorem powers_core (A E M V : Int) (w : World)
    (CI : ∀ W, Calls Try.prog 36 #[nv A, nv M] W fun e w' => (∃ x ok, IV A M x ok ∧ e = .returned (.tuple #[nv x, .bool ok])) ∧ Below W.heap.size W w')
    (CJ : ∀ W, Calls Try.prog 37 #[nv A, nv M] W fun e w' => (∃ x ok, IV A M x ok ∧ e = .returned (.tuple #[nv x, .bool ok])) ∧ Below W.heap.size W w')
    (CP : ∀ W, Calls Try.prog 38 #[nv A, nv E, nv M] W fun e w' => e = .returned (nv V) ∧ Below W.heap.size W w')
    (CQ : ∀ W, Calls Try.prog 39 #[nv A, nv E, nv M] W fun e w' => e = .returned (nv V) ∧ Below W.heap.size W w') :
    Calls Try.prog 5 #[nv A, nv E, nv M] w fun e w' => e = .returned (.bool true) ∧ Below w.heap.size w w' := by
  go_enter Try.func5, Try.ntmps5
  have Ba := Arr.mk4 (w := (((w.alloc (.cells #[.int .u64 (lim (A) 0), .int .u64 (lim (A) 1), .int .u64 (lim (A) 2), .int .u64 (lim (A) 3)] 24)).alloc (.cells #[.int .u64 (lim (E) 0), .int .u64 (lim (E) 1), .int .u64 (lim (E) 2), .int .u64 (lim (E) 3)] 24)).alloc (.cells #[.int .u64 (lim (M) 0), .int .u64 (lim (M) 1), .int .u64 (lim (M) 2), .int .u64 (lim (M) 3)] 24))) (f := fun j => .int .u64 (lim (A) j)) (b := w.heap.size) (by simp [go_sem]) (by simp [go_sem]) (by simp [go_sem]) (by simp [go_sem]) (by simp [go_sem]) (by simp [go_sem]) (by simp [go_sem]) (by simp [go_sem])
  have Be := Arr.mk4 (w := (((w.alloc (.cells #[.int .u64 (lim (A) 0), .int .u64 (lim (A) 1), .int .u64 (lim (A) 2), .int .u64 (lim (A) 3)] 24)).alloc (.cells #[.int .u64 (lim (E) 0), .int .u64 (lim (E) 1), .int .u64 (lim (E) 2), .int .u64 (lim (E) 3)] 24)).alloc (.cells #[.int .u64 (lim (M) 0), .int .u64 (lim (M) 1), .int .u64 (lim (M) 2), .int .u64 (lim (M) 3)] 24))) (f := fun j => .int .u64 (lim (E) j)) (b := w.heap.size + 1) (by simp [go_sem]) (by simp [go_sem]) (by simp [go_sem]) (by simp [go_sem]) (by simp [go_sem]) (by simp [go_sem]) (by simp [go_sem]) (by simp [go_sem])
  have Bm := Arr.mk4 (w := (((w.alloc (.cells #[.int .u64 (lim (A) 0), .int .u64 (lim (A) 1), .int .u64 (lim (A) 2), .int .u64 (lim (A) 3)] 24)).alloc (.cells #[.int .u64 (lim (E) 0), .int .u64 (lim (E) 1), .int .u64 (lim (E) 2), .int .u64 (lim (E) 3)] 24)).alloc (.cells #[.int .u64 (lim (M) 0), .int .u64 (lim (M) 1), .int .u64 (lim (M) 2), .int .u64 (lim (M) 3)] 24))) (f := fun j => .int .u64 (lim (M) j)) (b := w.heap.size + 1 + 1) (by simp [go_sem]) (by simp [go_sem]) (by simp [go_sem]) (by simp [go_sem]) (by simp [go_sem]) (by simp [go_sem]) (by simp [go_sem]) (by simp [go_sem])
  have hB' : Below w.heap.size w (((w.alloc (.cells #[.int .u64 (lim (A) 0), .int .u64 (lim (A) 1), .int .u64 (lim (A) 2), .int .u64 (lim (A) 3)] 24)).alloc (.cells #[.int .u64 (lim (E) 0), .int .u64 (lim (E) 1), .int .u64 (lim (E) 2), .int .u64 (lim (E) 3)] 24)).alloc (.cells #[.int .u64 (lim (M) 0), .int .u64 (lim (M) 1), .int .u64 (lim (M) 2), .int .u64 (lim (M) 3)] 24)) := by go_grown
  have Aa := Ba
  have Ae := Be
  have Am := Bm
  have hB := hB'
  clear Ba Be Bm hB'
  go_wp2_with fail
  refine (CI _).mono ?_
  rintro e w1 ⟨⟨x, ok, hI, rfl⟩, hb⟩
  have Ba := Arr.to' Aa hb
  have Be := Arr.to' Ae hb
  have Bm := Arr.to' Am hb
  have hB' := Bel.call hB hb
  clear hb Aa Ae Am hB CI
  have Aa := Ba
  have Ae := Be
  have Am := Bm
  have hB := hB'
  clear Ba Be Bm hB'
  have ca := Aa.c
  have cm := Am.c
  have h01' := hB.size
  have ca1 := ca
  have cm1 := cm
  clear ca cm
  have la_2 := Aa.lt
  have le_2 := Ae.lt
  have lm_2 := Am.lt
  have lB_2 := hB.size
  have Ba := (Arr.al' Aa (.cells #[.int .u64 (lim (x) 0), .int .u64 (lim (x) 1), .int .u64 (lim (x) 2), .int .u64 (lim (x) 3)] 24))
  have Be := (Arr.al' Ae (.cells #[.int .u64 (lim (x) 0), .int .u64 (lim (x) 1), .int .u64 (lim (x) 2), .int .u64 (lim (x) 3)] 24))
  have Bm := (Arr.al' Am (.cells #[.int .u64 (lim (x) 0), .int .u64 (lim (x) 1), .int .u64 (lim (x) 2), .int .u64 (lim (x) 3)] 24))
  have Bx := Arr.mk4 (w := (w1.alloc (.cells #[.int .u64 (lim (x) 0), .int .u64 (lim (x) 1), .int .u64 (lim (x) 2), .int .u64 (lim (x) 3)] 24))) (f := fun j => .int .u64 (lim (x) j)) (b := w1.heap.size) (by simp [go_sem]) (by simp [go_sem]) (by simp [go_sem]) (by simp [go_sem]) (by simp [go_sem]) (by simp [go_sem]) (by simp [go_sem]) (by simp [go_sem])
  have hB' := (Bel.al hB (.cells #[.int .u64 (lim (x) 0), .int .u64 (lim (x) 1), .int .u64 (lim (x) 2), .int .u64 (lim (x) 3)] 24))
  clear Aa Ae Am hB
  have Aa := Ba
  have Ae := Be
  have Am := Bm
  have Ax := Bx
  have hB := hB'
  clear Ba Be Bm Bx hB'
  have ca := Aa.c
  have cm := Am.c
  go_wp2_with fail
  refine (CJ _).mono ?_
  rintro e w12 ⟨⟨y, is, hJ, rfl⟩, hb⟩
  have Ba := Arr.to' Aa hb
  have Be := Arr.to' Ae hb
  have Bm := Arr.to' Am hb
  have Bx := Arr.to' Ax hb
  have hB' := Bel.call hB hb
  clear hb ca1 cm1 ca cm Aa Ae Am Ax hB CJ
  have Aa := Ba
  have Ae := Be
  have Am := Bm
  have Ax := Bx
  have hB := hB'
  clear Ba Be Bm Bx hB'
  obtain ⟨rfl, rfl⟩ := IV.uniq hI hJ
  clear hI hJ
  have h12' := hB.size
  cases ok
  all_goals (
    have la_3 := Aa.lt
    have le_3 := Ae.lt
    have lm_3 := Am.lt
    have lx_3 := Ax.lt
    have lB_3 := hB.size
    have Ba := (Arr.al' Aa (.cells #[.int .u64 (lim (x) 0), .int .u64 (lim (x) 1), .int .u64 (lim (x) 2), .int .u64 (lim (x) 3)] 24))
    have Be := (Arr.al' Ae (.cells #[.int .u64 (lim (x) 0), .int .u64 (lim (x) 1), .int .u64 (lim (x) 2), .int .u64 (lim (x) 3)] 24))
    have Bm := (Arr.al' Am (.cells #[.int .u64 (lim (x) 0), .int .u64 (lim (x) 1), .int .u64 (lim (x) 2), .int .u64 (lim (x) 3)] 24))
    have Bx := (Arr.al' Ax (.cells #[.int .u64 (lim (x) 0), .int .u64 (lim (x) 1), .int .u64 (lim (x) 2), .int .u64 (lim (x) 3)] 24))
    have By := Arr.mk4 (w := (w12.alloc (.cells #[.int .u64 (lim (x) 0), .int .u64 (lim (x) 1), .int .u64 (lim (x) 2), .int .u64 (lim (x) 3)] 24))) (f := fun j => .int .u64 (lim (x) j)) (b := w12.heap.size) (by simp [go_sem]) (by simp [go_sem]) (by simp [go_sem]) (by simp [go_sem]) (by simp [go_sem]) (by simp [go_sem]) (by simp [go_sem]) (by simp [go_sem])
    have hB' := (Bel.al hB (.cells #[.int .u64 (lim (x) 0), .int .u64 (lim (x) 1), .int .u64 (lim (x) 2), .int .u64 (lim (x) 3)] 24))
    clear Aa Ae Am Ax hB
    have Aa := Ba
    have Ae := Be
    have Am := Bm
    have Ax := Bx
    have Ay := By
    have hB := hB'
    clear Ba Be Bm Bx By hB'
    have ra0 := fun ds os => cell_regrown (Aa.c 0 (by omega)) ds os
    have ra1 := fun ds os => cell_regrown (Aa.c 1 (by omega)) ds os
    have ra2 := fun ds os => cell_regrown (Aa.c 2 (by omega)) ds os
    have ra3 := fun ds os => cell_regrown (Aa.c 3 (by omega)) ds os
    have re0 := fun ds os => cell_regrown (Ae.c 0 (by omega)) ds os
    have re1 := fun ds os => cell_regrown (Ae.c 1 (by omega)) ds os
    have re2 := fun ds os => cell_regrown (Ae.c 2 (by omega)) ds os
    have re3 := fun ds os => cell_regrown (Ae.c 3 (by omega)) ds os
    have rm0 := fun ds os => cell_regrown (Am.c 0 (by omega)) ds os
    have rm1 := fun ds os => cell_regrown (Am.c 1 (by omega)) ds os
    have rm2 := fun ds os => cell_regrown (Am.c 2 (by omega)) ds os
    have rm3 := fun ds os => cell_regrown (Am.c 3 (by omega)) ds os
    have rx0 := fun ds os => cell_regrown (Ax.c 0 (by omega)) ds os
    have rx1 := fun ds os => cell_regrown (Ax.c 1 (by omega)) ds os
    have rx2 := fun ds os => cell_regrown (Ax.c 2 (by omega)) ds os
    have rx3 := fun ds os => cell_regrown (Ax.c 3 (by omega)) ds os
    have ry0 := fun ds os => cell_regrown (Ay.c 0 (by omega)) ds os
    have ry1 := fun ds os => cell_regrown (Ay.c 1 (by omega)) ds os
    have ry2 := fun ds os => cell_regrown (Ay.c 2 (by omega)) ds os
    have ry3 := fun ds os => cell_regrown (Ay.c 3 (by omega)) ds os
    go_wp2_with fail
    refine wp_region_quiet_below (by kernel_rfl) (by kernel_rfl) ?_
    repeat (go_big_quiet_step (first | (go_at_call 38; with_reducible exact Calls.regrown_of (CP _)) | (go_at_call 39; with_reducible exact Calls.regrown_of (CQ _)) | (go_at_call 35; with_reducible exact Calls.regrown_of (awake_any _))))
    refine wpQuiet_nil ?_
    intro w3 hw'
    obtain ⟨⟨dq, osq⟩, hw''⟩ := hw'
    have hb := below_of hw''
    clear hw''
    have Ba := Arr.to' Aa hb
    have Be := Arr.to' Ae hb
    have Bm := Arr.to' Am hb
    have Bx := Arr.to' Ax hb
    have By := Arr.to' Ay hb
    have hB' := Bel.call hB hb
    clear hb ra0 ra1 ra2 ra3 re0 re1 re2 re3 rm0 rm1 rm2 rm3 rx0 rx1 rx2 rx3 ry0 ry1 ry2 ry3 Aa Ae Am Ax Ay hB
    have Aa := Ba
    have Ae := Be
    have Am := Bm
    have Ax := Bx
    have Ay := By
    have hB := hB'
    clear Ba Be Bm Bx By hB'
    have hS := hB.size
    go_wp2
    go_ret
    exact ⟨rfl, hB⟩)
end
theorem powers_any (A E M : Int) (a0 : 0 ≤ A) (a1 : A < top256) (e0 : 0 ≤ E) (e1 : E < top256) (m0 : 0 ≤ M) (m1 : M < top256) (w : World) :
    Calls Try.prog 5 #[nv A, nv E, nv M] w fun e w' => e = .returned (.bool true) ∧ Below w.heap.size w w' :=
  powers_core A E M _ w (fun W => inv_any A M a0 a1 m0 m1 W) (fun W => refInv_any A M a0 a1 m0 m1 W) (fun W => pow_any A E M a0 a1 e0 e1 m0 m1 W) (fun W => refPow_any A E M a0 a1 e0 e1 m0 m1 W)
set_option maxRecDepth 100000 in
theorem lifted5 (os : Os) (started : os.Started) (H : Type) (enc : TypeId × Value → H) :
    ReturnsInHanded {} Try.checked os 5 .any (Rows.modPowersSpec.pre6 enc Try.prog Try.f5 Rows.modPowersRow.domain false) (Rows.modPowersSpec.post enc Try.prog Try.f5 false true false false) := by
  refine returnsInHanded_of_change (C := Try.checked) own started (by kernel_rfl) Try.func5
    (ChangeSpec.witness6 (enc := enc) (C := Try.checked) false ⟨#[], #[.agg #[.int .u64 0, .int .u64 0, .int .u64 0, .int .u64 0], .agg #[.int .u64 0, .int .u64 0, .int .u64 0, .int .u64 0], .agg #[.int .u64 0, .int .u64 0, .int .u64 0, .int .u64 0]], []⟩ 8 (by kernel_rfl) (by kernel_rfl) (by kernel_rfl) (by kernel_rfl)) ?_
  intro W base args ds gs before hval0 hW hcnd _
  have hval : ∀ (j : Nat) t v, Try.f5.params[j]? = some t → args[j]? = some v → Value.okWide Try.prog W .any base t v := hval0
  have hW' := hW
  obtain ⟨p, q, hA0, hV, rfl, hfz, hnd⟩ := hW
  have hA : DataW.TrodAll enc Try.prog W 0 (fun _ => true) true Try.f5.params.toList args.toList ds p := hA0
  rw [Try.params5] at hA hval
  obtain ⟨v0, vs0, d0, ds0, p0, q0, hargs, rfl, rfl, h0, r0⟩ := trodAll_cons hA
  obtain ⟨v1, vs1, d1, ds1, p1, q1, rfl, rfl, rfl, h1, r1⟩ := trodAll_cons r0
  obtain ⟨v2, vs2, d2, ds2, p2, q2, rfl, rfl, rfl, h2, r2⟩ := trodAll_cons r1
  obtain ⟨rfl, rfl, rfl⟩ := trodAll_nil r2
  obtain rfl : args = #[v0, v1, v2] := by cases args; simp_all
  obtain ⟨rfl, rfl⟩ := trodVars_none hV
  have k0 := h0
  have k1 := h1
  have k2 := h2
  have lt0 : ∀ x ∈ p0, x.block < W.heap.size := by obtain ⟨m, hm⟩ := k0; exact DataW.trod_lt m _ _ _ hm
  have lt1 : ∀ x ∈ p1, x.block < W.heap.size := by obtain ⟨m, hm⟩ := k1; exact DataW.trod_lt m _ _ _ hm
  have lt2 : ∀ x ∈ p2, x.block < W.heap.size := by obtain ⟨m, hm⟩ := k2; exact DataW.trod_lt m _ _ _ hm
  obtain ⟨N0, n0, n0', rfl⟩ := open24 (hval 0 24 v0 rfl rfl) h0
  obtain ⟨N1, n1, n1', rfl⟩ := open24 (hval 1 24 v1 rfl rfl) h1
  obtain ⟨N2, n2, n2', rfl⟩ := open24 (hval 2 24 v2 rfl rfl) h2
  clear hA0 hval0
  refine (powers_any N0 N1 N2 n0 n0' n1 n1' n2 n2' W).mono fun e W' ⟨he, bel⟩ => ?_
  subst he
  exact ⟨_, rfl, _, _, _, [], _, [], hW', trodAll_mk1 (shut_bool Try.underlying4 _), (trodAll_cons_mk (Below.trod laidOut (by kernel_rfl) (of_decide_eq_true (by kernel_rfl)) k0 bel lt0) (trodAll_cons_mk (Below.trod laidOut (by kernel_rfl) (of_decide_eq_true (by kernel_rfl)) k1 bel lt1) (trodAll_cons_mk (Below.trod laidOut (by kernel_rfl) (of_decide_eq_true (by kernel_rfl)) k2 bel lt2) trodAll_mk0))), rfl, bel.frame _, fun h => by cases h⟩
theorem modPowers_holds : Rows.ModPowersSaid :=
  OpenClaim.holds_of_wide 5 Try.f5 rfl rfl rfl rfl rfl rfl rfl ⟨rfl, rfl, rfl, rfl, rfl⟩ rfl rfl rfl rfl rfl (by kernel_rfl) Try.func5 (by kernel_rfl)
    (of_decide_eq_true (by kernel_rfl)) (by unfold Func.isWrapper; rw [if_neg (of_decide_eq_false (by kernel_rfl))]; exact ⟨rfl, rfl⟩)
    (fun os started H enc _ => lifted5 os started H enc)
#print axioms modPowers_holds
end Go.Proofs.Ytpigofooblmdhaa
