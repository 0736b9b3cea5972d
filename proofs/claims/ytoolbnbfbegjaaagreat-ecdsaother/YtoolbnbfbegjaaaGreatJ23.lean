/- What mod.Inv answers, for any numbers. -/
import Derived.Test.YtoolbnbfbegjaaaGreatJ22
import Derived.Test.YtoolbnbfbegjaaaGreatJ17
set_option linter.all false
namespace Go.Proofs.YtoolbnbfbegjaaaGreat
open Go.RowKit
def IV (A M x : Int) (ok : Bool) : Prop :=
  0 ≤ x ∧ (ok = true → x < M ∧ M ∣ A * x - 1) ∧ (ok = false → x = 0) ∧ (ok = true ↔ 0 < M ∧ Nat.gcd M.toNat A.toNat = 1)
attribute [local go_sem] eq24
theorem eq_one (a : Int) (h0 : 0 ≤ a) (h1 : a < top256) : (lim a 0 == 1 && (lim a 1 == 0 && (lim a 2 == 0 && lim a 3 == 0))) = decide (a = 1) := by
  by_cases c : a = 1
  · subst c; decide
  · have v := V4_lim a h0 h1
    unfold V4 at v
    rw [decide_eq_false c]
    by_cases c0 : lim a 0 = 1
    · by_cases c1 : lim a 1 = 0
      · by_cases c2 : lim a 2 = 0
        · by_cases c3 : lim a 3 = 0
          · rw [c0, c1, c2, c3] at v; omega
          · simp [c3]
        · simp [c2]
      · simp [c1]
    · simp [c0]
set_option maxHeartbeats 2000000 in
theorem inv_core (A M : Int) (T : Int → Int → Prop) (w : World)
    (D : ∀ W, Calls Tryz.prog 121 #[nv A, nv M] W fun e w' => (∃ a b, T a b ∧ e = .returned (.tuple #[nv a, nv b])) ∧ Below W.heap.size W w')
    (h : ∀ a b, T a b → 0 ≤ a ∧ a < top256) :
    Calls Tryz.prog 95 #[nv A, nv M] w fun e w' => (∃ a b, T a b ∧ e = .returned (.tuple #[nv (if a = 1 then b else 0), .bool (decide (a = 1))])) ∧ Below w.heap.size w w' := by
  go_enter Tryz.func95, Tryz.ntmps95
  go_wp2_with fail
  refine (D _).mono ?_
  rintro e w1 ⟨⟨a, b, hT, rfl⟩, hb1⟩
  obtain ⟨h0, h1⟩ := h _ _ hT
  have e1 := eq_one a h0 h1
  have A4 := (Arr.mk4 (f := fun j => .int .u64 0) (b := w.heap.size + 1 + 1) (by simp [go_sem]) (by simp [go_sem]) (by simp [go_sem]) (by simp [go_sem]) (by simp [go_sem]) (by simp [go_sem]) (by simp [go_sem]) (by simp [go_sem]) ).below hb1 (by go_size)
  have s1 : w.heap.size + 1 + 1 < w1.heap.size := by have := hb1.size; simp at this; omega
  have hB1 : Below w.heap.size w w1 := Below.trans (by go_grown) (hb1.mono (by go_size))
  have c4 : ∀ o1 o2 j, j < 4 → ((w1.alloc o1).alloc o2).cell? ⟨w.heap.size + 1 + 1, j, none⟩ = some (.int .u64 0) := fun o1 o2 j hj => ((A4.alloc (by omega) o1).alloc (by go_size) o2).c j hj
  have z4 : ∀ o1 o2 j, j < 4 → ((w1.alloc o1).alloc o2).frozen? ⟨w.heap.size + 1 + 1, j, none⟩ = false := fun o1 o2 j hj => ((A4.alloc (by omega) o1).alloc (by go_size) o2).z j hj
  clear hb1 A4 D h
  by_cases c : a = 1
  · rw [decide_eq_true c] at e1
    go_wp2_with fail
    refine bodyPost_ret (v := .tuple #[nv b, .bool true]) (by simp [results, Tryz.results95, go_sem, c4]) rfl ⟨⟨a, b, hT, by rw [if_pos c, decide_eq_true c]⟩, ?_⟩
    go_grown
  · rw [decide_eq_false c] at e1
    go_wp2_with fail
    refine bodyPost_ret (v := .tuple #[.agg #[.int .u64 0, .int .u64 0, .int .u64 0, .int .u64 0], .bool false]) (by simp [results, Tryz.results95, go_sem, c4]) rfl ⟨⟨a, b, hT, by rw [if_neg c, decide_eq_false c, nv_zero]⟩, ?_⟩
    go_grown
def DT (A M a b : Int) : Prop := 0 ≤ a ∧ a < top256 ∧ 0 ≤ b ∧ (0 < M → b < M ∧ M ∣ A * b - a ∧ a.toNat = Nat.gcd M.toNat A.toNat) ∧ (M = 0 → a = 0)
theorem divisor_any (A M : Int) (hA : 0 ≤ A) (hA' : A < top256) (hM : 0 ≤ M) (hM' : M < top256) (w : World) :
    Calls Tryz.prog 121 #[nv A, nv M] w fun e w' => (∃ a b, DT A M a b ∧ e = .returned (.tuple #[nv a, nv b])) ∧ Below w.heap.size w w' := by
  by_cases c : M = 0
  · subst c
    refine (divisor_core A 0 0 (fun l a b c d => l = false ∧ a = 0 ∧ b = 0 ∧ c = 0 ∧ d = 1) (fun _ => 0) w ?_ ⟨rfl, rfl, rfl, rfl, rfl⟩ ?_ ?_ ?_ ?_).mono ?_
    · intro W; have := below_any A 0 hA hA' (by omega) (by decide) W; rwa [md0] at this
    · rintro l a b c d ⟨_, _, _, rfl, _⟩; exact ⟨by omega, by decide⟩
    · rintro l a b c d ⟨_, _, _, rfl, _⟩ h; omega
    · rintro l a b c d W ⟨_, _, _, rfl, _⟩ h; omega
    · rintro a b d W ⟨_, _, rfl, _, _⟩
      have := msub_any 0 0 0 (by omega) (by decide) (by omega) (by decide) (by omega) (by decide) W
      rw [md0] at this
      rw [← nv_zero]
      exact this
    · rintro e w' ⟨⟨l, a, b, d, ⟨rfl, rfl, rfl, _, _⟩, rfl⟩, hb⟩
      exact ⟨⟨0, 0, ⟨by omega, by decide, by omega, fun h => by omega, fun _ => rfl⟩, rfl⟩, hb⟩
  · have M0 : 0 < M := by omega
    have rng : ∀ l a b c d, Eu A M l a b c d → 0 ≤ c ∧ c < top256 := fun l a b c d h => ⟨h.r1n, by have := h.r1r; have := h.r0m; omega⟩
    refine (divisor_core A M (A % M) (Eu A M) (fun t => (0 - t) % M) w ?_ (Eu.start A M hA M0) rng (fun l a b c d h hc => h.step hc) ?_ ?_).mono ?_
    · intro W; have := below_any A M hA hA' hM hM' W; rwa [md_pos A M0] at this
    · intro l a b c d W h hc
      have hst := h.step hc
      have le1 := hst.t1le hc
      have q0 : 0 ≤ a / c := Int.ediv_nonneg (by have := h.r1r; have := h.r1n; omega) (by omega)
      have p0 : 0 ≤ a / c * d := Int.mul_nonneg q0 h.t1n
      have b0 := h.t0n
      have d1 := h.t1le (by have := h.r1r; have := h.r1n; omega)
      have d0 := h.t1n
      have am := h.r0m
      have ca := h.r1r
      have qt : a / c < top256 := by
        have : a / c ≤ a := Int.ediv_le_self c (show (0 : Int) ≤ a by omega)
        omega
      refine next_core a b c d (a / c) (a / c / top256) (a % c) (a / c * d) (a / c * d / top256) (a / c * d + b) 0 (.int .u64 (lim (a / c * d + b) 4)) W ?_ ?_ ?_
      · intro W
        have := div_any a 0 c (by omega) (by omega) (by omega) (by decide) hc (by omega) W
        rw [nv_zero, Int.zero_mul, Int.add_zero] at this
        exact this
      · intro W; exact mul_any (a / c) d q0 qt d0 (by omega) W
      · intro W; exact add_any (a / c * d) b p0 (by omega) b0 (by have := h.t0m; omega) W
    · intro a b d W h
      have := msub_any 0 b M (by omega) (by decide) h.t0n (by have := h.t0m; omega) hM hM' W
      rw [md_pos _ M0, nv_zero] at this
      exact this
    · rintro e w' ⟨⟨l, a, b, d, hE, rfl⟩, hb⟩
      obtain ⟨f1, f2⟩ := hE.fin
      have am := hE.r0m
      have a0 := hE.r1r
      refine ⟨⟨a, _, ⟨by omega, by omega, ?_, fun _ => ⟨?_, f2, f1⟩, fun h => by omega⟩, rfl⟩, hb⟩
      · cases l
        · exact Int.emod_nonneg _ (by omega)
        · exact hE.t0n
      · cases l
        · exact Int.emod_lt_of_pos _ M0
        · exact hE.t0m
theorem inv_any (A M : Int) (hA : 0 ≤ A) (hA' : A < top256) (hM : 0 ≤ M) (hM' : M < top256) (w : World) :
    Calls Tryz.prog 95 #[nv A, nv M] w fun e w' => (∃ x ok, IV A M x ok ∧ e = .returned (.tuple #[nv x, .bool ok])) ∧ Below w.heap.size w w' := by
  refine (inv_core A M (DT A M) w (fun W => divisor_any A M hA hA' hM hM' W) (fun a b h => ⟨h.1, h.2.1⟩)).mono ?_
  rintro e w' ⟨⟨a, b, ⟨a0, a1, b0, hp, hz⟩, rfl⟩, hb⟩
  refine ⟨⟨_, _, ?_, rfl⟩, hb⟩
  by_cases c : a = 1
  · subst c
    have M0 : 0 < M := by
      rcases Int.lt_or_eq_of_le hM with h | h
      · exact h
      · have := hz h.symm; omega
    obtain ⟨p1, p2, p3⟩ := hp M0
    exact ⟨b0, fun _ => ⟨p1, p2⟩, fun h => by simp at h, ⟨fun _ => ⟨M0, by rw [← p3]; rfl⟩, fun _ => rfl⟩⟩
  · rw [if_neg c, decide_eq_false c]
    refine ⟨by omega, fun h => by simp at h, fun _ => rfl, ⟨fun h => by simp at h, fun ⟨M0, h⟩ => ?_⟩⟩
    obtain ⟨p1, p2, p3⟩ := hp M0
    rw [h] at p3
    omega
end Go.Proofs.YtoolbnbfbegjaaaGreat
