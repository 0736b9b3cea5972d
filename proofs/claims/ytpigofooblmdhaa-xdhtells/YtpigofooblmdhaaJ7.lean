/- What num.digit answers. -/
import Derived.Test.YtpigofooblmdhaaJ5
import Derived.Test.YtpigofooblmdhaaJ6
set_option linter.all false
namespace Go.Proofs.Ytpigofooblmdhaa
open Go.RowKit
attribute [local go_sem] idx24_0 idx24_1 idx24_2 idx24_3
set_option maxHeartbeats 4000000 in
theorem digit_zero (R x D : Int) (h : 9223372036854775808 ≤ lim D 3) (hg : gs R D = 0) (w : World) :
    Calls Try.prog 89 #[nv R, .int .u64 x, nv D] w fun e w' => e = .returned (.tuple #[.int .u64 0, .agg #[.int .u64 x, .int .u64 (lim R 0), .int .u64 (lim R 1), .int .u64 (lim R 2)]]) ∧ Below w.heap.size w w' := by
  have G := fun W => guess_any R D h W
  rw [hg] at G
  go_enter Try.func89, Try.ntmps89
  go_wp2_with (go_at_call 108; refine (G _).mono ?_; rintro e w1 ⟨rfl, hb1⟩)
  have A3 := (Arr.mk4 (f := fun j => .int .u64 (lim R j)) (b := w.heap.size) (by simp [go_sem]) (by simp [go_sem]) (by simp [go_sem]) (by simp [go_sem]) (by simp [go_sem]) (by simp [go_sem]) (by simp [go_sem]) (by simp [go_sem])).below hb1 (by go_size)
  have A7 := (Arr.mk4 (f := fun j => .int .u64 0) (b := w.heap.size + 1 + 1) (by simp [go_sem]) (by simp [go_sem]) (by simp [go_sem]) (by simp [go_sem]) (by simp [go_sem]) (by simp [go_sem]) (by simp [go_sem]) (by simp [go_sem])).below hb1 (by go_size)
  have c3 := A3.c
  have c7 := A7.c
  have z7 := A7.z
  clear A3 A7 G
  go_region
  go_wp2
  refine bodyPost_ret (v := .tuple #[.int .u64 0, .agg #[.int .u64 x, .int .u64 (lim R 0), .int .u64 (lim R 1), .int .u64 (lim R 2)]]) (by simp [results, Try.results89, go_sem, c7]) rfl ⟨rfl, ?_⟩
  have hB : Below w.heap.size w w1 := ((((Below.refl _ _).alloc (Nat.le_refl _) _).alloc (by simp) _).alloc (by simp; omega) _).trans (hb1.mono (by simp; omega))
  go_grown
def DL (T D q L o : Int) : Prop := L - top256 * o = T - q * D ∧ 0 ≤ L ∧ L < top256 ∧ 0 ≤ o ∧ T - q * D < D ∧ 0 ≤ q ∧ q ≤ 18446744073709551615
theorem DL.start (T D q : Int) (hT : 0 ≤ T) (h : T - q * D < D) (hq : 0 ≤ q) (hq' : q ≤ 18446744073709551615) (hD' : D < top256) : DL T D q ((T - q * D) % top256) (-((T - q * D) / top256)) := by
  unfold DL top256 at *
  generalize q * D = p at *
  omega
theorem DL.bd {T D q L o : Int} (H : DL T D q L o) (hT : 0 ≤ T) (hD : 0 ≤ D) (hD' : D < top256) : 0 ≤ o ∧ o ≤ 18446744073709551615 := by
  obtain ⟨e, l0, l1, o0, _, q0, q1⟩ := H
  have h1 : q * D ≤ 18446744073709551615 * 115792089237316195423570985008687907853269984665640564039457584007913129639935 := Int.mul_le_mul q1 (by unfold top256 at hD'; omega) hD (by omega)
  refine ⟨o0, ?_⟩
  unfold top256 at *
  generalize q * D = p at *
  omega
theorem DL.step {T D q L o L' c : Int} (H : DL T D q L o) (hT : 0 ≤ T) (hD : 0 < D) (hD' : D < top256) (ho : o ≠ 0) (e : L + D = L' + top256 * c) (l0 : 0 ≤ L') (l1 : L' < top256) (c0 : 0 ≤ c) : DL T D (q - 1) L' (o - c) ∧ 1 ≤ q ∧ 1 ≤ o ∧ c ≤ 1 := by
  obtain ⟨e1, a0, a1, o0, h, q0, q1⟩ := H
  have e2 : (q - 1) * D = q * D - D := by grind
  have hq : 1 ≤ q := by
    by_cases c1 : q = 0
    · subst c1
      unfold top256 at *; omega
    · omega
  unfold DL
  rw [e2]
  unfold top256 at *
  generalize q * D = p at *
  omega
theorem DL.done {T D q L : Int} (H : DL T D q L 0) (hD : 0 < D) : q = T / D ∧ L = T % D := by
  obtain ⟨e1, a0, a1, o0, h, q0, q1⟩ := H
  have e : T = L + D * q := by rw [Int.mul_comm] at e1; rw [Int.mul_comm]; omega
  have hL : L < D := by omega
  rw [e, Int.add_mul_ediv_left _ _ (Int.ne_of_gt hD), Int.add_mul_emod_self_left, Int.ediv_eq_zero_of_lt a0 hL, Int.emod_eq_of_lt a0 hL]
  exact ⟨by omega, rfl⟩
theorem set4 {w : World} {b : Nat} {f : Nat → Value} (h : Arr w b 4 f) (v0 v1 v2 v3 : Value) (g : Nat → Value) (g0 : g 0 = v0) (g1 : g 1 = v1) (g2 : g 2 = v2) (g3 : g 3 = v3) :
    Arr ((((w.setCell ⟨b, 0, none⟩ v0).setCell ⟨b, 1, none⟩ v1).setCell ⟨b, 2, none⟩ v2).setCell ⟨b, 3, none⟩ v3) b 4 g := by
  refine ((((h.set 0 (by omega) v0).set 1 (by omega) v1).set 2 (by omega) v2).set 3 (by omega) v3).congr ?_
  intro j hj
  have hc : j = 0 ∨ j = 1 ∨ j = 2 ∨ j = 3 := by omega
  rcases hc with hc | hc | hc | hc <;> subst hc <;> simp [g0, g1, g2, g3]
set_option maxHeartbeats 8000000 in
theorem digit_loop (R x D T : Int) (hT : T = R * 18446744073709551616 + x) (hR : 0 ≤ R) (hRD : R < D) (hD' : D < top256) (hx : 0 ≤ x) (hx' : x < 18446744073709551616) (h : 9223372036854775808 ≤ lim D 3) (hg : ¬ gs R D = 0) (w : World) :
    Calls Try.prog 89 #[nv R, .int .u64 x, nv D] w fun e w' => e = .returned (.tuple #[.int .u64 (T / D), nv (T % D)]) ∧ Below w.heap.size w w' := by
  have D0 : 0 < D := by omega
  have T0 : 0 ≤ T := by omega
  have gb := gs_bd R D h
  have ge := gs_ge R x D hR hRD hD' hx hx' h
  rw [← hT] at ge
  have G := fun W => guess_any R D h W
  have S0 := DL.start T D (gs R D) T0 ge gb.1 (by omega) hD'
  have sb := S0.bd T0 (by omega) hD'
  have Wo := fun W => without_any R x (gs R D) D hR (Int.lt_trans hRD hD') hx hx' gb.1 gb.2 (by omega) hD' W
  rw [← hT] at Wo
  have ew : IntKind.u64.wrap (-((T - gs R D * D) / top256)) = -((T - gs R D * D) / top256) := by rw [IntKind.wrap_u64]; omega
  rw [ew] at Wo
  simp only [← nv_mod (T - gs R D * D)] at Wo
  generalize (T - gs R D * D) % top256 = L0 at *
  generalize -((T - gs R D * D) / top256) = o0 at *
  generalize gs R D = g at *
  clear ew hT ge hx hx' hR
  have SS : Hid (DL T D g L0 o0) := S0
  clear S0
  go_enter Try.func89, Try.ntmps89
  go_wp2_with (first
    | (go_at_call 108; refine (G _).mono ?_; rintro e w1 ⟨rfl, hb1⟩; have A3 := (Arr.mk4 (f := fun j => .int .u64 (lim R j)) (b := w.heap.size) (by simp [go_sem]) (by simp [go_sem]) (by simp [go_sem]) (by simp [go_sem]) (by simp [go_sem]) (by simp [go_sem]) (by simp [go_sem]) (by simp [go_sem]) ).below hb1 (by go_size); have A5 := (Arr.mk4 (f := fun j => .int .u64 (lim D j)) (b := w.heap.size + 1) (by simp [go_sem]) (by simp [go_sem]) (by simp [go_sem]) (by simp [go_sem]) (by simp [go_sem]) (by simp [go_sem]) (by simp [go_sem]) (by simp [go_sem]) ).below hb1 (by go_size); have A7 := (Arr.mk4 (f := fun j => .int .u64 0) (b := w.heap.size + 1 + 1) (by simp [go_sem]) (by simp [go_sem]) (by simp [go_sem]) (by simp [go_sem]) (by simp [go_sem]) (by simp [go_sem]) (by simp [go_sem]) (by simp [go_sem]) ).below hb1 (by go_size); have c3 := A3.c; have c5 := A5.c)
    | (go_at_call 109; refine (Wo _).mono ?_; rintro e w2 ⟨rfl, hb2⟩))
  have hB1 : Below w.heap.size w w1 := ((((Below.refl _ _).alloc (Nat.le_refl _) _).alloc (by simp) _).alloc (by simp; omega) _).trans (hb1.mono (by simp; omega))
  have hB2 : Below w.heap.size w w2 := hB1.trans (hb2.mono hB1.size)
  have s1 : w.heap.size + 1 + 1 < w1.heap.size := by have := hb1.size; simp at this; omega
  have s2 : w1.heap.size ≤ w2.heap.size := hb2.size
  have B5 := A5.below hb2 (by omega)
  have B7 := A7.below hb2 (by omega)
  clear c3 c5 A3 A5 A7 hb1 hb2 G Wo
  go_loopw [8, 10] (fun a b wr => ∃ q o L, a = .int .u64 q ∧ b = .int .u64 o ∧ Hid (DL T D q L o) ∧ Below w.heap.size w wr ∧ w2.heap.size < wr.heap.size ∧
      Arr wr (w.heap.size + 1) 4 (fun j => .int .u64 (lim D j)) ∧ Arr wr (w.heap.size + 1 + 1) 4 (fun _ => .int .u64 0) ∧ Arr wr w2.heap.size 4 (fun j => .int .u64 (lim L j)))
    (fun a _ _ => (intOf a).toNat)
  case atStart =>
    exact ⟨g, o0, L0, rfl, rfl, SS, hB2.alloc hB2.size _, by simp, B5.alloc (by omega) _, B7.alloc (by omega) _, Arr.mk4 (by simp [go_sem]) (by simp [go_sem]) (by simp [go_sem]) (by simp [go_sem]) (by simp [go_sem]) (by simp [go_sem]) (by simp [go_sem]) (by simp [go_sem]) ⟩
  case round =>
    obtain ⟨q, o, L, rfl, rfl, H, hB, hz, C5, C7, C9⟩ := hrel
    have ob := H.out.bd T0 (by omega) hD'
    have q0 : 0 ≤ q := H.out.2.2.2.2.2.1
    have q1 : q ≤ 18446744073709551615 := H.out.2.2.2.2.2.2
    have c9 := C9.c
    have c5 := C5.c
    have c7 := C7.c
    have z7 := C7.z
    by_cases ho : o = 0
    · subst ho
      obtain ⟨e1, e2⟩ := H.out.done D0
      subst e1 e2
      go_wp2
      go_region
      go_wp2
      refine bodyPost_ret (v := .tuple #[.int .u64 (T / D), nv (T % D)]) (by simp [results, Try.results89, go_sem, c7]) rfl ⟨rfl, ?_⟩
      go_grown
    · have A := fun W => add_any L D H.out.2.1 H.out.2.2.1 (by omega) hD' W
      have ec : L + D = (L + D) % top256 + top256 * lim (L + D) 4 := by
        have a := H.out.2.1
        have b := H.out.2.2.1
        rw [lim4]; unfold top256 at *; omega
      have cn := lim_nn (L + D) 4
      have l0 : 0 ≤ (L + D) % top256 := by unfold top256; omega
      have l1 : (L + D) % top256 < top256 := by unfold top256; omega
      simp only [← nv_mod (L + D)] at A
      have ST := H.out.step T0 D0 hD' ho ec l0 l1 cn
      generalize (L + D) % top256 = L' at *
      generalize lim (L + D) 4 = c at *
      obtain ⟨H', g1, g2, g3⟩ := ST
      have HH : Hid (DL T D (q - 1) L' (o - c)) := H'
      clear H' ec
      go_wp2_with (go_at_call 56; refine (A _).mono ?_; rintro e w3 ⟨rfl, hb3⟩; have C9' := C9.below hb3 hz; have c9' := C9'.c; have z9' := C9'.z)
      have hz3 := hb3.size
      refine ⟨⟨q - 1, o - c, L', rfl, rfl, HH, ?_, ?_, ?_, ?_, ?_⟩, by simp [intOf]; omega⟩
      · have := hB2.size
        exact ((((hB.trans (hb3.mono hB.size)).setCell this _).setCell this _).setCell this _).setCell this _
      · simp only [size_set]; omega
      · exact ((((C5.below hb3 (by omega)).other (by omega) _).other (by omega) _).other (by omega) _).other (by omega) _
      · exact ((((C7.below hb3 (by omega)).other (by omega) _).other (by omega) _).other (by omega) _).other (by omega) _
      · exact set4 C9' _ _ _ _ _ rfl rfl rfl rfl
theorem digit_any (R x D : Int) (hR : 0 ≤ R) (hRD : R < D) (hD' : D < top256) (hx : 0 ≤ x) (hx' : x < 18446744073709551616) (h : 9223372036854775808 ≤ lim D 3) (w : World) :
    Calls Try.prog 89 #[nv R, .int .u64 x, nv D] w fun e w' => e = .returned (.tuple #[.int .u64 ((R * 18446744073709551616 + x) / D), nv ((R * 18446744073709551616 + x) % D)]) ∧ Below w.heap.size w w' := by
  by_cases hg : gs R D = 0
  · have ge := gs_ge R x D hR hRD hD' hx hx' h
    rw [hg, Int.zero_mul] at ge
    have e1 : (R * 18446744073709551616 + x) / D = 0 := Int.ediv_eq_zero_of_lt (by omega) (by omega)
    have e2 : (R * 18446744073709551616 + x) % D = R * 18446744073709551616 + x := Int.emod_eq_of_lt (by omega) (by omega)
    have hT : R * 18446744073709551616 + x < top256 := by omega
    have vR := V4_lim R hR (Int.lt_trans hRD hD')
    have hN : R * 18446744073709551616 + x = V4 x (lim R 0) (lim R 1) (lim R 2) + 115792089237316195423570985008687907853269984665640564039457584007913129639936 * lim R 3 := by
      unfold V4 at vR ⊢; omega
    obtain ⟨k0, k1, k2, k3⟩ := lims_of hx hx' (lim_nn _ _) (lim_lt _ _) (lim_nn _ _) (lim_lt _ _) (lim_nn _ _) (lim_lt _ _) hN
    rw [e1, e2]
    simp only [nv, k0, k1, k2, k3]
    exact digit_zero R x D h hg w
  · exact digit_loop R x D _ rfl hR hRD hD' hx hx' h hg w
end Go.Proofs.Ytpigofooblmdhaa
