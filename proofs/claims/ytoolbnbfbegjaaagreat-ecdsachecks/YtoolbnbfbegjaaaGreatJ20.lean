/- What the reference's Add, Sub and Pow of layer 2 answer, for any numbers. -/
import Derived.Test.YtoolbnbfbegjaaaGreatJ19
set_option linter.all false
set_option maxRecDepth 100000
namespace Go.Proofs.YtoolbnbfbegjaaaGreat
open Go.RowKit Go.Sort
theorem Arr.lt {w : World} {b n : Nat} {f : Nat → Value} (h : Arr w b (n + 1) f) : b < w.heap.size := block_lt_of_cell (h 0 (by omega)).1
theorem Arr.to' {w w' : World} {b n : Nat} {f : Nat → Value} (h : Arr w b (n + 1) f) (hb : Below w.heap.size w w') : Arr w' b (n + 1) f := h.below hb h.lt
theorem Arr.al' {w : World} {b n : Nat} {f : Nat → Value} (h : Arr w b (n + 1) f) (o : Obj) : Arr (w.alloc o) b (n + 1) f := h.alloc h.lt o
set_option maxHeartbeats 2000000 in
theorem ref2Add_core (A B M S c R : Int) (w : World)
    (C1 : ∀ W, Calls Tryz.prog 20 #[nv A, nv B] W fun e w' => e = .returned (.tuple #[nv S, .int .u64 c]) ∧ Below W.heap.size W w')
    (D : ∀ W, Calls Tryz.prog 18 #[nv S, .agg #[.int .u64 c, .int .u64 0, .int .u64 0, .int .u64 0], nv M] W fun e w' => e = .returned (nv R) ∧ Below W.heap.size W w') :
    Calls Tryz.prog 23 #[nv A, nv B, nv M] w fun e w' => e = .returned (nv R) ∧ Below w.heap.size w w' := by
  go_enter Tryz.func23, Tryz.ntmps23
  go_wp2_with fail
  refine (C1 _).mono ?_
  rintro e w1 ⟨rfl, hb⟩
  have Am := (Arr.mk4 (f := fun j => .int .u64 (lim (M) j)) (b := w.heap.size + 1 + 1) (by simp [go_sem]) (by simp [go_sem]) (by simp [go_sem]) (by simp [go_sem]) (by simp [go_sem]) (by simp [go_sem]) (by simp [go_sem]) (by simp [go_sem])).below hb (by go_size)
  have Az := (Arr.mk4 (f := fun _ => .int .u64 0) (b := w.heap.size + 1 + 1 + 1) (by simp [go_sem]) (by simp [go_sem]) (by simp [go_sem]) (by simp [go_sem]) (by simp [go_sem]) (by simp [go_sem]) (by simp [go_sem]) (by simp [go_sem])).below hb (by go_size)
  have hB : Below w.heap.size w w1 := Below.trans (by go_grown) (hb.mono (by go_size))
  clear hb C1
  have cm_1 := fun o0 => ((Arr.al' Am o0)).c
  have cz_1 := fun o0 => ((Arr.al' Az o0)).c
  go_wp2_with fail
  refine (D _).mono ?_
  rintro e w2 ⟨rfl, hb⟩
  replace Az := Arr.to' (Arr.al' Az _) hb
  replace hB := Bel.call (Bel.al hB _) hb
  clear hb cm_1 cz_1 Am D
  have cz_0 := (Az).c
  have zz_0 := (Az).z
  have hS := hB.size
  go_wp2_with fail
  refine bodyPost_ret (v := nv R) (by simp [results, Tryz.results23, go_sem, cz_0]) rfl ⟨rfl, ?_⟩
  go_grown
set_option maxHeartbeats 2000000 in
theorem ref2Sub_ge (A B M X Y D : Int) (w : World)
    (C1 : ∀ W, Calls Tryz.prog 18 #[nv A, .agg #[.int .u64 0, .int .u64 0, .int .u64 0, .int .u64 0], nv M] W fun e w' => e = .returned (nv X) ∧ Below W.heap.size W w')
    (C2 : ∀ W, Calls Tryz.prog 18 #[nv B, .agg #[.int .u64 0, .int .u64 0, .int .u64 0, .int .u64 0], nv M] W fun e w' => e = .returned (nv Y) ∧ Below W.heap.size W w')
    (C3 : ∀ W, Calls Tryz.prog 49 #[nv X, nv Y] W fun e w' => e = .returned (.tuple #[nv D, .int .u64 0]) ∧ Below W.heap.size W w') :
    Calls Tryz.prog 25 #[nv A, nv B, nv M] w fun e w' => e = .returned (nv D) ∧ Below w.heap.size w w' := by
  go_enter Tryz.func25, Tryz.ntmps25
  go_wp2_with fail
  refine (C1 _).mono ?_
  rintro e w1 ⟨rfl, hb⟩
  have Ab := (Arr.mk4 (f := fun j => .int .u64 (lim (B) j)) (b := w.heap.size + 1) (by simp [go_sem]) (by simp [go_sem]) (by simp [go_sem]) (by simp [go_sem]) (by simp [go_sem]) (by simp [go_sem]) (by simp [go_sem]) (by simp [go_sem])).below hb (by go_size)
  have Am := (Arr.mk4 (f := fun j => .int .u64 (lim (M) j)) (b := w.heap.size + 1 + 1) (by simp [go_sem]) (by simp [go_sem]) (by simp [go_sem]) (by simp [go_sem]) (by simp [go_sem]) (by simp [go_sem]) (by simp [go_sem]) (by simp [go_sem])).below hb (by go_size)
  have Az := (Arr.mk4 (f := fun _ => .int .u64 0) (b := w.heap.size + 1 + 1 + 1) (by simp [go_sem]) (by simp [go_sem]) (by simp [go_sem]) (by simp [go_sem]) (by simp [go_sem]) (by simp [go_sem]) (by simp [go_sem]) (by simp [go_sem])).below hb (by go_size)
  have hB : Below w.heap.size w w1 := Below.trans (by go_grown) (hb.mono (by go_size))
  clear hb C1
  have cb_1 := fun o0 => ((Arr.al' Ab o0)).c
  have cm_1 := fun o0 => ((Arr.al' Am o0)).c
  go_wp2_with fail
  refine (C2 _).mono ?_
  rintro e w2 ⟨rfl, hb⟩
  have Ax := (Arr.mk4 (f := fun j => .int .u64 (lim (X) j)) (b := w1.heap.size) (by simp [go_sem]) (by simp [go_sem]) (by simp [go_sem]) (by simp [go_sem]) (by simp [go_sem]) (by simp [go_sem]) (by simp [go_sem]) (by simp [go_sem])).below hb (by go_size)
  replace Am := Arr.to' (Arr.al' Am _) hb
  replace Az := Arr.to' (Arr.al' Az _) hb
  replace hB := Bel.call (Bel.al hB _) hb
  clear hb cb_1 cm_1 Ab C2
  have cx_1 := fun o0 => ((Arr.al' Ax o0)).c
  go_wp2_with fail
  refine (C3 _).mono ?_
  rintro e w3 ⟨rfl, hb⟩
  replace Am := Arr.to' (Arr.al' Am _) hb
  replace Az := Arr.to' (Arr.al' Az _) hb
  replace hB := Bel.call (Bel.al hB _) hb
  clear hb cx_1 Ax C3
  have cz_1 := fun o0 => ((Arr.al' Az o0)).c
  have zz_1 := fun o0 => ((Arr.al' Az o0)).z
  have hS := hB.size
  go_wp2_with fail
  refine bodyPost_ret (v := nv D) (by simp [results, Tryz.results25, go_sem, cz_1]) rfl ⟨rfl, ?_⟩
  go_grown
set_option maxHeartbeats 2000000 in
theorem ref2Sub_lt (A B M X Y D R no : Int) (w : World)
    (C1 : ∀ W, Calls Tryz.prog 18 #[nv A, .agg #[.int .u64 0, .int .u64 0, .int .u64 0, .int .u64 0], nv M] W fun e w' => e = .returned (nv X) ∧ Below W.heap.size W w')
    (C2 : ∀ W, Calls Tryz.prog 18 #[nv B, .agg #[.int .u64 0, .int .u64 0, .int .u64 0, .int .u64 0], nv M] W fun e w' => e = .returned (nv Y) ∧ Below W.heap.size W w')
    (C3 : ∀ W, Calls Tryz.prog 49 #[nv X, nv Y] W fun e w' => e = .returned (.tuple #[nv D, .int .u64 1]) ∧ Below W.heap.size W w')
    (C4 : ∀ W, Calls Tryz.prog 20 #[nv D, nv M] W fun e w' => e = .returned (.tuple #[nv R, .int .u64 no]) ∧ Below W.heap.size W w') :
    Calls Tryz.prog 25 #[nv A, nv B, nv M] w fun e w' => e = .returned (nv R) ∧ Below w.heap.size w w' := by
  go_enter Tryz.func25, Tryz.ntmps25
  go_wp2_with fail
  refine (C1 _).mono ?_
  rintro e w1 ⟨rfl, hb⟩
  have Ab := (Arr.mk4 (f := fun j => .int .u64 (lim (B) j)) (b := w.heap.size + 1) (by simp [go_sem]) (by simp [go_sem]) (by simp [go_sem]) (by simp [go_sem]) (by simp [go_sem]) (by simp [go_sem]) (by simp [go_sem]) (by simp [go_sem])).below hb (by go_size)
  have Am := (Arr.mk4 (f := fun j => .int .u64 (lim (M) j)) (b := w.heap.size + 1 + 1) (by simp [go_sem]) (by simp [go_sem]) (by simp [go_sem]) (by simp [go_sem]) (by simp [go_sem]) (by simp [go_sem]) (by simp [go_sem]) (by simp [go_sem])).below hb (by go_size)
  have Az := (Arr.mk4 (f := fun _ => .int .u64 0) (b := w.heap.size + 1 + 1 + 1) (by simp [go_sem]) (by simp [go_sem]) (by simp [go_sem]) (by simp [go_sem]) (by simp [go_sem]) (by simp [go_sem]) (by simp [go_sem]) (by simp [go_sem])).below hb (by go_size)
  have hB : Below w.heap.size w w1 := Below.trans (by go_grown) (hb.mono (by go_size))
  clear hb C1
  have cb_1 := fun o0 => ((Arr.al' Ab o0)).c
  have cm_1 := fun o0 => ((Arr.al' Am o0)).c
  go_wp2_with fail
  refine (C2 _).mono ?_
  rintro e w2 ⟨rfl, hb⟩
  have Ax := (Arr.mk4 (f := fun j => .int .u64 (lim (X) j)) (b := w1.heap.size) (by simp [go_sem]) (by simp [go_sem]) (by simp [go_sem]) (by simp [go_sem]) (by simp [go_sem]) (by simp [go_sem]) (by simp [go_sem]) (by simp [go_sem])).below hb (by go_size)
  replace Am := Arr.to' (Arr.al' Am _) hb
  replace Az := Arr.to' (Arr.al' Az _) hb
  replace hB := Bel.call (Bel.al hB _) hb
  clear hb cb_1 cm_1 Ab C2
  have cx_1 := fun o0 => ((Arr.al' Ax o0)).c
  go_wp2_with fail
  refine (C3 _).mono ?_
  rintro e w3 ⟨rfl, hb⟩
  replace Am := Arr.to' (Arr.al' Am _) hb
  replace Az := Arr.to' (Arr.al' Az _) hb
  replace hB := Bel.call (Bel.al hB _) hb
  clear hb cx_1 Ax C3
  have cm_1 := fun o0 => ((Arr.al' Am o0)).c
  have lz := Az.lt
  go_wp2_with fail
  refine (C4 _).mono ?_
  rintro e w4 ⟨rfl, hb⟩
  have Ad := (Arr.mk4 (f := fun j => .int .u64 (lim (D) j)) (b := w3.heap.size) (by simp [go_sem]) (by simp [go_sem]) (by simp [go_sem]) (by simp [go_sem]) (by simp [go_sem]) (by simp [go_sem]) (by simp [go_sem]) (by simp [go_sem])).below hb (by go_size)
  replace Az := Arr.to' (Arr.al' Az _) hb
  replace hB := Bel.call (Bel.al hB _) hb
  clear hb cm_1 Am C4
  have cd_0 := (Ad).c
  have zd_0 := (Ad).z
  have cz_0 := (Az).c
  have zz_0 := (Az).z
  have hS := hB.size
  go_wp2_with fail
  refine bodyPost_ret (v := nv R) (by simp [results, Tryz.results25, go_sem, cz_0]) rfl ⟨rfl, ?_⟩
  go_grown
theorem nv_low (c : Int) (h0 : 0 ≤ c) (h1 : c < 18446744073709551616) : nv c = .agg #[.int .u64 c, .int .u64 0, .int .u64 0, .int .u64 0] := by
  have a0 : lim c 0 = c := by rw [lim0]; omega
  have a1 : lim c 1 = 0 := by rw [lim1]; omega
  have a2 : lim c 2 = 0 := by rw [lim2]; omega
  have a3 : lim c 3 = 0 := by rw [lim3]; omega
  simp only [nv, a0, a1, a2, a3]
theorem ref2Add_any (A B M : Int) (hA : 0 ≤ A) (hA' : A < top256) (hB : 0 ≤ B) (hB' : B < top256) (hM : 0 ≤ M) (hM' : M < top256) (w : World) :
    Calls Tryz.prog 23 #[nv A, nv B, nv M] w fun e w' => e = .returned (nv (md (A + B) M)) ∧ Below w.heap.size w w' := by
  have e := cy_four A B hA hA' hB hB'
  have c0 := cy_bd A B 4
  refine ref2Add_core A B M (A + B) (cy A B 4) _ w (fun W => refAdd_raw A B W) fun W => ?_
  have := refRem_any ((A + B) % top256) (cy A B 4) M (Int.emod_nonneg _ (by decide)) (Int.emod_lt_of_pos _ (by decide)) c0.1 (by unfold top256; omega) hM hM' W
  rw [nv_mod, nv_low _ c0.1 (by omega)] at this
  have e2 : (A + B) % top256 + cy A B 4 * top256 = A + B := by
    rw [e, lim4]; unfold top256 at *; omega
  rw [e2] at this
  exact this
theorem ref2Sub_any (A B M : Int) (hA : 0 ≤ A) (hA' : A < top256) (hB : 0 ≤ B) (hB' : B < top256) (hM : 0 ≤ M) (hM' : M < top256) (w : World) :
    Calls Tryz.prog 25 #[nv A, nv B, nv M] w fun e w' => e = .returned (nv (md (A - B) M)) ∧ Below w.heap.size w w' := by
  have x0 := md_nn A M hM
  have x1 := md_top A M hM hM'
  have y0 := md_nn B M hM
  have y1 := md_top B M hM hM'
  have R1 : ∀ N, 0 ≤ N → N < top256 → ∀ W, Calls Tryz.prog 18 #[nv N, .agg #[.int .u64 0, .int .u64 0, .int .u64 0, .int .u64 0], nv M] W fun e w' => e = .returned (nv (md N M)) ∧ Below W.heap.size W w' := fun N h0 h1 W => by
    have := refRem_any N 0 M h0 h1 (by omega) (by decide) hM hM' W
    rw [nv_zero, Int.zero_mul, Int.add_zero] at this
    exact this
  have bf := bw_four (md A M) (md B M) x0 x1 y0 y1
  by_cases c : md B M ≤ md A M
  · have e : md (A - B) M = md A M - md B M := by
      by_cases c0 : M = 0
      · subst c0; simp [md]
      · have M0 : 0 < M := by omega
        have := md_lt A M M0
        rw [md_pos _ M0] at *
        rw [md_pos _ M0] at *
        rw [md_pos _ M0, Int.sub_emod]
        exact Int.emod_eq_of_lt (by omega) (by omega)
    rw [e]
    refine ref2Sub_ge A B M (md A M) (md B M) _ w (R1 A hA hA') (R1 B hB hB') fun W => ?_
    have := refSub_raw (md A M) (md B M) W
    rw [bf] at this
    unfold bor at this
    rw [if_neg (by omega)] at this
    exact this
  · have M0 : 0 < M := by
      by_cases c0 : M = 0
      · subst c0; simp [md] at c
      · omega
    have l1 := md_lt A M M0
    have l2 := md_lt B M M0
    have e : md (A - B) M = md A M - md B M + M := by
      have h : md (A - B) M = (md A M - md B M) % M := by rw [md_pos _ M0, md_pos _ M0, md_pos _ M0, ← Int.sub_emod]
      rw [h, ← Int.add_emod_right]; exact Int.emod_eq_of_lt (by omega) (by omega)
    rw [e]
    refine ref2Sub_lt A B M (md A M) (md B M) (md A M - md B M) _ (cy (md A M - md B M) M 4) w (R1 A hA hA') (R1 B hB hB') (fun W => ?_) fun W => refAdd_raw _ _ W
    have := refSub_raw (md A M) (md B M) W
    rw [bf] at this
    unfold bor at this
    rw [if_pos (by omega)] at this
    exact this
def PW (w w1 wr : World) (A E M X : Int) : Prop :=
  Below w.heap.size w wr ∧ w1.heap.size < wr.heap.size ∧ w.heap.size + 1 + 1 + 1 < w1.heap.size ∧ Arr wr w.heap.size 4 (fun j => .int .u64 (lim A j)) ∧ Arr wr (w.heap.size + 1) 4 (fun j => .int .u64 (lim E j)) ∧ Arr wr (w.heap.size + 1 + 1) 4 (fun j => .int .u64 (lim M j)) ∧ Arr wr (w.heap.size + 1 + 1 + 1) 4 (fun _ => .int .u64 0) ∧ Arr wr w1.heap.size 4 (fun j => .int .u64 (lim X j))
theorem PW.call {w w1 wr wn : World} {A E M X : Int} (h : PW w w1 wr A E M X) (hb : Below wr.heap.size wr wn) : PW w w1 wn A E M X := by
  obtain ⟨a, b, b', c1, c2, c3, c4, c5⟩ := h
  exact ⟨a.trans (hb.mono a.size), Nat.lt_of_lt_of_le b hb.size, b', c1.below hb (by omega), c2.below hb (by omega), c3.below hb (by omega), c4.below hb (by omega), c5.below hb b⟩
abbrev st4 (w : World) (b : Nat) (X : Int) : World := (((w.setCell ⟨b, 0, none⟩ (.int .u64 (lim X 0))).setCell ⟨b, 1, none⟩ (.int .u64 (lim X 1))).setCell ⟨b, 2, none⟩ (.int .u64 (lim X 2))).setCell ⟨b, 3, none⟩ (.int .u64 (lim X 3))
theorem Arr.st4 {w : World} {b : Nat} {f : Nat → Value} (h : Arr w b 4 f) (X : Int) : Arr (st4 w b X) b 4 (fun j => .int .u64 (lim X j)) :=
  ((((h.set 0 (by omega) _).set 1 (by omega) _).set 2 (by omega) _).set 3 (by omega) _).congr (by
    intro j hj
    have h : j = 0 ∨ j = 1 ∨ j = 2 ∨ j = 3 := by omega
    rcases h with rfl | rfl | rfl | rfl <;> simp)
theorem Arr.st4o {w : World} {b b' n : Nat} {f : Nat → Value} (h : Arr w b n f) (hne : b' ≠ b) (X : Int) : Arr (Go.Proofs.YtoolbnbfbegjaaaGreat.st4 w b' X) b n f := (((h.other hne _).other hne _).other hne _).other hne _
theorem PW.put {w w1 wr : World} {A E M X : Int} (h : PW w w1 wr A E M X) (Y : Int) : PW w w1 (st4 wr w1.heap.size Y) A E M Y := by
  obtain ⟨a, b, b', c1, c2, c3, c4, c5⟩ := h
  have z : ∀ (W : World) k v, Below w.heap.size w W → Below w.heap.size w (W.setCell ⟨w1.heap.size, k, none⟩ v) := fun W k v hh => hh.setCell (by show _ ≤ w1.heap.size; omega) _
  exact ⟨z _ _ _ (z _ _ _ (z _ _ _ (z _ _ _ a))), by simp only [st4, size_set]; exact b, b', c1.st4o (by omega) _, c2.st4o (by omega) _, c3.st4o (by omega) _, c4.st4o (by omega) _, c5.st4 Y⟩
theorem bitLen_256 (E : Int) (hE : 0 ≤ E) (hE' : E < top256) : bitLen E.toNat ≤ 256 := by
  have sp := bitLen_spec E.toNat
  by_cases c : bitLen E.toNat ≤ 256
  · exact c
  · have ne : E.toNat ≠ 0 := by
      intro h
      have : bitLen E.toNat = 0 := by rw [h]; decide
      omega
    have lo := sp.2 ne
    have hp : (2 : Nat) ^ 256 ≤ 2 ^ (bitLen E.toNat - 1) := Nat.pow_le_pow_right (by omega) (by omega)
    have ht : E.toNat < 2 ^ 256 := by
      have e : (2 : Nat) ^ 256 = 115792089237316195423570985008687907853269984665640564039457584007913129639936 := by decide
      unfold top256 at hE'; omega
    omega
end Go.Proofs.YtoolbnbfbegjaaaGreat
