/- What the reference's Add, Sub and Pow of layer 2 answer, for any numbers. -/
import Derived.Test.YtpigofooblmdhaaJ24
import Derived.Test.YtpigofooblmdhaaJ26
set_option linter.all false
set_option maxRecDepth 100000
namespace Go.Proofs.Ytpigofooblmdhaa
open Go.RowKit Go.Sort
theorem Arr.to' {w w' : World} {b n : Nat} {f : Nat → Value} (h : Arr w b (n + 1) f) (hb : Below w.heap.size w w') : Arr w' b (n + 1) f := h.below hb h.lt
theorem Arr.al' {w : World} {b n : Nat} {f : Nat → Value} (h : Arr w b (n + 1) f) (o : Obj) : Arr (w.alloc o) b (n + 1) f := h.alloc h.lt o
set_option maxHeartbeats 2000000 in
theorem ref2Add_core (A B M S c R : Int) (w : World)
    (C1 : ∀ W, Calls Try.prog 47 #[nv A, nv B] W fun e w' => e = .returned (.tuple #[nv S, .int .u64 c]) ∧ Below W.heap.size W w')
    (D : ∀ W, Calls Try.prog 28 #[nv S, .agg #[.int .u64 c, .int .u64 0, .int .u64 0, .int .u64 0], nv M] W fun e w' => e = .returned (nv R) ∧ Below W.heap.size W w') :
    Calls Try.prog 30 #[nv A, nv B, nv M] w fun e w' => e = .returned (nv R) ∧ Below w.heap.size w w' := by
  go_enter Try.func30, Try.ntmps30
  go_wp2_with fail
  refine (C1 _).mono ?_
  rintro e w1 ⟨rfl, hb⟩
  have Am := (Arr.mk4 (f := fun j => .int .u64 (lim (M) j)) (b := w.heap.size + 1 + 1) (by simp [go_sem]) (by simp [go_sem]) (by simp [go_sem]) (by simp [go_sem]) (by simp [go_sem]) (by simp [go_sem]) (by simp [go_sem]) (by simp [go_sem])).below hb (by go_size)
  have Az := (Arr.mk4 (f := fun _ => .int .u64 0) (b := w.heap.size + 1 + 1 + 1) (by simp [go_sem]) (by simp [go_sem]) (by simp [go_sem]) (by simp [go_sem]) (by simp [go_sem]) (by simp [go_sem]) (by simp [go_sem]) (by simp [go_sem])).below hb (by go_size)
  have hB : Below w.heap.size w w1 := Below.trans (by go_grown) (hb.mono (by go_size))
  clear hb C1
  have cm_1 := fun o0 => ((Arr.al' Am o0)).c
  have cz_1 := fun o0 => ((Arr.al' Az o0)).c
  go_wp2_with fail
  refine (D _).mono ?_
  rintro e w2 ⟨rfl, hb⟩
  replace Az := Arr.to' (Arr.al' Az _) hb
  replace hB := Bel.call (Bel.al hB _) hb
  clear hb cm_1 cz_1 Am D
  have cz_0 := (Az).c
  have zz_0 := (Az).z
  have hS := hB.size
  go_wp2_with fail
  refine bodyPost_ret (v := nv R) (by simp [results, Try.results30, go_sem, cz_0]) rfl ⟨rfl, ?_⟩
  go_grown
set_option maxHeartbeats 2000000 in
theorem ref2Sub_ge (A B M X Y D : Int) (w : World)
    (C1 : ∀ W, Calls Try.prog 28 #[nv A, .agg #[.int .u64 0, .int .u64 0, .int .u64 0, .int .u64 0], nv M] W fun e w' => e = .returned (nv X) ∧ Below W.heap.size W w')
    (C2 : ∀ W, Calls Try.prog 28 #[nv B, .agg #[.int .u64 0, .int .u64 0, .int .u64 0, .int .u64 0], nv M] W fun e w' => e = .returned (nv Y) ∧ Below W.heap.size W w')
    (C3 : ∀ W, Calls Try.prog 65 #[nv X, nv Y] W fun e w' => e = .returned (.tuple #[nv D, .int .u64 0]) ∧ Below W.heap.size W w') :
    Calls Try.prog 32 #[nv A, nv B, nv M] w fun e w' => e = .returned (nv D) ∧ Below w.heap.size w w' := by
  go_enter Try.func32, Try.ntmps32
  go_wp2_with fail
  refine (C1 _).mono ?_
  rintro e w1 ⟨rfl, hb⟩
  have Ab := (Arr.mk4 (f := fun j => .int .u64 (lim (B) j)) (b := w.heap.size + 1) (by simp [go_sem]) (by simp [go_sem]) (by simp [go_sem]) (by simp [go_sem]) (by simp [go_sem]) (by simp [go_sem]) (by simp [go_sem]) (by simp [go_sem])).below hb (by go_size)
  have Am := (Arr.mk4 (f := fun j => .int .u64 (lim (M) j)) (b := w.heap.size + 1 + 1) (by simp [go_sem]) (by simp [go_sem]) (by simp [go_sem]) (by simp [go_sem]) (by simp [go_sem]) (by simp [go_sem]) (by simp [go_sem]) (by simp [go_sem])).below hb (by go_size)
  have Az := (Arr.mk4 (f := fun _ => .int .u64 0) (b := w.heap.size + 1 + 1 + 1) (by simp [go_sem]) (by simp [go_sem]) (by simp [go_sem]) (by simp [go_sem]) (by simp [go_sem]) (by simp [go_sem]) (by simp [go_sem]) (by simp [go_sem])).below hb (by go_size)
  have hB : Below w.heap.size w w1 := Below.trans (by go_grown) (hb.mono (by go_size))
  clear hb C1
  have cb_1 := fun o0 => ((Arr.al' Ab o0)).c
  have cm_1 := fun o0 => ((Arr.al' Am o0)).c
  go_wp2_with fail
  refine (C2 _).mono ?_
  rintro e w2 ⟨rfl, hb⟩
  have Ax := (Arr.mk4 (f := fun j => .int .u64 (lim (X) j)) (b := w1.heap.size) (by simp [go_sem]) (by simp [go_sem]) (by simp [go_sem]) (by simp [go_sem]) (by simp [go_sem]) (by simp [go_sem]) (by simp [go_sem]) (by simp [go_sem])).below hb (by go_size)
  replace Am := Arr.to' (Arr.al' Am _) hb
  replace Az := Arr.to' (Arr.al' Az _) hb
  replace hB := Bel.call (Bel.al hB _) hb
  clear hb cb_1 cm_1 Ab C2
  have cx_1 := fun o0 => ((Arr.al' Ax o0)).c
  go_wp2_with fail
  refine (C3 _).mono ?_
  rintro e w3 ⟨rfl, hb⟩
  replace Am := Arr.to' (Arr.al' Am _) hb
  replace Az := Arr.to' (Arr.al' Az _) hb
  replace hB := Bel.call (Bel.al hB _) hb
  clear hb cx_1 Ax C3
  have cz_1 := fun o0 => ((Arr.al' Az o0)).c
  have zz_1 := fun o0 => ((Arr.al' Az o0)).z
  have hS := hB.size
  go_wp2_with fail
  refine bodyPost_ret (v := nv D) (by simp [results, Try.results32, go_sem, cz_1]) rfl ⟨rfl, ?_⟩
  go_grown
set_option maxHeartbeats 2000000 in
theorem ref2Sub_lt (A B M X Y D R no : Int) (w : World)
    (C1 : ∀ W, Calls Try.prog 28 #[nv A, .agg #[.int .u64 0, .int .u64 0, .int .u64 0, .int .u64 0], nv M] W fun e w' => e = .returned (nv X) ∧ Below W.heap.size W w')
    (C2 : ∀ W, Calls Try.prog 28 #[nv B, .agg #[.int .u64 0, .int .u64 0, .int .u64 0, .int .u64 0], nv M] W fun e w' => e = .returned (nv Y) ∧ Below W.heap.size W w')
    (C3 : ∀ W, Calls Try.prog 65 #[nv X, nv Y] W fun e w' => e = .returned (.tuple #[nv D, .int .u64 1]) ∧ Below W.heap.size W w')
    (C4 : ∀ W, Calls Try.prog 47 #[nv D, nv M] W fun e w' => e = .returned (.tuple #[nv R, .int .u64 no]) ∧ Below W.heap.size W w') :
    Calls Try.prog 32 #[nv A, nv B, nv M] w fun e w' => e = .returned (nv R) ∧ Below w.heap.size w w' := by
  go_enter Try.func32, Try.ntmps32
  go_wp2_with fail
  refine (C1 _).mono ?_
  rintro e w1 ⟨rfl, hb⟩
  have Ab := (Arr.mk4 (f := fun j => .int .u64 (lim (B) j)) (b := w.heap.size + 1) (by simp [go_sem]) (by simp [go_sem]) (by simp [go_sem]) (by simp [go_sem]) (by simp [go_sem]) (by simp [go_sem]) (by simp [go_sem]) (by simp [go_sem])).below hb (by go_size)
  have Am := (Arr.mk4 (f := fun j => .int .u64 (lim (M) j)) (b := w.heap.size + 1 + 1) (by simp [go_sem]) (by simp [go_sem]) (by simp [go_sem]) (by simp [go_sem]) (by simp [go_sem]) (by simp [go_sem]) (by simp [go_sem]) (by simp [go_sem])).below hb (by go_size)
  have Az := (Arr.mk4 (f := fun _ => .int .u64 0) (b := w.heap.size + 1 + 1 + 1) (by simp [go_sem]) (by simp [go_sem]) (by simp [go_sem]) (by simp [go_sem]) (by simp [go_sem]) (by simp [go_sem]) (by simp [go_sem]) (by simp [go_sem])).below hb (by go_size)
  have hB : Below w.heap.size w w1 := Below.trans (by go_grown) (hb.mono (by go_size))
  clear hb C1
  have cb_1 := fun o0 => ((Arr.al' Ab o0)).c
  have cm_1 := fun o0 => ((Arr.al' Am o0)).c
  go_wp2_with fail
  refine (C2 _).mono ?_
  rintro e w2 ⟨rfl, hb⟩
  have Ax := (Arr.mk4 (f := fun j => .int .u64 (lim (X) j)) (b := w1.heap.size) (by simp [go_sem]) (by simp [go_sem]) (by simp [go_sem]) (by simp [go_sem]) (by simp [go_sem]) (by simp [go_sem]) (by simp [go_sem]) (by simp [go_sem])).below hb (by go_size)
  replace Am := Arr.to' (Arr.al' Am _) hb
  replace Az := Arr.to' (Arr.al' Az _) hb
  replace hB := Bel.call (Bel.al hB _) hb
  clear hb cb_1 cm_1 Ab C2
  have cx_1 := fun o0 => ((Arr.al' Ax o0)).c
  go_wp2_with fail
  refine (C3 _).mono ?_
  rintro e w3 ⟨rfl, hb⟩
  replace Am := Arr.to' (Arr.al' Am _) hb
  replace Az := Arr.to' (Arr.al' Az _) hb
  replace hB := Bel.call (Bel.al hB _) hb
  clear hb cx_1 Ax C3
  have cm_1 := fun o0 => ((Arr.al' Am o0)).c
  have lz := Az.lt
  go_wp2_with fail
  refine (C4 _).mono ?_
  rintro e w4 ⟨rfl, hb⟩
  have Ad := (Arr.mk4 (f := fun j => .int .u64 (lim (D) j)) (b := w3.heap.size) (by simp [go_sem]) (by simp [go_sem]) (by simp [go_sem]) (by simp [go_sem]) (by simp [go_sem]) (by simp [go_sem]) (by simp [go_sem]) (by simp [go_sem])).below hb (by go_size)
  replace Az := Arr.to' (Arr.al' Az _) hb
  replace hB := Bel.call (Bel.al hB _) hb
  clear hb cm_1 Am C4
  have cd_0 := (Ad).c
  have zd_0 := (Ad).z
  have cz_0 := (Az).c
  have zz_0 := (Az).z
  have hS := hB.size
  go_wp2_with fail
  refine bodyPost_ret (v := nv R) (by simp [results, Try.results32, go_sem, cz_0]) rfl ⟨rfl, ?_⟩
  go_grown
theorem nv_low (c : Int) (h0 : 0 ≤ c) (h1 : c < 18446744073709551616) : nv c = .agg #[.int .u64 c, .int .u64 0, .int .u64 0, .int .u64 0] := by
  have a0 : lim c 0 = c := by rw [lim0]; omega
  have a1 : lim c 1 = 0 := by rw [lim1]; omega
  have a2 : lim c 2 = 0 := by rw [lim2]; omega
  have a3 : lim c 3 = 0 := by rw [lim3]; omega
  simp only [nv, a0, a1, a2, a3]
theorem ref2Add_any (A B M : Int) (hA : 0 ≤ A) (hA' : A < top256) (hB : 0 ≤ B) (hB' : B < top256) (hM : 0 ≤ M) (hM' : M < top256) (w : World) :
    Calls Try.prog 30 #[nv A, nv B, nv M] w fun e w' => e = .returned (nv (md (A + B) M)) ∧ Below w.heap.size w w' := by
  have e := cy_four A B hA hA' hB hB'
  have c0 := cy_bd A B 4
  refine ref2Add_core A B M (A + B) (cy A B 4) _ w (fun W => refAdd_raw A B W) fun W => ?_
  have := refRem_any ((A + B) % top256) (cy A B 4) M (Int.emod_nonneg _ (by decide)) (Int.emod_lt_of_pos _ (by decide)) c0.1 (by unfold top256; omega) hM hM' W
  rw [nv_mod, nv_low _ c0.1 (by omega)] at this
  have e2 : (A + B) % top256 + cy A B 4 * top256 = A + B := by
    rw [e, lim4]; unfold top256 at *; omega
  rw [e2] at this
  exact this
theorem ref2Sub_any (A B M : Int) (hA : 0 ≤ A) (hA' : A < top256) (hB : 0 ≤ B) (hB' : B < top256) (hM : 0 ≤ M) (hM' : M < top256) (w : World) :
    Calls Try.prog 32 #[nv A, nv B, nv M] w fun e w' => e = .returned (nv (md (A - B) M)) ∧ Below w.heap.size w w' := by
  have x0 := md_nn A M hM
  have x1 := md_top A M hM hM'
  have y0 := md_nn B M hM
  have y1 := md_top B M hM hM'
  have R1 : ∀ N, 0 ≤ N → N < top256 → ∀ W, Calls Try.prog 28 #[nv N, .agg #[.int .u64 0, .int .u64 0, .int .u64 0, .int .u64 0], nv M] W fun e w' => e = .returned (nv (md N M)) ∧ Below W.heap.size W w' := fun N h0 h1 W => by
    have := refRem_any N 0 M h0 h1 (by omega) (by decide) hM hM' W
    rw [nv_zero, Int.zero_mul, Int.add_zero] at this
    exact this
  have bf := bw_four (md A M) (md B M) x0 x1 y0 y1
  by_cases c : md B M ≤ md A M
  · have e : md (A - B) M = md A M - md B M := by
      by_cases c0 : M = 0
      · subst c0; simp [md]
      · have M0 : 0 < M := by omega
        have := md_lt A M M0
        rw [md_pos _ M0] at *
        rw [md_pos _ M0] at *
        rw [md_pos _ M0, Int.sub_emod]
        exact Int.emod_eq_of_lt (by omega) (by omega)
    rw [e]
    refine ref2Sub_ge A B M (md A M) (md B M) _ w (R1 A hA hA') (R1 B hB hB') fun W => ?_
    have := refSub_raw (md A M) (md B M) W
    rw [bf] at this
    unfold bor at this
    rw [if_neg (by omega)] at this
    exact this
  · have M0 : 0 < M := by
      by_cases c0 : M = 0
      · subst c0; simp [md] at c
      · omega
    have l1 := md_lt A M M0
    have l2 := md_lt B M M0
    have e : md (A - B) M = md A M - md B M + M := by
      have h : md (A - B) M = (md A M - md B M) % M := by rw [md_pos _ M0, md_pos _ M0, md_pos _ M0, ← Int.sub_emod]
      rw [h, ← Int.add_emod_right]; exact Int.emod_eq_of_lt (by omega) (by omega)
    rw [e]
    refine ref2Sub_lt A B M (md A M) (md B M) (md A M - md B M) _ (cy (md A M - md B M) M 4) w (R1 A hA hA') (R1 B hB hB') (fun W => ?_) fun W => refAdd_raw _ _ W
    have := refSub_raw (md A M) (md B M) W
    rw [bf] at this
    unfold bor at this
    rw [if_pos (by omega)] at this
    exact this
def PW (w w1 wr : World) (A E M X : Int) : Prop :=
  Below w.heap.size w wr ∧ w1.heap.size < wr.heap.size ∧ w.heap.size + 1 + 1 + 1 < w1.heap.size ∧ Arr wr w.heap.size 4 (fun j => .int .u64 (lim A j)) ∧ Arr wr (w.heap.size + 1) 4 (fun j => .int .u64 (lim E j)) ∧ Arr wr (w.heap.size + 1 + 1) 4 (fun j => .int .u64 (lim M j)) ∧ Arr wr (w.heap.size + 1 + 1 + 1) 4 (fun _ => .int .u64 0) ∧ Arr wr w1.heap.size 4 (fun j => .int .u64 (lim X j))
theorem PW.call {w w1 wr wn : World} {A E M X : Int} (h : PW w w1 wr A E M X) (hb : Below wr.heap.size wr wn) : PW w w1 wn A E M X := by
  obtain ⟨a, b, b', c1, c2, c3, c4, c5⟩ := h
  exact ⟨a.trans (hb.mono a.size), Nat.lt_of_lt_of_le b hb.size, b', c1.below hb (by omega), c2.below hb (by omega), c3.below hb (by omega), c4.below hb (by omega), c5.below hb b⟩
abbrev st4 (w : World) (b : Nat) (X : Int) : World := (((w.setCell ⟨b, 0, none⟩ (.int .u64 (lim X 0))).setCell ⟨b, 1, none⟩ (.int .u64 (lim X 1))).setCell ⟨b, 2, none⟩ (.int .u64 (lim X 2))).setCell ⟨b, 3, none⟩ (.int .u64 (lim X 3))
theorem Arr.st4 {w : World} {b : Nat} {f : Nat → Value} (h : Arr w b 4 f) (X : Int) : Arr (st4 w b X) b 4 (fun j => .int .u64 (lim X j)) :=
  ((((h.set 0 (by omega) _).set 1 (by omega) _).set 2 (by omega) _).set 3 (by omega) _).congr (by
    intro j hj
    have h : j = 0 ∨ j = 1 ∨ j = 2 ∨ j = 3 := by omega
    rcases h with rfl | rfl | rfl | rfl <;> simp)
theorem Arr.st4o {w : World} {b b' n : Nat} {f : Nat → Value} (h : Arr w b n f) (hne : b' ≠ b) (X : Int) : Arr (Go.Proofs.Ytpigofooblmdhaa.st4 w b' X) b n f := (((h.other hne _).other hne _).other hne _).other hne _
theorem PW.put {w w1 wr : World} {A E M X : Int} (h : PW w w1 wr A E M X) (Y : Int) : PW w w1 (st4 wr w1.heap.size Y) A E M Y := by
  obtain ⟨a, b, b', c1, c2, c3, c4, c5⟩ := h
  have z : ∀ (W : World) k v, Below w.heap.size w W → Below w.heap.size w (W.setCell ⟨w1.heap.size, k, none⟩ v) := fun W k v hh => hh.setCell (by show _ ≤ w1.heap.size; omega) _
  exact ⟨z _ _ _ (z _ _ _ (z _ _ _ (z _ _ _ a))), by simp only [st4, size_set]; exact b, b', c1.st4o (by omega) _, c2.st4o (by omega) _, c3.st4o (by omega) _, c4.st4o (by omega) _, c5.st4 Y⟩
set_option maxHeartbeats 8000000 in
theorem refPow_core (A E M : Int) (L : Nat) (X : Nat → Int) (w : World) (hL : L ≤ 256)
    (C1 : ∀ W, Calls Try.prog 28 #[.agg #[.int .u64 1, .int .u64 0, .int .u64 0, .int .u64 0], .agg #[.int .u64 0, .int .u64 0, .int .u64 0, .int .u64 0], nv M] W fun e w' => e = .returned (nv (X L)) ∧ Below W.heap.size W w')
    (C2 : ∀ W, Calls Try.prog 71 #[nv E] W fun e w' => e = .returned (.int .i64 L) ∧ Below W.heap.size W w')
    (CS : ∀ n, n < L → ∃ Y b : Int, (∀ W, Calls Try.prog 34 #[nv (X (n + 1)), nv (X (n + 1)), nv M] W fun e w' => e = .returned (nv Y) ∧ Below W.heap.size W w') ∧
      (∀ W, Calls Try.prog 72 #[nv E, .int .i64 (n : Int)] W fun e w' => e = .returned (.int .u64 b) ∧ Below W.heap.size W w') ∧
      ((b = 0 ∧ X n = Y) ∨ (b = 1 ∧ ∀ W, Calls Try.prog 34 #[nv Y, nv A, nv M] W fun e w' => e = .returned (nv (X n)) ∧ Below W.heap.size W w'))) :
    Calls Try.prog 39 #[nv A, nv E, nv M] w fun e w' => e = .returned (nv (X 0)) ∧ Below w.heap.size w w' := by
  go_enter Try.func39, Try.ntmps39
  go_wp2_with fail
  refine (C1 _).mono ?_
  rintro e w1 ⟨rfl, hb⟩
  have Aa := (Arr.mk4 (f := fun j => .int .u64 (lim (A) j)) (b := w.heap.size) (by simp [go_sem]) (by simp [go_sem]) (by simp [go_sem]) (by simp [go_sem]) (by simp [go_sem]) (by simp [go_sem]) (by simp [go_sem]) (by simp [go_sem])).below hb (by go_size)
  have Ae := (Arr.mk4 (f := fun j => .int .u64 (lim (E) j)) (b := w.heap.size + 1) (by simp [go_sem]) (by simp [go_sem]) (by simp [go_sem]) (by simp [go_sem]) (by simp [go_sem]) (by simp [go_sem]) (by simp [go_sem]) (by simp [go_sem])).below hb (by go_size)
  have Am := (Arr.mk4 (f := fun j => .int .u64 (lim (M) j)) (b := w.heap.size + 1 + 1) (by simp [go_sem]) (by simp [go_sem]) (by simp [go_sem]) (by simp [go_sem]) (by simp [go_sem]) (by simp [go_sem]) (by simp [go_sem]) (by simp [go_sem])).below hb (by go_size)
  have Az := (Arr.mk4 (f := fun _ => .int .u64 0) (b := w.heap.size + 1 + 1 + 1) (by simp [go_sem]) (by simp [go_sem]) (by simp [go_sem]) (by simp [go_sem]) (by simp [go_sem]) (by simp [go_sem]) (by simp [go_sem]) (by simp [go_sem])).below hb (by go_size)
  have hB : Below w.heap.size w w1 := Below.trans (by go_grown) (hb.mono (by go_size))
  clear hb C1
  have ce_1 := fun o0 => ((Arr.al' Ae o0)).c
  have lz := Az.lt
  go_wp2_with fail
  refine (C2 _).mono ?_
  rintro e w2 ⟨rfl, hb⟩
  have Ax := (Arr.mk4 (f := fun j => .int .u64 (lim (X L) j)) (b := w1.heap.size) (by simp [go_sem]) (by simp [go_sem]) (by simp [go_sem]) (by simp [go_sem]) (by simp [go_sem]) (by simp [go_sem]) (by simp [go_sem]) (by simp [go_sem])).below hb (by go_size)
  replace Aa := Arr.to' (Arr.al' Aa _) hb
  replace Ae := Arr.to' (Arr.al' Ae _) hb
  replace Am := Arr.to' (Arr.al' Am _) hb
  replace Az := Arr.to' (Arr.al' Az _) hb
  replace hB := Bel.call (Bel.al hB _) hb
  clear hb ce_1 C2
  have HW : PW w w1 w2 A E M (X L) := ⟨hB, Ax.lt, lz, Aa, Ae, Am, Az, Ax⟩
  clear Aa Ae Am Az Ax hB
  go_wp2_with fail
  go_loopw [8] (fun i wr => ∃ n : Nat, n ≤ L ∧ i = .int .i64 ((n : Int) - 1) ∧ PW w w1 wr A E M (X n)) (fun i _ => (intOf i + 1).toNat)
  case atStart => exact ⟨L, by omega, rfl, HW⟩
  case round =>
    clear HW
    obtain ⟨n, hn, rfl, HW⟩ := hrel
    by_cases hn0 : n = 0
    · subst hn0
      obtain ⟨a, b, b', c1, c2, c3, c4, c5⟩ := HW
      have r5 := c5.c
      have r4 := c4.c
      have z4 := c4.z
      clear c1 c2 c3 c4 c5 CS
      go_wp2_with fail
      refine bodyPost_ret (v := nv (X 0)) (by simp [results, Try.results39, go_sem, r4]) rfl ⟨rfl, ?_⟩
      go_grown
    · obtain ⟨m, rfl⟩ : ∃ m, n = m + 1 := ⟨n - 1, by omega⟩
      have ei : ((m + 1 : Nat) : Int) - 1 = (m : Int) := by omega
      rw [ei]
      have m0 : (0 : Int) ≤ (m : Int) := by omega
      have m4 : (m : Int) < 256 := by omega
      obtain ⟨Y, b, CM, CB, hc⟩ := CS m (by omega)
      clear CS
      have rx := HW.2.2.2.2.2.2.2.c
      have rm := HW.2.2.2.2.2.1.c
      go_wp2_with fail
      refine (CM _).mono ?_
      rintro e w3 ⟨rfl, hb⟩
      have HW3 := HW.call hb
      clear hb rx rm HW CM
      have rx := HW3.2.2.2.2.2.2.2.c
      have zx := HW3.2.2.2.2.2.2.2.z
      have HW4 := HW3.put Y
      have re := HW4.2.2.2.2.1.c
      clear HW3
      go_wp2_with fail
      refine (CB _).mono ?_
      rintro e w5 ⟨rfl, hb⟩
      have HW5 := HW4.call hb
      clear hb rx zx re HW4 CB
      rcases hc with ⟨rfl, hc⟩ | ⟨rfl, hc⟩
      · rw [← hc] at HW5
        clear hc
        go_wp2_with fail
        go_roundw
        case rel => exact ⟨m, by omega, by go_num, HW5⟩
        case measure => simp [intOf]
      · have rx := HW5.2.2.2.2.2.2.2.c
        have ra := HW5.2.2.2.1.c
        have rm := HW5.2.2.2.2.2.1.c
        go_wp2_with fail
        refine (hc _).mono ?_
        rintro e w6 ⟨rfl, hb⟩
        have HW6 := HW5.call hb
        clear hb rx ra rm HW5 hc
        have rx := HW6.2.2.2.2.2.2.2.c
        have zx := HW6.2.2.2.2.2.2.2.z
        have HW7 := HW6.put (X m)
        clear HW6
        go_wp2_with fail
        go_roundw
        case rel => exact ⟨m, by omega, by go_num, HW7⟩
        case measure => simp [intOf]
theorem bitLen_256 (E : Int) (hE : 0 ≤ E) (hE' : E < top256) : bitLen E.toNat ≤ 256 := by
  have sp := bitLen_spec E.toNat
  by_cases c : bitLen E.toNat ≤ 256
  · exact c
  · have ne : E.toNat ≠ 0 := by
      intro h
      have : bitLen E.toNat = 0 := by rw [h]; decide
      omega
    have lo := sp.2 ne
    have hp : (2 : Nat) ^ 256 ≤ 2 ^ (bitLen E.toNat - 1) := Nat.pow_le_pow_right (by omega) (by omega)
    have ht : E.toNat < 2 ^ 256 := by
      have e : (2 : Nat) ^ 256 = 115792089237316195423570985008687907853269984665640564039457584007913129639936 := by decide
      unfold top256 at hE'; omega
    omega
theorem refPow_any (A E M : Int) (hA : 0 ≤ A) (hA' : A < top256) (hE : 0 ≤ E) (hE' : E < top256) (hM : 0 ≤ M) (hM' : M < top256) (w : World) :
    Calls Try.prog 39 #[nv A, nv E, nv M] w fun e w' => e = .returned (nv (md (A ^ E.toNat) M)) ∧ Below w.heap.size w w' := by
  have sp := bitLen_spec E.toNat
  have l256 := bitLen_256 E hE hE'
  have key := refPow_core A E M (bitLen E.toNat) (fun n => md (A ^ (E.toNat / 2 ^ n)) M) w l256 ?_ (fun W => refLen_any E hE hE' W) ?_
  · simp only [Nat.pow_zero, Nat.div_one] at key
    exact key
  · intro W
    have := refRem_any 1 0 M (by omega) (by decide) (by omega) (by decide) hM hM' W
    rw [nv_one, nv_zero, Int.zero_mul, Int.add_zero] at this
    simp only [Nat.div_eq_of_lt sp.1, Int.pow_zero]
    exact this
  · intro n hn
    have q0 := md_nn (A ^ (E.toNat / 2 ^ (n + 1))) M hM
    have q1 := md_top (A ^ (E.toNat / 2 ^ (n + 1))) M hM hM'
    have bs := bit_step E.toNat n
    refine ⟨md (A ^ (2 * (E.toNat / 2 ^ (n + 1)))) M, E / 2 ^ n % 2, fun W => ?_, fun W => refBit_in E n (n / 64) (n % 64) (by omega) (by omega) (by omega) W, ?_⟩
    · have := refMul_any _ _ M q0 q1 q0 q1 hM hM' W
      rw [md_md, ← Int.pow_add, show E.toNat / 2 ^ (n + 1) + E.toNat / 2 ^ (n + 1) = 2 * (E.toNat / 2 ^ (n + 1)) by omega] at this
      exact this
    · have eb : E / 2 ^ n % 2 = ((E.toNat / 2 ^ n % 2 : Nat) : Int) := by
        obtain ⟨k, rfl⟩ := Int.eq_ofNat_of_zero_le hE
        push_cast; rfl
      rw [eb]
      by_cases c : E.toNat / 2 ^ n % 2 = 1
      · refine .inr ⟨by rw [c]; rfl, fun W => ?_⟩
        have := refMul_any (md (A ^ (2 * (E.toNat / 2 ^ (n + 1)))) M) A M (md_nn _ _ hM) (md_top _ _ hM hM') hA hA' hM hM' W
        rw [md_mdl, ← Int.pow_succ] at this
        rw [decide_eq_true c] at bs
        show Calls _ _ _ _ fun e w' => e = .returned (nv (md (A ^ (E.toNat / 2 ^ n)) M)) ∧ _
        rw [bs]
        exact this
      · refine .inl ⟨by have : E.toNat / 2 ^ n % 2 = 0 := by omega
                        rw [this]; rfl, ?_⟩
        rw [decide_eq_false c] at bs
        show md (A ^ (E.toNat / 2 ^ n)) M = _
        rw [bs]; rfl
end Go.Proofs.Ytpigofooblmdhaa
