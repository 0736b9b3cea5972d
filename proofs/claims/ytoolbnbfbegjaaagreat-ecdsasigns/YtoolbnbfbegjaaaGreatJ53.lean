/- What the reference's Inv answers. -/
import Derived.Test.YtoolbnbfbegjaaaGreatJ52
set_option linter.all false
set_option maxRecDepth 100000
namespace Go.Proofs.YtoolbnbfbegjaaaGreat
open Go.RowKit Go.Sort
theorem al3c (w : World) (o1 o2 o3 : Obj) (b j : Nat) (h : b < w.heap.size) : (((w.alloc o1).alloc o2).alloc o3).cell? ⟨b, j, none⟩ = w.cell? ⟨b, j, none⟩ :=
  ((Bel.al (Bel.al (Bel.al (Below.refl w.heap.size w) o1) o2) o3).cell (p := ⟨b, j, none⟩) h)
theorem al3f (w : World) (o1 o2 o3 : Obj) (b j : Nat) (h : b < w.heap.size) : (((w.alloc o1).alloc o2).alloc o3).frozen? ⟨b, j, none⟩ = w.frozen? ⟨b, j, none⟩ :=
  ((Bel.al (Bel.al (Bel.al (Below.refl w.heap.size w) o1) o2) o3).frozen (p := ⟨b, j, none⟩) h)
section
attribute [local go_sem] eq24
set_option maxHeartbeats 2000000 in
theorem rinv_zero (A : Int) (w : World) : Calls Tryz.prog 34 #[nv A, .agg #[.int .u64 0, .int .u64 0, .int .u64 0, .int .u64 0]] w fun e w' => e = .returned (.tuple #[nv 0, .bool false]) ∧ Below w.heap.size w w' := by
  rw [nv_zero]
  go_enter Tryz.func34, Tryz.ntmps34
  go_wp2_with fail
  go_returns
  exact ⟨rfl, by go_grown⟩
set_option maxHeartbeats 2000000 in
theorem rinv_odd (A M : Int) (hz : (lim M 0 == 0 && (lim M 1 == 0 && (lim M 2 == 0 && lim M 3 == 0))) = false) (hp : lim M 0 % 2 = 1) (w : World)
    (CO : ∀ W, Calls Tryz.prog 62 #[nv A, nv M] W fun e w' => (∃ x ok, IV A M x ok ∧ e = .returned (.tuple #[nv x, .bool ok])) ∧ Below W.heap.size W w') :
    Calls Tryz.prog 34 #[nv A, nv M] w fun e w' => (∃ x ok, IV A M x ok ∧ e = .returned (.tuple #[nv x, .bool ok])) ∧ Below w.heap.size w w' := by
  have n0 := lim_nn M 0
  have n1 := lim_lt M 0
  go_enter Tryz.func34, Tryz.ntmps34
  obtain ⟨W0, hW0⟩ : ∃ W0, W0 = (((w.alloc (.cells #[.int .u64 (lim (A) 0), .int .u64 (lim (A) 1), .int .u64 (lim (A) 2), .int .u64 (lim (A) 3)] 24)).alloc (.cells #[.int .u64 (lim (M) 0), .int .u64 (lim (M) 1), .int .u64 (lim (M) 2), .int .u64 (lim (M) 3)] 24)).alloc (.cells #[.int .u64 0, .int .u64 0, .int .u64 0, .int .u64 0] 24)) := ⟨_, rfl⟩
  have Aa : Arr W0 (w.heap.size) 4 (fun j => .int .u64 (lim (A) j)) := by subst hW0; refine Arr.mk4 ?_ ?_ ?_ ?_ ?_ ?_ ?_ ?_ <;> simp [go_sem]
  have Am : Arr W0 (w.heap.size + 1) 4 (fun j => .int .u64 (lim (M) j)) := by subst hW0; refine Arr.mk4 ?_ ?_ ?_ ?_ ?_ ?_ ?_ ?_ <;> simp [go_sem]
  have Az : Arr W0 (w.heap.size + 1 + 1) 4 (fun _ => .int .u64 0) := by subst hW0; refine Arr.mk4 ?_ ?_ ?_ ?_ ?_ ?_ ?_ ?_ <;> simp [go_sem]
  have hB : Below w.heap.size w W0 := by subst hW0; go_grown
  subst hW0
  go_wp2_with fail
  refine (CO _).mono ?_
  rintro e w1 ⟨⟨x, ok, hI, rfl⟩, hb⟩
  replace Az := Arr.to' Az hb
  replace hB := Bel.call hB hb
  clear hb Aa Am CO
  have cz := Az.c
  have zz := Az.z
  have lz := Az.lt
  have hS := hB.size
  go_wp2_with fail
  refine bodyPost_ret (v := .tuple #[nv x, .bool ok]) (by simp [results, Tryz.results34, go_sem, cz, lz]) rfl ⟨⟨_, _, hI, rfl⟩, ?_⟩
  go_grown
set_option maxHeartbeats 16000000 in
theorem rinv_even (A M : Int) (hA : 0 ≤ A) (hM0 : 0 < M) (hM1 : M < top256) (hzM : (lim M 0 == 0 && (lim M 1 == 0 && (lim M 2 == 0 && lim M 3 == 0))) = false) (hp : ¬ lim M 0 % 2 = 1) (w : World)
    (CA : ∀ W, Calls Tryz.prog 18 #[nv A, .agg #[.int .u64 0, .int .u64 0, .int .u64 0, .int .u64 0], nv M] W fun e w' => e = .returned (nv (A % M)) ∧ Below W.heap.size W w')
    (C1 : ∀ W, Calls Tryz.prog 18 #[.agg #[.int .u64 1, .int .u64 0, .int .u64 0, .int .u64 0], .agg #[.int .u64 0, .int .u64 0, .int .u64 0, .int .u64 0], nv M] W fun e w' => e = .returned (nv (1 % M)) ∧ Below W.heap.size W w')
    (CDD : ∀ R S, 0 ≤ R → R < top256 → 0 < S → S < top256 → ∃ P, ∀ W, Calls Tryz.prog 46 #[nv R, .agg #[.int .u64 0, .int .u64 0, .int .u64 0, .int .u64 0], nv S] W fun e w' => e = .returned (.tuple #[nv (R / S), nv P, nv (R % S), .int .i64 0]) ∧ Below W.heap.size W w')
    (CMM : ∀ Q Y, 0 ≤ Q → Q < top256 → 0 ≤ Y → Y < top256 → ∀ W, Calls Tryz.prog 24 #[nv Q, nv Y, nv M] W fun e w' => e = .returned (nv (Q * Y % M)) ∧ Below W.heap.size W w')
    (CSS : ∀ X T, 0 ≤ X → X < top256 → 0 ≤ T → T < top256 → ∀ W, Calls Tryz.prog 25 #[nv X, nv T, nv M] W fun e w' => e = .returned (nv ((X - T) % M)) ∧ Below W.heap.size W w') :
    Calls Tryz.prog 34 #[nv A, nv M] w fun e w' => (∃ x ok, IV A M x ok ∧ e = .returned (.tuple #[nv x, .bool ok])) ∧ Below w.heap.size w w' := by
  have n0 := lim_nn M 0
  have n1 := lim_lt M 0
  have hp' : (lim M 0 % 2 == 1) = false := by simpa using hp
  go_enter Tryz.func34, Tryz.ntmps34
  obtain ⟨W0, hW0⟩ : ∃ W0, W0 = ((((w.alloc (.cells #[.int .u64 (lim (A) 0), .int .u64 (lim (A) 1), .int .u64 (lim (A) 2), .int .u64 (lim (A) 3)] 24)).alloc (.cells #[.int .u64 (lim (M) 0), .int .u64 (lim (M) 1), .int .u64 (lim (M) 2), .int .u64 (lim (M) 3)] 24)).alloc (.cells #[.int .u64 0, .int .u64 0, .int .u64 0, .int .u64 0] 24)).alloc (.cells #[.int .u64 (lim (M) 0), .int .u64 (lim (M) 1), .int .u64 (lim (M) 2), .int .u64 (lim (M) 3)] 24)) := ⟨_, rfl⟩
  have Aa : Arr W0 (w.heap.size) 4 (fun j => .int .u64 (lim (A) j)) := by subst hW0; refine Arr.mk4 ?_ ?_ ?_ ?_ ?_ ?_ ?_ ?_ <;> simp [go_sem]
  have Am : Arr W0 (w.heap.size + 1) 4 (fun j => .int .u64 (lim (M) j)) := by subst hW0; refine Arr.mk4 ?_ ?_ ?_ ?_ ?_ ?_ ?_ ?_ <;> simp [go_sem]
  have Az : Arr W0 (w.heap.size + 1 + 1) 4 (fun _ => .int .u64 0) := by subst hW0; refine Arr.mk4 ?_ ?_ ?_ ?_ ?_ ?_ ?_ ?_ <;> simp [go_sem]
  have Ar : Arr W0 (w.heap.size + 1 + 1 + 1) 4 (fun j => .int .u64 (lim (M) j)) := by subst hW0; refine Arr.mk4 ?_ ?_ ?_ ?_ ?_ ?_ ?_ ?_ <;> simp [go_sem]
  have hB : Below w.heap.size w W0 := by subst hW0; go_grown
  subst hW0
  go_wp2_with fail
  refine (CA _).mono ?_
  rintro e w1 ⟨rfl, hb⟩
  replace Am := Arr.to' Am hb
  replace Az := Arr.to' Az hb
  replace Ar := Arr.to' Ar hb
  replace hB := Bel.call hB hb
  clear hb Aa CA
  have h01' := hB.size
  have cm1 := Am.c
  have l00 : lim 0 0 = 0 := by decide
  have l01 : lim 0 1 = 0 := by decide
  have l02 : lim 0 2 = 0 := by decide
  have l03 : lim 0 3 = 0 := by decide
  have lm_2 := Am.lt
  have lz_2 := Az.lt
  have lr_2 := Ar.lt
  have lB_2 := hB.size
  replace Am := (Arr.al' (Arr.al' Am (.cells #[.int .u64 (lim (A % M) 0), .int .u64 (lim (A % M) 1), .int .u64 (lim (A % M) 2), .int .u64 (lim (A % M) 3)] 24)) (.cells #[.int .u64 0, .int .u64 0, .int .u64 0, .int .u64 0] 24))
  replace Az := (Arr.al' (Arr.al' Az (.cells #[.int .u64 (lim (A % M) 0), .int .u64 (lim (A % M) 1), .int .u64 (lim (A % M) 2), .int .u64 (lim (A % M) 3)] 24)) (.cells #[.int .u64 0, .int .u64 0, .int .u64 0, .int .u64 0] 24))
  replace Ar := (Arr.al' (Arr.al' Ar (.cells #[.int .u64 (lim (A % M) 0), .int .u64 (lim (A % M) 1), .int .u64 (lim (A % M) 2), .int .u64 (lim (A % M) 3)] 24)) (.cells #[.int .u64 0, .int .u64 0, .int .u64 0, .int .u64 0] 24))
  obtain ⟨W0, hW0⟩ : ∃ W0, W0 = ((w1.alloc (.cells #[.int .u64 (lim (A % M) 0), .int .u64 (lim (A % M) 1), .int .u64 (lim (A % M) 2), .int .u64 (lim (A % M) 3)] 24)).alloc (.cells #[.int .u64 0, .int .u64 0, .int .u64 0, .int .u64 0] 24)) := ⟨_, rfl⟩
  have As : Arr W0 (w1.heap.size) 4 (fun j => .int .u64 (lim (A % M) j)) := by subst hW0; refine Arr.mk4 ?_ ?_ ?_ ?_ ?_ ?_ ?_ ?_ <;> simp [go_sem]
  have Ax : Arr W0 (w1.heap.size + 1) 4 (fun j => .int .u64 (lim (0) j)) := by subst hW0; refine Arr.mk4 ?_ ?_ ?_ ?_ ?_ ?_ ?_ ?_ <;> simp [go_sem, l00, l01, l02, l03]
  subst hW0
  replace hB := (Bel.al (Bel.al hB (.cells #[.int .u64 (lim (A % M) 0), .int .u64 (lim (A % M) 1), .int .u64 (lim (A % M) 2), .int .u64 (lim (A % M) 3)] 24)) (.cells #[.int .u64 0, .int .u64 0, .int .u64 0, .int .u64 0] 24))
  have cm := Am.c
  go_wp2_with fail
  refine (C1 _).mono ?_
  rintro e w2 ⟨rfl, hb⟩
  replace Am := Arr.to' Am hb
  replace Az := Arr.to' Az hb
  replace Ar := Arr.to' Ar hb
  replace As := Arr.to' As hb
  replace Ax := Arr.to' Ax hb
  replace hB := Bel.call hB hb
  clear hb cm1 cm C1
  have h01 : w.heap.size + 1 + 1 + 1 < w1.heap.size := by omega
  have h12 : w1.heap.size + 1 < w2.heap.size := by have := Ax.lt; omega
  have S0 : Hid (EI A M M (A % M) 0 (1 % M)) := EI.start hA hM0 hM1
  clear hzM hp n0 n1 hp'
  go_wp2_with fail
  go_loopw [] (fun wr => ∃ R S X Y, Hid (EI A M R S X Y) ∧ Below w.heap.size w wr ∧ (w.heap.size + 1 + 1 + 1 < w1.heap.size ∧ w1.heap.size + 1 < w2.heap.size) ∧ Arr wr (w.heap.size + 1) 4 (fun j => .int .u64 (lim (M) j)) ∧ Arr wr (w.heap.size + 1 + 1) 4 (fun _ => .int .u64 0) ∧ Arr wr (w.heap.size + 1 + 1 + 1) 4 (fun j => .int .u64 (lim (R) j)) ∧ Arr wr w1.heap.size 4 (fun j => .int .u64 (lim (S) j)) ∧ Arr wr (w1.heap.size + 1) 4 (fun j => .int .u64 (lim (X) j)) ∧ Arr wr w2.heap.size 4 (fun j => .int .u64 (lim (Y) j))) (fun wr => sz2 wr w1.heap.size w1.heap.size)
  case atStart => exact ⟨_, _, _, _, S0, Bel.al hB _, ⟨h01, h12⟩, Arr.al' Am _, Arr.al' Az _, Arr.al' Ar _, Arr.al' As _, Arr.al' Ax _, Arr.mk4 (by simp [go_sem]) (by simp [go_sem]) (by simp [go_sem]) (by simp [go_sem]) (by simp [go_sem]) (by simp [go_sem]) (by simp [go_sem]) (by simp [go_sem])⟩
  case round =>
    clear hB Am Az Ar As Ax S0
    obtain ⟨R, S, X, Y, HE, hB, _, Am, Az, Ar, As, Ax, Ay⟩ := hrel
    obtain ⟨r0, r1, s0, s1, x0, x1, y0, y1, _, _, _⟩ := HE.out
    have M0 : Hid (sz2 wr w1.heap.size w1.heap.size = (S + S).toNat) := sz2_of As As s0 s1 s0 s1
    by_cases hs0 : S = 0
    · subst hs0
      have hz := z4_zero
      have cs := As.c
      have cr := Ar.c
      have cx := Ax.c
      have cz := Az.c
      have zz := Az.z
      have lz := Az.lt
      have hS := hB.size
      clear CDD CMM CSS
      by_cases hR : R = 1
      · have hr1 : (lim R 0 == 1 && (lim R 1 == 0 && (lim R 2 == 0 && lim R 3 == 0))) = true := by rw [hR]; decide
        clear l00 l01 l02 l03
        go_wp2_with fail
        refine bodyPost_ret (v := .tuple #[nv X, .bool true]) (by simp [results, Tryz.results34, go_sem, cz, lz]) rfl ⟨⟨_, _, HE.out.end1 hR, rfl⟩, ?_⟩
        go_grown
      · have hr1 : (lim R 0 == 1 && (lim R 1 == 0 && (lim R 2 == 0 && lim R 3 == 0))) = false := by rw [eq_one R (by omega) r1]; simpa using hR
        go_wp2_with fail
        refine bodyPost_ret (v := .tuple #[nv 0, .bool false]) (by simp [results, Tryz.results34, go_sem, cz, lz, l00, l01, l02, l03]) rfl ⟨⟨_, _, HE.out.endN hR, rfl⟩, ?_⟩
        go_grown
    have hz := nz24 S (by omega) s1
    have HE2 : Hid (EI A M S (R % S) Y ((X - R / S * Y % M) % M)) := HE.out.step hs0
    obtain ⟨P, CD⟩ := CDD R S (by omega) r1 (by omega) s1
    have q0 : 0 ≤ R / S := Int.ediv_nonneg (by omega) s0
    have q1 : R / S < top256 := Int.lt_of_le_of_lt (Int.ediv_le_self _ (by omega)) r1
    have a0 := Int.emod_nonneg R (show S ≠ 0 by omega)
    have a1 := Int.emod_lt_of_pos R (show 0 < S by omega)
    have CM := CMM (R / S) Y q0 q1 y0 (by omega)
    have b0 := Int.emod_nonneg (R / S * Y) (show M ≠ 0 by omega)
    have b1 := Int.emod_lt_of_pos (R / S * Y) hM0
    have CS := CSS X (R / S * Y % M) x0 (by omega) b0 (by omega)
    clear CDD CMM CSS l00 l01 l02 l03 HE
    generalize (X - R / S * Y % M) % M = T at CS HE2
    generalize R / S * Y % M = U at CM CS b0 b1
    generalize R / S = Q at CD CM q0 q1
    generalize R % S = L at CD HE2 a0 a1
    clear b0 b1 q0 q1
    have cr := Ar.c
    have zr := Ar.z
    have cs := As.c
    have zs := As.z
    go_wp2_with fail
    refine (CD _).mono ?_
    rintro e w13 ⟨rfl, hb⟩
    replace Am := Arr.to' Am hb
    replace Az := Arr.to' Az hb
    replace Ar := Arr.to' Ar hb
    replace As := Arr.to' As hb
    replace Ax := Arr.to' Ax hb
    replace Ay := Arr.to' Ay hb
    replace hB := Bel.call hB hb
    clear hb cr zr cs zs CD
    have cr := Ar.c
    have zr := Ar.z
    have cs := As.c
    have zs := As.z
    have lr3 := Ar.lt
    have ls3 := As.lt
    have hS3 := hB.size
    have qs : ∀ (W : World) (o1 o2 o3 : Obj) (j : Nat), W.heap.size = w13.heap.size → (((W.alloc o1).alloc o2).alloc o3).cell? ⟨w1.heap.size, j, none⟩ = W.cell? ⟨w1.heap.size, j, none⟩ := fun W o1 o2 o3 j h => al3c W o1 o2 o3 _ j (by omega)
    have ps : ∀ (W : World) (o1 o2 o3 : Obj) (j : Nat), W.heap.size = w13.heap.size → (((W.alloc o1).alloc o2).alloc o3).frozen? ⟨w1.heap.size, j, none⟩ = W.frozen? ⟨w1.heap.size, j, none⟩ := fun W o1 o2 o3 j h => al3f W o1 o2 o3 _ j (by omega)
    have qr : ∀ (W : World) (o1 o2 o3 : Obj) (j : Nat), W.heap.size = w13.heap.size → (((W.alloc o1).alloc o2).alloc o3).cell? ⟨w.heap.size + 1 + 1 + 1, j, none⟩ = W.cell? ⟨w.heap.size + 1 + 1 + 1, j, none⟩ := fun W o1 o2 o3 j h => al3c W o1 o2 o3 _ j (by omega)
    have pr : ∀ (W : World) (o1 o2 o3 : Obj) (j : Nat), W.heap.size = w13.heap.size → (((W.alloc o1).alloc o2).alloc o3).frozen? ⟨w.heap.size + 1 + 1 + 1, j, none⟩ = W.frozen? ⟨w.heap.size + 1 + 1 + 1, j, none⟩ := fun W o1 o2 o3 j h => al3f W o1 o2 o3 _ j (by omega)
    go_wp2_with fail
    clear cr zr cs zs qs ps qr pr
    have lm_1 := Am.lt
    have lz_1 := Az.lt
    have lr_1 := Ar.lt
    have ls_1 := As.lt
    have lx_1 := Ax.lt
    have ly_1 := Ay.lt
    have lB_1 := hB.size
    replace Am := (Arr.al' (Arr.al' (Arr.al' Am (.cells #[.int .u64 (lim (Q) 0), .int .u64 (lim (Q) 1), .int .u64 (lim (Q) 2), .int .u64 (lim (Q) 3)] 24)) (.cells #[.int .u64 (lim (P) 0), .int .u64 (lim (P) 1), .int .u64 (lim (P) 2), .int .u64 (lim (P) 3)] 24)) (.cells #[.int .u64 (lim (L) 0), .int .u64 (lim (L) 1), .int .u64 (lim (L) 2), .int .u64 (lim (L) 3)] 24))
    replace Az := (Arr.al' (Arr.al' (Arr.al' Az (.cells #[.int .u64 (lim (Q) 0), .int .u64 (lim (Q) 1), .int .u64 (lim (Q) 2), .int .u64 (lim (Q) 3)] 24)) (.cells #[.int .u64 (lim (P) 0), .int .u64 (lim (P) 1), .int .u64 (lim (P) 2), .int .u64 (lim (P) 3)] 24)) (.cells #[.int .u64 (lim (L) 0), .int .u64 (lim (L) 1), .int .u64 (lim (L) 2), .int .u64 (lim (L) 3)] 24))
    replace Ar := (Arr.al' (Arr.al' (Arr.al' Ar (.cells #[.int .u64 (lim (Q) 0), .int .u64 (lim (Q) 1), .int .u64 (lim (Q) 2), .int .u64 (lim (Q) 3)] 24)) (.cells #[.int .u64 (lim (P) 0), .int .u64 (lim (P) 1), .int .u64 (lim (P) 2), .int .u64 (lim (P) 3)] 24)) (.cells #[.int .u64 (lim (L) 0), .int .u64 (lim (L) 1), .int .u64 (lim (L) 2), .int .u64 (lim (L) 3)] 24))
    replace As := (Arr.al' (Arr.al' (Arr.al' As (.cells #[.int .u64 (lim (Q) 0), .int .u64 (lim (Q) 1), .int .u64 (lim (Q) 2), .int .u64 (lim (Q) 3)] 24)) (.cells #[.int .u64 (lim (P) 0), .int .u64 (lim (P) 1), .int .u64 (lim (P) 2), .int .u64 (lim (P) 3)] 24)) (.cells #[.int .u64 (lim (L) 0), .int .u64 (lim (L) 1), .int .u64 (lim (L) 2), .int .u64 (lim (L) 3)] 24))
    replace Ax := (Arr.al' (Arr.al' (Arr.al' Ax (.cells #[.int .u64 (lim (Q) 0), .int .u64 (lim (Q) 1), .int .u64 (lim (Q) 2), .int .u64 (lim (Q) 3)] 24)) (.cells #[.int .u64 (lim (P) 0), .int .u64 (lim (P) 1), .int .u64 (lim (P) 2), .int .u64 (lim (P) 3)] 24)) (.cells #[.int .u64 (lim (L) 0), .int .u64 (lim (L) 1), .int .u64 (lim (L) 2), .int .u64 (lim (L) 3)] 24))
    replace Ay := (Arr.al' (Arr.al' (Arr.al' Ay (.cells #[.int .u64 (lim (Q) 0), .int .u64 (lim (Q) 1), .int .u64 (lim (Q) 2), .int .u64 (lim (Q) 3)] 24)) (.cells #[.int .u64 (lim (P) 0), .int .u64 (lim (P) 1), .int .u64 (lim (P) 2), .int .u64 (lim (P) 3)] 24)) (.cells #[.int .u64 (lim (L) 0), .int .u64 (lim (L) 1), .int .u64 (lim (L) 2), .int .u64 (lim (L) 3)] 24))
    obtain ⟨W0, hW0⟩ : ∃ W0, W0 = (((w13.alloc (.cells #[.int .u64 (lim (Q) 0), .int .u64 (lim (Q) 1), .int .u64 (lim (Q) 2), .int .u64 (lim (Q) 3)] 24)).alloc (.cells #[.int .u64 (lim (P) 0), .int .u64 (lim (P) 1), .int .u64 (lim (P) 2), .int .u64 (lim (P) 3)] 24)).alloc (.cells #[.int .u64 (lim (L) 0), .int .u64 (lim (L) 1), .int .u64 (lim (L) 2), .int .u64 (lim (L) 3)] 24)) := ⟨_, rfl⟩
    have Aq : Arr W0 (w13.heap.size) 4 (fun j => .int .u64 (lim (Q) j)) := by subst hW0; refine Arr.mk4 ?_ ?_ ?_ ?_ ?_ ?_ ?_ ?_ <;> simp [go_sem]
    have Al : Arr W0 (w13.heap.size + 1 + 1) 4 (fun j => .int .u64 (lim (L) j)) := by subst hW0; refine Arr.mk4 ?_ ?_ ?_ ?_ ?_ ?_ ?_ ?_ <;> simp [go_sem]
    subst hW0
    replace hB := (Bel.al (Bel.al (Bel.al hB (.cells #[.int .u64 (lim (Q) 0), .int .u64 (lim (Q) 1), .int .u64 (lim (Q) 2), .int .u64 (lim (Q) 3)] 24)) (.cells #[.int .u64 (lim (P) 0), .int .u64 (lim (P) 1), .int .u64 (lim (P) 2), .int .u64 (lim (P) 3)] 24)) (.cells #[.int .u64 (lim (L) 0), .int .u64 (lim (L) 1), .int .u64 (lim (L) 2), .int .u64 (lim (L) 3)] 24))
    have Bm := Arr.st4o (b' := w.heap.size + 1 + 1 + 1) Am (by have := Am.lt; have := Ar.lt; omega) (S)
    have Bz := Arr.st4o (b' := w.heap.size + 1 + 1 + 1) Az (by have := Az.lt; have := Ar.lt; omega) (S)
    have Br := Arr.st4 Ar (S)
    have Bs := Arr.st4o (b' := w.heap.size + 1 + 1 + 1) As (by have := As.lt; have := Ar.lt; omega) (S)
    have Bx := Arr.st4o (b' := w.heap.size + 1 + 1 + 1) Ax (by have := Ax.lt; have := Ar.lt; omega) (S)
    have By := Arr.st4o (b' := w.heap.size + 1 + 1 + 1) Ay (by have := Ay.lt; have := Ar.lt; omega) (S)
    have Bq := Arr.st4o (b' := w.heap.size + 1 + 1 + 1) Aq (by have := Aq.lt; have := Ar.lt; omega) (S)
    have Bl := Arr.st4o (b' := w.heap.size + 1 + 1 + 1) Al (by have := Al.lt; have := Ar.lt; omega) (S)
    have hB' := Bel.st4 hB (b := w.heap.size + 1 + 1 + 1) (by have := hB.size; omega) (S)
    clear Am Az Ar As Ax Ay Aq Al hB
    have Am := Bm
    have Az := Bz
    have Ar := Br
    have As := Bs
    have Ax := Bx
    have Ay := By
    have Aq := Bq
    have Al := Bl
    have hB := hB'
    clear Bm Bz Br Bs Bx By Bq Bl hB'
    have Bm := Arr.st4o (b' := w1.heap.size) Am (by have := Am.lt; have := As.lt; omega) (L)
    have Bz := Arr.st4o (b' := w1.heap.size) Az (by have := Az.lt; have := As.lt; omega) (L)
    have Br := Arr.st4o (b' := w1.heap.size) Ar (by have := Ar.lt; have := As.lt; omega) (L)
    have Bs := Arr.st4 As (L)
    have Bx := Arr.st4o (b' := w1.heap.size) Ax (by have := Ax.lt; have := As.lt; omega) (L)
    have By := Arr.st4o (b' := w1.heap.size) Ay (by have := Ay.lt; have := As.lt; omega) (L)
    have Bq := Arr.st4o (b' := w1.heap.size) Aq (by have := Aq.lt; have := As.lt; omega) (L)
    have Bl := Arr.st4o (b' := w1.heap.size) Al (by have := Al.lt; have := As.lt; omega) (L)
    have hB' := Bel.st4 hB (b := w1.heap.size) (by have := hB.size; omega) (L)
    clear Am Az Ar As Ax Ay Aq Al hB
    have Am := Bm
    have Az := Bz
    have Ar := Br
    have As := Bs
    have Ax := Bx
    have Ay := By
    have Aq := Bq
    have Al := Bl
    have hB := hB'
    clear Bm Bz Br Bs Bx By Bq Bl hB'
    apply wp_region_alloc_tail 7 (by kernel_rfl) (by kernel_rfl) (by kernel_rfl) (.cells #[.int .u64 0, .int .u64 0, .int .u64 0, .int .u64 0] 24) _ rfl (fun _ _ => by simp [go_sem])
    · intro W hW
      obtain ⟨rx0, rx1, rx2, rx3⟩ := Arr.g4 (Arr.to' Ax hW)
      obtain ⟨rq0, rq1, rq2, rq3⟩ := Arr.g4 (Arr.to' Aq hW)
      obtain ⟨ry0, ry1, ry2, ry3⟩ := Arr.g4 (Arr.to' Ay hW)
      obtain ⟨rm0, rm1, rm2, rm3⟩ := Arr.g4 (Arr.to' Am hW)
      simp only [List.take_succ_cons, List.take_zero]
      repeat (go_big_quiet_step (first | (go_at_call 24; with_reducible exact Calls.regrown_of (CM _)) | (go_at_call 25; with_reducible exact Calls.regrown_of (CS _))))
      exact wpQuiet_nil rfl
    intro u4 w14 hb1 hb2
    simp only [List.drop_succ_cons, List.drop_zero, Act.put, List.setIfInBounds_toArray, List.set_cons_succ, List.set_cons_zero]
    have Em := Arr.to' Am hb1
    have lm_u4 := Em.lt
    have Bm := Arr.to' (Arr.al' Em _) hb2
    have Ez := Arr.to' Az hb1
    have lz_u4 := Ez.lt
    have Bz := Arr.to' (Arr.al' Ez _) hb2
    have Er := Arr.to' Ar hb1
    have lr_u4 := Er.lt
    have Br := Arr.to' (Arr.al' Er _) hb2
    have Es := Arr.to' As hb1
    have ls_u4 := Es.lt
    have Bs := Arr.to' (Arr.al' Es _) hb2
    have Ex := Arr.to' Ax hb1
    have lx_u4 := Ex.lt
    have Bx := Arr.to' (Arr.al' Ex _) hb2
    have Ey := Arr.to' Ay hb1
    have ly_u4 := Ey.lt
    have By := Arr.to' (Arr.al' Ey _) hb2
    have Bt := (Arr.mk4 (w := (u4.alloc (.cells #[.int .u64 0, .int .u64 0, .int .u64 0, .int .u64 0] 24))) (f := fun _ => .int .u64 0) (b := u4.heap.size) (by simp [go_sem]) (by simp [go_sem]) (by simp [go_sem]) (by simp [go_sem]) (by simp [go_sem]) (by simp [go_sem]) (by simp [go_sem]) (by simp [go_sem])).below hb2 (by go_size)
    have lB_u4 := (Bel.call hB hb1).size
    have hB' := Bel.call (Bel.al (Bel.call hB hb1) _) hb2
    clear hb1 hb2 Em Ez Er Es Ex Ey Am Az Ar As Ax Ay Aq Al hB CM CS
    have Am := Bm
    have Az := Bz
    have Ar := Br
    have As := Bs
    have Ax := Bx
    have Ay := By
    have At := Bt
    have hB := hB'
    clear Bm Bz Br Bs Bx By Bt hB'
    have ct := At.c
    have zt := At.z
    have cx := Ax.c
    have zx := Ax.z
    have cy := Ay.c
    have zy := Ay.z
    have Bm := Arr.st4o (b' := u4.heap.size) Am (by have := Am.lt; have := At.lt; omega) (T)
    have Bz := Arr.st4o (b' := u4.heap.size) Az (by have := Az.lt; have := At.lt; omega) (T)
    have Br := Arr.st4o (b' := u4.heap.size) Ar (by have := Ar.lt; have := At.lt; omega) (T)
    have Bs := Arr.st4o (b' := u4.heap.size) As (by have := As.lt; have := At.lt; omega) (T)
    have Bx := Arr.st4o (b' := u4.heap.size) Ax (by have := Ax.lt; have := At.lt; omega) (T)
    have By := Arr.st4o (b' := u4.heap.size) Ay (by have := Ay.lt; have := At.lt; omega) (T)
    have Bt := Arr.st4 At (T)
    have hB' := Bel.st4 hB (b := u4.heap.size) (by have := hB.size; omega) (T)
    clear Am Az Ar As Ax Ay At hB
    have Am := Bm
    have Az := Bz
    have Ar := Br
    have As := Bs
    have Ax := Bx
    have Ay := By
    have At := Bt
    have hB := hB'
    clear Bm Bz Br Bs Bx By Bt hB'
    have hS4 := hB.size
    have lt4 := At.lt
    have lx4 := Ax.lt
    have ly4 := Ay.lt
    have Bm := Arr.st4o (b' := w1.heap.size + 1) Am (by have := Am.lt; have := Ax.lt; omega) (Y)
    have Bz := Arr.st4o (b' := w1.heap.size + 1) Az (by have := Az.lt; have := Ax.lt; omega) (Y)
    have Br := Arr.st4o (b' := w1.heap.size + 1) Ar (by have := Ar.lt; have := Ax.lt; omega) (Y)
    have Bs := Arr.st4o (b' := w1.heap.size + 1) As (by have := As.lt; have := Ax.lt; omega) (Y)
    have Bx := Arr.st4 Ax (Y)
    have By := Arr.st4o (b' := w1.heap.size + 1) Ay (by have := Ay.lt; have := Ax.lt; omega) (Y)
    have Bt := Arr.st4o (b' := w1.heap.size + 1) At (by have := At.lt; have := Ax.lt; omega) (Y)
    have hB' := Bel.st4 hB (b := w1.heap.size + 1) (by have := hB.size; omega) (Y)
    clear Am Az Ar As Ax Ay At hB
    have Am := Bm
    have Az := Bz
    have Ar := Br
    have As := Bs
    have Ax := Bx
    have Ay := By
    have At := Bt
    have hB := hB'
    clear Bm Bz Br Bs Bx By Bt hB'
    have Bm := Arr.st4o (b' := w2.heap.size) Am (by have := Am.lt; have := Ay.lt; omega) (T)
    have Bz := Arr.st4o (b' := w2.heap.size) Az (by have := Az.lt; have := Ay.lt; omega) (T)
    have Br := Arr.st4o (b' := w2.heap.size) Ar (by have := Ar.lt; have := Ay.lt; omega) (T)
    have Bs := Arr.st4o (b' := w2.heap.size) As (by have := As.lt; have := Ay.lt; omega) (T)
    have Bx := Arr.st4o (b' := w2.heap.size) Ax (by have := Ax.lt; have := Ay.lt; omega) (T)
    have By := Arr.st4 Ay (T)
    have Bt := Arr.st4o (b' := w2.heap.size) At (by have := At.lt; have := Ay.lt; omega) (T)
    have hB' := Bel.st4 hB (b := w2.heap.size) (by have := hB.size; omega) (T)
    clear Am Az Ar As Ax Ay At hB
    have Am := Bm
    have Az := Bz
    have Ar := Br
    have As := Bs
    have Ax := Bx
    have Ay := By
    have At := Bt
    have hB := hB'
    clear Bm Bz Br Bs Bx By Bt hB'
    have MS : Hid (sz2 ((st4 (st4 (st4 w14 (u4.heap.size) (T)) (w1.heap.size + 1) (Y)) (w2.heap.size) (T))) w1.heap.size w1.heap.size = (L + L).toNat) := sz2_of As As a0 (by omega) a0 (by omega)
    go_wp2_with fail
    go_roundw
    case rel => exact ⟨_, _, _, _, HE2, hB, ⟨h01, h12⟩, Am, Az, Ar, As, Ax, Ay⟩
    case measure => first | (rw [MS.out, M0.out]; omega) | (show sz2 _ _ _ < sz2 _ _ _; rw [MS.out, M0.out]; omega)
end
end Go.Proofs.YtoolbnbfbegjaaaGreat
