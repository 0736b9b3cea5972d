/- What the reference's odd and Inv answer. -/
import Derived.Test.YtoolbnbfbegjaaaGreatJ34
set_option linter.all false
set_option maxRecDepth 100000
namespace Go.Proofs.YtoolbnbfbegjaaaGreat
open Go.RowKit Go.Sort
def sz2 (w : World) (b c : Nat) : Nat := (V4 (cI w b 0) (cI w b 1) (cI w b 2) (cI w b 3) + V4 (cI w c 0) (cI w c 1) (cI w c 2) (cI w c 3)).toNat
theorem cI_of {w : World} {b j : Nat} {N : Int} (h : Arr w b 4 (fun j => .int .u64 (lim N j))) (hj : j < 4) : cI w b j = lim N j := by unfold cI; rw [h.c j hj]
theorem V4_of {w : World} {b : Nat} {N : Int} (h : Arr w b 4 (fun j => .int .u64 (lim N j))) (n0 : 0 ≤ N) (n1 : N < top256) : V4 (cI w b 0) (cI w b 1) (cI w b 2) (cI w b 3) = N := by
  rw [cI_of h (by omega), cI_of h (by omega), cI_of h (by omega), cI_of h (by omega)]; exact V4_lim N n0 n1
theorem sz2_of {w : World} {b c : Nat} {N K : Int} (h : Arr w b 4 (fun j => .int .u64 (lim N j))) (g : Arr w c 4 (fun j => .int .u64 (lim K j))) (n0 : 0 ≤ N) (n1 : N < top256) (k0 : 0 ≤ K) (k1 : K < top256) : sz2 w b c = (N + K).toNat := by
  unfold sz2; rw [V4_of h n0 n1, V4_of g k0 k1]
theorem z4_zero : (lim 0 0 == 0 && (lim 0 1 == 0 && (lim 0 2 == 0 && lim 0 3 == 0))) = true := by decide
section
attribute [local go_sem] eq24
set_option maxHeartbeats 16000000 in
theorem odd_core (A M : Int) (hA : 0 ≤ A) (hM0 : 0 < M) (hM1 : M < top256) (hM : M % 2 = 1) (w : World)
    (CA : ∀ W, Calls Tryz.prog 18 #[nv A, .agg #[.int .u64 0, .int .u64 0, .int .u64 0, .int .u64 0], nv M] W fun e w' => e = .returned (nv (A % M)) ∧ Below W.heap.size W w')
    (C1 : ∀ W, Calls Tryz.prog 18 #[.agg #[.int .u64 1, .int .u64 0, .int .u64 0, .int .u64 0], .agg #[.int .u64 0, .int .u64 0, .int .u64 0, .int .u64 0], nv M] W fun e w' => e = .returned (nv (1 % M)) ∧ Below W.heap.size W w')
    (CY : ∀ Y, 0 ≤ Y → Y < M → ∀ W, Calls Tryz.prog 18 #[nv Y, .agg #[.int .u64 0, .int .u64 0, .int .u64 0, .int .u64 0], nv M] W fun e w' => e = .returned (nv (Y % M)) ∧ Below W.heap.size W w') :
    Calls Tryz.prog 62 #[nv A, nv M] w fun e w' => (∃ x ok, IV A M x ok ∧ e = .returned (.tuple #[nv x, .bool ok])) ∧ Below w.heap.size w w' := by
  have l00 : lim 0 0 = 0 := by decide
  have l01 : lim 0 1 = 0 := by decide
  have l02 : lim 0 2 = 0 := by decide
  have l03 : lim 0 3 = 0 := by decide
  go_enter Tryz.func62, Tryz.ntmps62
  obtain ⟨W0, hW0⟩ : ∃ W0, W0 = (((w.alloc (.cells #[.int .u64 (lim (A) 0), .int .u64 (lim (A) 1), .int .u64 (lim (A) 2), .int .u64 (lim (A) 3)] 24)).alloc (.cells #[.int .u64 (lim (M) 0), .int .u64 (lim (M) 1), .int .u64 (lim (M) 2), .int .u64 (lim (M) 3)] 24)).alloc (.cells #[.int .u64 0, .int .u64 0, .int .u64 0, .int .u64 0] 24)) := ⟨_, rfl⟩
  have Aa : Arr W0 (w.heap.size) 4 (fun j => .int .u64 (lim (A) j)) := by subst hW0; refine Arr.mk4 ?_ ?_ ?_ ?_ ?_ ?_ ?_ ?_ <;> simp [go_sem]
  have Am : Arr W0 (w.heap.size + 1) 4 (fun j => .int .u64 (lim (M) j)) := by subst hW0; refine Arr.mk4 ?_ ?_ ?_ ?_ ?_ ?_ ?_ ?_ <;> simp [go_sem]
  have Az : Arr W0 (w.heap.size + 1 + 1) 4 (fun _ => .int .u64 0) := by subst hW0; refine Arr.mk4 ?_ ?_ ?_ ?_ ?_ ?_ ?_ ?_ <;> simp [go_sem]
  have hB : Below w.heap.size w W0 := by subst hW0; go_grown
  subst hW0
  go_wp2_with fail
  refine (CA _).mono ?_
  rintro e w1 ⟨rfl, hb⟩
  replace Am := Arr.to' Am hb
  replace Az := Arr.to' Az hb
  replace hB := Bel.call hB hb
  clear hb Aa CA
  have h01' := hB.size
  have cm1 := Am.c
  have lm_2 := Am.lt
  have lz_2 := Az.lt
  have lB_2 := hB.size
  replace Am := (Arr.al' (Arr.al' Am (.cells #[.int .u64 (lim (A % M) 0), .int .u64 (lim (A % M) 1), .int .u64 (lim (A % M) 2), .int .u64 (lim (A % M) 3)] 24)) (.cells #[.int .u64 (lim (M) 0), .int .u64 (lim (M) 1), .int .u64 (lim (M) 2), .int .u64 (lim (M) 3)] 24))
  replace Az := (Arr.al' (Arr.al' Az (.cells #[.int .u64 (lim (A % M) 0), .int .u64 (lim (A % M) 1), .int .u64 (lim (A % M) 2), .int .u64 (lim (A % M) 3)] 24)) (.cells #[.int .u64 (lim (M) 0), .int .u64 (lim (M) 1), .int .u64 (lim (M) 2), .int .u64 (lim (M) 3)] 24))
  obtain ⟨W0, hW0⟩ : ∃ W0, W0 = ((w1.alloc (.cells #[.int .u64 (lim (A % M) 0), .int .u64 (lim (A % M) 1), .int .u64 (lim (A % M) 2), .int .u64 (lim (A % M) 3)] 24)).alloc (.cells #[.int .u64 (lim (M) 0), .int .u64 (lim (M) 1), .int .u64 (lim (M) 2), .int .u64 (lim (M) 3)] 24)) := ⟨_, rfl⟩
  have Au : Arr W0 (w1.heap.size) 4 (fun j => .int .u64 (lim (A % M) j)) := by subst hW0; refine Arr.mk4 ?_ ?_ ?_ ?_ ?_ ?_ ?_ ?_ <;> simp [go_sem]
  have Av : Arr W0 (w1.heap.size + 1) 4 (fun j => .int .u64 (lim (M) j)) := by subst hW0; refine Arr.mk4 ?_ ?_ ?_ ?_ ?_ ?_ ?_ ?_ <;> simp [go_sem]
  subst hW0
  replace hB := (Bel.al (Bel.al hB (.cells #[.int .u64 (lim (A % M) 0), .int .u64 (lim (A % M) 1), .int .u64 (lim (A % M) 2), .int .u64 (lim (A % M) 3)] 24)) (.cells #[.int .u64 (lim (M) 0), .int .u64 (lim (M) 1), .int .u64 (lim (M) 2), .int .u64 (lim (M) 3)] 24))
  have cm := Am.c
  go_wp2_with fail
  refine (C1 _).mono ?_
  rintro e w2 ⟨rfl, hb⟩
  replace Am := Arr.to' Am hb
  replace Az := Arr.to' Az hb
  replace Au := Arr.to' Au hb
  replace Av := Arr.to' Av hb
  replace hB := Bel.call hB hb
  clear hb cm1 cm C1
  have h01 : w.heap.size + 1 + 1 < w1.heap.size := by omega
  have h12 : w1.heap.size + 1 < w2.heap.size := by have := Av.lt; omega
  have S0 : Hid (OI A M (A % M) M (1 % M) 0) := OI.start hA hM0 hM1 hM
  go_wp2_with fail
  go_loopw [] (fun wr => ∃ U V X Y, Hid (OI A M U V X Y) ∧ Below w.heap.size w wr ∧ (w.heap.size + 1 + 1 < w1.heap.size ∧ w1.heap.size + 1 < w2.heap.size) ∧ Arr wr (w.heap.size + 1) 4 (fun j => .int .u64 (lim (M) j)) ∧ Arr wr (w.heap.size + 1 + 1) 4 (fun _ => .int .u64 0) ∧ Arr wr w1.heap.size 4 (fun j => .int .u64 (lim (U) j)) ∧ Arr wr (w1.heap.size + 1) 4 (fun j => .int .u64 (lim (V) j)) ∧ Arr wr w2.heap.size 4 (fun j => .int .u64 (lim (X) j)) ∧ Arr wr (w2.heap.size + 1) 4 (fun j => .int .u64 (lim (Y) j))) (fun wr => sz2 wr w1.heap.size (w1.heap.size + 1))
  case atStart => exact ⟨_, _, _, _, S0, Bel.al (Bel.al hB _) _, ⟨h01, h12⟩, Arr.al' (Arr.al' Am _) _, Arr.al' (Arr.al' Az _) _, Arr.al' (Arr.al' Au _) _, Arr.al' (Arr.al' Av _) _, Arr.mk4 (by simp [go_sem]) (by simp [go_sem]) (by simp [go_sem]) (by simp [go_sem]) (by simp [go_sem]) (by simp [go_sem]) (by simp [go_sem]) (by simp [go_sem]), Arr.mk4 (by simp [go_sem, l00, l01, l02, l03]) (by simp [go_sem, l00, l01, l02, l03]) (by simp [go_sem, l00, l01, l02, l03]) (by simp [go_sem, l00, l01, l02, l03]) (by simp [go_sem, l00, l01, l02, l03]) (by simp [go_sem, l00, l01, l02, l03]) (by simp [go_sem, l00, l01, l02, l03]) (by simp [go_sem, l00, l01, l02, l03])⟩
  case round =>
    clear hB Am Az Au Av S0
    obtain ⟨U, V, X, Y, HO, hB, _, Am, Az, Au, Av, Ax, Ay⟩ := hrel
    obtain ⟨u0, u1, v0, v1, vo, x0, x1, y0, y1, _, _, _⟩ := HO.out
    have M0 : Hid (sz2 wr w1.heap.size (w1.heap.size + 1) = (U + V).toNat) := sz2_of Au Av u0 u1 (by omega) v1
    by_cases hu0 : U = 0
    · subst hu0
      by_cases hV : V = 1
      · have hv1 : (lim V 0 == 1 && (lim V 1 == 0 && (lim V 2 == 0 && lim V 3 == 0))) = true := by rw [hV]; decide
        have hz := z4_zero
        have CR := CY Y y0 y1
        clear CY l00 l01 l02 l03
        have cu := Au.c
        have cv := Av.c
        have cy := Ay.c
        have cm := Am.c
        go_wp2_with fail
        refine (CR _).mono ?_
        rintro e w13 ⟨rfl, hb⟩
        replace Az := Arr.to' Az hb
        replace hB := Bel.call hB hb
        clear hb cu cv cy cm Am Au Av Ax Ay
        have cz := Az.c
        have zz := Az.z
        have lz := Az.lt
        have hS := hB.size
        go_wp2_with fail
        refine bodyPost_ret (v := .tuple #[nv (Y % M), .bool true]) (by simp [results, Tryz.results62, go_sem, cz, lz]) rfl ⟨⟨_, _, HO.out.end1 hV, rfl⟩, ?_⟩
        go_grown
      · have hv1 : (lim V 0 == 1 && (lim V 1 == 0 && (lim V 2 == 0 && lim V 3 == 0))) = false := by rw [eq_one V (by omega) v1]; simpa using hV
        have hz := z4_zero
        clear CY
        have cu := Au.c
        have cv := Av.c
        have cy := Ay.c
        have cm := Am.c
        have cz := Az.c
        have zz := Az.z
        have lz := Az.lt
        have hS := hB.size
        go_wp2_with fail
        refine bodyPost_ret (v := .tuple #[nv 0, .bool false]) (by simp [results, Tryz.results62, go_sem, cz, lz, l00, l01, l02, l03]) rfl ⟨⟨_, _, HO.out.endN hV, rfl⟩, ?_⟩
        go_grown
    have hz := nz24 U (by omega) u1
    have n0 := lim_nn U 0
    have n1 := lim_lt U 0
    have e0 : lim U 0 % 2 = U % 2 := by rw [lim0]; omega
    clear CY l00 l01 l02 l03
    by_cases hp : U % 2 = 0
    · have hp' : (lim U 0 % 2 == 0) = true := by rw [e0, hp]; rfl
      have hpe : lim U 0 % 2 = 0 := by rw [e0, hp]
      have HO2 : Hid (OI A M (U / 2) V (hm X M) Y) := HO.out.even hM hp
      clear e0 HO
      have cu := Au.c
      have zu := Au.z
      go_wp2_with fail
      refine (half_any U u0 u1 _).mono ?_
      rintro e w13 ⟨rfl, hb⟩
      replace Am := Arr.to' Am hb
      replace Az := Arr.to' Az hb
      replace Au := Arr.to' Au hb
      replace Av := Arr.to' Av hb
      replace Ax := Arr.to' Ax hb
      replace Ay := Arr.to' Ay hb
      replace hB := Bel.call hB hb
      clear hb cu zu
      have cu := Au.c
      have zu := Au.z
      have cx := Ax.c
      have cm := Am.c
      have Bm := Arr.st4o (b' := w1.heap.size) Am (by have := Am.lt; have := Au.lt; omega) (U / 2)
      have Bz := Arr.st4o (b' := w1.heap.size) Az (by have := Az.lt; have := Au.lt; omega) (U / 2)
      have Bu := Arr.st4 Au (U / 2)
      have Bv := Arr.st4o (b' := w1.heap.size) Av (by have := Av.lt; have := Au.lt; omega) (U / 2)
      have Bx := Arr.st4o (b' := w1.heap.size) Ax (by have := Ax.lt; have := Au.lt; omega) (U / 2)
      have By := Arr.st4o (b' := w1.heap.size) Ay (by have := Ay.lt; have := Au.lt; omega) (U / 2)
      have hB' := Bel.st4 hB (b := w1.heap.size) (by have := hB.size; omega) (U / 2)
      clear Am Az Au Av Ax Ay hB
      have Am := Bm
      have Az := Bz
      have Au := Bu
      have Av := Bv
      have Ax := Bx
      have Ay := By
      have hB := hB'
      clear Bm Bz Bu Bv Bx By hB'
      go_wp2_with fail
      refine (halved_any X M x0 (by omega) (by omega) hM1 _).mono ?_
      rintro e w14 ⟨rfl, hb⟩
      replace Am := Arr.to' Am hb
      replace Az := Arr.to' Az hb
      replace Au := Arr.to' Au hb
      replace Av := Arr.to' Av hb
      replace Ax := Arr.to' Ax hb
      replace Ay := Arr.to' Ay hb
      replace hB := Bel.call hB hb
      clear hb cu zu cx cm
      have cx := Ax.c
      have zx := Ax.z
      have Bm := Arr.st4o (b' := w2.heap.size) Am (by have := Am.lt; have := Ax.lt; omega) (hm X M)
      have Bz := Arr.st4o (b' := w2.heap.size) Az (by have := Az.lt; have := Ax.lt; omega) (hm X M)
      have Bu := Arr.st4o (b' := w2.heap.size) Au (by have := Au.lt; have := Ax.lt; omega) (hm X M)
      have Bv := Arr.st4o (b' := w2.heap.size) Av (by have := Av.lt; have := Ax.lt; omega) (hm X M)
      have Bx := Arr.st4 Ax (hm X M)
      have By := Arr.st4o (b' := w2.heap.size) Ay (by have := Ay.lt; have := Ax.lt; omega) (hm X M)
      have hB' := Bel.st4 hB (b := w2.heap.size) (by have := hB.size; omega) (hm X M)
      clear Am Az Au Av Ax Ay hB
      have Am := Bm
      have Az := Bz
      have Au := Bu
      have Av := Bv
      have Ax := Bx
      have Ay := By
      have hB := hB'
      clear Bm Bz Bu Bv Bx By hB'
      have MS : Hid (sz2 ((st4 w14 (w2.heap.size) (hm X M))) w1.heap.size (w1.heap.size + 1) = ((U / 2) + (V)).toNat) := sz2_of Au Av (by omega) (by omega) (by omega) (by omega)
      go_wp2_with fail
      go_roundw
      case rel => exact ⟨_, _, _, _, HO2, hB, ⟨h01, h12⟩, Am, Az, Au, Av, Ax, Ay⟩
      case measure => first | (rw [MS.out, M0.out]; omega) | (show sz2 _ _ _ < sz2 _ _ _; rw [MS.out, M0.out]; omega)
    · have hp' : (lim U 0 % 2 == 0) = false := by rw [e0]; simpa using hp
      have hpe : ¬ lim U 0 % 2 = 0 := by rw [e0]; exact hp
      have ho : U % 2 = 1 := by omega
      by_cases hc : U < V
      · have HO2 : Hid (OI A M (V - U) U (if Y < X then Y - X + M else Y - X) X) := (HO.out.swap ho).sub (by omega)
        have CC : ∀ W, Calls Tryz.prog 21 #[nv U, nv V] W fun e w' => e = .returned (.int .i64 (-1)) ∧ Below W.heap.size W w' := fun W => by
          have := refCmp_any U V u0 u1 (by omega) v1 W
          rw [sg_lt hc] at this
          exact this
        clear e0 HO
        have cu := Au.c
        have zu := Au.z
        have cv := Av.c
        have zv := Av.z
        go_wp2_with fail
        refine (CC _).mono ?_
        rintro e w13 ⟨rfl, hb⟩
        replace Am := Arr.to' Am hb
        replace Az := Arr.to' Az hb
        replace Au := Arr.to' Au hb
        replace Av := Arr.to' Av hb
        replace Ax := Arr.to' Ax hb
        replace Ay := Arr.to' Ay hb
        replace hB := Bel.call hB hb
        clear hb cu zu cv zv
        have cu := Au.c
        have zu := Au.z
        have cv := Av.c
        have zv := Av.z
        have cx := Ax.c
        have zx := Ax.z
        have cy := Ay.c
        have zy := Ay.z
        have Bm := Arr.st4o (b' := w1.heap.size) Am (by have := Am.lt; have := Au.lt; omega) (V)
        have Bz := Arr.st4o (b' := w1.heap.size) Az (by have := Az.lt; have := Au.lt; omega) (V)
        have Bu := Arr.st4 Au (V)
        have Bv := Arr.st4o (b' := w1.heap.size) Av (by have := Av.lt; have := Au.lt; omega) (V)
        have Bx := Arr.st4o (b' := w1.heap.size) Ax (by have := Ax.lt; have := Au.lt; omega) (V)
        have By := Arr.st4o (b' := w1.heap.size) Ay (by have := Ay.lt; have := Au.lt; omega) (V)
        have hB' := Bel.st4 hB (b := w1.heap.size) (by have := hB.size; omega) (V)
        clear Am Az Au Av Ax Ay hB
        have Am := Bm
        have Az := Bz
        have Au := Bu
        have Av := Bv
        have Ax := Bx
        have Ay := By
        have hB := hB'
        clear Bm Bz Bu Bv Bx By hB'
        have Bm := Arr.st4o (b' := w1.heap.size + 1) Am (by have := Am.lt; have := Av.lt; omega) (U)
        have Bz := Arr.st4o (b' := w1.heap.size + 1) Az (by have := Az.lt; have := Av.lt; omega) (U)
        have Bu := Arr.st4o (b' := w1.heap.size + 1) Au (by have := Au.lt; have := Av.lt; omega) (U)
        have Bv := Arr.st4 Av (U)
        have Bx := Arr.st4o (b' := w1.heap.size + 1) Ax (by have := Ax.lt; have := Av.lt; omega) (U)
        have By := Arr.st4o (b' := w1.heap.size + 1) Ay (by have := Ay.lt; have := Av.lt; omega) (U)
        have hB' := Bel.st4 hB (b := w1.heap.size + 1) (by have := hB.size; omega) (U)
        clear Am Az Au Av Ax Ay hB
        have Am := Bm
        have Az := Bz
        have Au := Bu
        have Av := Bv
        have Ax := Bx
        have Ay := By
        have hB := hB'
        clear Bm Bz Bu Bv Bx By hB'
        have Bm := Arr.st4o (b' := w2.heap.size) Am (by have := Am.lt; have := Ax.lt; omega) (Y)
        have Bz := Arr.st4o (b' := w2.heap.size) Az (by have := Az.lt; have := Ax.lt; omega) (Y)
        have Bu := Arr.st4o (b' := w2.heap.size) Au (by have := Au.lt; have := Ax.lt; omega) (Y)
        have Bv := Arr.st4o (b' := w2.heap.size) Av (by have := Av.lt; have := Ax.lt; omega) (Y)
        have Bx := Arr.st4 Ax (Y)
        have By := Arr.st4o (b' := w2.heap.size) Ay (by have := Ay.lt; have := Ax.lt; omega) (Y)
        have hB' := Bel.st4 hB (b := w2.heap.size) (by have := hB.size; omega) (Y)
        clear Am Az Au Av Ax Ay hB
        have Am := Bm
        have Az := Bz
        have Au := Bu
        have Av := Bv
        have Ax := Bx
        have Ay := By
        have hB := hB'
        clear Bm Bz Bu Bv Bx By hB'
        have Bm := Arr.st4o (b' := w2.heap.size + 1) Am (by have := Am.lt; have := Ay.lt; omega) (X)
        have Bz := Arr.st4o (b' := w2.heap.size + 1) Az (by have := Az.lt; have := Ay.lt; omega) (X)
        have Bu := Arr.st4o (b' := w2.heap.size + 1) Au (by have := Au.lt; have := Ay.lt; omega) (X)
        have Bv := Arr.st4o (b' := w2.heap.size + 1) Av (by have := Av.lt; have := Ay.lt; omega) (X)
        have Bx := Arr.st4o (b' := w2.heap.size + 1) Ax (by have := Ax.lt; have := Ay.lt; omega) (X)
        have By := Arr.st4 Ay (X)
        have hB' := Bel.st4 hB (b := w2.heap.size + 1) (by have := hB.size; omega) (X)
        clear Am Az Au Av Ax Ay hB
        have Am := Bm
        have Az := Bz
        have Au := Bu
        have Av := Bv
        have Ax := Bx
        have Ay := By
        have hB := hB'
        clear Bm Bz Bu Bv Bx By hB'
        go_wp2_with fail
        refine (refSub_raw V U _).mono ?_
        rintro e w14 ⟨rfl, hb⟩
        replace Am := Arr.to' Am hb
        replace Az := Arr.to' Az hb
        replace Au := Arr.to' Au hb
        replace Av := Arr.to' Av hb
        replace Ax := Arr.to' Ax hb
        replace Ay := Arr.to' Ay hb
        replace hB := Bel.call hB hb
        clear hb cu zu cv zv cx zx cy zy
        have cu := Au.c
        have zu := Au.z
        have cx := Ax.c
        have cy := Ay.c
        have cm := Am.c
        have Bm := Arr.st4o (b' := w1.heap.size) Am (by have := Am.lt; have := Au.lt; omega) (V - U)
        have Bz := Arr.st4o (b' := w1.heap.size) Az (by have := Az.lt; have := Au.lt; omega) (V - U)
        have Bu := Arr.st4 Au (V - U)
        have Bv := Arr.st4o (b' := w1.heap.size) Av (by have := Av.lt; have := Au.lt; omega) (V - U)
        have Bx := Arr.st4o (b' := w1.heap.size) Ax (by have := Ax.lt; have := Au.lt; omega) (V - U)
        have By := Arr.st4o (b' := w1.heap.size) Ay (by have := Ay.lt; have := Au.lt; omega) (V - U)
        have hB' := Bel.st4 hB (b := w1.heap.size) (by have := hB.size; omega) (V - U)
        clear Am Az Au Av Ax Ay hB
        have Am := Bm
        have Az := Bz
        have Au := Bu
        have Av := Bv
        have Ax := Bx
        have Ay := By
        have hB := hB'
        clear Bm Bz Bu Bv Bx By hB'
        go_wp2_with fail
        refine (less_any Y X M y0 (by omega) x0 (by omega) _).mono ?_
        rintro e w15 ⟨rfl, hb⟩
        replace Am := Arr.to' Am hb
        replace Az := Arr.to' Az hb
        replace Au := Arr.to' Au hb
        replace Av := Arr.to' Av hb
        replace Ax := Arr.to' Ax hb
        replace Ay := Arr.to' Ay hb
        replace hB := Bel.call hB hb
        clear hb cu zu cx cy cm
        have cx := Ax.c
        have zx := Ax.z
        have Bm := Arr.st4o (b' := w2.heap.size) Am (by have := Am.lt; have := Ax.lt; omega) (if Y < X then Y - X + M else Y - X)
        have Bz := Arr.st4o (b' := w2.heap.size) Az (by have := Az.lt; have := Ax.lt; omega) (if Y < X then Y - X + M else Y - X)
        have Bu := Arr.st4o (b' := w2.heap.size) Au (by have := Au.lt; have := Ax.lt; omega) (if Y < X then Y - X + M else Y - X)
        have Bv := Arr.st4o (b' := w2.heap.size) Av (by have := Av.lt; have := Ax.lt; omega) (if Y < X then Y - X + M else Y - X)
        have Bx := Arr.st4 Ax (if Y < X then Y - X + M else Y - X)
        have By := Arr.st4o (b' := w2.heap.size) Ay (by have := Ay.lt; have := Ax.lt; omega) (if Y < X then Y - X + M else Y - X)
        have hB' := Bel.st4 hB (b := w2.heap.size) (by have := hB.size; omega) (if Y < X then Y - X + M else Y - X)
        clear Am Az Au Av Ax Ay hB
        have Am := Bm
        have Az := Bz
        have Au := Bu
        have Av := Bv
        have Ax := Bx
        have Ay := By
        have hB := hB'
        clear Bm Bz Bu Bv Bx By hB'
        have MS : Hid (sz2 ((st4 w15 (w2.heap.size) (if Y < X then Y - X + M else Y - X))) w1.heap.size (w1.heap.size + 1) = ((V - U) + (U)).toNat) := sz2_of Au Av (by omega) (by omega) (by omega) (by omega)
        go_wp2_with fail
        go_roundw
        case rel => exact ⟨_, _, _, _, HO2, hB, ⟨h01, h12⟩, Am, Az, Au, Av, Ax, Ay⟩
        case measure => first | (rw [MS.out, M0.out]; omega) | (show sz2 _ _ _ < sz2 _ _ _; rw [MS.out, M0.out]; omega)
      · have HO2 : Hid (OI A M (U - V) V (if X < Y then X - Y + M else X - Y) Y) := HO.out.sub (by omega)
        have hsg := sg_ge (a := U) (b := V) (by omega)
        have CC := fun W => refCmp_any U V u0 u1 (by omega) v1 W
        generalize sg U V = s at CC hsg
        clear e0 HO
        have cu := Au.c
        have zu := Au.z
        have cv := Av.c
        have zv := Av.z
        go_wp2_with fail
        refine (CC _).mono ?_
        rintro e w13 ⟨rfl, hb⟩
        replace Am := Arr.to' Am hb
        replace Az := Arr.to' Az hb
        replace Au := Arr.to' Au hb
        replace Av := Arr.to' Av hb
        replace Ax := Arr.to' Ax hb
        replace Ay := Arr.to' Ay hb
        replace hB := Bel.call hB hb
        clear hb cu zu cv zv
        have cu := Au.c
        have zu := Au.z
        have cv := Av.c
        have zv := Av.z
        have cx := Ax.c
        have zx := Ax.z
        have cy := Ay.c
        have zy := Ay.z
        go_wp2_with fail
        refine (refSub_raw U V _).mono ?_
        rintro e w14 ⟨rfl, hb⟩
        replace Am := Arr.to' Am hb
        replace Az := Arr.to' Az hb
        replace Au := Arr.to' Au hb
        replace Av := Arr.to' Av hb
        replace Ax := Arr.to' Ax hb
        replace Ay := Arr.to' Ay hb
        replace hB := Bel.call hB hb
        clear hb cu zu cv zv cx zx cy zy
        have cu := Au.c
        have zu := Au.z
        have cx := Ax.c
        have cy := Ay.c
        have cm := Am.c
        have Bm := Arr.st4o (b' := w1.heap.size) Am (by have := Am.lt; have := Au.lt; omega) (U - V)
        have Bz := Arr.st4o (b' := w1.heap.size) Az (by have := Az.lt; have := Au.lt; omega) (U - V)
        have Bu := Arr.st4 Au (U - V)
        have Bv := Arr.st4o (b' := w1.heap.size) Av (by have := Av.lt; have := Au.lt; omega) (U - V)
        have Bx := Arr.st4o (b' := w1.heap.size) Ax (by have := Ax.lt; have := Au.lt; omega) (U - V)
        have By := Arr.st4o (b' := w1.heap.size) Ay (by have := Ay.lt; have := Au.lt; omega) (U - V)
        have hB' := Bel.st4 hB (b := w1.heap.size) (by have := hB.size; omega) (U - V)
        clear Am Az Au Av Ax Ay hB
        have Am := Bm
        have Az := Bz
        have Au := Bu
        have Av := Bv
        have Ax := Bx
        have Ay := By
        have hB := hB'
        clear Bm Bz Bu Bv Bx By hB'
        go_wp2_with fail
        refine (less_any X Y M x0 (by omega) y0 (by omega) _).mono ?_
        rintro e w15 ⟨rfl, hb⟩
        replace Am := Arr.to' Am hb
        replace Az := Arr.to' Az hb
        replace Au := Arr.to' Au hb
        replace Av := Arr.to' Av hb
        replace Ax := Arr.to' Ax hb
        replace Ay := Arr.to' Ay hb
        replace hB := Bel.call hB hb
        clear hb cu zu cx cy cm
        have cx := Ax.c
        have zx := Ax.z
        have Bm := Arr.st4o (b' := w2.heap.size) Am (by have := Am.lt; have := Ax.lt; omega) (if X < Y then X - Y + M else X - Y)
        have Bz := Arr.st4o (b' := w2.heap.size) Az (by have := Az.lt; have := Ax.lt; omega) (if X < Y then X - Y + M else X - Y)
        have Bu := Arr.st4o (b' := w2.heap.size) Au (by have := Au.lt; have := Ax.lt; omega) (if X < Y then X - Y + M else X - Y)
        have Bv := Arr.st4o (b' := w2.heap.size) Av (by have := Av.lt; have := Ax.lt; omega) (if X < Y then X - Y + M else X - Y)
        have Bx := Arr.st4 Ax (if X < Y then X - Y + M else X - Y)
        have By := Arr.st4o (b' := w2.heap.size) Ay (by have := Ay.lt; have := Ax.lt; omega) (if X < Y then X - Y + M else X - Y)
        have hB' := Bel.st4 hB (b := w2.heap.size) (by have := hB.size; omega) (if X < Y then X - Y + M else X - Y)
        clear Am Az Au Av Ax Ay hB
        have Am := Bm
        have Az := Bz
        have Au := Bu
        have Av := Bv
        have Ax := Bx
        have Ay := By
        have hB := hB'
        clear Bm Bz Bu Bv Bx By hB'
        have MS : Hid (sz2 ((st4 w15 (w2.heap.size) (if X < Y then X - Y + M else X - Y))) w1.heap.size (w1.heap.size + 1) = ((U - V) + (V)).toNat) := sz2_of Au Av (by omega) (by omega) (by omega) (by omega)
        go_wp2_with fail
        go_roundw
        case rel => exact ⟨_, _, _, _, HO2, hB, ⟨h01, h12⟩, Am, Az, Au, Av, Ax, Ay⟩
        case measure => first | (rw [MS.out, M0.out]; omega) | (show sz2 _ _ _ < sz2 _ _ _; rw [MS.out, M0.out]; omega)
end
end Go.Proofs.YtoolbnbfbegjaaaGreat
