/- What the reference's Mul answers. -/
import Derived.Test.YtfgeilnaiijldaaM7
import Derived.Test.YtfgeilnaiijldaaR1
import Derived.Test.YtfgeilnaiijldaaN15
import Derived.Test.YtfgeilnaiijldaaN6
import Derived.Test.YtfgeilnaiijldaaN4
import Derived.BigQuiet
set_option linter.all false
namespace Go.Proofs.Ytfgeilnaiijldaa
open Go.RowKit
theorem mk69_8 (w : World) : (Instr.makeSlice 69 (.int .i64 8) (.int .i64 8)).run Try.prog w = .ok (.slice (some ⟨w.heap.size, 0, none⟩) 8 8) (w.alloc (.cells #[.int .u64 0, .int .u64 0, .int .u64 0, .int .u64 0, .int .u64 0, .int .u64 0, .int .u64 0, .int .u64 0] 22)) := by kernel_rfl
theorem mk69_16 (w : World) : (Instr.makeSlice 69 (.int .i64 16) (.int .i64 16)).run Try.prog w = .ok (.slice (some ⟨w.heap.size, 0, none⟩) 16 16) (w.alloc (.cells #[.int .u64 0, .int .u64 0, .int .u64 0, .int .u64 0, .int .u64 0, .int .u64 0, .int .u64 0, .int .u64 0, .int .u64 0, .int .u64 0, .int .u64 0, .int .u64 0, .int .u64 0, .int .u64 0, .int .u64 0, .int .u64 0] 22)) := by kernel_rfl
theorem and32 (z : Int) (h0 : 0 ≤ z) (h1 : z < 18446744073709551616) : bits .and .u64 z 4294967295 = z % 4294967296 := by
  have := bits_mask .u64 64 (by decide) wraps_u64_64 32 (by decide) z h0 h1
  simpa using this
theorem hf_even (N : Int) (q : Nat) : lim N q % 4294967296 = hf N (2 * q) := by
  unfold lim hf
  have e : (18446744073709551616 : Int) ^ q = 4294967296 ^ (2 * q) := by rw [Int.pow_mul, show (4294967296 : Int) ^ 2 = 18446744073709551616 by decide]
  rw [e]; generalize N / 4294967296 ^ (2 * q) = x; omega
theorem hf_odd (N : Int) (q : Nat) : lim N q / 4294967296 % 4294967296 = hf N (2 * q + 1) := by
  have d := div_suc N (2 * q)
  unfold lim
  have e : (18446744073709551616 : Int) ^ q = 4294967296 ^ (2 * q) := by rw [Int.pow_mul, show (4294967296 : Int) ^ 2 = 18446744073709551616 by decide]
  rw [e]
  have f : hf N (2 * q + 1) = N / 4294967296 ^ (2 * q + 1) % 4294967296 := rfl
  rw [f]
  have h0 := hf_nn N (2 * q)
  have h1 := hf_lt N (2 * q)
  generalize N / 4294967296 ^ (2 * q) = x at *
  generalize N / 4294967296 ^ (2 * q + 1) = y at *
  generalize hf N (2 * q) = h at *
  omega
theorem and_even (N : Int) (q : Nat) : bits .and .u64 (lim N q) 4294967295 = hf N (2 * q) := by rw [and32 _ (lim_nn _ _) (lim_lt _ _), hf_even]
theorem and_odd (N : Int) (q : Nat) : bits .and .u64 (lim N q / 4294967296) 4294967295 = hf N (2 * q + 1) := by
  have a := lim_nn N q
  have b := lim_lt N q
  rw [and32 _ (by omega) (by omega), hf_odd]
/-- The first sixteen cells of block b. -/
theorem Arr.mk16 {w : World} {b : Nat} {f : Nat → Value} (h : ∀ j, j < 16 → w.cell? ⟨b, j, none⟩ = some (f j) ∧ w.frozen? ⟨b, j, none⟩ = false) : Arr w b 16 f := h
/-- What holds of memory ahead of z. -/
def MS (w wr : World) (A B : Int) (fx fy : Nat → Value) : Prop :=
  Below w.heap.size w wr ∧ w.heap.size + 1 + 1 + 1 + 1 + 1 < wr.heap.size ∧ Arr wr (w.heap.size) 4 (fun j => .int .u64 (lim A j)) ∧ Arr wr (w.heap.size + 1) 4 (fun j => .int .u64 (lim B j)) ∧ Arr wr (w.heap.size + 1 + 1) 4 (fun _ => .int .u64 0) ∧ Arr wr (w.heap.size + 1 + 1 + 1) 4 (fun _ => .int .u64 0) ∧ Arr wr (w.heap.size + 1 + 1 + 1 + 1) 8 fx ∧ Arr wr (w.heap.size + 1 + 1 + 1 + 1 + 1) 8 fy
theorem MS.set {w wr : World} {A B : Int} {fx fy : Nat → Value} (h : MS w wr A B fx fy) (k : Nat) (hk : k < 8) (u v : Value) :
    MS w ((wr.setCell ⟨w.heap.size + 1 + 1 + 1 + 1, k, none⟩ u).setCell ⟨w.heap.size + 1 + 1 + 1 + 1 + 1, k, none⟩ v) A B (fun j => if j = k then u else fx j) (fun j => if j = k then v else fy j) := by
  obtain ⟨a, b, c0, c1, c2, c3, c4, c5⟩ := h
  exact ⟨(a.setCell (by show _ ≤ w.heap.size + 1 + 1 + 1 + 1; omega) _).setCell (by show _ ≤ w.heap.size + 1 + 1 + 1 + 1 + 1; omega) _, by rw [size_set, size_set]; exact b, (c0.other (by omega) _).other (by omega) _, (c1.other (by omega) _).other (by omega) _, (c2.other (by omega) _).other (by omega) _, (c3.other (by omega) _).other (by omega) _, (c4.set k hk u).other (by omega) _, (c5.other (by omega) _).set k hk v⟩
theorem MS.z {w wr : World} {A B : Int} {fx fy : Nat → Value} (h : MS w wr A B fx fy) {b : Nat} (hb : w.heap.size + 1 + 1 + 1 + 1 + 1 < b) (k : Nat) (v : Value) : MS w (wr.setCell ⟨b, k, none⟩ v) A B fx fy := by
  obtain ⟨a, b', c0, c1, c2, c3, c4, c5⟩ := h
  exact ⟨a.setCell (by show _ ≤ b; omega) _, by rw [size_set]; exact b', c0.other (by omega) _, c1.other (by omega) _, c2.other (by omega) _, c3.other (by omega) _, c4.other (by omega) _, c5.other (by omega) _⟩
theorem MS.drewN {w wr : World} {A B : Int} {fx fy : Nat → Value} (h : MS w wr A B fx fy) (n : Nat) : MS w (wr.drewN n) A B fx fy := by
  obtain ⟨a, b', c0, c1, c2, c3, c4, c5⟩ := h
  exact ⟨below_drewN a n, b', c0.drewN n, c1.drewN n, c2.drewN n, c3.drewN n, c4.drewN n, c5.drewN n⟩
theorem MS.drew {w wr : World} {A B : Int} {fx fy : Nat → Value} (h : MS w wr A B fx fy) : MS w wr.drew A B fx fy := by
  obtain ⟨a, b', c0, c1, c2, c3, c4, c5⟩ := h
  exact ⟨a.drew, b', c0.drew, c1.drew, c2.drew, c3.drew, c4.drew, c5.drew⟩
theorem MS.al {w wr : World} {A B : Int} {fx fy : Nat → Value} (h : MS w wr A B fx fy) (o : Obj) : MS w (wr.alloc o) A B fx fy := by
  obtain ⟨a, b', c0, c1, c2, c3, c4, c5⟩ := h
  exact ⟨a.alloc a.size o, by simp; omega, c0.alloc (by omega) o, c1.alloc (by omega) o, c2.alloc (by omega) o, c3.alloc (by omega) o, c4.alloc (by omega) o, c5.alloc (by omega) o⟩
/-- A half, as the translation holds it. -/
def hv (N : Int) (j : Nat) : Value := .int .u64 (hf N j)
theorem or_half (T : Int) (i : Nat) : bits .or .u64 (hf T (2 * i)) (IntKind.u64.wrap (hf T (2 * i + 1) * 4294967296)) = lim T i := by
  have h0 := hf_nn T (2 * i)
  have h1 := hf_lt T (2 * i)
  have g0 := hf_nn T (2 * i + 1)
  have g1 := hf_lt T (2 * i + 1)
  have w : IntKind.u64.wrap (hf T (2 * i + 1) * 4294967296) = hf T (2 * i + 1) * 4294967296 := by rw [IntKind.wrap_u64]; omega
  have d := div_suc T (2 * i)
  have d2 := div_suc T (2 * i + 1)
  have l : lim T i = hf T (2 * i) + hf T (2 * i + 1) * 4294967296 := by
    unfold lim
    have e : (18446744073709551616 : Int) ^ i = 4294967296 ^ (2 * i) := by rw [Int.pow_mul, show (4294967296 : Int) ^ 2 = 18446744073709551616 by decide]
    rw [e]
    generalize T / 4294967296 ^ (2 * i) = x at *
    generalize T / 4294967296 ^ (2 * i + 1) = y at *
    generalize T / 4294967296 ^ (2 * i + 1 + 1) = z at *
    generalize hf T (2 * i) = h at *
    generalize hf T (2 * i + 1) = g at *
    omega
  have j := or_join (hf T (2 * i) * 4294967296) (hf T (2 * i + 1)) 32 (by omega) (by omega) (by omega) g0
  rw [show (2 : Int) ^ 32 = 4294967296 by decide, Int.mul_ediv_cancel _ (by omega), Int.emod_eq_of_lt g0 g1] at j
  rw [j, l]
set_option maxRecDepth 100000 in
set_option maxHeartbeats 8000000 in
theorem refMul_raw (A B : Int) (w : World) (hA : Hid (0 ≤ A ∧ A < top256)) (hB : Hid (0 ≤ B ∧ B < top256)) :
    Calls Try.prog 26 #[nv A, nv B] w fun e w' => e = .returned (.tuple #[nv (A * B), nv (A * B / top256)]) ∧ Below w.heap.size w w' := by
  have m8 := mk69_8
  have m16 := mk69_16
  go_enter Try.func26, Try.ntmps26
  go_wp2_with fail
  go_loopw [8] (fun i wr => ∃ k : Nat, k ≤ 8 ∧ i = .int .i64 k ∧ MS w wr A B (fun j => if j < k then hv A j else .int .u64 0) (fun j => if j < k then hv B j else .int .u64 0))
    (fun i _ => 8 - (intOf i).toNat)
  case atStart =>
    refine ⟨0, by omega, rfl, by go_grown, by go_size, Arr.mk4 (by simp [go_sem]) (by simp [go_sem]) (by simp [go_sem]) (by simp [go_sem]) (by simp [go_sem]) (by simp [go_sem]) (by simp [go_sem]) (by simp [go_sem]) , Arr.mk4 (by simp [go_sem]) (by simp [go_sem]) (by simp [go_sem]) (by simp [go_sem]) (by simp [go_sem]) (by simp [go_sem]) (by simp [go_sem]) (by simp [go_sem]) , Arr.mk4 (by simp [go_sem]) (by simp [go_sem]) (by simp [go_sem]) (by simp [go_sem]) (by simp [go_sem]) (by simp [go_sem]) (by simp [go_sem]) (by simp [go_sem]) , Arr.mk4 (by simp [go_sem]) (by simp [go_sem]) (by simp [go_sem]) (by simp [go_sem]) (by simp [go_sem]) (by simp [go_sem]) (by simp [go_sem]) (by simp [go_sem]) , ?_, ?_⟩
    · exact Arr.congr (f := fun _ => .int .u64 0) (Arr.mk8' (by simp [go_sem]) (by simp [go_sem]) (by simp [go_sem]) (by simp [go_sem]) (by simp [go_sem]) (by simp [go_sem]) (by simp [go_sem]) (by simp [go_sem]) (by simp [go_sem])) (by intro j _; simp)
    · exact Arr.congr (f := fun _ => .int .u64 0) (Arr.mk8' (by simp [go_sem]) (by simp [go_sem]) (by simp [go_sem]) (by simp [go_sem]) (by simp [go_sem]) (by simp [go_sem]) (by simp [go_sem]) (by simp [go_sem]) (by simp [go_sem])) (by intro j _; simp)
  case round =>
    obtain ⟨k, hk, rfl, hM⟩ := hrel
    obtain ⟨hBl, hsz, c0, c1, c2, c3, c4, c5⟩ := id hM
    by_cases hlt : k < 8
    · have r0 := c0.c
      have r1 := c1.c
      have r4 := c4.c k hlt
      have z4 := c4.z k hlt
      have r5 := c5.c k hlt
      have z5 := c5.z k hlt
      have st := hM.set k hlt (hv A k) (hv B k)
      have hst : MS w ((wr.setCell ⟨w.heap.size + 1 + 1 + 1 + 1, k, none⟩ (hv A k)).setCell ⟨w.heap.size + 1 + 1 + 1 + 1 + 1, k, none⟩ (hv B k)) A B (fun j => if j < k + 1 then hv A j else .int .u64 0) (fun j => if j < k + 1 then hv B j else .int .u64 0) := by
        obtain ⟨a, b, e0, e1, e2, e3, e4, e5⟩ := st
        refine ⟨a, b, e0, e1, e2, e3, e4.congr ?_, e5.congr ?_⟩
        · intro j hj
          by_cases h : j = k
          · subst h; rw [if_pos rfl, if_pos (by omega)]
          · rw [if_neg h]
            by_cases h2 : j < k
            · rw [if_pos h2, if_pos (by omega)]
            · rw [if_neg h2, if_neg (by omega)]
        · intro j hj
          by_cases h : j = k
          · subst h; rw [if_pos rfl, if_pos (by omega)]
          · rw [if_neg h]
            by_cases h2 : j < k
            · rw [if_pos h2, if_pos (by omega)]
            · rw [if_neg h2, if_neg (by omega)]
      clear st hM hBl c0 c1 c2 c3 c4 c5 m8 m16
      have h8 : k = 0 ∨ k = 1 ∨ k = 2 ∨ k = 3 ∨ k = 4 ∨ k = 5 ∨ k = 6 ∨ k = 7 := by omega
      have ae0 := and_even A 0
      have ae1 := and_even A 1
      have ae2 := and_even A 2
      have ae3 := and_even A 3
      have ao0 := and_odd A 0
      have ao1 := and_odd A 1
      have ao2 := and_odd A 2
      have ao3 := and_odd A 3
      have be0 := and_even B 0
      have be1 := and_even B 1
      have be2 := and_even B 2
      have be3 := and_even B 3
      have bo0 := and_odd B 0
      have bo1 := and_odd B 1
      have bo2 := and_odd B 2
      have bo3 := and_odd B 3
      unfold hv at hst
      have HST : Hid _ := hst
      clear hst
      rcases h8 with rfl | rfl | rfl | rfl | rfl | rfl | rfl | rfl
      all_goals
        go_wp2_with fail
        go_roundw
        case rel => exact ⟨_, by omega, by go_num, HST.out⟩
        case measure => simp [intOf]
    · have e8 : k = 8 := by omega
      subst e8
      have hM' : MS w wr A B (hv A) (hv B) := by
        obtain ⟨a, b, e0, e1, e2, e3, e4, e5⟩ := hM
        exact ⟨a, b, e0, e1, e2, e3, e4.congr (by intro j hj; rw [if_pos hj]), e5.congr (by intro j hj; rw [if_pos hj])⟩
      clear hM hBl c0 c1 c2 c3 c4 c5 m8
      have hsz0 := hM'.2.1
      obtain ⟨wz, ewz⟩ : ∃ wz, wz = wr := ⟨_, rfl⟩
      subst ewz
      go_wp2_with fail
      go_loopw [10] (fun i wr => ∃ k : Nat, k ≤ 8 ∧ i = .int .i64 k ∧ MS w wr A B (hv A) (hv B) ∧ Arr wr wz.heap.size 16 (hv (low A k * B)))
        (fun i _ => 8 - (intOf i).toNat)
      case atStart =>
        refine ⟨0, by omega, rfl, hM'.al _, ?_⟩
        have z0 : ∀ j, hv (low A 0 * B) j = .int .u64 0 := fun j => by unfold hv hf; rw [low_zero, Int.zero_mul]; simp
        intro j hj
        rw [z0]
        have hj16 : j = 0 ∨ j = 1 ∨ j = 2 ∨ j = 3 ∨ j = 4 ∨ j = 5 ∨ j = 6 ∨ j = 7 ∨ j = 8 ∨ j = 9 ∨ j = 10 ∨ j = 11 ∨ j = 12 ∨ j = 13 ∨ j = 14 ∨ j = 15 := by omega
        rcases hj16 with rfl | rfl | rfl | rfl | rfl | rfl | rfl | rfl | rfl | rfl | rfl | rfl | rfl | rfl | rfl | rfl <;> exact ⟨by simp [go_sem], by simp [go_sem]⟩
      case round =>
        clear hM' m16
        obtain ⟨i, hi, rfl, hM1, hZ⟩ := hrel
        by_cases hlt : i < 8
        · have i0 : (0 : Int) ≤ (i : Int) := by omega
          have i8 : (i : Int) < 8 := by omega
          go_wp2_with fail
          go_loopw [11, 12] (fun c k' wr => ∃ k : Nat, k ≤ 8 ∧ k' = .int .i64 k ∧ c = .int .u64 (cr A B i k) ∧ MS w wr A B (hv A) (hv B) ∧ Arr wr wz.heap.size 16 (fun j => if j < i + k then hv (TT A B i k) j else hv (low A i * B) j))
            (fun _ k' _ => 8 - (intOf k').toNat)
          case atStart =>
            refine ⟨0, by omega, rfl, by rw [cr_zero], hM1, hZ.congr ?_⟩
            intro j hj
            by_cases h : j < i + 0
            · rw [if_pos h, TT_zero]
            · rw [if_neg h]
          case round =>
            clear hM1 hZ
            obtain ⟨k, hk, rfl, rfl, hM2, hZ2⟩ := hrel
            by_cases hkl : k < 8
            · have k0 : (0 : Int) ≤ (k : Int) := by omega
              have k8 : (k : Int) < 8 := by omega
              have tb := t_bd A B i k
              have xb := hf_nn A i
              have xb1 := hf_lt A i
              have yb := hf_nn B k
              have yb1 := hf_lt B k
              have zb := hf_nn (low A i * B) (i + k)
              have zb1 := hf_lt (low A i * B) (i + k)
              have cb := cr_bd A B i k
              have rx : wr.cell? ⟨w.heap.size + 1 + 1 + 1 + 1, i, none⟩ = some (.int .u64 (hf A i)) := hM2.2.2.2.2.2.2.1.c i hlt
              have ry : wr.cell? ⟨w.heap.size + 1 + 1 + 1 + 1 + 1, k, none⟩ = some (.int .u64 (hf B k)) := hM2.2.2.2.2.2.2.2.c k hkl
              have rz : wr.cell? ⟨wz.heap.size, i + k, none⟩ = some (.int .u64 (hf (low A i * B) (i + k))) := by
                have := hZ2.c (i + k) (by omega)
                rw [if_neg (by omega)] at this
                exact this
              have fz := hZ2.z (i + k) (by omega)
              have ez : ((i : Int) + (k : Int)).toNat = i + k := by omega
              have a32 := and32 (hf A i * hf B k + hf (low A i * B) (i + k) + cr A B i k) tb.1 tb.2.1
              rw [← hf_new] at a32
              have e32 := cr_suc A B i k
              have HE : Hid (cr A B i (k + 1) = (hf A i * hf B k + hf (low A i * B) (i + k) + cr A B i k) / 4294967296) := e32
              clear e32
              go_wp2_with fail
              go_quiet (fail)
              go_wp2_with fail
              refine ⟨⟨k + 1, by omega, by go_num, by rw [HE.out], (hM2.drewN nq).z (by omega) _ _, ((hZ2.drewN nq).set (i + k) (by omega) _).congr ?_⟩, by simp [intOf]; omega⟩
              intro j hj
              by_cases h : j = i + k
              · subst h; rw [if_pos rfl, if_pos (by omega)]; rfl
              · rw [if_neg h]
                by_cases h2 : j < i + k
                · rw [if_pos h2, if_pos (by omega), TT_suc]
                  unfold hv
                  rw [hf_old _ _ _ _ h2]
                · rw [if_neg h2, if_neg (by omega)]
            · have ek : k = 8 := by omega
              subst ek
              have fz := hZ2.z (i + 8) (by omega)
              have rz := hZ2.c (i + 8) (by omega)
              have ez : ((i : Int) + 8).toNat = i + 8 := by omega
              have ce := cr_end A B i hB.out.1 hB.out.2
              have hi1 := hf_high A B i
              have hi2 := hf_high A B (i + 1)
              have te := TT_end A B i hB.out.1 hB.out.2
              have ST : Arr (wr.setCell ⟨wz.heap.size, i + 8, none⟩ (.int .u64 (cr A B i 8))) wz.heap.size 16 (hv (low A (i + 1) * B)) := by
                refine (hZ2.set (i + 8) (by omega) _).congr ?_
                intro j hj
                by_cases h : j = i + 8
                · subst h; rw [if_pos rfl, ce]; rfl
                · rw [if_neg h]
                  by_cases h2 : j < i + 8
                  · rw [if_pos h2, te]
                  · rw [if_neg h2]
                    unfold hv
                    rw [hi1 j hB.out.1 hB.out.2 (by omega), hi2 j hB.out.1 hB.out.2 (by omega)]
              have SM := hM2.z (b := wz.heap.size) (by omega) (i + 8) (.int .u64 (cr A B i 8))
              clear ce hi1 hi2 te hM2 hZ2
              go_wp2_with fail
              go_roundw
              case rel => exact ⟨i + 1, by omega, by go_num, SM, ST⟩
              case measure => simp [intOf]; omega
        · have e8' : i = 8 := by omega
          subst e8'
          rw [low_all A hA.out.1 hA.out.2] at hZ
          obtain ⟨T, hT⟩ : ∃ T, T = A * B := ⟨_, rfl⟩
          rw [← hT] at hZ
          have HT : Hid (T = A * B) := hT
          clear hT
          obtain ⟨wy, ewy⟩ : ∃ wy, wy = wr := ⟨_, rfl⟩
          subst ewy
          have hzl : wz.heap.size < wy.heap.size := block_lt_of_cell (hZ.c 0 (by omega))
          go_wp2_with fail
          go_loopw [16] (fun i wr => ∃ k : Nat, k ≤ 4 ∧ i = .int .i64 k ∧ MS w wr A B (hv A) (hv B) ∧ Arr wr wz.heap.size 16 (hv T) ∧ Arr wr wy.heap.size 4 (fun j => .int .u64 (if j < k then lim T j else 0)) ∧ Arr wr (wy.heap.size + 1) 4 (fun j => .int .u64 (if j < k then lim (T / top256) j else 0)) ∧ wy.heap.size + 1 < wr.heap.size)
            (fun i _ => 4 - (intOf i).toNat)
          case atStart =>
            exact ⟨0, by omega, rfl, (hM1.al _).al _, (hZ.alloc (by omega) _).alloc (by go_size) _, Arr.mk4 (by simp [go_sem]) (by simp [go_sem]) (by simp [go_sem]) (by simp [go_sem]) (by simp [go_sem]) (by simp [go_sem]) (by simp [go_sem]) (by simp [go_sem]) , Arr.mk4 (by simp [go_sem]) (by simp [go_sem]) (by simp [go_sem]) (by simp [go_sem]) (by simp [go_sem]) (by simp [go_sem]) (by simp [go_sem]) (by simp [go_sem]) , by go_size⟩
          case round =>
            clear hM1 hZ
            obtain ⟨k, hk, rfl, hM3, hZ3, hL, hH, hsz3⟩ := hrel
            by_cases hlt4 : k < 4
            · have rl := hL.c k hlt4
              have zl := hL.z k hlt4
              have rh := hH.c k hlt4
              have zh := hH.z k hlt4
              have rz0 : wr.cell? ⟨wz.heap.size, 0, none⟩ = some (.int .u64 (hf T 0)) := hZ3.c 0 (by omega)
              have rz1 : wr.cell? ⟨wz.heap.size, 1, none⟩ = some (.int .u64 (hf T 1)) := hZ3.c 1 (by omega)
              have rz2 : wr.cell? ⟨wz.heap.size, 2, none⟩ = some (.int .u64 (hf T 2)) := hZ3.c 2 (by omega)
              have rz3 : wr.cell? ⟨wz.heap.size, 3, none⟩ = some (.int .u64 (hf T 3)) := hZ3.c 3 (by omega)
              have rz4 : wr.cell? ⟨wz.heap.size, 4, none⟩ = some (.int .u64 (hf T 4)) := hZ3.c 4 (by omega)
              have rz5 : wr.cell? ⟨wz.heap.size, 5, none⟩ = some (.int .u64 (hf T 5)) := hZ3.c 5 (by omega)
              have rz6 : wr.cell? ⟨wz.heap.size, 6, none⟩ = some (.int .u64 (hf T 6)) := hZ3.c 6 (by omega)
              have rz7 : wr.cell? ⟨wz.heap.size, 7, none⟩ = some (.int .u64 (hf T 7)) := hZ3.c 7 (by omega)
              have rz8 : wr.cell? ⟨wz.heap.size, 8, none⟩ = some (.int .u64 (hf T 8)) := hZ3.c 8 (by omega)
              have rz9 : wr.cell? ⟨wz.heap.size, 9, none⟩ = some (.int .u64 (hf T 9)) := hZ3.c 9 (by omega)
              have rz10 : wr.cell? ⟨wz.heap.size, 10, none⟩ = some (.int .u64 (hf T 10)) := hZ3.c 10 (by omega)
              have rz11 : wr.cell? ⟨wz.heap.size, 11, none⟩ = some (.int .u64 (hf T 11)) := hZ3.c 11 (by omega)
              have rz12 : wr.cell? ⟨wz.heap.size, 12, none⟩ = some (.int .u64 (hf T 12)) := hZ3.c 12 (by omega)
              have rz13 : wr.cell? ⟨wz.heap.size, 13, none⟩ = some (.int .u64 (hf T 13)) := hZ3.c 13 (by omega)
              have rz14 : wr.cell? ⟨wz.heap.size, 14, none⟩ = some (.int .u64 (hf T 14)) := hZ3.c 14 (by omega)
              have rz15 : wr.cell? ⟨wz.heap.size, 15, none⟩ = some (.int .u64 (hf T 15)) := hZ3.c 15 (by omega)
              have o0 : bits .or .u64 (hf T 0) (IntKind.u64.wrap (hf T 1 * 4294967296)) = lim T 0 := or_half T 0
              have o1 : bits .or .u64 (hf T 2) (IntKind.u64.wrap (hf T 3 * 4294967296)) = lim T 1 := or_half T 1
              have o2 : bits .or .u64 (hf T 4) (IntKind.u64.wrap (hf T 5 * 4294967296)) = lim T 2 := or_half T 2
              have o3 : bits .or .u64 (hf T 6) (IntKind.u64.wrap (hf T 7 * 4294967296)) = lim T 3 := or_half T 3
              have p0 : bits .or .u64 (hf T 8) (IntKind.u64.wrap (hf T 9 * 4294967296)) = lim (T / top256) 0 := by rw [← lim_add4]; exact or_half T 4
              have p1 : bits .or .u64 (hf T 10) (IntKind.u64.wrap (hf T 11 * 4294967296)) = lim (T / top256) 1 := by rw [← lim_add4]; exact or_half T 5
              have p2 : bits .or .u64 (hf T 12) (IntKind.u64.wrap (hf T 13 * 4294967296)) = lim (T / top256) 2 := by rw [← lim_add4]; exact or_half T 6
              have p3 : bits .or .u64 (hf T 14) (IntKind.u64.wrap (hf T 15 * 4294967296)) = lim (T / top256) 3 := by rw [← lim_add4]; exact or_half T 7
              have ST := ((hL.set k hlt4 (.int .u64 (lim T k))).other (b' := wy.heap.size + 1) (k := k) (by omega) (.int .u64 (lim (T / top256) k))).drew.drew
              have SH := ((hH.other (b' := wy.heap.size) (k := k) (by omega) (.int .u64 (lim T k))).set k hlt4 (.int .u64 (lim (T / top256) k))).drew.drew
              have SZ := ((hZ3.other (b' := wy.heap.size) (k := k) (by omega) (.int .u64 (lim T k))).other (b' := wy.heap.size + 1) (k := k) (by omega) (.int .u64 (lim (T / top256) k))).drew.drew
              have SM := ((hM3.z (b := wy.heap.size) (by omega) k (.int .u64 (lim T k))).z (b := wy.heap.size + 1) (by omega) k (.int .u64 (lim (T / top256) k))).drew.drew
              have SS : wy.heap.size + 1 < (((wr.setCell ⟨wy.heap.size, k, none⟩ (.int .u64 (lim T k))).setCell ⟨wy.heap.size + 1, k, none⟩ (.int .u64 (lim (T / top256) k))).drew.drew).heap.size := by simp only [World.size_drew, size_set]; exact hsz3
              have ST' := ST.congr (g := fun j => .int .u64 (if j < k + 1 then lim T j else 0)) (by
                intro j hj
                by_cases h : j = k
                · subst h; rw [if_pos rfl, if_pos (by omega)]
                · rw [if_neg h]
                  by_cases h2 : j < k
                  · rw [if_pos h2, if_pos (by omega)]
                  · rw [if_neg h2, if_neg (by omega)])
              have SH' := SH.congr (g := fun j => .int .u64 (if j < k + 1 then lim (T / top256) j else 0)) (by
                intro j hj
                by_cases h : j = k
                · subst h; rw [if_pos rfl, if_pos (by omega)]
                · rw [if_neg h]
                  by_cases h2 : j < k
                  · rw [if_pos h2, if_pos (by omega)]
                  · rw [if_neg h2, if_neg (by omega)])
              have HST : Hid _ := And.intro SM (And.intro SZ (And.intro ST' (And.intro SH' SS)))
              clear ST SH SZ SM ST' SH' SS hM3 hZ3 hL hH
              have h4 : k = 0 ∨ k = 1 ∨ k = 2 ∨ k = 3 := by omega
              rcases h4 with rfl | rfl | rfl | rfl
              all_goals
                go_wp2_with fail
                go_region
                go_wp2_with fail
                go_region
                go_wp2_with fail
                exact ⟨⟨_, by omega, by go_num, HST.out⟩, by simp [intOf]⟩
            · have ek4 : k = 4 := by omega
              subst ek4
              have hL' := hL.congr (g := fun j => .int .u64 (lim T j)) (by intro j hj; rw [if_pos hj])
              have hH' := hH.congr (g := fun j => .int .u64 (lim (T / top256) j)) (by intro j hj; rw [if_pos hj])
              obtain ⟨hBl, hs5, c0, c1, c2, c3, c4, c5⟩ := hM3
              have rl := hL'.c
              have rh := hH'.c
              have r2 := c2.c
              have z2 := c2.z
              have r3 := c3.c
              have z3 := c3.z
              clear hL hH hL' hH' c0 c1 c2 c3 c4 c5 hZ3
              go_wp2_with fail
              go_region
              go_wp2_with fail
              refine bodyPost_ret (v := .tuple #[nv T, nv (T / top256)]) (by simp [results, Try.results26, go_sem, r2, r3]) rfl ⟨by rw [HT.out], ?_⟩
              go_grown
end Go.Proofs.Ytfgeilnaiijldaa
