/- What the reference's Rem answers, for any numbers. -/
import Derived.Test.YtpigofooblmdhaaJ18
import Derived.Test.YtpigofooblmdhaaJ20
import Derived.Test.YtpigofooblmdhaaJ22
set_option linter.all false
set_option maxRecDepth 100000
namespace Go.Proofs.Ytpigofooblmdhaa
open Go.RowKit Go.Sort
theorem lim_half (R : Int) (k : Nat) : lim (R / 2) k = lim R k / 2 + lim R (k + 1) % 2 * 9223372036854775808 := by
  unfold lim
  have e1 : R / 2 / 18446744073709551616 ^ k = R / 18446744073709551616 ^ k / 2 := by
    rw [Int.ediv_ediv_of_nonneg (by omega), Int.ediv_ediv_of_nonneg (Int.le_of_lt (Int.pow_pos (by omega))), Int.mul_comm]
  have e2 : R / 18446744073709551616 ^ (k + 1) = R / 18446744073709551616 ^ k / 18446744073709551616 := by
    rw [Int.pow_succ, Int.ediv_ediv_of_nonneg (Int.le_of_lt (Int.pow_pos (by omega)))]
  rw [e1, e2]
  generalize R / 18446744073709551616 ^ k = Y
  omega
def hv (R : Int) (k j : Nat) : Value := .int .u64 (if j < k then lim (R / 2) j else lim R j)
section
attribute [local go_sem] eq24
set_option maxHeartbeats 2000000 in
theorem refRem_zero (lo hi : Int) (w : World) :
    Calls Try.prog 28 #[nv lo, nv hi, .agg #[.int .u64 0, .int .u64 0, .int .u64 0, .int .u64 0]] w fun e w' => e = .returned (nv 0) ∧ Below w.heap.size w w' := by
  rw [nv_zero]
  go_enter Try.func28, Try.ntmps28
  go_wp2_with fail
  go_returns
  exact ⟨rfl, by go_grown⟩
set_option maxHeartbeats 2000000 in
theorem refRem_small (lo hi M R Q P : Int) (w : World) (hz : (lim M 0 == 0 && (lim M 1 == 0 && (lim M 2 == 0 && lim M 3 == 0))) = false) (h3 : lim M 3 / 4611686018427387904 = 0)
    (D : ∀ W, Calls Try.prog 60 #[nv lo, nv hi, nv M] W fun e w' => e = .returned (.tuple #[nv Q, nv P, nv R, .int .i64 0]) ∧ Below W.heap.size W w') :
    Calls Try.prog 28 #[nv lo, nv hi, nv M] w fun e w' => e = .returned (nv R) ∧ Below w.heap.size w w' := by
  go_enter Try.func28, Try.ntmps28
  go_wp2_with fail
  refine (D _).mono ?_
  rintro e w1 ⟨rfl, hb1⟩
  have A6 := (Arr.mk4 (f := fun j => .int .u64 0) (b := w.heap.size + 1 + 1 + 1) (by simp [go_sem]) (by simp [go_sem]) (by simp [go_sem]) (by simp [go_sem]) (by simp [go_sem]) (by simp [go_sem]) (by simp [go_sem]) (by simp [go_sem]) ).below hb1 (by go_size)
  have s1 : w.heap.size + 1 + 1 + 1 < w1.heap.size := by have := hb1.size; simp at this; omega
  have hB1 : Below w.heap.size w w1 := Below.trans (by go_grown) (hb1.mono (by go_size))
  have c6 : ∀ o1 o2 o3 j, j < 4 → (((w1.alloc o1).alloc o2).alloc o3).cell? ⟨w.heap.size + 1 + 1 + 1, j, none⟩ = some (.int .u64 0) := fun o1 o2 o3 j hj => (((A6.alloc (by omega) o1).alloc (by go_size) o2).alloc (by go_size) o3).c j hj
  have z6 : ∀ o1 o2 o3 j, j < 4 → (((w1.alloc o1).alloc o2).alloc o3).frozen? ⟨w.heap.size + 1 + 1 + 1, j, none⟩ = false := fun o1 o2 o3 j hj => (((A6.alloc (by omega) o1).alloc (by go_size) o2).alloc (by go_size) o3).z j hj
  clear hb1 A6 D
  go_wp2_with fail
  refine bodyPost_ret (v := nv R) (by simp [results, Try.results28, go_sem, c6]) rfl ⟨rfl, ?_⟩
  go_grown
set_option maxHeartbeats 2000000 in
theorem refRem_big (lo hi M R : Int) (w : World) (hz : (lim M 0 == 0 && (lim M 1 == 0 && (lim M 2 == 0 && lim M 3 == 0))) = false) (h62 : ¬ lim M 3 / 4611686018427387904 = 0) (h63 : ¬ lim M 3 / 9223372036854775808 = 0)
    (D : ∀ W, Calls Try.prog 61 #[.agg #[.int .u64 (lim lo 0), .int .u64 (lim lo 1), .int .u64 (lim lo 2), .int .u64 (lim lo 3), .int .u64 (lim hi 0), .int .u64 (lim hi 1), .int .u64 (lim hi 2), .int .u64 (lim hi 3), .int .u64 0], nv M] W fun e w' => e = .returned (nv R) ∧ Below W.heap.size W w') :
    Calls Try.prog 28 #[nv lo, nv hi, nv M] w fun e w' => e = .returned (nv R) ∧ Below w.heap.size w w' := by
  go_enter Try.func28, Try.ntmps28
  go_wp2_with fail
  refine (D _).mono ?_
  rintro e w1 ⟨rfl, hb1⟩
  have A6 := (Arr.mk4 (f := fun j => .int .u64 0) (b := w.heap.size + 1 + 1 + 1) (by simp [go_sem]) (by simp [go_sem]) (by simp [go_sem]) (by simp [go_sem]) (by simp [go_sem]) (by simp [go_sem]) (by simp [go_sem]) (by simp [go_sem]) ).below hb1 (by go_size)
  have s1 : w.heap.size + 1 + 1 + 1 < w1.heap.size := by have := hb1.size; simp at this; omega
  have hB1 : Below w.heap.size w w1 := Below.trans (by go_grown) (hb1.mono (by go_size))
  have c6 := A6.c
  have z6 := A6.z
  clear hb1 A6 D
  go_wp2_with fail
  refine bodyPost_ret (v := nv R) (by simp [results, Try.results28, go_sem, c6]) rfl ⟨rfl, ?_⟩
  go_grown
set_option maxHeartbeats 8000000 in
theorem refRem_mid (lo hi M L c H d h0 N no R2 : Int) (w : World) (hz : (lim M 0 == 0 && (lim M 1 == 0 && (lim M 2 == 0 && lim M 3 == 0))) = false) (h62 : ¬ lim M 3 / 4611686018427387904 = 0) (h63 : lim M 3 / 9223372036854775808 = 0)
    (r0 : 0 ≤ R2) (r1 : R2 < top256)
    (C1 : ∀ W, Calls Try.prog 47 #[nv lo, nv lo] W fun e w' => e = .returned (.tuple #[nv L, .int .u64 c]) ∧ Below W.heap.size W w')
    (C2 : ∀ W, Calls Try.prog 47 #[nv hi, nv hi] W fun e w' => e = .returned (.tuple #[nv H, .int .u64 d]) ∧ Below W.heap.size W w')
    (C3 : ∀ W, Calls Try.prog 47 #[nv M, nv M] W fun e w' => e = .returned (.tuple #[nv N, .int .u64 no]) ∧ Below W.heap.size W w')
    (OB : bits .or .u64 (lim H 0) c = h0)
    (D : ∀ W, Calls Try.prog 61 #[.agg #[.int .u64 (lim L 0), .int .u64 (lim L 1), .int .u64 (lim L 2), .int .u64 (lim L 3), .int .u64 h0, .int .u64 (lim H 1), .int .u64 (lim H 2), .int .u64 (lim H 3), .int .u64 d], nv N] W fun e w' => e = .returned (nv R2) ∧ Below W.heap.size W w') :
    Calls Try.prog 28 #[nv lo, nv hi, nv M] w fun e w' => e = .returned (nv (R2 / 2)) ∧ Below w.heap.size w w' := by
  go_enter Try.func28, Try.ntmps28
  go_wp2_with fail
  refine (C1 _).mono ?_
  rintro e w1 ⟨rfl, hb1⟩
  have H1 := (Arr.mk4 (f := fun j => .int .u64 (lim hi j)) (b := w.heap.size + 1) (by simp [go_sem]) (by simp [go_sem]) (by simp [go_sem]) (by simp [go_sem]) (by simp [go_sem]) (by simp [go_sem]) (by simp [go_sem]) (by simp [go_sem])).below hb1 (by go_size)
  have M1 := (Arr.mk4 (f := fun j => .int .u64 (lim M j)) (b := w.heap.size + 1 + 1) (by simp [go_sem]) (by simp [go_sem]) (by simp [go_sem]) (by simp [go_sem]) (by simp [go_sem]) (by simp [go_sem]) (by simp [go_sem]) (by simp [go_sem])).below hb1 (by go_size)
  have A6 := (Arr.mk4 (f := fun j => .int .u64 0) (b := w.heap.size + 1 + 1 + 1) (by simp [go_sem]) (by simp [go_sem]) (by simp [go_sem]) (by simp [go_sem]) (by simp [go_sem]) (by simp [go_sem]) (by simp [go_sem]) (by simp [go_sem])).below hb1 (by go_size)
  have s1 : w.heap.size + 1 + 1 + 1 < w1.heap.size := by have := hb1.size; simp at this; omega
  have hB1 : Below w.heap.size w w1 := Below.trans (by go_grown) (hb1.mono (by go_size))
  have ch : ∀ o1 j, j < 4 → (w1.alloc o1).cell? ⟨w.heap.size + 1, j, none⟩ = some (.int .u64 (lim hi j)) := fun o1 j hj => (H1.alloc (by omega) o1).c j hj
  clear hb1 C1
  go_wp2_with fail
  refine (C2 _).mono ?_
  rintro e w2 ⟨rfl, hb2⟩
  have L2 := (Arr.mk4 (f := fun j => .int .u64 (lim L j)) (b := w1.heap.size) (by simp [go_sem]) (by simp [go_sem]) (by simp [go_sem]) (by simp [go_sem]) (by simp [go_sem]) (by simp [go_sem]) (by simp [go_sem]) (by simp [go_sem])).below hb2 (by go_size)
  have M2 := (M1.alloc (by omega) _).below hb2 (by go_size)
  have A62 := (A6.alloc (by omega) _).below hb2 (by go_size)
  have s2 : w1.heap.size < w2.heap.size := by have := hb2.size; simp at this; omega
  have hB2 : Below w.heap.size w w2 := Below.trans (hB1.alloc (by omega) _) (hb2.mono (by go_size))
  have cm : ∀ o1 j, j < 4 → (w2.alloc o1).cell? ⟨w.heap.size + 1 + 1, j, none⟩ = some (.int .u64 (lim M j)) := fun o1 j hj => (M2.alloc (by omega) o1).c j hj
  clear hb2 C2 ch H1 M1 A6
  go_wp2_with fail
  refine (C3 _).mono ?_
  rintro e w3 ⟨rfl, hb3⟩
  have H3 := (Arr.mk4 (f := fun j => .int .u64 (if j = 0 then h0 else lim H j)) (b := w2.heap.size) (by simp [go_sem]) (by simp [go_sem]) (by simp [go_sem]) (by simp [go_sem]) (by simp [go_sem]) (by simp [go_sem]) (by simp [go_sem]) (by simp [go_sem])).below hb3 (by go_size)
  have L3 := (L2.alloc (by omega) _).below hb3 (by go_size)
  have A63 := (A62.alloc (by omega) _).below hb3 (by go_size)
  have s3 : w2.heap.size < w3.heap.size := by have := hb3.size; simp at this; omega
  have hB3 : Below w.heap.size w w3 := Below.trans (hB2.alloc (by omega) _) (hb3.mono (by go_size))
  have cl : ∀ o1 j, j < 4 → (w3.alloc o1).cell? ⟨w1.heap.size, j, none⟩ = some (.int .u64 (lim L j)) := fun o1 j hj => (L3.alloc (by omega) o1).c j hj
  have cc : ∀ o1 j, j < 4 → (w3.alloc o1).cell? ⟨w2.heap.size, j, none⟩ = some (.int .u64 (if j = 0 then h0 else lim H j)) := fun o1 j hj => (H3.alloc (by omega) o1).c j hj
  clear hb3 C3 cm M2 A62 L2
  go_wp2_with fail
  refine (D _).mono ?_
  rintro e w4 ⟨rfl, hb4⟩
  have A64 := (A63.alloc (by omega) _).below hb4 (by go_size)
  have s4 : w3.heap.size < w4.heap.size := by have := hb4.size; simp at this; omega
  have hB4 : Below w.heap.size w w4 := Below.trans (hB3.alloc (by omega) _) (hb4.mono (by go_size))
  clear hb4 D cl cc H3 L3 A63
  go_wp2_with fail
  go_loopw [18] (fun i wr => ∃ k : Nat, k ≤ 4 ∧ i = .int .i64 k ∧ Below w.heap.size w wr ∧ w4.heap.size < wr.heap.size ∧ Arr wr (w.heap.size + 1 + 1 + 1) 4 (fun _ => .int .u64 0) ∧ Arr wr w4.heap.size 4 (hv R2 k)) (fun i _ => 4 - (intOf i).toNat)
  case atStart => exact ⟨0, by omega, rfl, hB4.alloc (by omega) _, by go_size, A64.alloc (by omega) _, Arr.mk4 (by simp [go_sem, hv]) (by simp [go_sem, hv]) (by simp [go_sem, hv]) (by simp [go_sem, hv]) (by simp [go_sem]) (by simp [go_sem]) (by simp [go_sem]) (by simp [go_sem])⟩
  case round =>
    clear hB4 A64
    obtain ⟨k, hk, rfl, hB, hs, A6, AR⟩ := hrel
    have ne : w.heap.size + 1 + 1 + 1 ≠ w4.heap.size := by omega
    by_cases hlt : k < 4
    · have k0 : (0 : Int) ≤ (k : Int) := by omega
      have k4 : (k : Int) < 4 := by omega
      have rk : wr.cell? ⟨w4.heap.size, k, none⟩ = some (.int .u64 (lim R2 k)) := by rw [AR.c k hlt, hv, if_neg (by omega)]
      have zk := AR.z k hlt
      by_cases h3 : k < 3
      · have k3 : (k : Int) < 3 := by omega
        have hw1 : IntKind.i64.wrap ((k : Int) + 1) = (k : Int) + 1 := by rw [IntKind.wrap_i64]; omega
        have tn : ((k : Int) + 1).toNat = k + 1 := by omega
        have rn : ∀ v, (wr.setCell ⟨w4.heap.size, k, none⟩ v).cell? ⟨w4.heap.size, k + 1, none⟩ = some (.int .u64 (lim R2 (k + 1))) := fun v => by
          rw [(AR.set k hlt v).c (k + 1) (by omega), if_neg (by omega), hv, if_neg (by omega)]
        have J := or_join (lim R2 k) (lim R2 (k + 1)) 1 (by omega) (lim_nn _ _) (lim_lt _ _) (lim_nn _ _)
        have lh := lim_half R2 k
        have J' : bits .or .u64 (lim R2 k / 2) (IntKind.u64.wrap (lim R2 (k + 1) * 9223372036854775808)) = lim (R2 / 2) k := by
          rw [lh]; simpa using J
        have HA6 : Hid (∀ v v' : Value, Arr ((wr.setCell ⟨w4.heap.size, k, none⟩ v).setCell ⟨w4.heap.size, k, none⟩ v') (w.heap.size + 1 + 1 + 1) 4 (fun _ => .int .u64 0)) := fun v v' => (A6.other (by omega) v).other (by omega) v'
        have HAR : Hid (∀ v : Value, Arr ((wr.setCell ⟨w4.heap.size, k, none⟩ v).setCell ⟨w4.heap.size, k, none⟩ (.int .u64 (lim (R2 / 2) k))) w4.heap.size 4 (hv R2 (k + 1))) := fun v =>
          ((AR.set k hlt v).set k hlt (.int .u64 (lim (R2 / 2) k))).congr (by
            intro j hj
            by_cases e : j = k
            · rw [if_pos e, hv, if_pos (by omega), e]
            · rw [if_neg e, if_neg e]; unfold hv
              by_cases e2 : j < k
              · rw [if_pos e2, if_pos (by omega)]
              · rw [if_neg e2, if_neg (by omega)])
        clear AR A6 J lh
        go_wp2_with fail
        go_region
        all_goals
          go_wp2_with fail
          go_roundw
          case rel => exact ⟨k + 1, by omega, by go_num, ((hB.setCell (by show w.heap.size ≤ w4.heap.size; omega) _).setCell (by show w.heap.size ≤ w4.heap.size; omega) _).drew, by simpa [size_set] using hs, HA6.out _ _, HAR.out _⟩
          case measure => simp [intOf]; omega
      · have k3 : k = 3 := by omega
        subst k3
        have lh := lim_half R2 3
        have l4 : lim R2 4 = 0 := lim4_0 r0 r1
        have J' : lim R2 3 / 2 = lim (R2 / 2) 3 := by rw [lh, l4]; omega
        have HA6 : Hid (∀ v : Value, Arr (wr.setCell ⟨w4.heap.size, 3, none⟩ v) (w.heap.size + 1 + 1 + 1) 4 (fun _ => .int .u64 0)) := fun v => A6.other (by omega) v
        have HAR : Hid (Arr (wr.setCell ⟨w4.heap.size, 3, none⟩ (.int .u64 (lim (R2 / 2) 3))) w4.heap.size 4 (hv R2 4)) :=
          (AR.set 3 hlt (.int .u64 (lim (R2 / 2) 3))).congr (by
            intro j hj
            by_cases e : j = 3
            · rw [if_pos e, hv, if_pos (by omega), e]
            · rw [if_neg e]; unfold hv
              rw [if_pos (by omega), if_pos (by omega)])
        clear AR A6 lh l4
        go_wp2_with fail
        go_roundw
        case rel => exact ⟨4, by omega, by go_num, hB.setCell (by show w.heap.size ≤ w4.heap.size; omega) _, by simpa [size_set] using hs, HA6.out _, HAR.out⟩
        case measure => simp [intOf]
    · have k4 : k = 4 := by omega
      subst k4
      have cr : ∀ j, j < 4 → wr.cell? ⟨w4.heap.size, j, none⟩ = some (.int .u64 (lim (R2 / 2) j)) := fun j hj => by rw [AR.c j hj, hv, if_pos hj]
      have c6 := A6.c
      have z6 := A6.z
      clear AR A6
      go_wp2_with fail
      refine bodyPost_ret (v := nv (R2 / 2)) (by simp [results, Try.results28, go_sem, c6]) rfl ⟨rfl, ?_⟩
      go_grown
end
theorem V4_hi {M : Int} (h0 : 0 ≤ M) (h1 : M < top256) : lim M 3 = M / 6277101735386680763835789423207666416102355444464034512896 := by
  rw [lim3]; unfold top256 at h1; omega
theorem V5_lim (X : Int) (h0 : 0 ≤ X) (h1 : X < 2 * top256) : V4 (lim X 0) (lim X 1) (lim X 2) (lim X 3) + top256 * lim X 4 = X := by
  rw [lim0, lim1, lim2, lim3, lim4]; unfold V4 top256 at *; omega
def f9 (A Bv d : Int) (j : Nat) : Int := if j < 4 then lim A j else if j = 8 then d else lim Bv (j - 4)
theorem f9_pt (A Bv d : Int) (d0 : 0 ≤ d) (d1 : d ≤ 1) : Pt (f9 A Bv d) := fun j => by
  unfold f9; split
  · exact ⟨lim_nn _ _, lim_lt _ _⟩
  · split
    · omega
    · exact ⟨lim_nn _ _, lim_lt _ _⟩
theorem f9_ps (A Bv d : Int) : ps (f9 A Bv d) 9 = V4 (lim A 0) (lim A 1) (lim A 2) (lim A 3) + top256 * V4 (lim Bv 0) (lim Bv 1) (lim Bv 2) (lim Bv 3) + top256 * top256 * d := by
  have e : top256 * top256 = (18446744073709551616 : Int) ^ 8 := by decide
  rw [e]
  simp [ps, f9, V4, top256]
  omega
theorem f9_up (A Bv d : Int) (d1 : d ≤ 1) : ps (fr (f9 A Bv d) 5) 4 < 57896044618658097711785492504343953926634992332820282019728792003956564819968 := by
  have a := lim_lt Bv 1
  have b := lim_lt Bv 2
  have c := lim_lt Bv 3
  simp [ps, fr, f9]
  omega
theorem refRem_any (lo hi M : Int) (hl : 0 ≤ lo) (hl' : lo < top256) (hh : 0 ≤ hi) (hh' : hi < top256) (hM : 0 ≤ M) (hM' : M < top256) (w : World) :
    Calls Try.prog 28 #[nv lo, nv hi, nv M] w fun e w' => e = .returned (nv (md (lo + hi * top256) M)) ∧ Below w.heap.size w w' := by
  by_cases c : M = 0
  · subst c
    rw [md0]
    have := refRem_zero lo hi w
    rw [← nv_zero] at this
    exact this
  · have M0 : 0 < M := by omega
    have hz := nz24 M M0 hM'
    have l3 := V4_hi hM hM'
    rw [md_pos _ M0]
    have vl := V4_lim lo hl hl'
    have vh := V4_lim hi hh hh'
    by_cases h62 : lim M 3 / 4611686018427387904 = 0
    · exact refRem_small lo hi M _ _ _ w hz h62 fun W => refDiv_any lo hi M hl hl' hh hh' M0 hM' W
    · by_cases h63 : lim M 3 / 9223372036854775808 = 0
      · -- doubled
        have a1 := cy_four lo lo hl hl' hl hl'
        have a2 := cy_four hi hi hh hh' hh hh'
        have c0 : 0 ≤ lim (lo + lo) 4 ∧ lim (lo + lo) 4 ≤ 1 := by rw [← a1]; exact cy_bd _ _ _
        have d0 : 0 ≤ lim (hi + hi) 4 ∧ lim (hi + hi) 4 ≤ 1 := by rw [← a2]; exact cy_bd _ _ _
        have ob := or_bit (hi + hi) (lim (lo + lo) 4) (by omega) c0.1 c0.2
        have key : 2 * ((lo + hi * top256) % M) = (2 * (lo + hi * top256)) % (2 * M) := by rw [Int.mul_emod_mul_of_pos _ _ (by omega)]
        have r := Int.emod_nonneg (lo + hi * top256) (show M ≠ 0 by omega)
        have r' := Int.emod_lt_of_pos (lo + hi * top256) M0
        have e2 : (2 * ((lo + hi * top256) % M)) / 2 = (lo + hi * top256) % M := by omega
        have M2 : 2 * M < top256 := by unfold top256; omega
        have := refRem_mid lo hi M (lo + lo) (lim (lo + lo) 4) (hi + hi) (lim (hi + hi) 4) (lim (hi + hi + lim (lo + lo) 4) 0) (M + M) (cy M M 4) (2 * ((lo + hi * top256) % M)) w hz h62 h63 (by omega) (by omega)
          (fun W => by rw [← a1]; exact refAdd_raw lo lo W) (fun W => by rw [← a2]; exact refAdd_raw hi hi W) (fun W => refAdd_raw M M W) ob.1 (fun W => ?_)
        · rw [e2] at this
          exact this
        · rw [key, show M + M = 2 * M by omega]
          have := tail_any (2 * (lo + hi * top256)) (2 * M) (f9 (lo + lo) (hi + hi + lim (lo + lo) 4) (lim (hi + hi) 4)) ?_ (by omega) M2 ?_ W
          · simpa [f9, ob.2.1, ob.2.2.1, ob.2.2.2] using this
          · rw [V4_hi (by omega) M2]; omega
          · show TI _ _ _ _
            refine ⟨f9_pt _ _ _ d0.1 d0.2, fun j h1 h2 => by omega, ?_, ?_⟩
            · have := f9_up (lo + lo) (hi + hi + lim (lo + lo) 4) (lim (hi + hi) 4) d0.2
              omega
            · have v1 := V5_lim (lo + lo) (by omega) (by omega)
              have v2 := V5_lim (hi + hi) (by omega) (by omega)
              rw [f9_ps, ob.2.1, ob.2.2.1, ob.2.2.2]
              have o0 : lim (hi + hi + lim (lo + lo) 4) 0 = lim (hi + hi) 0 + lim (lo + lo) 4 := by
                rw [lim0, lim0]; omega
              rw [o0]
              have e : V4 (lim (hi + hi) 0 + lim (lo + lo) 4) (lim (hi + hi) 1) (lim (hi + hi) 2) (lim (hi + hi) 3) = V4 (lim (hi + hi) 0) (lim (hi + hi) 1) (lim (hi + hi) 2) (lim (hi + hi) 3) + lim (lo + lo) 4 := by unfold V4; omega
              rw [e]
              congr 1
              generalize V4 (lim (hi + hi) 0) (lim (hi + hi) 1) (lim (hi + hi) 2) (lim (hi + hi) 3) = y at *
              generalize V4 (lim (lo + lo) 0) (lim (lo + lo) 1) (lim (lo + lo) 2) (lim (lo + lo) 3) = x at *
              generalize lim (lo + lo) 4 = p at *
              generalize lim (hi + hi) 4 = q at *
              generalize top256 = T at *
              have ex : x = lo + lo - T * p := by omega
              have ey : y = hi + hi - T * q := by omega
              rw [ex, ey]
              grind
      · refine refRem_big lo hi M _ w hz h62 h63 fun W => ?_
        have := tail_any (lo + hi * top256) M (f9 lo hi 0) (by omega) M0 hM' ?_ W
        · simpa [f9] using this
        · show TI _ _ _ _
          refine ⟨f9_pt _ _ _ (by omega) (by omega), fun j h1 h2 => by omega, ?_, ?_⟩
          · have := f9_up lo hi 0 (by omega)
            omega
          · rw [f9_ps, vl, vh, Int.mul_zero, Int.add_zero, Int.mul_comm top256]
end Go.Proofs.Ytpigofooblmdhaa
