/- What the reference's half, halved and less answer. -/
import Derived.Test.YtoolbnbfbegjaaaGreatJ21
set_option linter.all false
set_option maxRecDepth 100000
namespace Go.Proofs.YtoolbnbfbegjaaaGreat
open Go.RowKit Go.Sort
set_option maxHeartbeats 4000000 in
theorem half_any (U : Int) (r0 : 0 ≤ U) (r1 : U < top256) (w : World) : Calls Tryz.prog 96 #[nv U] w fun e w' => e = .returned (nv (U / 2)) ∧ Below w.heap.size w w' := by
  go_enter Tryz.func96, Tryz.ntmps96
  go_wp2_with fail
  go_loopw [3] (fun i wr => ∃ k : Nat, k ≤ 4 ∧ i = .int .i64 k ∧ Below w.heap.size w wr ∧ Arr wr (w.heap.size + 1) 4 (fun _ => .int .u64 0) ∧ Arr wr (w.heap.size) 4 (hv (U) k)) (fun i _ => 4 - (intOf i).toNat)
  case atStart => exact ⟨0, by omega, rfl, by go_grown, Arr.mk4 (by simp [go_sem]) (by simp [go_sem]) (by simp [go_sem]) (by simp [go_sem]) (by simp [go_sem]) (by simp [go_sem]) (by simp [go_sem]) (by simp [go_sem]), Arr.mk4 (by simp [go_sem, hv]) (by simp [go_sem, hv]) (by simp [go_sem, hv]) (by simp [go_sem, hv]) (by simp [go_sem]) (by simp [go_sem]) (by simp [go_sem]) (by simp [go_sem])⟩
  case round =>
    skip
    obtain ⟨k, hk, rfl, hB, A6, AR⟩ := hrel
    by_cases hlt : k < 4
    · have k0 : (0 : Int) ≤ (k : Int) := by omega
      have k4 : (k : Int) < 4 := by omega
      have rk : wr.cell? ⟨w.heap.size, k, none⟩ = some (.int .u64 (lim (U) k)) := by rw [AR.c k hlt, hv, if_neg (by omega)]
      have zk := AR.z k hlt
      by_cases h3 : k < 3
      · have k3 : (k : Int) < 3 := by omega
        have hw1 : IntKind.i64.wrap ((k : Int) + 1) = (k : Int) + 1 := by rw [IntKind.wrap_i64]; omega
        have tn : ((k : Int) + 1).toNat = k + 1 := by omega
        have rn : ∀ v, (wr.setCell ⟨w.heap.size, k, none⟩ v).cell? ⟨w.heap.size, k + 1, none⟩ = some (.int .u64 (lim (U) (k + 1))) := fun v => by
          rw [(AR.set k hlt v).c (k + 1) (by omega), if_neg (by omega), hv, if_neg (by omega)]
        have J := or_join (lim (U) k) (lim (U) (k + 1)) 1 (by omega) (lim_nn _ _) (lim_lt _ _) (lim_nn _ _)
        have lh := lim_half (U) k
        have J' : bits .or .u64 (lim (U) k / 2) (IntKind.u64.wrap (lim (U) (k + 1) * 9223372036854775808)) = lim ((U) / 2) k := by
          rw [lh]; simpa using J
        have HA6 : Hid (∀ v v' : Value, Arr ((wr.setCell ⟨w.heap.size, k, none⟩ v).setCell ⟨w.heap.size, k, none⟩ v') (w.heap.size + 1) 4 (fun _ => .int .u64 0)) := fun v v' => (A6.other (by omega) v).other (by omega) v'
        have HAR : Hid (∀ v : Value, Arr ((wr.setCell ⟨w.heap.size, k, none⟩ v).setCell ⟨w.heap.size, k, none⟩ (.int .u64 (lim ((U) / 2) k))) (w.heap.size) 4 (hv (U) (k + 1))) := fun v =>
          ((AR.set k hlt v).set k hlt (.int .u64 (lim ((U) / 2) k))).congr (by
            intro j hj
            by_cases e : j = k
            · rw [if_pos e, hv, if_pos (by omega), e]
            · rw [if_neg e, if_neg e]; unfold hv
              by_cases e2 : j < k
              · rw [if_pos e2, if_pos (by omega)]
              · rw [if_neg e2, if_neg (by omega)])
        clear AR A6 J lh
        go_wp2_with fail
        go_region
        all_goals
          go_wp2_with fail
          go_roundw
          case rel => exact ⟨k + 1, by omega, by go_num, ((hB.setCell (by show w.heap.size ≤ w.heap.size; omega) _).setCell (by show w.heap.size ≤ w.heap.size; omega) _).drew, HA6.out _ _, HAR.out _⟩
          case measure => simp [intOf]; omega
      · have k3 : k = 3 := by omega
        subst k3
        have lh := lim_half (U) 3
        have l4 : lim (U) 4 = 0 := lim4_0 r0 r1
        have J' : lim (U) 3 / 2 = lim ((U) / 2) 3 := by rw [lh, l4]; omega
        have HA6 : Hid (∀ v : Value, Arr (wr.setCell ⟨w.heap.size, 3, none⟩ v) (w.heap.size + 1) 4 (fun _ => .int .u64 0)) := fun v => A6.other (by omega) v
        have HAR : Hid (Arr (wr.setCell ⟨w.heap.size, 3, none⟩ (.int .u64 (lim ((U) / 2) 3))) (w.heap.size) 4 (hv (U) 4)) :=
          (AR.set 3 hlt (.int .u64 (lim ((U) / 2) 3))).congr (by
            intro j hj
            by_cases e : j = 3
            · rw [if_pos e, hv, if_pos (by omega), e]
            · rw [if_neg e]; unfold hv
              rw [if_pos (by omega), if_pos (by omega)])
        clear AR A6 lh l4
        go_wp2_with fail
        go_roundw
        case rel => exact ⟨4, by omega, by go_num, hB.setCell (by show w.heap.size ≤ w.heap.size; omega) _, HA6.out _, HAR.out⟩
        case measure => simp [intOf]
    · have k4 : k = 4 := by omega
      subst k4
      have Ah : Arr wr (w.heap.size) 4 (fun j => .int .u64 (lim ((U) / 2) j)) := AR.congr (by intro j hj; rw [hv, if_pos hj])
      have Az := A6
      clear AR A6
      have cr := Ah.c
      have cz := Az.c
      have zz := Az.z
      have lz := Az.lt
      go_wp2_with fail
      refine bodyPost_ret (v := nv (U / 2)) (by simp [results, Tryz.results96, go_sem, cz]) rfl ⟨rfl, ?_⟩
      go_grown
set_option maxHeartbeats 4000000 in
theorem halved_even (X M R T c : Int) (r0 : 0 ≤ R) (r1 : R < top256) (hp : ¬ lim X 0 % 2 = 1) (hR : R = X) (hc : c = 0) (t0 : lim (R / 2) 0 = lim T 0) (t1 : lim (R / 2) 1 = lim T 1) (t2 : lim (R / 2) 2 = lim T 2) (hO : bits .or .u64 (lim (R / 2) 3) (IntKind.u64.wrap (c * 9223372036854775808)) = lim T 3) (w : World) :
    Calls Tryz.prog 97 #[nv X, nv M] w fun e w' => e = .returned (nv T) ∧ Below w.heap.size w w' := by
  subst hR hc
  have hp' : (lim R 0 % 2 == 1) = false := by simpa using hp
  have n0 := lim_nn R 0
  have n1 := lim_lt R 0
  have hO' : bits .or .u64 (lim (R / 2) 3) 0 = lim T 3 := by
    have h := hO
    rw [Int.zero_mul, show IntKind.u64.wrap 0 = 0 by decide] at h
    exact h
  go_enter Tryz.func97, Tryz.ntmps97
  go_wp2_with fail
  go_loopw [6] (fun i wr => ∃ k : Nat, k ≤ 4 ∧ i = .int .i64 k ∧ Below w.heap.size w wr ∧ Arr wr (w.heap.size + 1 + 1) 4 (fun _ => .int .u64 0) ∧ Arr wr (w.heap.size) 4 (hv (R) k)) (fun i _ => 4 - (intOf i).toNat)
  case atStart => exact ⟨0, by omega, rfl, by go_grown, Arr.mk4 (by simp [go_sem]) (by simp [go_sem]) (by simp [go_sem]) (by simp [go_sem]) (by simp [go_sem]) (by simp [go_sem]) (by simp [go_sem]) (by simp [go_sem]), Arr.mk4 (by simp [go_sem, hv]) (by simp [go_sem, hv]) (by simp [go_sem, hv]) (by simp [go_sem, hv]) (by simp [go_sem]) (by simp [go_sem]) (by simp [go_sem]) (by simp [go_sem])⟩
  case round =>
    skip
    obtain ⟨k, hk, rfl, hB, A6, AR⟩ := hrel
    by_cases hlt : k < 4
    · have k0 : (0 : Int) ≤ (k : Int) := by omega
      have k4 : (k : Int) < 4 := by omega
      have rk : wr.cell? ⟨w.heap.size, k, none⟩ = some (.int .u64 (lim (R) k)) := by rw [AR.c k hlt, hv, if_neg (by omega)]
      have zk := AR.z k hlt
      by_cases h3 : k < 3
      · have k3 : (k : Int) < 3 := by omega
        have hw1 : IntKind.i64.wrap ((k : Int) + 1) = (k : Int) + 1 := by rw [IntKind.wrap_i64]; omega
        have tn : ((k : Int) + 1).toNat = k + 1 := by omega
        have rn : ∀ v, (wr.setCell ⟨w.heap.size, k, none⟩ v).cell? ⟨w.heap.size, k + 1, none⟩ = some (.int .u64 (lim (R) (k + 1))) := fun v => by
          rw [(AR.set k hlt v).c (k + 1) (by omega), if_neg (by omega), hv, if_neg (by omega)]
        have J := or_join (lim (R) k) (lim (R) (k + 1)) 1 (by omega) (lim_nn _ _) (lim_lt _ _) (lim_nn _ _)
        have lh := lim_half (R) k
        have J' : bits .or .u64 (lim (R) k / 2) (IntKind.u64.wrap (lim (R) (k + 1) * 9223372036854775808)) = lim ((R) / 2) k := by
          rw [lh]; simpa using J
        have HA6 : Hid (∀ v v' : Value, Arr ((wr.setCell ⟨w.heap.size, k, none⟩ v).setCell ⟨w.heap.size, k, none⟩ v') (w.heap.size + 1 + 1) 4 (fun _ => .int .u64 0)) := fun v v' => (A6.other (by omega) v).other (by omega) v'
        have HAR : Hid (∀ v : Value, Arr ((wr.setCell ⟨w.heap.size, k, none⟩ v).setCell ⟨w.heap.size, k, none⟩ (.int .u64 (lim ((R) / 2) k))) (w.heap.size) 4 (hv (R) (k + 1))) := fun v =>
          ((AR.set k hlt v).set k hlt (.int .u64 (lim ((R) / 2) k))).congr (by
            intro j hj
            by_cases e : j = k
            · rw [if_pos e, hv, if_pos (by omega), e]
            · rw [if_neg e, if_neg e]; unfold hv
              by_cases e2 : j < k
              · rw [if_pos e2, if_pos (by omega)]
              · rw [if_neg e2, if_neg (by omega)])
        clear AR A6 J lh
        go_wp2_with fail
        go_region
        all_goals
          go_wp2_with fail
          go_roundw
          case rel => exact ⟨k + 1, by omega, by go_num, ((hB.setCell (by show w.heap.size ≤ w.heap.size; omega) _).setCell (by show w.heap.size ≤ w.heap.size; omega) _).drew, HA6.out _ _, HAR.out _⟩
          case measure => simp [intOf]; omega
      · have k3 : k = 3 := by omega
        subst k3
        have lh := lim_half (R) 3
        have l4 : lim (R) 4 = 0 := lim4_0 r0 r1
        have J' : lim (R) 3 / 2 = lim ((R) / 2) 3 := by rw [lh, l4]; omega
        have HA6 : Hid (∀ v : Value, Arr (wr.setCell ⟨w.heap.size, 3, none⟩ v) (w.heap.size + 1 + 1) 4 (fun _ => .int .u64 0)) := fun v => A6.other (by omega) v
        have HAR : Hid (Arr (wr.setCell ⟨w.heap.size, 3, none⟩ (.int .u64 (lim ((R) / 2) 3))) (w.heap.size) 4 (hv (R) 4)) :=
          (AR.set 3 hlt (.int .u64 (lim ((R) / 2) 3))).congr (by
            intro j hj
            by_cases e : j = 3
            · rw [if_pos e, hv, if_pos (by omega), e]
            · rw [if_neg e]; unfold hv
              rw [if_pos (by omega), if_pos (by omega)])
        clear AR A6 lh l4
        go_wp2_with fail
        go_roundw
        case rel => exact ⟨4, by omega, by go_num, hB.setCell (by show w.heap.size ≤ w.heap.size; omega) _, HA6.out _, HAR.out⟩
        case measure => simp [intOf]
    · have k4 : k = 4 := by omega
      subst k4
      have Ah : Arr wr (w.heap.size) 4 (fun j => .int .u64 (lim ((R) / 2) j)) := AR.congr (by intro j hj; rw [hv, if_pos hj])
      have Az := A6
      clear AR A6
      have q0 := Ah.c 0 (by omega)
      have q1 := Ah.c 1 (by omega)
      have q2 := Ah.c 2 (by omega)
      have q3 := Ah.c 3 (by omega)
      have zh := Ah.z 3 (by omega)
      have cz := Az.c
      have zz := Az.z
      go_wp2_with fail
      refine bodyPost_ret (v := nv T) (by simp [results, Tryz.results97, go_sem, cz, t0, t1, t2]) rfl ⟨rfl, ?_⟩
      go_grown
set_option maxHeartbeats 4000000 in
theorem halved_odd (X M R T c : Int) (r0 : 0 ≤ R) (r1 : R < top256) (hp : lim X 0 % 2 = 1) (t0 : lim (R / 2) 0 = lim T 0) (t1 : lim (R / 2) 1 = lim T 1) (t2 : lim (R / 2) 2 = lim T 2) (hO : bits .or .u64 (lim (R / 2) 3) (IntKind.u64.wrap (c * 9223372036854775808)) = lim T 3) (w : World)
    (CA : ∀ W, Calls Tryz.prog 20 #[nv X, nv M] W fun e w' => e = .returned (.tuple #[nv R, .int .u64 c]) ∧ Below W.heap.size W w') :
    Calls Tryz.prog 97 #[nv X, nv M] w fun e w' => e = .returned (nv T) ∧ Below w.heap.size w w' := by
  have n0 := lim_nn X 0
  have n1 := lim_lt X 0
  go_enter Tryz.func97, Tryz.ntmps97
  obtain ⟨W0, hW0⟩ : ∃ W0, W0 = (((w.alloc (.cells #[.int .u64 (lim (X) 0), .int .u64 (lim (X) 1), .int .u64 (lim (X) 2), .int .u64 (lim (X) 3)] 24)).alloc (.cells #[.int .u64 (lim (M) 0), .int .u64 (lim (M) 1), .int .u64 (lim (M) 2), .int .u64 (lim (M) 3)] 24)).alloc (.cells #[.int .u64 0, .int .u64 0, .int .u64 0, .int .u64 0] 24)) := ⟨_, rfl⟩
  have Ax : Arr W0 (w.heap.size) 4 (fun j => .int .u64 (lim (X) j)) := by subst hW0; refine Arr.mk4 ?_ ?_ ?_ ?_ ?_ ?_ ?_ ?_ <;> simp [go_sem]
  have Am : Arr W0 (w.heap.size + 1) 4 (fun j => .int .u64 (lim (M) j)) := by subst hW0; refine Arr.mk4 ?_ ?_ ?_ ?_ ?_ ?_ ?_ ?_ <;> simp [go_sem]
  have Az : Arr W0 (w.heap.size + 1 + 1) 4 (fun _ => .int .u64 0) := by subst hW0; refine Arr.mk4 ?_ ?_ ?_ ?_ ?_ ?_ ?_ ?_ <;> simp [go_sem]
  have hB : Below w.heap.size w W0 := by subst hW0; go_grown
  subst hW0
  go_wp2_with fail
  refine (CA _).mono ?_
  rintro e w1 ⟨rfl, hb⟩
  replace Ax := Arr.to' Ax hb
  replace Az := Arr.to' Az hb
  replace hB := Bel.call hB hb
  clear hb Am CA
  have cx := Ax.c
  have zx := Ax.z
  have cz := Az.c
  have zz := Az.z
  have Bx := Arr.st4 Ax (R)
  have Bz := Arr.st4o (b' := w.heap.size) Az (by have := Az.lt; have := Ax.lt; omega) (R)
  have hB' := Bel.st4 hB (b := w.heap.size) (by have := hB.size; omega) (R)
  clear Ax Az hB
  have Ax := Bx
  have Az := Bz
  have hB := hB'
  clear Bx Bz hB'
  go_wp2_with fail
  go_loopw [6] (fun i wr => ∃ k : Nat, k ≤ 4 ∧ i = .int .i64 k ∧ Below w.heap.size w wr ∧ Arr wr (w.heap.size + 1 + 1) 4 (fun _ => .int .u64 0) ∧ Arr wr (w.heap.size) 4 (hv (R) k)) (fun i _ => 4 - (intOf i).toNat)
  case atStart => exact ⟨0, by omega, rfl, hB, Az, Ax.congr (by intro j hj; rw [hv, if_neg (by omega)])⟩
  case round =>
    clear hB Az Ax cx zx cz zz
    obtain ⟨k, hk, rfl, hB, A6, AR⟩ := hrel
    by_cases hlt : k < 4
    · have k0 : (0 : Int) ≤ (k : Int) := by omega
      have k4 : (k : Int) < 4 := by omega
      have rk : wr.cell? ⟨w.heap.size, k, none⟩ = some (.int .u64 (lim (R) k)) := by rw [AR.c k hlt, hv, if_neg (by omega)]
      have zk := AR.z k hlt
      by_cases h3 : k < 3
      · have k3 : (k : Int) < 3 := by omega
        have hw1 : IntKind.i64.wrap ((k : Int) + 1) = (k : Int) + 1 := by rw [IntKind.wrap_i64]; omega
        have tn : ((k : Int) + 1).toNat = k + 1 := by omega
        have rn : ∀ v, (wr.setCell ⟨w.heap.size, k, none⟩ v).cell? ⟨w.heap.size, k + 1, none⟩ = some (.int .u64 (lim (R) (k + 1))) := fun v => by
          rw [(AR.set k hlt v).c (k + 1) (by omega), if_neg (by omega), hv, if_neg (by omega)]
        have J := or_join (lim (R) k) (lim (R) (k + 1)) 1 (by omega) (lim_nn _ _) (lim_lt _ _) (lim_nn _ _)
        have lh := lim_half (R) k
        have J' : bits .or .u64 (lim (R) k / 2) (IntKind.u64.wrap (lim (R) (k + 1) * 9223372036854775808)) = lim ((R) / 2) k := by
          rw [lh]; simpa using J
        have HA6 : Hid (∀ v v' : Value, Arr ((wr.setCell ⟨w.heap.size, k, none⟩ v).setCell ⟨w.heap.size, k, none⟩ v') (w.heap.size + 1 + 1) 4 (fun _ => .int .u64 0)) := fun v v' => (A6.other (by omega) v).other (by omega) v'
        have HAR : Hid (∀ v : Value, Arr ((wr.setCell ⟨w.heap.size, k, none⟩ v).setCell ⟨w.heap.size, k, none⟩ (.int .u64 (lim ((R) / 2) k))) (w.heap.size) 4 (hv (R) (k + 1))) := fun v =>
          ((AR.set k hlt v).set k hlt (.int .u64 (lim ((R) / 2) k))).congr (by
            intro j hj
            by_cases e : j = k
            · rw [if_pos e, hv, if_pos (by omega), e]
            · rw [if_neg e, if_neg e]; unfold hv
              by_cases e2 : j < k
              · rw [if_pos e2, if_pos (by omega)]
              · rw [if_neg e2, if_neg (by omega)])
        clear AR A6 J lh
        go_wp2_with fail
        go_region
        all_goals
          go_wp2_with fail
          go_roundw
          case rel => exact ⟨k + 1, by omega, by go_num, ((hB.setCell (by show w.heap.size ≤ w.heap.size; omega) _).setCell (by show w.heap.size ≤ w.heap.size; omega) _).drew, HA6.out _ _, HAR.out _⟩
          case measure => simp [intOf]; omega
      · have k3 : k = 3 := by omega
        subst k3
        have lh := lim_half (R) 3
        have l4 : lim (R) 4 = 0 := lim4_0 r0 r1
        have J' : lim (R) 3 / 2 = lim ((R) / 2) 3 := by rw [lh, l4]; omega
        have HA6 : Hid (∀ v : Value, Arr (wr.setCell ⟨w.heap.size, 3, none⟩ v) (w.heap.size + 1 + 1) 4 (fun _ => .int .u64 0)) := fun v => A6.other (by omega) v
        have HAR : Hid (Arr (wr.setCell ⟨w.heap.size, 3, none⟩ (.int .u64 (lim ((R) / 2) 3))) (w.heap.size) 4 (hv (R) 4)) :=
          (AR.set 3 hlt (.int .u64 (lim ((R) / 2) 3))).congr (by
            intro j hj
            by_cases e : j = 3
            · rw [if_pos e, hv, if_pos (by omega), e]
            · rw [if_neg e]; unfold hv
              rw [if_pos (by omega), if_pos (by omega)])
        clear AR A6 lh l4
        go_wp2_with fail
        go_roundw
        case rel => exact ⟨4, by omega, by go_num, hB.setCell (by show w.heap.size ≤ w.heap.size; omega) _, HA6.out _, HAR.out⟩
        case measure => simp [intOf]
    · have k4 : k = 4 := by omega
      subst k4
      have Ah : Arr wr (w.heap.size) 4 (fun j => .int .u64 (lim ((R) / 2) j)) := AR.congr (by intro j hj; rw [hv, if_pos hj])
      have Az := A6
      clear AR A6
      have q0 := Ah.c 0 (by omega)
      have q1 := Ah.c 1 (by omega)
      have q2 := Ah.c 2 (by omega)
      have q3 := Ah.c 3 (by omega)
      have zh := Ah.z 3 (by omega)
      have cz := Az.c
      have zz := Az.z
      go_wp2_with fail
      refine bodyPost_ret (v := nv T) (by simp [results, Tryz.results97, go_sem, cz, t0, t1, t2]) rfl ⟨rfl, ?_⟩
      go_grown
set_option maxHeartbeats 2000000 in
theorem less_ge (A B M D : Int) (w : World)
    (C1 : ∀ W, Calls Tryz.prog 49 #[nv A, nv B] W fun e w' => e = .returned (.tuple #[nv D, .int .u64 0]) ∧ Below W.heap.size W w') :
    Calls Tryz.prog 98 #[nv A, nv B, nv M] w fun e w' => e = .returned (nv D) ∧ Below w.heap.size w w' := by
  go_enter Tryz.func98, Tryz.ntmps98
  obtain ⟨W0, hW0⟩ : ∃ W0, W0 = ((((w.alloc (.cells #[.int .u64 (lim (A) 0), .int .u64 (lim (A) 1), .int .u64 (lim (A) 2), .int .u64 (lim (A) 3)] 24)).alloc (.cells #[.int .u64 (lim (B) 0), .int .u64 (lim (B) 1), .int .u64 (lim (B) 2), .int .u64 (lim (B) 3)] 24)).alloc (.cells #[.int .u64 (lim (M) 0), .int .u64 (lim (M) 1), .int .u64 (lim (M) 2), .int .u64 (lim (M) 3)] 24)).alloc (.cells #[.int .u64 0, .int .u64 0, .int .u64 0, .int .u64 0] 24)) := ⟨_, rfl⟩
  have Aa : Arr W0 (w.heap.size) 4 (fun j => .int .u64 (lim (A) j)) := by subst hW0; refine Arr.mk4 ?_ ?_ ?_ ?_ ?_ ?_ ?_ ?_ <;> simp [go_sem]
  have Ab : Arr W0 (w.heap.size + 1) 4 (fun j => .int .u64 (lim (B) j)) := by subst hW0; refine Arr.mk4 ?_ ?_ ?_ ?_ ?_ ?_ ?_ ?_ <;> simp [go_sem]
  have Am : Arr W0 (w.heap.size + 1 + 1) 4 (fun j => .int .u64 (lim (M) j)) := by subst hW0; refine Arr.mk4 ?_ ?_ ?_ ?_ ?_ ?_ ?_ ?_ <;> simp [go_sem]
  have Az : Arr W0 (w.heap.size + 1 + 1 + 1) 4 (fun _ => .int .u64 0) := by subst hW0; refine Arr.mk4 ?_ ?_ ?_ ?_ ?_ ?_ ?_ ?_ <;> simp [go_sem]
  have hB : Below w.heap.size w W0 := by subst hW0; go_grown
  subst hW0
  go_wp2_with fail
  refine (C1 _).mono ?_
  rintro e w1 ⟨rfl, hb⟩
  replace Am := Arr.to' Am hb
  replace Az := Arr.to' Az hb
  replace hB := Bel.call hB hb
  clear hb Aa Ab C1
  have cz := Az.c
  have zz := Az.z
  have lz := Az.lt
  have hS := hB.size
  go_wp2_with fail
  refine bodyPost_ret (v := nv D) (by simp [results, Tryz.results98, go_sem, cz, lz]) rfl ⟨rfl, ?_⟩
  go_grown
set_option maxHeartbeats 2000000 in
theorem less_lt (A B M D R o : Int) (w : World)
    (C1 : ∀ W, Calls Tryz.prog 49 #[nv A, nv B] W fun e w' => e = .returned (.tuple #[nv D, .int .u64 1]) ∧ Below W.heap.size W w')
    (C2 : ∀ W, Calls Tryz.prog 20 #[nv D, nv M] W fun e w' => e = .returned (.tuple #[nv R, .int .u64 o]) ∧ Below W.heap.size W w') :
    Calls Tryz.prog 98 #[nv A, nv B, nv M] w fun e w' => e = .returned (nv R) ∧ Below w.heap.size w w' := by
  go_enter Tryz.func98, Tryz.ntmps98
  obtain ⟨W0, hW0⟩ : ∃ W0, W0 = ((((w.alloc (.cells #[.int .u64 (lim (A) 0), .int .u64 (lim (A) 1), .int .u64 (lim (A) 2), .int .u64 (lim (A) 3)] 24)).alloc (.cells #[.int .u64 (lim (B) 0), .int .u64 (lim (B) 1), .int .u64 (lim (B) 2), .int .u64 (lim (B) 3)] 24)).alloc (.cells #[.int .u64 (lim (M) 0), .int .u64 (lim (M) 1), .int .u64 (lim (M) 2), .int .u64 (lim (M) 3)] 24)).alloc (.cells #[.int .u64 0, .int .u64 0, .int .u64 0, .int .u64 0] 24)) := ⟨_, rfl⟩
  have Aa : Arr W0 (w.heap.size) 4 (fun j => .int .u64 (lim (A) j)) := by subst hW0; refine Arr.mk4 ?_ ?_ ?_ ?_ ?_ ?_ ?_ ?_ <;> simp [go_sem]
  have Ab : Arr W0 (w.heap.size + 1) 4 (fun j => .int .u64 (lim (B) j)) := by subst hW0; refine Arr.mk4 ?_ ?_ ?_ ?_ ?_ ?_ ?_ ?_ <;> simp [go_sem]
  have Am : Arr W0 (w.heap.size + 1 + 1) 4 (fun j => .int .u64 (lim (M) j)) := by subst hW0; refine Arr.mk4 ?_ ?_ ?_ ?_ ?_ ?_ ?_ ?_ <;> simp [go_sem]
  have Az : Arr W0 (w.heap.size + 1 + 1 + 1) 4 (fun _ => .int .u64 0) := by subst hW0; refine Arr.mk4 ?_ ?_ ?_ ?_ ?_ ?_ ?_ ?_ <;> simp [go_sem]
  have hB : Below w.heap.size w W0 := by subst hW0; go_grown
  subst hW0
  go_wp2_with fail
  refine (C1 _).mono ?_
  rintro e w1 ⟨rfl, hb⟩
  replace Am := Arr.to' Am hb
  replace Az := Arr.to' Az hb
  replace hB := Bel.call hB hb
  clear hb Aa Ab C1
  have lm_2 := Am.lt
  have lz_2 := Az.lt
  have lB_2 := hB.size
  replace Am := (Arr.al' Am (.cells #[.int .u64 (lim (D) 0), .int .u64 (lim (D) 1), .int .u64 (lim (D) 2), .int .u64 (lim (D) 3)] 24))
  replace Az := (Arr.al' Az (.cells #[.int .u64 (lim (D) 0), .int .u64 (lim (D) 1), .int .u64 (lim (D) 2), .int .u64 (lim (D) 3)] 24))
  have Ad : Arr ((w1.alloc (.cells #[.int .u64 (lim (D) 0), .int .u64 (lim (D) 1), .int .u64 (lim (D) 2), .int .u64 (lim (D) 3)] 24))) (w1.heap.size) 4 (fun j => .int .u64 (lim (D) j)) := by refine Arr.mk4 ?_ ?_ ?_ ?_ ?_ ?_ ?_ ?_ <;> simp [go_sem]
  replace hB := (Bel.al hB (.cells #[.int .u64 (lim (D) 0), .int .u64 (lim (D) 1), .int .u64 (lim (D) 2), .int .u64 (lim (D) 3)] 24))
  have cm := Am.c
  go_wp2_with fail
  refine (C2 _).mono ?_
  rintro e w12 ⟨rfl, hb⟩
  replace Az := Arr.to' Az hb
  replace Ad := Arr.to' Ad hb
  replace hB := Bel.call hB hb
  clear hb cm Am C2
  have cd := Ad.c
  have zd := Ad.z
  have cz := Az.c
  have zz := Az.z
  have lz := Az.lt
  have hS := hB.size
  go_wp2_with fail
  refine bodyPost_ret (v := nv R) (by simp [results, Tryz.results98, go_sem, cz, lz]) rfl ⟨rfl, ?_⟩
  go_grown
def hm (X M : Int) : Int := if X % 2 = 1 then (X + M) / 2 else X / 2
theorem halved_any (X M : Int) (hX : 0 ≤ X) (hX' : X < top256) (hM : 0 ≤ M) (hM' : M < top256) (w : World) :
    Calls Tryz.prog 97 #[nv X, nv M] w fun e w' => e = .returned (nv (hm X M)) ∧ Below w.heap.size w w' := by
  have e0 : lim X 0 % 2 = X % 2 := by rw [lim0]; omega
  unfold hm
  by_cases c : X % 2 = 1
  · rw [if_pos c]
    have c4 := cy_four X M hX hX' hM hM'
    have cb := cy_bd X M 4
    rw [c4] at cb
    have l4 := lim4 (X + M)
    have T : (X + M) / 2 = (X + M) % top256 / 2 + lim (X + M) 4 * 57896044618658097711785492504343953926634992332820282019728792003956564819968 := by rw [l4]; unfold top256 at *; omega
    have R0 : 0 ≤ (X + M) % top256 := Int.emod_nonneg _ (by decide)
    have R1 : (X + M) % top256 < top256 := Int.emod_lt_of_pos _ (by decide)
    refine halved_odd X M ((X + M) % top256) _ (lim (X + M) 4) R0 R1 (by rw [e0]; exact c) ?_ ?_ ?_ ?_ w fun W => ?_
    · rw [T, lim0, lim0]; omega
    · rw [T, lim1, lim1]; omega
    · rw [T, lim2, lim2]; omega
    · have q : lim ((X + M) % top256 / 2) 3 = (X + M) % top256 / 2 / 6277101735386680763835789423207666416102355444464034512896 := by rw [lim3]; unfold top256 at *; omega
      have J := or_join (lim ((X + M) % top256 / 2) 3 * 2) (lim (X + M) 4) 1 (by omega) (by have := lim_nn ((X + M) % top256 / 2) 3; omega) (by rw [q]; unfold top256 at *; omega) cb.1
      have e1 : lim ((X + M) % top256 / 2) 3 * 2 / 2 ^ 1 = lim ((X + M) % top256 / 2) 3 := by rw [show (2 : Int) ^ 1 = 2 from rfl]; omega
      rw [e1, show (2 : Int) ^ (64 - 1) = 9223372036854775808 by decide, show (2 : Int) ^ 1 = 2 from rfl] at J
      rw [J, q]
      have q2 : lim ((X + M) / 2) 3 = (X + M) / 2 / 6277101735386680763835789423207666416102355444464034512896 := by rw [lim3]; unfold top256 at *; omega
      rw [q2, T]
      unfold top256 at *
      omega
    · have := refAdd_raw X M W
      rw [c4] at this
      rw [nv_mod]
      exact this
  · rw [if_neg c]
    exact halved_even X M X (X / 2) 0 hX hX' (by rw [e0]; exact c) rfl rfl rfl rfl rfl (by rw [Int.zero_mul]; exact or_zero _ (lim_nn _ _) (lim_lt _ _)) w
theorem less_any (A B M : Int) (hA : 0 ≤ A) (hA' : A < top256) (hB : 0 ≤ B) (hB' : B < top256) (w : World) :
    Calls Tryz.prog 98 #[nv A, nv B, nv M] w fun e w' => e = .returned (nv (if A < B then A - B + M else A - B)) ∧ Below w.heap.size w w' := by
  have bf := bw_four A B hA hA' hB hB'
  unfold bor at bf
  by_cases c : A < B
  · rw [if_pos c] at bf ⊢
    refine less_lt A B M (A - B) _ _ w (fun W => ?_) fun W => refAdd_raw _ _ W
    have := refSub_raw A B W
    rw [bf] at this
    exact this
  · rw [if_neg c] at bf ⊢
    refine less_ge A B M (A - B) w fun W => ?_
    have := refSub_raw A B W
    rw [bf] at this
    exact this
end Go.Proofs.YtoolbnbfbegjaaaGreat
