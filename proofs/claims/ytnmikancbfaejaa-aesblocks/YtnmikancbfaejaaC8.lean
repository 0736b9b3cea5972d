/- The way back: the table undone, rows turned back, columns mixed back. -/
import Derived.Test.YtnmikancbfaejaaA13
set_option linter.all false
set_option maxRecDepth 100000
namespace Go.Proofs.Ytnmikancbfaejaa
open Go.RowKit Go.Sort Lin
def bkV (k : Nat) (j : Nat) : Value := .int .u8 (if (bk (Fin.ofNat 256 j)).val < k then ((bk (Fin.ofNat 256 j)).val : Int) else 0)
theorem bkV_next (k : Nat) (hk : k < 256) (j : Nat) (hj : j < 256) : (if j = (sb ⟨k, hk⟩).val then Value.int .u8 (k : Int) else bkV k j) = bkV (k + 1) j := by
  unfold bkV
  have ej : (Fin.ofNat 256 j : By).val = j := by simp [Nat.mod_eq_of_lt hj]
  by_cases e : j = (sb ⟨k, hk⟩).val
  · have e2 : (Fin.ofNat 256 j : By) = sb ⟨k, hk⟩ := Fin.ext (by rw [ej, e])
    rw [if_pos e, e2, bk_sb, if_pos (by show k < k + 1; omega)]
  · rw [if_neg e]
    have e2 : (bk (Fin.ofNat 256 j)).val ≠ k := fun h => e (by
      have : bk (Fin.ofNat 256 j) = ⟨k, hk⟩ := Fin.ext h
      rw [← this, sb_bk, ej])
    by_cases l : (bk (Fin.ofNat 256 j)).val < k
    · rw [if_pos l, if_pos (by omega)]
    · rw [if_neg l, if_neg (by omega)]
theorem bkV_all (j : Nat) : bkV 256 j = .int .u8 ((bk (Fin.ofNat 256 j)).val : Int) := by unfold bkV; rw [if_pos (bk _).2]
set_option maxHeartbeats 4000000 in
theorem undone_core (L : List Value) (hlen : L.length = 256) (hat : ∀ j, j < 256 → L[j]? = some (bkV 256 j)) (hone : ∀ v ∈ L, v.oneCell' = true) (b o : Nat) (w : World) (hT : TabAt w b o sb) :
    Calls Try.prog 48 #[.pointer (some ⟨b, o, none⟩)] w fun e w' => e = .returned (.agg L.toArray) ∧ Below w.heap.size w w' := by
  go_enter Try.func48, Try.ntmps48
  go_wp2_with fail
  go_loopw [7] (fun i wr => ∃ k : Nat, k ≤ 256 ∧ i = .int .i64 k ∧ Below w.heap.size w wr ∧ w.heap.size + 1 < wr.heap.size ∧
      Arr wr w.heap.size 256 (fun _ => .int .u8 0) ∧ Arr wr (w.heap.size + 1) 256 (bkV k))
    (fun i _ => 256 - (intOf i).toNat)
  case atStart =>
    refine ⟨0, by omega, rfl, by go_grown, by go_size, ?_, ?_⟩
    · exact (Arr.new _ _ _ _ (by simp) _ 256 (zeros8 256)).alloc (by go_size) _
    · refine Arr.new _ _ _ _ (by simp) _ 256 ?_
      intro j hj
      rw [bkV, if_neg (by omega)]
      exact zeros8 256 j hj
  case round =>
    obtain ⟨k, hk, rfl, hB, hz, A0, A1⟩ := hrel
    by_cases hlt : k < 256
    · have k0 : (0 : Int) ≤ (k : Int) := by omega
      have k8 : (k : Int) < 256 := by omega
      have c := (hT.to hB) ⟨k, hlt⟩
      have c' : wr.cell? ⟨b, o + k, none⟩ = some (.int .u8 ((sb ⟨k, hlt⟩).val : Int)) := c
      have r := fun ds os => cell_regrown c' ds os
      have HN : Hid _ := bkV_next k hlt
      clear c
      generalize sb ⟨k, hlt⟩ = s at *
      have s1 := s.2
      have q0 : (0 : Int) ≤ (s.val : Int) := by omega
      have q1 : (s.val : Int) < 256 := by omega
      go_wp2_with fail
      refine wp_region_quiet_below (by kernel_rfl) (by kernel_rfl) ?_
      repeat (go_big_quiet_step (fail))
      refine wpQuiet_nil ?_
      intro w1 hw'
      obtain ⟨⟨dq, osq⟩, hw''⟩ := hw'
      have hb := below_of hw''
      clear hw'' r c'
      have hB1 := Bel.call hB hb
      have B0 := A0.to' hb
      have B1 := A1.to' hb
      have hz1 : w.heap.size + 1 < w1.heap.size := by have := hb.size; omega
      clear A0 A1 hB hb hz
      have cp := B1.c s.val s1
      have zp := B1.z s.val s1
      go_wp2_with fail
      refine ⟨⟨k + 1, by omega, by go_num, Bel.st hB1 (by omega) _, by rw [size_set]; omega, B0.other (by omega) _, (B1.set s.val s1 _).congr HN.out⟩, by simp [intOf]; omega⟩
    · have k8 : k = 256 := by omega
      subst k8
      have R2 : wr.rangeAt (w.heap.size + 1) 0 L := A1.range _ hlen hat
      have T1 := A0.there
      have sz : L.toArray.size = 256 := by rw [List.size_toArray]; exact hlen
      have h58 : (Try.prog.info? 46).map (·.size) = some L.length := by rw [hlen]; exact Try.info46
      have h58' : (Try.prog.info? 46).map (·.size) = some L.toArray.size := by rw [sz]; exact Try.info46
      have T1' : wr.there w.heap.size 0 L.toArray.size := by rw [sz]; exact T1
      have one := all_oneCell_toArray hone
      have R1 : (wr.setCells w.heap.size 0 L).rangeAt w.heap.size 0 L := World.rangeAt_setCells_same wr _ 0 _ (by rw [hlen]; exact T1)
      have lv := run_loadVar_mid (P := Try.prog) (wr.setCells w.heap.size 0 L) w.heap.size 0 46 L _ R1 Try.underlying46 rfl h58
      have LV : Hid _ := lv
      have HR2 : Hid _ := R2
      have H58 : Hid _ := h58
      have H58' : Hid _ := h58'
      have HT1 : Hid _ := T1'
      have HO : Hid _ := one
      clear A0 A1 hk T1 R1 lv sz R2 h58 h58' T1' one hat hone hlen
      go_upto_region 7 with (fail)
      refine wp_region_list ?_
      refine wpList_load_mid (by rfl) 46 (.tmp 3) (by rfl) _ _ (by rfl) L _ HR2.out Try.underlying46 rfl H58.out ?_
      refine wpList_store_mid (by rfl) 46 (.tmp 2) (.tmp 18) (by rfl) _ _ _ (by rfl) (by rfl) HT1.out H58'.out HO.out ?_
      refine wpList_nil ?_
      have lv := LV.out
      clear HR2 H58 H58' HT1 HO LV
      go_wp2_with fail
      refine bodyPost_ret (v := .agg L.toArray) (results_cell1 Try.results48 _ (by rfl) lv) rfl ⟨rfl, ?_⟩
      exact below_setCells hB (by omega) _ _
theorem undone_any (b o : Nat) (w : World) (hT : TabAt w b o sb) : Calls Try.prog 48 #[.pointer (some ⟨b, o, none⟩)] w fun e w' => e = .returned (.agg (tbL bk).toArray) ∧ Below w.heap.size w w' :=
  undone_core (tbL bk) (tbL_len bk) (fun j hj => by rw [tbL_at bk j hj, bkV_all]) (tbL_one bk) b o w hT
/-- Rows turned back. -/
def utF (h : Nat → By) (j : Nat) : By := h (4 * ((j / 4 + 4 - j % 4) % 4) + j % 4)
def ti (j : Nat) : Nat := 4 * ((j / 4 + j % 4) % 4) + j % 4
def ui (j : Nat) : Nat := 4 * ((j / 4 + 4 - j % 4) % 4) + j % 4
theorem ti_3 : ∀ j : Fin 16, ti (ti (ti j.val)) = ui j.val := by decide
theorem ti_ui : ∀ j : Fin 16, ti (ui j.val) = j.val ∧ ui (ti j.val) = j.val ∧ ti j.val < 16 ∧ ui j.val < 16 := by decide
theorem tn_3 (h : Nat → By) (j : Nat) (hj : j < 16) : tnF (tnF (tnF h)) j = utF h j := by
  show h (ti (ti (ti j))) = h (ui j)
  rw [ti_3 ⟨j, hj⟩]
set_option maxHeartbeats 1000000 in
theorem thrice50 (x x1 x2 x3 : Nat → Int) (C1 : ∀ W, Calls Try.prog 44 #[bv x] W fun e w' => e = .returned (bv x1) ∧ Below W.heap.size W w') (C2 : ∀ W, Calls Try.prog 44 #[bv x1] W fun e w' => e = .returned (bv x2) ∧ Below W.heap.size W w') (C3 : ∀ W, Calls Try.prog 44 #[bv x2] W fun e w' => e = .returned (bv x3) ∧ Below W.heap.size W w') (w : World) :
    Calls Try.prog 50 #[bv x] w fun e w' => e = .returned (bv x3) ∧ Below w.heap.size w w' := by
  unfold bv at *
  have N : Arr ((w.alloc (.cells #[.int .u32 (x 0), .int .u32 (x 1), .int .u32 (x 2), .int .u32 (x 3)] 68)).alloc (.cells #[.int .u32 0, .int .u32 0, .int .u32 0, .int .u32 0] 68)) (w.heap.size + 1) 4 (fun _ => .int .u32 0) := Arr.new _ _ 68 _ (by simp) _ 4 z4_at
  have B : Below w.heap.size w ((w.alloc (.cells #[.int .u32 (x 0), .int .u32 (x 1), .int .u32 (x 2), .int .u32 (x 3)] 68)).alloc (.cells #[.int .u32 0, .int .u32 0, .int .u32 0, .int .u32 0] 68)) := by go_grown
  go_enter Try.func50, Try.ntmps50
  go_wp2_with fail
  refine (C1 _).mono ?_
  rintro e w1 ⟨rfl, hb⟩
  have N1 := N.to' hb
  have B1 := Bel.call B hb
  clear N B hb C1
  go_wp2_with fail
  refine (C2 _).mono ?_
  rintro e w2 ⟨rfl, hb⟩
  have N2 := N1.to' hb
  have B2 := Bel.call B1 hb
  clear N1 B1 hb C2
  go_wp2_with fail
  refine (C3 _).mono ?_
  rintro e w3 ⟨rfl, hb⟩
  have N3 := N2.to' hb
  have B3 := Bel.call B2 hb
  clear N2 B2 hb C3
  have d := N3.c
  have z := N3.z
  have E := (N3.st4 x3).c
  go_wp2_with fail
  refine bodyPost_ret (v := bv x3) ?_ rfl ⟨rfl, Bel.st4 B3 (by omega) x3⟩
  simp only [Go.Proofs.Ytnmikancbfaejaa.st4] at E
  simp [bv, results, Try.results50, go_sem, E]
set_option maxHeartbeats 1000000 in
theorem thrice51 (x x1 x2 x3 : Nat → Int) (C1 : ∀ W, Calls Try.prog 45 #[bv x] W fun e w' => e = .returned (bv x1) ∧ Below W.heap.size W w') (C2 : ∀ W, Calls Try.prog 45 #[bv x1] W fun e w' => e = .returned (bv x2) ∧ Below W.heap.size W w') (C3 : ∀ W, Calls Try.prog 45 #[bv x2] W fun e w' => e = .returned (bv x3) ∧ Below W.heap.size W w') (w : World) :
    Calls Try.prog 51 #[bv x] w fun e w' => e = .returned (bv x3) ∧ Below w.heap.size w w' := by
  unfold bv at *
  have N : Arr ((w.alloc (.cells #[.int .u32 (x 0), .int .u32 (x 1), .int .u32 (x 2), .int .u32 (x 3)] 68)).alloc (.cells #[.int .u32 0, .int .u32 0, .int .u32 0, .int .u32 0] 68)) (w.heap.size + 1) 4 (fun _ => .int .u32 0) := Arr.new _ _ 68 _ (by simp) _ 4 z4_at
  have B : Below w.heap.size w ((w.alloc (.cells #[.int .u32 (x 0), .int .u32 (x 1), .int .u32 (x 2), .int .u32 (x 3)] 68)).alloc (.cells #[.int .u32 0, .int .u32 0, .int .u32 0, .int .u32 0] 68)) := by go_grown
  go_enter Try.func51, Try.ntmps51
  go_wp2_with fail
  refine (C1 _).mono ?_
  rintro e w1 ⟨rfl, hb⟩
  have N1 := N.to' hb
  have B1 := Bel.call B hb
  clear N B hb C1
  go_wp2_with fail
  refine (C2 _).mono ?_
  rintro e w2 ⟨rfl, hb⟩
  have N2 := N1.to' hb
  have B2 := Bel.call B1 hb
  clear N1 B1 hb C2
  go_wp2_with fail
  refine (C3 _).mono ?_
  rintro e w3 ⟨rfl, hb⟩
  have N3 := N2.to' hb
  have B3 := Bel.call B2 hb
  clear N2 B2 hb C3
  have d := N3.c
  have z := N3.z
  have E := (N3.st4 x3).c
  go_wp2_with fail
  refine bodyPost_ret (v := bv x3) ?_ rfl ⟨rfl, Bel.st4 B3 (by omega) x3⟩
  simp only [Go.Proofs.Ytnmikancbfaejaa.st4] at E
  simp [bv, results, Try.results51, go_sem, E]
theorem unturned_any (h : Nat → By) (w : World) : Calls Try.prog 50 #[bv (col h)] w fun e w' => e = .returned (bv (col (utF h))) ∧ Below w.heap.size w w' := by
  have := thrice50 _ _ _ _ (fun W => turned_any h W) (fun W => turned_any _ W) (fun W => turned_any _ W) w
  rwa [bv_congr (tn_3 h)] at this
/-- Mixed by m, then by n. -/
theorem mxF_mxF (m0 m1 m2 m3 n0 n1 n2 n3 k0 k1 k2 k3 : By) (H : ∀ a b c d : By, mxB n0 n1 n2 n3 (mxB m0 m1 m2 m3 a b c d) (mxB m0 m1 m2 m3 b c d a) (mxB m0 m1 m2 m3 c d a b) (mxB m0 m1 m2 m3 d a b c) = mxB k0 k1 k2 k3 a b c d) (h : Nat → By) (j : Nat) :
    mxF n0 n1 n2 n3 (mxF m0 m1 m2 m3 h) j = mxF k0 k1 k2 k3 h j := by
  have r4 : j % 4 < 4 := Nat.mod_lt _ (by decide)
  have e : ∀ i, i < 4 → mxF m0 m1 m2 m3 h (4 * (j / 4) + i) = mxB m0 m1 m2 m3 (h (4 * (j / 4) + i)) (h (4 * (j / 4) + (i + 1) % 4)) (h (4 * (j / 4) + (i + 2) % 4)) (h (4 * (j / 4) + (i + 3) % 4)) := fun i hi => by
    unfold mxF
    rw [show (4 * (j / 4) + i) / 4 = j / 4 by omega, show (4 * (j / 4) + i) % 4 = i by omega]
  have lhs : mxF n0 n1 n2 n3 (mxF m0 m1 m2 m3 h) j = mxB n0 n1 n2 n3 (mxF m0 m1 m2 m3 h (4 * (j / 4) + j % 4)) (mxF m0 m1 m2 m3 h (4 * (j / 4) + (j % 4 + 1) % 4)) (mxF m0 m1 m2 m3 h (4 * (j / 4) + (j % 4 + 2) % 4)) (mxF m0 m1 m2 m3 h (4 * (j / 4) + (j % 4 + 3) % 4)) := rfl
  rw [lhs, e _ r4, e _ (Nat.mod_lt _ (by decide)), e _ (Nat.mod_lt _ (by decide)), e _ (Nat.mod_lt _ (by decide))]
  show _ = mxB k0 k1 k2 k3 (h (4 * (j / 4) + j % 4)) (h (4 * (j / 4) + (j % 4 + 1) % 4)) (h (4 * (j / 4) + (j % 4 + 2) % 4)) (h (4 * (j / 4) + (j % 4 + 3) % 4))
  rw [← H]
  generalize j % 4 = r at *
  have : r = 0 ∨ r = 1 ∨ r = 2 ∨ r = 3 := by omega
  rcases this with rfl | rfl | rfl | rfl <;> rfl
theorem mx_comp {m0 m1 m2 m3 n0 n1 n2 n3 k0 k1 k2 k3 : By}
    (h0 : xr (xr (xr (tmF m0 n0) (tmF m3 n1)) (tmF m2 n2)) (tmF m1 n3) = k0) (h1 : xr (xr (xr (tmF m1 n0) (tmF m0 n1)) (tmF m3 n2)) (tmF m2 n3) = k1)
    (h2 : xr (xr (xr (tmF m2 n0) (tmF m1 n1)) (tmF m0 n2)) (tmF m3 n3) = k2) (h3 : xr (xr (xr (tmF m3 n0) (tmF m2 n1)) (tmF m1 n2)) (tmF m0 n3) = k3) (a b c d : By) :
    mxB n0 n1 n2 n3 (mxB m0 m1 m2 m3 a b c d) (mxB m0 m1 m2 m3 b c d a) (mxB m0 m1 m2 m3 c d a b) (mxB m0 m1 m2 m3 d a b c) = mxB k0 k1 k2 k3 a b c d := by
  subst h0 h1 h2 h3
  exact Fin.ext (mx_mx a.2 b.2 c.2 d.2 m0.2 m1.2 m2.2 m3.2 n0.2 n1.2 n2.2 n3.2)
theorem mx_3 (h : Nat → By) (j : Nat) : mxF 2 3 1 1 (mxF 2 3 1 1 (mxF 2 3 1 1 h)) j = mxF 14 11 13 9 h j := by
  have e : mxF 2 3 1 1 (mxF 2 3 1 1 h) = mxF 5 0 4 0 h := funext fun i => mxF_mxF 2 3 1 1 2 3 1 1 5 0 4 0 (mx_comp (by decide +kernel) (by decide +kernel) (by decide +kernel) (by decide +kernel)) h i
  rw [e]
  exact mxF_mxF 5 0 4 0 2 3 1 1 14 11 13 9 (mx_comp (by decide +kernel) (by decide +kernel) (by decide +kernel) (by decide +kernel)) h j
theorem mxB_id (a b c d : By) : mxB 1 0 0 0 a b c d = a := by
  unfold mxB
  rw [tm_1, show tmF b 0 = 0 from Fin.ext (tm_zero _), show tmF c 0 = 0 from Fin.ext (tm_zero _), show tmF d 0 = 0 from Fin.ext (tm_zero _), xr_zero, xr_zero, xr_zero]
theorem mx_back (h : Nat → By) (j : Nat) (hj : j < 16) : mxF 14 11 13 9 (mxF 2 3 1 1 h) j = h j := by
  rw [mxF_mxF 2 3 1 1 14 11 13 9 1 0 0 0 (mx_comp (by decide +kernel) (by decide +kernel) (by decide +kernel) (by decide +kernel)) h j]
  unfold mxF
  rw [mxB_id]
  congr 1
  omega
theorem back_mx (h : Nat → By) (j : Nat) (hj : j < 16) : mxF 2 3 1 1 (mxF 14 11 13 9 h) j = h j := by
  rw [mxF_mxF 14 11 13 9 2 3 1 1 1 0 0 0 (mx_comp (by decide +kernel) (by decide +kernel) (by decide +kernel) (by decide +kernel)) h j]
  unfold mxF
  rw [mxB_id]
  congr 1
  omega
theorem unmixed_any (h : Nat → By) (w : World) : Calls Try.prog 51 #[bv (col h)] w fun e w' => e = .returned (bv (col (mxF 14 11 13 9 h))) ∧ Below w.heap.size w w' := by
  have := thrice51 _ _ _ _ (fun W => mixed_any h W) (fun W => mixed_any _ W) (fun W => mixed_any _ W) w
  rwa [bv_congr (fun j _ => mx_3 h j)] at this
end Go.Proofs.Ytnmikancbfaejaa
