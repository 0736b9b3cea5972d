/- The reference's products of blocks. -/
import Derived.Test.YtjaljnfijhfkcaaGreatDoorJ8
import Derived.Test.YtjaljnfijhfkcaaGreatDoorJ12
set_option linter.all false
set_option maxRecDepth 100000
namespace Go.Proofs.YtjaljnfijhfkcaaGreatDoor
open Go.RowKit Go.Sort Lin
theorem copy16r (w : World) (gb cb : Nat) (f : Nat → By) (hb : Arr w gb 16 (bc f)) : ∃ W : World, (Builtin.copy_ #[50, 50] 3 #[.slice (some ⟨w.heap.size, 0, none⟩) 16 16, .slice (some ⟨gb, 0, none⟩) 16 cb]).run Tryz.prog (w.alloc (.cells (madeCells #[.int .u8 0] 16) 5)) = .ok (goInt 16) W ∧
    Below w.heap.size w W ∧ w.heap.size < W.heap.size ∧ Arr W w.heap.size 16 (bc f) := by
  have hl : ((List.range 16).map (bc f)).length = 16 := by simp
  have hms : (madeCells #[Value.int .u8 0] 16).size = 16 := by simp [madeCells]
  have hb1 : Arr _ _ 16 _ := hb.al' (n := 15) (.cells (madeCells #[.int .u8 0] 16) 5)
  have hcp := run_copy_row (P := Tryz.prog) (w.alloc (.cells (madeCells #[.int .u8 0] 16) 5)) 50 50 3 5 w.heap.size 0 16 16 ⟨gb, 0, none⟩ 16 cb (madeCells #[.int .u8 0] 16) 5 ((List.range 16).map (bc f)) Tryz.underlying50 Tryz.size5 (heap_alloc_new w _) (by rw [hl]; rfl) (by
    intro j v hv
    have hj : j < 16 := by have := (List.getElem?_eq_some_iff.1 hv).1; simpa using this
    rw [Addr.add_mid, Nat.zero_add, hb1.c j hj, ← hv]
    simp [hj]) (by rw [hl, hms]; decide) (by
    intro v hv
    obtain ⟨j, _, rfl⟩ := List.mem_map.1 hv
    rfl)
  rw [hl] at hcp
  obtain ⟨Y, hY⟩ : ∃ Y, Y = ((madeCells #[Value.int .u8 0] 16).toList.take 0 ++ (List.range 16).map (bc f) ++ (madeCells #[Value.int .u8 0] 16).toList.drop (0 + 16)).toArray := ⟨_, rfl⟩
  rw [← hY] at hcp
  refine ⟨_, hcp, ?_, ?_, ?_⟩
  · have hb1 : Below w.heap.size w (w.alloc (.cells (madeCells #[.int .u8 0] 16) 5)) := (Below.refl _ w).alloc (Nat.le_refl _) _
    exact hb1.trans ⟨rfl, rfl, rfl, by simp, fun k hk => setRow_other _ _ _ _ (by omega)⟩
  · simp
  · have hgY : ((w.alloc (.cells (madeCells #[.int .u8 0] 16) 5)).setRow w.heap.size Y).heap[w.heap.size]? = some (.cells Y 5 (0, 0)) := setRow_heap _ _ _ _ 5 (0, 0) (heap_alloc_new w _)
    generalize (w.alloc (.cells (madeCells #[.int .u8 0] 16) 5)).setRow w.heap.size Y = V at *
    intro j hj
    refine ⟨?_, by unfold World.frozen?; rw [hgY]; simp⟩
    have e : Y[j]? = some (bc f j) := by
      rw [hY, List.getElem?_toArray, List.take_zero, List.nil_append, List.getElem?_append_left (by simpa using hj)]
      simp [hj]
    unfold World.cell?
    rw [hgY]
    simp [e]
/-- A row of which the bytes from m on are halved. -/
def hvF (v s : Nat → By) (m j : Nat) : By := if m ≤ j then s j else v j
set_option maxHeartbeats 1000000 in
theorem rtimes_core (fa fb : Nat → By) (zr vr sh : Nat → Nat → By) (bit low : Nat → Bool) (lv : Nat → Int) (ga gb ca cb : Nat)
    (z0 : ∀ j, zr 0 j = 0) (v0 : vr 0 = fb)
    (hbit : ∀ i, i < 128 → bits .and .u8 (((fa (i / 8)).val : Int) / 2 ^ (7 - i % 8)) 1 = if bit i = true then 1 else 0)
    (hz : ∀ i j, zr (i + 1) j = if bit i = true then xr (zr i j) (vr i j) else zr i j)
    (hlow : ∀ i, bits .and .u8 ((vr i 15).val : Int) 1 = lv i) (hlv : ∀ i, lv i = if low i = true then 1 else 0)
    (hs0 : ∀ i, ((vr i 0).val : Int) / 2 = ((sh i 0).val : Int))
    (hs1 : ∀ i j, 0 < j → bits .or .u8 (((vr i j).val : Int) / 2) (((vr i (j - 1)).val : Int) * 128 % 256) = ((sh i j).val : Int))
    (hv : ∀ i j, vr (i + 1) j = if low i = true ∧ j = 0 then xr (sh i 0) 225 else sh i j)
    (w : World) (hA : Arr w ga 16 (bc fa)) (hB : Arr w gb 16 (bc fb)) :
    Calls Tryz.prog 91 #[.slice (some ⟨ga, 0, none⟩) 16 ca, .slice (some ⟨gb, 0, none⟩) 16 cb] w fun e w' => e = .returned (.slice (some ⟨w.heap.size, 0, none⟩) 16 16) ∧ Below w.heap.size w w' ∧ Arr w' w.heap.size 16 (bc (zr 128)) := by
  have Hz : Hid (∀ i j, zr (i + 1) j = if bit i = true then xr (zr i j) (vr i j) else zr i j) := hz
  have Hl : Hid (∀ i, lv i = if low i = true then 1 else 0) := hlv
  have H0 : Hid (∀ i, ((vr i 0).val : Int) / 2 = ((sh i 0).val : Int)) := hs0
  have H1 : Hid (∀ i j, 0 < j → bits .or .u8 (((vr i j).val : Int) / 2) (((vr i (j - 1)).val : Int) * 128 % 256) = ((sh i j).val : Int)) := hs1
  have Hv : Hid (∀ i j, vr (i + 1) j = if low i = true ∧ j = 0 then xr (sh i 0) 225 else sh i j) := hv
  have Hw : Hid (∀ i, bits .and .u8 ((vr i 15).val : Int) 1 = lv i) := hlow
  have Hb : Hid (∀ i, i < 128 → bits .and .u8 (((fa (i / 8)).val : Int) / 2 ^ (7 - i % 8)) 1 = if bit i = true then 1 else 0) := hbit
  clear hz hlv hs0 hs1 hv hlow hbit
  obtain ⟨i0, hi, hi0, hi1, hi2⟩ := info_parts Tryz.info5
  have mk := fun W => run_make (P := Tryz.prog) W 50 5 i0 (.int .u8 0) Tryz.underlying50 hi hi0 .i64 .i64 16 16 (by omega) (by omega) (by rw [hi2]; omega) (by omega)
  rw [hi1] at mk
  obtain ⟨W, hcp, B0, hs, V0⟩ := copy16r (w.alloc (.cells (madeCells #[.int .u8 0] 16) 5)) gb cb fb (hB.al' (n := 15) _)
  have Z0 : Arr (w.alloc (.cells (madeCells #[.int .u8 0] 16) 5)) w.heap.size 16 (bc (zr 0)) := Arr.new _ _ 5 _ rfl _ 16 (fun j hj => by unfold bc; rw [z0]; exact made_at 16 j hj)
  replace Z0 : Arr _ _ 16 _ := Z0.to' (n := 15) B0
  have F0 : Arr _ _ 16 _ := (hA.al' (n := 15) (.cells (madeCells #[.int .u8 0] 16) 5)).to' (n := 15) B0
  have la := hA.lt
  have BW := Bel.call (Bel.al (Below.refl _ w) (.cells (madeCells #[.int .u8 0] 16) 5)) B0
  rw [World.size_alloc] at V0 hcp hs
  clear B0 hB hA
  go_enter Tryz.func91, Tryz.ntmps91
  go_wp2_with fail
  clear mk hcp hi hi0 hi1 hi2
  rw [← v0] at V0
  have na : w.heap.size ≠ ga := by omega
  have nb : w.heap.size + 1 ≠ ga := by omega
  go_loopw [7] (fun z wr => ∃ i : Nat, i ≤ 128 ∧ z = .int .i64 i ∧ Below w.heap.size w wr ∧ Arr wr ga 16 (bc fa) ∧ Arr wr w.heap.size 16 (bc (zr i)) ∧ Arr wr (w.heap.size + 1) 16 (bc (vr i))) (fun z _ => 128 - (intOf z).toNat)
  case atStart => exact ⟨0, by omega, rfl, BW, F0, Z0, V0⟩
  case round =>
    clear BW F0 Z0 V0
    obtain ⟨i, hi, rfl, hB, F, Z, V⟩ := hrel
    by_cases hlt : i < 128
    · have i0 : (0 : Int) ≤ (i : Int) := by omega
      have i1 : (i : Int) < 128 := by omega
      obtain ⟨q, hq⟩ : ∃ q, i / 8 = q := ⟨_, rfl⟩
      obtain ⟨m, hm⟩ : ∃ m, i % 8 = m := ⟨_, rfl⟩
      obtain ⟨d, hd⟩ : ∃ d, 7 - m = d := ⟨_, rfl⟩
      have q1 : (i : Int) / 8 = (q : Int) := by omega
      have q2 : (i : Int) % 8 = (m : Int) := by omega
      have q3 : (7 : Int) - (m : Int) = (d : Int) := by omega
      have q4 : (q : Int) < 16 := by omega
      have q5 : (0 : Int) ≤ (q : Int) := by omega
      have q6 : (0 : Int) ≤ (d : Int) := by omega
      have q7 : (d : Int) < 8 := by omega
      have cq := F.cv q (by omega) (.int .u8 ((fa q).val : Int)) rfl
      have hb := Hb.out i hlt
      rw [hq, hm, hd] at hb
      clear hq hm hd
      have lo15 := Hw.out i
      by_cases hbi : bit i = true
      · rw [if_pos hbi] at hb
        have HZ : Hid (∀ j, zr (i + 1) j = xr (zr i j) (vr i j)) := fun j => by rw [Hz.out, if_pos hbi]
        clear hbi
        go_wp2_with fail
        go_loopw [8] (fun z wr => ∃ k : Nat, k ≤ 16 ∧ z = .int .i64 k ∧ Below w.heap.size w wr ∧ Arr wr ga 16 (bc fa) ∧ Arr wr w.heap.size 16 (bm (zr (i + 1)) (zr i) k) ∧ Arr wr (w.heap.size + 1) 16 (bc (vr i))) (fun z _ => 16 - (intOf z).toNat)
        case atStart => exact ⟨0, by omega, rfl, hB, F, Z.congr fun j hj => by unfold bc bm; rw [if_neg (by omega)], V⟩
        case round =>
          clear hB F Z V cq
          obtain ⟨k, hk, rfl, hB, F, Z, V⟩ := hrel
          by_cases hlk : k < 16
          · have k0 : (0 : Int) ≤ (k : Int) := by omega
            have k1 : (k : Int) < 16 := by omega
            have r0 := fun ds os => cell_regrown (Z.cv k hlk (.int .u8 ((zr i k).val : Int)) (by unfold bm; rw [if_neg (by omega)])) ds os
            have r1 := fun ds os => cell_regrown (V.cv k hlk (.int .u8 ((vr i k).val : Int)) rfl) ds os
            have X := xr8 (zr i k) (vr i k)
            rw [← HZ.out k] at X
            clear lo15
            go_wp2_with fail
            refine wp_region_below_tail 12 (by kernel_rfl) (by kernel_rfl) ?_
            simp only [List.take_succ_cons, List.take_zero, List.drop_succ_cons, List.drop_zero]
            repeat (go_big_quiet_step (fail))
            refine wpQuiet_nil ?_
            intro w3 hw'
            obtain ⟨⟨dq, osq⟩, hw''⟩ := hw'
            have hb3 := below_of hw''
            clear hw'' r0 r1 X
            have F3 : Arr _ _ 16 _ := F.to' (n := 15) hb3
            have Z3 : Arr _ _ 16 _ := Z.to' (n := 15) hb3
            have V3 : Arr _ _ 16 _ := V.to' (n := 15) hb3
            have B3 := Bel.call hB hb3
            clear F Z V hB hb3
            have ck := Z3.c k hlk
            have zk := Z3.z k hlk
            go_wp2_with fail
            refine ⟨⟨k + 1, by omega, by go_num, Bel.st B3 (by omega) _, F3.other na _, (Z3.set k hlk _).congr fun j hj => ?_, V3.other (by omega) _⟩, by simp [intOf]; omega⟩
            unfold bm
            by_cases e : j = k
            · subst e; rw [if_pos rfl, if_pos (by omega)]
            · rw [if_neg e]
              by_cases e2 : j < k
              · rw [if_pos e2, if_pos (by omega)]
              · rw [if_neg e2, if_neg (by omega)]
          · have e : k = 16 := by omega
            rw [show ((k : Nat) : Int) = 16 by omega]
            subst e
            replace Z : Arr wr w.heap.size 16 (bc (zr (i + 1))) := Z.congr fun j hj => by unfold bm bc; rw [if_pos hj]
            have c15 := V.cv 15 (by omega) (.int .u8 ((vr i 15).val : Int)) rfl
            go_wp2_with fail
            clear c15
            go_loopw [10] (fun z wr => ∃ m : Nat, m ≤ 16 ∧ z = .int .i64 ((m : Int) - 1) ∧ Below w.heap.size w wr ∧ Arr wr ga 16 (bc fa) ∧ Arr wr w.heap.size 16 (bc (zr (i + 1))) ∧ Arr wr (w.heap.size + 1) 16 (bc (hvF (vr i) (sh i) m))) (fun z _ => (intOf z + 1).toNat)
            case atStart => exact ⟨16, by omega, rfl, hB, F, Z, V.congr fun j hj => by unfold bc hvF; rw [if_neg (by omega)]⟩
            case round =>
              clear hB F Z V
              obtain ⟨m, hm, rfl, hB, F, Z, V⟩ := hrel
              by_cases hm0 : m = 0
              · subst hm0
                rw [show ((0 : Nat) : Int) - 1 = -1 by omega]
                have V2 : Arr wr (w.heap.size + 1) 16 (bc (sh i)) := V.congr fun j hj => by unfold bc hvF; rw [if_pos (by omega)]
                clear V
                have HV : Hid (∀ j, vr (i + 1) j = if low i = true ∧ j = 0 then xr (sh i 0) 225 else sh i j) := fun j => Hv.out i j
                have hl := Hl.out i
                by_cases hw : low i = true
                · rw [if_pos hw] at hl
                  rw [hl]
                  have X := xr8 (sh i 0) 225
                  rw [show (((225 : By).val : Nat) : Int) = 225 from rfl] at X
                  have HW : Hid (low i = true) := hw
                  have c0 := V2.cv 0 (by omega) (.int .u8 ((sh i 0).val : Int)) rfl
                  have z0 := V2.z 0 (by omega)
                  clear hw hl
                  go_wp2_with fail
                  refine ⟨⟨i + 1, by omega, by go_num, Bel.st hB (by omega) _, F.other nb _, Z.other (by omega) _, (V2.set 0 (by omega) _).congr fun j hj => ?_⟩, by simp [intOf]; omega⟩
                  unfold bc
                  rw [HV.out j]
                  by_cases e : j = 0
                  · rw [if_pos e, if_pos ⟨HW.out, e⟩]
                  · rw [if_neg e, if_neg (fun h => e h.2)]
                · rw [if_neg hw] at hl
                  rw [hl]
                  have HW : Hid (¬ low i = true) := hw
                  clear hw hl
                  go_wp2_with fail
                  refine ⟨⟨i + 1, by omega, by go_num, hB, F, Z, V2.congr fun j hj => ?_⟩, by simp [intOf]; omega⟩
                  unfold bc
                  rw [HV.out j, if_neg (fun h => HW.out h.1)]
              · obtain ⟨k, rfl⟩ : ∃ k, m = k + 1 := ⟨m - 1, by omega⟩
                rw [show ((k + 1 : Nat) : Int) - 1 = (k : Int) by omega]
                have k0 : (0 : Int) ≤ (k : Int) := by omega
                have k1 : (k : Int) < 16 := by omega
                have ck := V.cv k (by omega) (.int .u8 ((vr i k).val : Int)) (by unfold bc hvF; rw [if_neg (by omega)])
                have zk := V.z k (by omega)
                have hvb := (vr i k).2
                have hvb1 : ((vr i k).val : Int) < 256 := by omega
                by_cases hk0 : k = 0
                · subst hk0
                  have hs := H0.out i
                  go_wp2_with fail
                  refine ⟨⟨0, by omega, by go_num, Bel.st hB (by omega) _, F.other nb _, Z.other (by omega) _, (V.set 0 (by omega) _).congr fun j hj => ?_⟩, by simp [intOf]⟩
                  unfold bc hvF
                  by_cases e : j = 0
                  · subst e; rw [if_pos rfl, if_pos (by omega)]
                  · rw [if_neg e, if_pos (by omega), if_pos (by omega)]
                · obtain ⟨p, rfl⟩ : ∃ p, k = p + 1 := ⟨k - 1, by omega⟩
                  have hs := H1.out i (p + 1) (by omega)
                  rw [Nat.add_sub_cancel] at hs
                  have kp : ((p + 1 : Nat) : Int) - 1 = (p : Int) := by omega
                  have kq : (0 : Int) < ((p + 1 : Nat) : Int) := by omega
                  have p0 : (0 : Int) ≤ (p : Int) := by omega
                  have p1 : (p : Int) < 16 := by omega
                  have pb1 : ((vr i p).val : Int) < 256 := by have := (vr i p).2; omega
                  go_upto_region 18 with (fail)
                  have V3 := V.set (p + 1) (by omega) (.int .u8 (((vr i (p + 1)).val : Int) / 2))
                  have F3 := F.other nb (k := p + 1) (.int .u8 (((vr i (p + 1)).val : Int) / 2))
                  have Z3 := Z.other (show w.heap.size + 1 ≠ w.heap.size by omega) (k := p + 1) (.int .u8 (((vr i (p + 1)).val : Int) / 2))
                  have B3 := Bel.st hB (show w.heap.size ≤ w.heap.size + 1 by omega) (k := p + 1) (.int .u8 (((vr i (p + 1)).val : Int) / 2))
                  clear hB F Z V ck zk
                  generalize wr.setCell ⟨w.heap.size + 1, p + 1, none⟩ (.int .u8 (((vr i (p + 1)).val : Int) / 2)) = w3 at *
                  have r0 := fun ds os => cell_regrown (V3.cv (p + 1) (by omega) (.int .u8 (((vr i (p + 1)).val : Int) / 2)) (by rw [if_pos rfl])) ds os
                  have r1 := fun ds os => cell_regrown (V3.cv p (by omega) (.int .u8 ((vr i p).val : Int)) (by rw [if_neg (by omega)]; unfold bc hvF; rw [if_neg (by omega)])) ds os
                  refine wp_region_below_tail 14 (by kernel_rfl) (by kernel_rfl) ?_
                  simp only [List.take_succ_cons, List.take_zero, List.drop_succ_cons, List.drop_zero]
                  repeat (go_big_quiet_step (fail))
                  refine wpQuiet_nil ?_
                  intro w4 hw'
                  obtain ⟨⟨dq, osq⟩, hw''⟩ := hw'
                  have hb4 := below_of hw''
                  clear hw'' r0 r1 hs
                  have V4 : Arr _ _ 16 _ := V3.to' (n := 15) hb4
                  have F4 : Arr _ _ 16 _ := F3.to' (n := 15) hb4
                  have Z4 : Arr _ _ 16 _ := Z3.to' (n := 15) hb4
                  have B4 := Bel.call B3 hb4
                  clear V3 F3 Z3 B3 hb4
                  have ck := V4.c (p + 1) (by omega)
                  have zk := V4.z (p + 1) (by omega)
                  go_wp2_with fail
                  refine ⟨⟨p + 1, by omega, by go_num, Bel.st B4 (by omega) _, F4.other nb _, Z4.other (by omega) _, (V4.set (p + 1) (by omega) _).congr fun j hj => ?_⟩, by simp [intOf]; omega⟩
                  unfold bc hvF
                  by_cases e : j = p + 1
                  · subst e; rw [if_pos rfl, if_pos (by omega)]
                  · rw [if_neg e, if_neg e]
                    by_cases e2 : p + 1 ≤ j
                    · rw [if_pos (by omega), if_pos e2]
                    · rw [if_neg (by omega), if_neg e2]
      · rw [if_neg hbi] at hb
        have HZ : Hid (zr (i + 1) = zr i) := funext fun j => by rw [Hz.out, if_neg hbi]
        rw [← HZ.out] at Z
        clear hbi
        have c15 := V.cv 15 (by omega) (.int .u8 ((vr i 15).val : Int)) rfl
        go_wp2_with fail
        clear c15 cq
        go_loopw [10] (fun z wr => ∃ m : Nat, m ≤ 16 ∧ z = .int .i64 ((m : Int) - 1) ∧ Below w.heap.size w wr ∧ Arr wr ga 16 (bc fa) ∧ Arr wr w.heap.size 16 (bc (zr (i + 1))) ∧ Arr wr (w.heap.size + 1) 16 (bc (hvF (vr i) (sh i) m))) (fun z _ => (intOf z + 1).toNat)
        case atStart => exact ⟨16, by omega, rfl, hB, F, Z, V.congr fun j hj => by unfold bc hvF; rw [if_neg (by omega)]⟩
        case round =>
          clear hB F Z V
          obtain ⟨m, hm, rfl, hB, F, Z, V⟩ := hrel
          by_cases hm0 : m = 0
          · subst hm0
            rw [show ((0 : Nat) : Int) - 1 = -1 by omega]
            have V2 : Arr wr (w.heap.size + 1) 16 (bc (sh i)) := V.congr fun j hj => by unfold bc hvF; rw [if_pos (by omega)]
            clear V
            have HV : Hid (∀ j, vr (i + 1) j = if low i = true ∧ j = 0 then xr (sh i 0) 225 else sh i j) := fun j => Hv.out i j
            have hl := Hl.out i
            by_cases hw : low i = true
            · rw [if_pos hw] at hl
              rw [hl]
              have X := xr8 (sh i 0) 225
              rw [show (((225 : By).val : Nat) : Int) = 225 from rfl] at X
              have HW : Hid (low i = true) := hw
              have c0 := V2.cv 0 (by omega) (.int .u8 ((sh i 0).val : Int)) rfl
              have z0 := V2.z 0 (by omega)
              clear hw hl
              go_wp2_with fail
              refine ⟨⟨i + 1, by omega, by go_num, Bel.st hB (by omega) _, F.other nb _, Z.other (by omega) _, (V2.set 0 (by omega) _).congr fun j hj => ?_⟩, by simp [intOf]; omega⟩
              unfold bc
              rw [HV.out j]
              by_cases e : j = 0
              · rw [if_pos e, if_pos ⟨HW.out, e⟩]
              · rw [if_neg e, if_neg (fun h => e h.2)]
            · rw [if_neg hw] at hl
              rw [hl]
              have HW : Hid (¬ low i = true) := hw
              clear hw hl
              go_wp2_with fail
              refine ⟨⟨i + 1, by omega, by go_num, hB, F, Z, V2.congr fun j hj => ?_⟩, by simp [intOf]; omega⟩
              unfold bc
              rw [HV.out j, if_neg (fun h => HW.out h.1)]
          · obtain ⟨k, rfl⟩ : ∃ k, m = k + 1 := ⟨m - 1, by omega⟩
            rw [show ((k + 1 : Nat) : Int) - 1 = (k : Int) by omega]
            have k0 : (0 : Int) ≤ (k : Int) := by omega
            have k1 : (k : Int) < 16 := by omega
            have ck := V.cv k (by omega) (.int .u8 ((vr i k).val : Int)) (by unfold bc hvF; rw [if_neg (by omega)])
            have zk := V.z k (by omega)
            have hvb := (vr i k).2
            have hvb1 : ((vr i k).val : Int) < 256 := by omega
            by_cases hk0 : k = 0
            · subst hk0
              have hs := H0.out i
              go_wp2_with fail
              refine ⟨⟨0, by omega, by go_num, Bel.st hB (by omega) _, F.other nb _, Z.other (by omega) _, (V.set 0 (by omega) _).congr fun j hj => ?_⟩, by simp [intOf]⟩
              unfold bc hvF
              by_cases e : j = 0
              · subst e; rw [if_pos rfl, if_pos (by omega)]
              · rw [if_neg e, if_pos (by omega), if_pos (by omega)]
            · obtain ⟨p, rfl⟩ : ∃ p, k = p + 1 := ⟨k - 1, by omega⟩
              have hs := H1.out i (p + 1) (by omega)
              rw [Nat.add_sub_cancel] at hs
              have kp : ((p + 1 : Nat) : Int) - 1 = (p : Int) := by omega
              have kq : (0 : Int) < ((p + 1 : Nat) : Int) := by omega
              have p0 : (0 : Int) ≤ (p : Int) := by omega
              have p1 : (p : Int) < 16 := by omega
              have pb1 : ((vr i p).val : Int) < 256 := by have := (vr i p).2; omega
              go_upto_region 18 with (fail)
              have V3 := V.set (p + 1) (by omega) (.int .u8 (((vr i (p + 1)).val : Int) / 2))
              have F3 := F.other nb (k := p + 1) (.int .u8 (((vr i (p + 1)).val : Int) / 2))
              have Z3 := Z.other (show w.heap.size + 1 ≠ w.heap.size by omega) (k := p + 1) (.int .u8 (((vr i (p + 1)).val : Int) / 2))
              have B3 := Bel.st hB (show w.heap.size ≤ w.heap.size + 1 by omega) (k := p + 1) (.int .u8 (((vr i (p + 1)).val : Int) / 2))
              clear hB F Z V ck zk
              generalize wr.setCell ⟨w.heap.size + 1, p + 1, none⟩ (.int .u8 (((vr i (p + 1)).val : Int) / 2)) = w3 at *
              have r0 := fun ds os => cell_regrown (V3.cv (p + 1) (by omega) (.int .u8 (((vr i (p + 1)).val : Int) / 2)) (by rw [if_pos rfl])) ds os
              have r1 := fun ds os => cell_regrown (V3.cv p (by omega) (.int .u8 ((vr i p).val : Int)) (by rw [if_neg (by omega)]; unfold bc hvF; rw [if_neg (by omega)])) ds os
              refine wp_region_below_tail 14 (by kernel_rfl) (by kernel_rfl) ?_
              simp only [List.take_succ_cons, List.take_zero, List.drop_succ_cons, List.drop_zero]
              repeat (go_big_quiet_step (fail))
              refine wpQuiet_nil ?_
              intro w4 hw'
              obtain ⟨⟨dq, osq⟩, hw''⟩ := hw'
              have hb4 := below_of hw''
              clear hw'' r0 r1 hs
              have V4 : Arr _ _ 16 _ := V3.to' (n := 15) hb4
              have F4 : Arr _ _ 16 _ := F3.to' (n := 15) hb4
              have Z4 : Arr _ _ 16 _ := Z3.to' (n := 15) hb4
              have B4 := Bel.call B3 hb4
              clear V3 F3 Z3 B3 hb4
              have ck := V4.c (p + 1) (by omega)
              have zk := V4.z (p + 1) (by omega)
              go_wp2_with fail
              refine ⟨⟨p + 1, by omega, by go_num, Bel.st B4 (by omega) _, F4.other nb _, Z4.other (by omega) _, (V4.set (p + 1) (by omega) _).congr fun j hj => ?_⟩, by simp [intOf]; omega⟩
              unfold bc hvF
              by_cases e : j = p + 1
              · subst e; rw [if_pos rfl, if_pos (by omega)]
              · rw [if_neg e, if_neg e]
                by_cases e2 : p + 1 ≤ j
                · rw [if_pos (by omega), if_pos e2]
                · rw [if_neg (by omega), if_neg e2]
    · have e : i = 128 := by omega
      rw [show ((i : Nat) : Int) = 128 by omega]
      subst e
      go_wp2_with fail
      go_ret
      exact ⟨rfl, hB, Z⟩
/-- What is doubled, step by step. -/
def vF (f : Nat → By) : Nat → Nat → By
  | 0 => f
  | i + 1 => e1F ((vF f i 15).val.testBit 0) (shF (vF f i))
/-- What is summed up. -/
def zF (a f : Nat → By) : Nat → Nat → By
  | 0 => fun _ => 0
  | i + 1 => fun j => if bs (be a 16) i = true then xr (zF a f i j) (vF f i j) else zF a f i j
theorem vF_be (f : Nat → By) : ∀ i, be (vF f i) 16 = it T128 i (be f 16) := by
  intro i
  induction i with
  | zero => rfl
  | succ i ih => rw [vF, be_T128, ih, it]
theorem zF_be (a f : Nat → By) : ∀ i, be (zF a f i) 16 = S T128 (bs (be a 16)) i (be f 16) := by
  intro i
  induction i with
  | zero => simp [zF, S, be]
  | succ i ih =>
    rw [S_end, zF]
    by_cases h : bs (be a 16) i = true
    · simp only [if_pos h]
      rw [be_xor, ih, vF_be]
    · simp only [if_neg h]
      rw [Nat.xor_zero]
      exact ih
theorem and8_1 (a : By) (d : Nat) : bits .and .u8 ((a.val : Int) / 2 ^ d) 1 = if a.val.testBit d = true then 1 else 0 := by
  have e : (a.val : Int) / 2 ^ d = ((a.val / 2 ^ d : Nat) : Int) := by
    rw [Int.natCast_ediv]
    congr 1
  have l : a.val / 2 ^ d < 256 := Nat.lt_of_le_of_lt (Nat.div_le_self _ _) a.2
  have := (bits_ao8 (a.val / 2 ^ d) 1 l (by decide)).1
  rw [show ((1 : Nat) : Int) = 1 from rfl] at this
  rw [e, this, Nat.and_one_is_mod, Nat.testBit_eq_decide_div_mod_eq]
  rcases Nat.mod_two_eq_zero_or_one (a.val / 2 ^ d) with h | h <;> simp [h]
theorem and8_0 (a : By) : bits .and .u8 (a.val : Int) 1 = if a.val.testBit 0 = true then 1 else 0 := by
  have := and8_1 a 0
  rwa [show (2 : Int) ^ 0 = 1 from rfl, Int.ediv_one] at this
theorem half8 (a b : By) : bits .or .u8 ((a.val : Int) / 2) ((b.val : Int) * 128 % 256) = ((a.val / 2 + b.val % 2 * 128 : Nat) : Int) := by
  have h1 := a.2
  have h2 := b.2
  have e1 : (a.val : Int) / 2 = ((0 * 2 ^ 7 + a.val / 2 : Nat) : Int) := by omega
  have e2 : (b.val : Int) * 128 % 256 = ((b.val % 2 * 2 ^ 7 + 0 : Nat) : Int) := by omega
  rw [e1, e2, (bits_ao8 _ _ (by omega) (by omega)).2, or_hi _ _ _ _ 7 (by omega) (by decide)]
  simp
  omega
theorem rgtimes_any (fa fb : Nat → By) (ga gb ca cb : Nat) (w : World) (hA : Arr w ga 16 (bc fa)) (hB : Arr w gb 16 (bc fb)) :
    Calls Tryz.prog 91 #[.slice (some ⟨ga, 0, none⟩) 16 ca, .slice (some ⟨gb, 0, none⟩) 16 cb] w fun e w' => e = .returned (.slice (some ⟨w.heap.size, 0, none⟩) 16 16) ∧ Below w.heap.size w w' ∧ Arr w' w.heap.size 16 (bc (dg (tB (be fa 16) (be fb 16)))) := by
  refine (rtimes_core fa fb (zF fa fb) (vF fb) (fun i => shF (vF fb i)) (fun i => bs (be fa 16) i) (fun i => (vF fb i 15).val.testBit 0) (fun i => if (vF fb i 15).val.testBit 0 = true then 1 else 0) ga gb ca cb (fun _ => rfl) rfl (fun i hi => ?_) (fun i j => rfl) (fun i => and8_0 _) (fun i => rfl) (fun i => ?_) (fun i j hj => ?_) (fun i j => ?_) w hA hB).mono ?_
  · rw [and8_1, bs_be fa i hi]
  · simp [shF]
  · rw [half8]
    simp only [shF]
    rw [if_neg (by omega)]
  · rw [vF]
    rfl
  · rintro e w' ⟨h1, h2, h3⟩
    refine ⟨h1, h2, h3.congr fun j hj => ?_⟩
    unfold bc
    congr 2
    have e : tB (be fa 16) (be fb 16) = be (zF fa fb 128) 16 := (zF_be fa fb 128).symm
    rw [e, dg_be _ j hj]
end Go.Proofs.YtjaljnfijhfkcaaGreatDoor
