/- What the reference's Sum answers. -/
import Derived.Test.YtfglpcfacjedmaaDoorR3
import Derived.Test.YtfglpcfacjedmaaDoorZ10
set_option linter.all false
set_option maxRecDepth 100000
namespace Go.Proofs.YtfglpcfacjedmaaDoor
open Go.RowKit Go.Sort
/-- The mark and z zeros. -/
def mkZ (z : Nat) : ByteArray := ⟨#[128]⟩ ++ ⟨(List.replicate z (0 : UInt8)).toArray⟩
theorem mkZ_size (z : Nat) : (mkZ z).size = z + 1 := by unfold mkZ; rw [app_size, rep_size]; show 1 + z = z + 1; omega
theorem app_list (a b : ByteArray) : (a ++ b).data.toList = a.data.toList ++ b.data.toList := by simp
theorem mkZ_succ (z : Nat) : mkZ z ++ ⟨#[0]⟩ = mkZ (z + 1) := by
  apply ba_ext
  unfold mkZ
  rw [app_list, app_list, app_list]
  show [128] ++ List.replicate z (0 : UInt8) ++ [0] = [128] ++ List.replicate (z + 1) (0 : UInt8)
  rw [List.replicate_succ', List.append_assoc]
/-- The first k bytes of a number of 64 bits, the highest first. -/
def nbL (c : Int) (k : Nat) : List Int := (List.range k).map fun j => c / 2 ^ (8 * (7 - j)) % 256
theorem nbL_succ (c : Int) (k : Nat) : nbL c (k + 1) = nbL c k ++ [c / 2 ^ (8 * (7 - k)) % 256] := by simp [nbL, List.range_succ]
theorem mkS_app (a b : List Int) : mkS (a ++ b) = mkS a ++ mkS b := by
  apply ba_ext
  rw [app_list, mkS_list, mkS_list, mkS_list, List.map_append]
theorem gby' {W w1 : World} (hb : Below W.heap.size W w1) : W.grownBy w1 none := ⟨hb.os, hb.tape, hb.output, hb.size, fun k hk _ => hb.block k hk⟩
/-- A hash is put into a block. -/
def st10 (w : World) (b : Nat) (g : Nat → Int) (L : ByteArray) (n : Int) : World := ((st8 w b g).setCell ⟨b, 8, none⟩ (.string L)).setCell ⟨b, 9, none⟩ (.int .u64 n)
theorem Arr.st10 {w : World} {b : Nat} {f : Nat → Value} (A : Arr w b 10 f) (g : Nat → Int) (L : ByteArray) (n : Int) : Arr (st10 w b g L n) b 10 (hx g L n) :=
  ((((((((((A.set 0 (by omega) _).set 1 (by omega) _).set 2 (by omega) _).set 3 (by omega) _).set 4 (by omega) _).set 5 (by omega) _).set 6 (by omega) _).set 7 (by omega) _).set 8 (by omega) _).set 9 (by omega) _).congr (by
    intro j hj
    have : j = 0 ∨ j = 1 ∨ j = 2 ∨ j = 3 ∨ j = 4 ∨ j = 5 ∨ j = 6 ∨ j = 7 ∨ j = 8 ∨ j = 9 := by omega
    rcases this with rfl | rfl | rfl | rfl | rfl | rfl | rfl | rfl | rfl | rfl <;> simp [hx])
theorem Arr.st10o {w : World} {b b' n : Nat} {f : Nat → Value} (h : Arr w b n f) (hne : b' ≠ b) (g : Nat → Int) (L : ByteArray) (m : Int) : Arr (Go.Proofs.YtfglpcfacjedmaaDoor.st10 w b' g L m) b n f := ((h.st8o hne g).other hne _).other hne _
theorem Bel.st10 {w W : World} (h : Below w.heap.size w W) {b : Nat} (hle : w.heap.size ≤ b) (g : Nat → Int) (L : ByteArray) (m : Int) : Below w.heap.size w (Go.Proofs.YtfglpcfacjedmaaDoor.st10 W b g L m) := Bel.st (Bel.st (Bel.st8 h hle g) hle _) hle _
set_option maxHeartbeats 4000000 in
theorem rsum_core (h g : Nat → Int) (L S L2 : ByteArray) (n n2 c : Int) (hL : L.size ≤ 1000000) (hc : IntKind.u64.wrap (n * 8) = c) (c0 : 0 ≤ c) (c1 : c < 18446744073709551616) (hS : S = mkS (hfL g 8)) (w : World)
    (C21 : ∀ W, Calls Tryd.prog 49 #[hv h L n, .string (mkZ (zc L) ++ mkS (nbL c 8))] W fun e w' => e = .returned (hv g L2 n2) ∧ Below W.heap.size W w') :
    Calls Tryd.prog 48 #[hv h L n] w fun e w' => e = .returned (.string S) ∧ Below w.heap.size w w' := by
  have zl : zc L < 64 := by unfold zc; omega
  have zq : zc L = (119 - L.size % 64) % 64 := rfl
  obtain ⟨i0, hi, hz0, hz1, hz2⟩ := info_parts Tryd.info5
  unfold hv at *
  go_enter Tryd.func48, Tryd.ntmps48
  go_wp2_with fail
  have A0 := Arr.new w #[.int .u32 (h 0), .int .u32 (h 1), .int .u32 (h 2), .int .u32 (h 3), .int .u32 (h 4), .int .u32 (h 5), .int .u32 (h 6), .int .u32 (h 7), .string L, .int .u64 n] 70 _ rfl _ 10 (hx_at h L n)
  have hB : Below w.heap.size w (w.alloc (.cells #[.int .u32 (h 0), .int .u32 (h 1), .int .u32 (h 2), .int .u32 (h 3), .int .u32 (h 4), .int .u32 (h 5), .int .u32 (h 6), .int .u32 (h 7), .string L, .int .u64 n] 70)) := by go_grown
  generalize (w.alloc (.cells #[.int .u32 (h 0), .int .u32 (h 1), .int .u32 (h 2), .int .u32 (h 3), .int .u32 (h 4), .int .u32 (h 5), .int .u32 (h 6), .int .u32 (h 7), .string L, .int .u64 n] 70)) = W at *
  have m0 : (⟨#[128]⟩ : ByteArray) = mkZ 0 := rfl
  rw [m0]
  clear m0
  go_loopw [4] (fun v wr => ∃ z : Nat, z ≤ zc L ∧ v = .string (mkZ z) ∧ Below w.heap.size w wr ∧ Arr wr w.heap.size 10 (hx h L n)) (fun v _ => 100 - lenV v)
  case atStart => exact ⟨0, by omega, rfl, hB, A0⟩
  case round =>
    clear A0 hB
    obtain ⟨z, hz, rfl, hB, A0⟩ := hrel
    have ms := mkZ_size z
    obtain ⟨k0, k8, k9⟩ := A0.ten
    by_cases hlt : z < zc L
    · have ne : ¬ ((L.size : Int) + ((mkZ z).size : Int)) % 64 = 56 := by rw [ms]; omega
      have HS : Hid _ := mkZ_succ z
      have HM : Hid _ := ms
      have l1 : (mkZ z).size ≤ 64 := by omega
      have HN : Hid ((mkZ (z + 1)).size = z + 2) := mkZ_size (z + 1)
      generalize mkZ z = Z at *
      clear C21 ms zq
      go_wp2_with fail
      rw [HS.out]
      refine ⟨⟨z + 1, by omega, rfl, hB, A0⟩, ?_⟩
      show 100 - (mkZ (z + 1)).size < 100 - Z.size
      have := HM.out
      have := HN.out
      omega
    · have ez : z = zc L := by omega
      subst ez
      have eq : ((L.size : Int) + ((mkZ (zc L)).size : Int)) % 64 = 56 := by rw [ms]; omega
      have l1 : (mkZ (zc L)).size ≤ 64 := by omega
      clear ms zq
      generalize mkZ (zc L) = Z at *
      generalize zc L = zz at *
      go_wp2_with fail
      go_loopw [4, 5] (fun v i wr => ∃ k : Nat, k ≤ 8 ∧ v = .string (Z ++ mkS (nbL c k)) ∧ i = .int .i64 (7 - (k : Int)) ∧ Below w.heap.size w wr ∧ Arr wr w.heap.size 10 (hx h L n)) (fun _ i _ => (intOf i + 1).toNat)
      case atStart => exact ⟨0, by omega, by simp [nbL, mkS], by simp, hB, A0⟩
      case round =>
        clear A0 hB k0 k8 k9
        obtain ⟨k, hk, rfl, rfl, hB, A0⟩ := hrel
        have ts : (Z ++ mkS (nbL c k)).size ≤ 72 := by rw [app_size, mkS_size]; simp [nbL]; omega
        by_cases hlt : k < 8
        · obtain ⟨q, hq, hq2⟩ : ∃ q : Nat, (7 : Int) - (k : Int) = (q : Int) ∧ q = 7 - k := ⟨7 - k, by omega, rfl⟩
          rw [hq]
          have q0 : (0 : Int) ≤ (q : Int) := by omega
          have q7 : (q : Int) ≤ 7 := by omega
          have nx : (Z ++ mkS (nbL c k)) ++ mkS [c / 2 ^ (8 * q) % 256] = Z ++ mkS (nbL c (k + 1)) := by
            rw [nbL_succ, mkS_app, ← hq2]
            apply ba_ext
            simp only [app_list, List.append_assoc]
          have HN : Hid _ := nx
          have HQ : Hid ((7 : Int) - (k : Int) = (q : Int)) := hq
          have cv := convC (wr.alloc (.cells #[.int .u8 (c / 2 ^ (8 * q) % 256)] 5)) wr.heap.size 1 1 [c / 2 ^ (8 * q) % 256] rfl (news_new _ _ _)
          have s1 : (mkS [c / 2 ^ (8 * q) % 256]).size ≤ 1 := by rw [mkS_size]; simp
          generalize mkS [c / 2 ^ (8 * q) % 256] = X at *
          generalize (Z ++ mkS (nbL c k)) = T at *
          clear nx hq hq2 C21 hS
          go_wp2_with fail
          have o1 := HQ.out
          refine ⟨⟨k + 1, by omega, by rw [HN.out], ?_, Bel.al hB _, A0.al' _⟩, ?_⟩
          · congr 1; omega
          · (simp [intOf] <;> omega)
        · have e8 : k = 8 := by omega
          have ek : (7 : Int) - ((k : Nat) : Int) = -1 := by omega
          rw [ek]
          subst e8
          clear ek
          obtain ⟨k0, k8, k9⟩ := A0.ten
          generalize (Z ++ mkS (nbL c 8)) = T at *
          go_wp2_with fail
          refine (C21 _).mono ?_
          rintro e w2 ⟨rfl, hb⟩
          have A2 := A0.to' hb
          have hB2 := Bel.call hB hb
          obtain ⟨k0, k8, k9⟩ := A2.ten
          have z2 := A2.z
          clear hb A0 hB C21
          go_upto_region 10 with fail
          have A3 := A2.st10 g L2 n2
          have hB3 := Bel.st10 hB2 (b := w.heap.size) (Nat.le_refl _) g L2 n2
          unfold Go.Proofs.YtfglpcfacjedmaaDoor.st10 Go.Proofs.YtfglpcfacjedmaaDoor.st8 at A3 hB3
          generalize ((((((((((w2.setCell ⟨w.heap.size, 0, none⟩ (.int .u32 (g 0))).setCell ⟨w.heap.size, 1, none⟩ (.int .u32 (g 1))).setCell ⟨w.heap.size, 2, none⟩ (.int .u32 (g 2))).setCell ⟨w.heap.size, 3, none⟩ (.int .u32 (g 3))).setCell ⟨w.heap.size, 4, none⟩ (.int .u32 (g 4))).setCell ⟨w.heap.size, 5, none⟩ (.int .u32 (g 5))).setCell ⟨w.heap.size, 6, none⟩ (.int .u32 (g 6))).setCell ⟨w.heap.size, 7, none⟩ (.int .u32 (g 7))).setCell ⟨w.heap.size, 8, none⟩ (.string L2)).setCell ⟨w.heap.size, 9, none⟩ (.int .u64 n2)) = W3 at *
          clear A2 hB2 k0 k8 k9 z2
          go_wp2_with fail
          go_loopw [6, 7] (fun v i wr => ∃ (k : Nat) (Lv : List Value), k ≤ 8 ∧ i = .int .i64 k ∧ wr.ownsRow (w.heap.size + 1) 5 1 v (4 * k) Lv ∧ Lv = (hfL g k).map (Value.int .u8) ∧ Below w.heap.size w wr ∧ Arr wr w.heap.size 10 (hx g L2 n2))
            (fun _ i _ => 8 - (intOf i).toNat)
          case atStart => exact ⟨0, [], by omega, rfl, World.ownsRow_nil _ _ _ _, rfl, hB3, A3⟩
          case round =>
            clear A3 hB3
            obtain ⟨k, Lv, hk, rfl, hown, hLv, hB, A0⟩ := hrel
            by_cases hlt : k < 8
            · have k0 : (0 : Int) ≤ (k : Int) := by omega
              have k8 : (k : Int) < 8 := by omega
              have r := fun ds os => cell_regrown (A0.ten.1 k hlt) ds os
              obtain ⟨ao, cv, hv'⟩ := own_form hown
              subst hv'
              have HL : Hid ((hfL g (k + 1)).map (Value.int .u8) = Lv ++ (w4 (g k)).map (Value.int .u8)) := by
                show _ = _
                rw [hfL, List.map_append, hLv]
              have kb : 4 * k + 4 ≤ maxLen := by unfold maxLen; omega
              have kb2 : (4 * k + 4) * 1 ≤ 140737488355328 := by omega
              have HO : Hid (wr.ownsRow (w.heap.size + 1) 5 1 (.slice ao (4 * k) cv) (4 * k) Lv) := hown
              unfold w4 at HL
              generalize g k = y at *
              clear hLv hown hS
              go_wp2_with fail
              apply wp_region_head_tail 1 23 #[true, false, false, false, false, false, false, false, false, false, false, false, false, false, false, false, false, false, false, false, false, false, false, false, false, false, false] (by kernel_rfl) (by intro c d v a w h; cases d <;> exact h) (by kernel_rfl)
              · exact ⟨.slice ao (4 * k) cv, Or.inl ⟨rfl, fun _ => rfl⟩, rfl⟩
              simp only [List.take_succ_cons, List.take_zero, List.drop_succ_cons, List.drop_zero, Act.put, List.setIfInBounds_toArray, List.set_cons_succ, List.set_cons_zero]
              repeat (go_big_quiet_step (fail))
              refine wpQuiet_nil ?_
              intro w5 hw'
              obtain ⟨⟨dq, osq⟩, hw''⟩ := hw'
              have hb := below_of hw''
              clear hw'' r
              have A5 := A0.to' hb
              have hB5 := Bel.call hB hb
              have HO5 : Hid (w5.ownsRow (w.heap.size + 1) 5 1 (.slice ao (4 * k) cv) (4 * k) Lv) := World.ownsRow.kept HO.out (gby' hb) (by cases ao <;> simp [Value.ownBlock])
              have sb : ∀ ob, w.heap.size + 1 ≤ (w5.alloc ob).heap.size := fun ob => by have := A5.lt; simp; omega
              have lt5 := A5.lt
              clear HO A0 hB hb
              go_wp2_with (at_builtin; refine stopAt ?_)
              unfold Stop
              refine wpList_append_own _ rfl _ _ 65 rfl (w.heap.size + 1) 5 i0 (.int .u8 0) 1 1 Tryd.underlying65 hi hz0 hz1 hz2 rfl (by decide) _ _ _ rfl (World.ownsRow.alloc HO5.out _) ⟨_, 0, none⟩ 4 4 [.int .u8 (y / 16777216 % 256), .int .u8 (y / 65536 % 256), .int .u8 (y / 256 % 256), .int .u8 (y % 256)] rfl rfl (news_new _ _ _) (fun u hu => by simp at hu; rcases hu with rfl | rfl | rfl | rfl <;> rfl) kb kb2 (sb _) ?_
              intro v' w3 hown' hgrow3 hnil3
              have b3 : Below (w.heap.size + 1) w5 w3 := ((Below.refl _ _).alloc (by omega) _).grown hgrow3 (sb _) (fun q hq => (HO5.out.lt q hq).1)
              have A3 := A5.below b3 (by omega)
              have hB3 := hB5.trans (b3.mono (by omega))
              clear hnil3 hgrow3 b3 A5 hB5
              go_wp2_with fail
              refine ⟨⟨k + 1, _, by omega, by go_num, hown', HL.out.symm, hB3, A3⟩, by simp [intOf]; omega⟩
            · have e : k = 8 := by omega
              subst e
              obtain ⟨q, cq, hv'⟩ := own_some hown (by omega)
              subst hv'
              subst hLv
              have cv := convC wr q (4 * 8) cq (hfL g 8) (hfL_len g _) (World.ownsRow.cells hown rfl)
              rw [← hS] at cv
              clear hown hS A0
              go_wp2_with fail
              go_ret
              exact ⟨rfl, hB⟩
/-- The eight bytes of how many bits there were, told by two words. -/
theorem nb_cw (n : Int) : nbL (n * 8 % 18446744073709551616) 8 = hfL (cw n) 2 := by
  have e : hfL (cw n) 2 = w4 (cw n 0) ++ w4 (cw n 1) := by simp [hfL]
  rw [e]
  unfold cw
  simp only [if_true, if_neg (show ¬ (1 : Nat) = 0 by omega)]
  generalize hc : n * 8 % 18446744073709551616 = c
  have c0 : 0 ≤ c := by omega
  have c1 : c < 18446744073709551616 := by omega
  simp [nbL, w4, List.range_succ]
  omega
theorem rsum_any (h : Nat → Int) (L : ByteArray) (n : Int) (hL : L.size ≤ 1000000) (w : World) :
    Calls Tryd.prog 48 #[hv h L n] w fun e w' => e = .returned (.string (sumS h L n)) ∧ Below w.heap.size w w' := by
  have wr : IntKind.u64.wrap (n * 8) = n * 8 % 18446744073709551616 := IntKind.wrap_u64 _
  have e : mkZ (zc L) ++ mkS (nbL (n * 8 % 18446744073709551616) 8) = endS L n := by rw [nb_cw]; rfl
  have z := endS_size L n
  have z2 : zc L < 64 := by unfold zc; omega
  refine rsum_core h (wrH h L (endS L n)) L _ (wrL L (endS L n)) n (wrN n (endS L n)) _ hL wr (by omega) (by omega) rfl w (fun W => ?_)
  rw [e]
  exact rwrite_any h L (endS L n) n (by omega) hL W
end Go.Proofs.YtfglpcfacjedmaaDoor
