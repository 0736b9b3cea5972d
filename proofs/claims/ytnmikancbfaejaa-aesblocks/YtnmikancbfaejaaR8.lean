/- The reference: Decrypt. -/
import Derived.Test.YtnmikancbfaejaaR7
set_option linter.all false
set_option maxRecDepth 100000
namespace Go.Proofs.Ytnmikancbfaejaa
open Go.RowKit Go.Sort
def boxL : ByteArray := ⟨#[99, 124, 119, 123, 242, 107, 111, 197, 48, 1, 103, 43, 254, 215, 171, 118, 202, 130, 201, 125, 250, 89, 71, 240, 173, 212, 162, 175, 156, 164, 114, 192, 183, 253, 147, 38, 54, 63, 247, 204, 52, 165, 229, 241, 113, 216, 49, 21, 4, 199, 35, 195, 24, 150, 5, 154, 7, 18, 128, 226, 235, 39, 178, 117, 9, 131, 44, 26, 27, 110, 90, 160, 82, 59, 214, 179, 41, 227, 47, 132, 83, 209, 0, 237, 32, 252, 177, 91, 106, 203, 190, 57, 74, 76, 88, 207, 208, 239, 170, 251, 67, 77, 51, 133, 69, 249, 2, 127, 80, 60, 159, 168, 81, 163, 64, 143, 146, 157, 56, 245, 188, 182, 218, 33, 16, 255, 243, 210, 205, 12, 19, 236, 95, 151, 68, 23, 196, 167, 126, 61, 100, 93, 25, 115, 96, 129, 79, 220, 34, 42, 144, 136, 70, 238, 184, 20, 222, 94, 11, 219, 224, 50, 58, 10, 73, 6, 36, 92, 194, 211, 172, 98, 145, 149, 228, 121, 231, 200, 55, 109, 141, 213, 78, 169, 108, 86, 244, 234, 101, 122, 174, 8, 186, 120, 37, 46, 28, 166, 180, 198, 232, 221, 116, 31, 75, 189, 139, 138, 112, 62, 181, 102, 72, 3, 246, 14, 97, 53, 87, 185, 134, 193, 29, 158, 225, 248, 152, 17, 105, 217, 142, 148, 155, 30, 135, 233, 206, 85, 40, 223, 140, 161, 137, 13, 191, 230, 66, 104, 65, 153, 45, 15, 176, 84, 187, 22]⟩
theorem boxL_is : boxL = boxS := by kernel_rfl
theorem idxB (k : Nat) (hk : k < 256) (W : World) : (Instr.index 9 (.string ⟨#[99, 124, 119, 123, 242, 107, 111, 197, 48, 1, 103, 43, 254, 215, 171, 118, 202, 130, 201, 125, 250, 89, 71, 240, 173, 212, 162, 175, 156, 164, 114, 192, 183, 253, 147, 38, 54, 63, 247, 204, 52, 165, 229, 241, 113, 216, 49, 21, 4, 199, 35, 195, 24, 150, 5, 154, 7, 18, 128, 226, 235, 39, 178, 117, 9, 131, 44, 26, 27, 110, 90, 160, 82, 59, 214, 179, 41, 227, 47, 132, 83, 209, 0, 237, 32, 252, 177, 91, 106, 203, 190, 57, 74, 76, 88, 207, 208, 239, 170, 251, 67, 77, 51, 133, 69, 249, 2, 127, 80, 60, 159, 168, 81, 163, 64, 143, 146, 157, 56, 245, 188, 182, 218, 33, 16, 255, 243, 210, 205, 12, 19, 236, 95, 151, 68, 23, 196, 167, 126, 61, 100, 93, 25, 115, 96, 129, 79, 220, 34, 42, 144, 136, 70, 238, 184, 20, 222, 94, 11, 219, 224, 50, 58, 10, 73, 6, 36, 92, 194, 211, 172, 98, 145, 149, 228, 121, 231, 200, 55, 109, 141, 213, 78, 169, 108, 86, 244, 234, 101, 122, 174, 8, 186, 120, 37, 46, 28, 166, 180, 198, 232, 221, 116, 31, 75, 189, 139, 138, 112, 62, 181, 102, 72, 3, 246, 14, 97, 53, 87, 185, 134, 193, 29, 158, 225, 248, 152, 17, 105, 217, 142, 148, 155, 30, 135, 233, 206, 85, 40, 223, 140, 161, 137, 13, 191, 230, 66, 104, 65, 153, 45, 15, 176, 84, 187, 22]⟩) (.int .i64 (k : Int))).run Try.prog W = .ok (.int .u8 ((sb ⟨k, hk⟩).val : Int)) W := by
  show (Instr.index 9 (.string boxL) (.int .i64 (k : Int))).run Try.prog W = _
  rw [boxL_is]
  have := idxS boxS k (by rw [box_size]; exact hk) W
  rwa [box_bt ⟨k, hk⟩] at this
set_option maxHeartbeats 8000000 in
theorem rDecrypt_core (key block : ByteArray) (hb16 : block.size = 16) (M X : Nat) (KB : Nat → By) (D : Nat → Nat → By) (hX : 2 < X) (hX15 : X ≤ 15) (HMX : Hid (M = 16 * X))
    (hD0 : ∀ j, j < 16 → D 0 j = bF block j)
    (hDm : ∀ i, 1 ≤ i → i + 1 < X → ∀ j, j < 16 → D (i + 1) j = beF bk (utF (mxF 14 11 13 9 (plF (D i) (fun j => KB (16 * (X - 1 - i) + j))))) j)
    (hDl : ∀ j, j < 16 → D 1 j = beF bk (utF (plF (D 0) (fun j => KB (16 * (X - 1) + j)))) j)
    (hDe : ∀ j, j < 16 → D X j = plF (D (X - 1)) KB j)
    (C31 : ∀ W, Calls Try.prog 31 #[.string key, .string block] W fun e w' => e = .returned (.int .i64 0) ∧ w' = W)
    (C27 : ∀ W, Calls Try.prog 27 #[.string key] W fun e w' => ∃ g cap, e = .returned (.slice (some ⟨g, 0, none⟩) M cap) ∧ Rw w' g M cap KB ∧ Below W.heap.size W w' ∧ W.heap.size ≤ g) (w : World) :
    Calls Try.prog 18 #[.string key, .string block] w fun e w' => e = .returned (.tuple #[.string (tx (D X)), .int .i64 0]) ∧ Below w.heap.size w w' := by
  obtain ⟨i0, hi, hz0, hz1, hz2⟩ := info_parts Try.info5
  have HDm : Hid _ := hDm
  have HDl : Hid _ := hDl
  have HDe : Hid _ := hDe
  have HD0 : Hid _ := hD0
  clear hDm hDl hDe hD0
  go_enter Try.func18, Try.ntmps18
  go_wp2_with fail
  refine (C31 _).mono ?_
  rintro e w1 ⟨rfl, rfl⟩
  clear C31
  have mk := run_make (P := Try.prog) w1 48 5 i0 (.int .u8 0) Try.underlying48 hi hz0 .i64 .i64 256 256 (by omega) (by omega) (by rw [hz2]; omega) (by omega)
  rw [hz1] at mk
  go_wp2_with fail
  have A0 : Arr (w1.alloc (.cells (madeCells #[.int .u8 0] 256) 5)) w1.heap.size 256 (bkV 0) := Arr.new _ _ 5 _ rfl _ 256 (fun j hj => by unfold bkV; rw [if_neg (by omega)]; exact made_at 256 j hj)
  have B0 : Below w1.heap.size w1 (w1.alloc (.cells (madeCells #[.int .u8 0] 256) 5)) := Bel.al (Below.refl _ w1) _
  clear mk hi hz0 hz1 hz2
  go_loopw [8] (fun i wr => ∃ k : Nat, k ≤ 256 ∧ i = .int .i64 k ∧ Below w1.heap.size w1 wr ∧ Arr wr w1.heap.size 256 (bkV k)) (fun i _ => 256 - (intOf i).toNat)
  case atStart => exact ⟨0, by omega, rfl, B0, A0⟩
  case round =>
    clear A0 B0
    obtain ⟨k, hk, rfl, hB, A⟩ := hrel
    have k0 : (0 : Int) ≤ (k : Int) := by omega
    by_cases hlt : k < 256
    · have k1 : (k : Int) < 256 := by omega
      have IB := idxB k hlt
      have HN : Hid _ := bkV_next k hlt
      generalize sb ⟨k, hlt⟩ = s at *
      have s1 := s.2
      have q0 : (0 : Int) ≤ (s.val : Int) := by omega
      have q1 : (s.val : Int) < 256 := by omega
      have cp := A.c s.val s1
      have zp := A.z s.val s1
      clear C27
      go_wp2_with fail
      refine ⟨⟨k + 1, by omega, by go_num, Bel.st hB (Nat.le_refl _) _, (A.set s.val s1 _).congr HN.out⟩, by simp [intOf]; omega⟩
    · have e : k = 256 := by omega
      rw [show ((k : Nat) : Int) = 256 by omega]
      subst e
      have TB : Arr wr w1.heap.size 256 (fun j => .int .u8 ((bk (Fin.ofNat 256 j)).val : Int)) := A.congr (fun j _ => bkV_all j)
      clear A hk hlt k0
      go_wp2_with fail
      refine (C27 _).mono ?_
      rintro e w2 ⟨gw, cw, rfl, hR, hb2, hgw⟩
      have T2 := TB.to' hb2
      have B2 := Bel.call hB hb2
      have lt0 : w1.heap.size < wr.heap.size := TB.lt
      clear C27 TB hB hb2
      obtain ⟨cap0, W0, hcv, hR0, hB0⟩ := conv_rw w2 block (by omega)
      rw [hb16] at hcv hR0
      have A0 : Arr W0 w2.heap.size 16 (bc (D 0)) := hR0.arr.congr (fun j hj => by unfold bc; rw [HD0.out j hj])
      have RW := hR.toB (by have := HMX.out; omega) hB0
      have T3 := T2.to' hB0
      have B3 := Bel.call B2 hB0
      have lw : gw < w2.heap.size := block_lt_of_cell (hR.c 0 (by have := HMX.out; omega))
      have m16 : (32 : Int) ≤ (M : Int) := by have := HMX.out; omega
      have Mb : (M : Int) ≤ 240 := by have := HMX.out; omega
      have mcw : (M : Int) ≤ (cw : Int) := by have := hR.1; omega
      clear hR0 hR T2 B2 hB0
      go_wp2_with fail
      clear hcv
      have lb : w1.heap.size < gw := by omega
      clear lt0
      generalize w2.heap.size = ga at A0 lw ⊢
      obtain ⟨gt, hgt⟩ : ∃ g, w1.heap.size = g := ⟨_, rfl⟩
      have HGT : Hid (w1.heap.size = gt) := hgt
      rw [hgt] at T3 B3 lb ⊢
      clear hgt
      go_loopw [10, 11] (fun v i wr => ∃ c y ga ca : Nat, c < X ∧ y + 16 * c + 16 = M ∧ v = .slice (some ⟨ga, 0, none⟩) 16 ca ∧ i = .int .i64 (y : Int) ∧ Arr wr ga 16 (bc (D c)) ∧ Rw wr gw M cw KB ∧ Arr wr gt 256 (fun j => .int .u8 ((bk (Fin.ofNat 256 j)).val : Int)) ∧ Below gt w1 wr ∧ gw < ga) (fun _ i _ => (intOf i).toNat)
      case atStart => exact ⟨0, M - 16, ga, cap0, by omega, by have := HMX.out; omega, rfl, by have := HMX.out; go_num, A0, RW, T3, B3, lw⟩
      case round =>
        clear A0 RW T3 B3 lw
        obtain ⟨c, y, ga, ca, hc, hy, rfl, rfl, A, hR, hT, hB, lg⟩ := hrel
        have HY : Hid (y + 16 * c + 16 = M) := hy
        have yb : (y : Int) ≤ 224 := by omega
        have y0 : (0 : Int) ≤ (y : Int) := by omega
        have l1 : (y : Int) + 16 ≤ (M : Int) := by omega
        have l1c : (y : Int) + 16 ≤ (cw : Int) := by omega
        have nyc : ¬ cw = y := by omega
        clear hy
        by_cases hy0 : 0 < y
        · have yi : (0 : Int) < (y : Int) := by omega
          obtain ⟨y2, hy2⟩ : ∃ y2, y = y2 + 16 := ⟨y - 16, by have := HY.out; have := HMX.out; omega⟩
          have HY2 : Hid (y = y2 + 16) := hy2
          have yi2 : (y : Int) - 16 = (y2 : Int) := by omega
          clear hy2
          have hWk : ∀ j, j < 16 → wr.cell? ⟨gw, y + j, none⟩ = some (bc (fun j => KB (16 * (X - 1 - c) + j)) j) := fun j hj => by
            rw [hR.c (y + j) (by have := HY.out; omega)]
            unfold bc
            rw [show y + j = 16 * (X - 1 - c) + j by have := HY.out; have := HMX.out; omega]
          have C34 := rplus_any (D c) (fun j => KB (16 * (X - 1 - c) + j)) ga gw y ca (cw - y) (by omega) wr A hWk
          clear hWk
          have HcX : Hid (c + 1 < X) := by have := HY.out; have := HMX.out; show _ < _; omega
          go_wp2_with fail
          refine C34.mono ?_
          rintro e w4 ⟨rfl, hG4, A4⟩
          have lA := A.lt
          have R4 := hR.toG (by have := HMX.out; omega) hG4 (by omega)
          have T4 := gb_arr hG4 (show gt ≠ ga by omega) hT
          have B4 : Below gt w1 w4 := hB.grown hG4 (by have := hT.lt; omega) (fun q e => by cases e; omega)
          clear C34 hG4 A hR hT hB
          by_cases hc0 : 1 ≤ c
          · have l2 : (y : Int) + 16 < (M : Int) := by have := HY.out; omega
            have S5 : Arr (w4.alloc (.cells #[.int .u8 14, .int .u8 11, .int .u8 13, .int .u8 9] 5)) w4.heap.size 4 (bc (bQ (14, 11, 13, 9))) := Arr.new _ _ 5 _ rfl _ 4 (fun j hj => c4_at j 14 11 13 9 hj)
            have A5 := A4.al' (.cells #[.int .u8 14, .int .u8 11, .int .u8 13, .int .u8 9] 5)
            have R5 := R4.toB (by have := HMX.out; omega) (Bel.al (Below.refl _ w4) (.cells #[.int .u8 14, .int .u8 11, .int .u8 13, .int .u8 9] 5))
            have T5 := T4.al' (.cells #[.int .u8 14, .int .u8 11, .int .u8 13, .int .u8 9] 5)
            have B5 := B4.alloc (by have := T4.lt; omega) (.cells #[.int .u8 14, .int .u8 11, .int .u8 13, .int .u8 9] 5)
            have C35 := rmixed_any (plF (D c) (fun j => KB (16 * (X - 1 - c) + j))) (bQ (14, 11, 13, 9)) ga ca w4.heap.size 4 _ A5 S5
            have lT5 := T5.lt
            go_wp2_with fail
            refine C35.mono ?_
            rintro e w5 ⟨rfl, hb5, A7⟩
            have R7 := R5.toB (by have := HMX.out; omega) hb5
            have T7 := T5.to' hb5
            have B7 := B5.trans (hb5.mono (by omega))
            clear C35 A4 A5 R4 R5 T4 T5 B4 B5 S5 hb5
            generalize (w4.alloc (.cells #[.int .u8 14, .int .u8 11, .int .u8 13, .int .u8 9] 5)).heap.size = gd at A7 ⊢
            have C36 := rback_any (mxF 14 11 13 9 (plF (D c) (fun j => KB (16 * (X - 1 - c) + j)))) gd 16 w5 A7
            have lT := T7.lt
            go_wp2_with fail
            refine C36.mono ?_
            rintro e w6 ⟨rfl, hb6, A6⟩
            have R6 := R7.toB (by have := HMX.out; omega) hb6
            have T6 := T7.to' hb6
            have B6 := B7.trans (hb6.mono (by omega))
            have g6 : gw < w5.heap.size := block_lt_of_cell (R7.c 0 (by have := HMX.out; omega))
            clear C36 hb6 A7 R7 T7 B7 lT
            generalize w5.heap.size = gc at A6 g6 ⊢
            go_wp2_with fail
            go_loopw [12] (fun i wr => ∃ m : Nat, m ≤ 16 ∧ i = .int .i64 m ∧ Arr wr gc 16 (bm (beF bk (utF (mxF 14 11 13 9 (plF (D c) (fun j => KB (16 * (X - 1 - c) + j)))))) (utF (mxF 14 11 13 9 (plF (D c) (fun j => KB (16 * (X - 1 - c) + j))))) m) ∧ Rw wr gw M cw KB ∧ Arr wr gt 256 (fun j => .int .u8 ((bk (Fin.ofNat 256 j)).val : Int)) ∧ Below gt w1 wr) (fun i _ => 16 - (intOf i).toNat)
            case atStart => exact ⟨0, by omega, rfl, A6.congr (fun j _ => by unfold bm bc; rw [if_neg (by omega)]), R6, T6, B6⟩
            case round =>
              clear A6 R6 T6 B6
              obtain ⟨m, hm, rfl, A6, R6, T6, B6⟩ := hrel
              have m0 : (0 : Int) ≤ (m : Int) := by omega
              by_cases hlm : m < 16
              · have m1 : (m : Int) < 16 := by omega
                have c1 := A6.cv m hlm (.int .u8 ((utF (mxF 14 11 13 9 (plF (D c) (fun j => KB (16 * (X - 1 - c) + j)))) m).val : Int)) (by unfold bm; rw [if_neg (by omega)])
                have z1 := A6.z m hlm
                have HN : Hid (beF bk (utF (mxF 14 11 13 9 (plF (D c) (fun j => KB (16 * (X - 1 - c) + j))))) m = bk (utF (mxF 14 11 13 9 (plF (D c) (fun j => KB (16 * (X - 1 - c) + j)))) m)) := rfl
                have c2 := TabAt.of_arr T6 (utF (mxF 14 11 13 9 (plF (D c) (fun j => KB (16 * (X - 1 - c) + j)))) m)
                rw [Nat.zero_add] at c2
                have AN := A6.set m hlm (.int .u8 ((bk (utF (mxF 14 11 13 9 (plF (D c) (fun j => KB (16 * (X - 1 - c) + j)))) m)).val : Int))
                have HAN : Hid (Arr (wr.setCell ⟨gc, m, none⟩ (.int .u8 ((bk (utF (mxF 14 11 13 9 (plF (D c) (fun j => KB (16 * (X - 1 - c) + j)))) m)).val : Int))) gc 16 (bm (beF bk (utF (mxF 14 11 13 9 (plF (D c) (fun j => KB (16 * (X - 1 - c) + j)))))) (utF (mxF 14 11 13 9 (plF (D c) (fun j => KB (16 * (X - 1 - c) + j))))) (m + 1))) := AN.congr (fun j hj => by
                  unfold bm
                  by_cases e : j = m
                  · subst e; rw [if_pos rfl, if_pos (by omega), HN.out]
                  · rw [if_neg e]
                    by_cases e2 : j < m
                    · rw [if_pos e2, if_pos (by omega)]
                    · rw [if_neg e2, if_neg (by omega)])
                clear AN HN
                have u1 := (utF (mxF 14 11 13 9 (plF (D c) (fun j => KB (16 * (X - 1 - c) + j)))) m).2
                obtain ⟨u, hu⟩ : ∃ u, utF (mxF 14 11 13 9 (plF (D c) (fun j => KB (16 * (X - 1 - c) + j)))) m = u := ⟨_, rfl⟩
                rw [hu] at c1 c2 HAN u1
                clear hu
                have ub : (u.val : Int) < 256 := by omega
                go_wp2_with fail
                exact ⟨⟨m + 1, by omega, by go_num, HAN.out, R6.toG (by have := HMX.out; omega) (gb_set _ _ _ _) (by omega), T6.other (by omega) _, B6.setCell (p := ⟨gc, m, none⟩) (by show gt ≤ gc; omega) _⟩, by simp [intOf]; omega⟩
              · have e : m = 16 := by omega
                rw [show ((m : Nat) : Int) = 16 by omega]
                subst e
                have HA : Hid (Arr wr gc 16 (bc (D (c + 1)))) := A6.congr (fun j hj => by unfold bm bc; rw [if_pos hj, HDm.out c hc0 HcX.out j hj])
                clear A6
                go_wp2_with fail
                exact ⟨⟨c + 1, y2, gc, 16, HcX.out, by have := HY2.out; have := HY.out; omega, rfl, by go_num, HA.out, R6, T6, B6, g6⟩, by simp [intOf]; have := HY2.out; omega⟩
          · have ec : c = 0 := by omega
            have l2 : ¬ (y : Int) + 16 < (M : Int) := by have := HY.out; omega
            have HE0 : Hid (∀ j, j < 16 → D (c + 1) j = beF bk (utF (plF (D c) (fun j => KB (16 * (X - 1 - c) + j)))) j) := by rw [ec]; exact HDl.out
            clear ec hc0
            have C36 := rback_any (plF (D c) (fun j => KB (16 * (X - 1 - c) + j))) ga ca w4 A4
            have lT := T4.lt
            go_wp2_with fail
            refine C36.mono ?_
            rintro e w6 ⟨rfl, hb6, A6⟩
            have R6 := R4.toB (by have := HMX.out; omega) hb6
            have T6 := T4.to' hb6
            have B6 := B4.trans (hb6.mono (by omega))
            have g6 : gw < w4.heap.size := block_lt_of_cell (R4.c 0 (by have := HMX.out; omega))
            clear C36 hb6 A4 R4 T4 B4 lT
            generalize w4.heap.size = gc at A6 g6 ⊢
            go_wp2_with fail
            go_loopw [12] (fun i wr => ∃ m : Nat, m ≤ 16 ∧ i = .int .i64 m ∧ Arr wr gc 16 (bm (beF bk (utF (plF (D c) (fun j => KB (16 * (X - 1 - c) + j))))) (utF (plF (D c) (fun j => KB (16 * (X - 1 - c) + j)))) m) ∧ Rw wr gw M cw KB ∧ Arr wr gt 256 (fun j => .int .u8 ((bk (Fin.ofNat 256 j)).val : Int)) ∧ Below gt w1 wr) (fun i _ => 16 - (intOf i).toNat)
            case atStart => exact ⟨0, by omega, rfl, A6.congr (fun j _ => by unfold bm bc; rw [if_neg (by omega)]), R6, T6, B6⟩
            case round =>
              clear A6 R6 T6 B6
              obtain ⟨m, hm, rfl, A6, R6, T6, B6⟩ := hrel
              have m0 : (0 : Int) ≤ (m : Int) := by omega
              by_cases hlm : m < 16
              · have m1 : (m : Int) < 16 := by omega
                have c1 := A6.cv m hlm (.int .u8 ((utF (plF (D c) (fun j => KB (16 * (X - 1 - c) + j))) m).val : Int)) (by unfold bm; rw [if_neg (by omega)])
                have z1 := A6.z m hlm
                have HN : Hid (beF bk (utF (plF (D c) (fun j => KB (16 * (X - 1 - c) + j)))) m = bk (utF (plF (D c) (fun j => KB (16 * (X - 1 - c) + j))) m)) := rfl
                have c2 := TabAt.of_arr T6 (utF (plF (D c) (fun j => KB (16 * (X - 1 - c) + j))) m)
                rw [Nat.zero_add] at c2
                have AN := A6.set m hlm (.int .u8 ((bk (utF (plF (D c) (fun j => KB (16 * (X - 1 - c) + j))) m)).val : Int))
                have HAN : Hid (Arr (wr.setCell ⟨gc, m, none⟩ (.int .u8 ((bk (utF (plF (D c) (fun j => KB (16 * (X - 1 - c) + j))) m)).val : Int))) gc 16 (bm (beF bk (utF (plF (D c) (fun j => KB (16 * (X - 1 - c) + j))))) (utF (plF (D c) (fun j => KB (16 * (X - 1 - c) + j)))) (m + 1))) := AN.congr (fun j hj => by
                  unfold bm
                  by_cases e : j = m
                  · subst e; rw [if_pos rfl, if_pos (by omega), HN.out]
                  · rw [if_neg e]
                    by_cases e2 : j < m
                    · rw [if_pos e2, if_pos (by omega)]
                    · rw [if_neg e2, if_neg (by omega)])
                clear AN HN
                have u1 := (utF (plF (D c) (fun j => KB (16 * (X - 1 - c) + j))) m).2
                obtain ⟨u, hu⟩ : ∃ u, utF (plF (D c) (fun j => KB (16 * (X - 1 - c) + j))) m = u := ⟨_, rfl⟩
                rw [hu] at c1 c2 HAN u1
                clear hu
                have ub : (u.val : Int) < 256 := by omega
                go_wp2_with fail
                exact ⟨⟨m + 1, by omega, by go_num, HAN.out, R6.toG (by have := HMX.out; omega) (gb_set _ _ _ _) (by omega), T6.other (by omega) _, B6.setCell (p := ⟨gc, m, none⟩) (by show gt ≤ gc; omega) _⟩, by simp [intOf]; omega⟩
              · have e : m = 16 := by omega
                rw [show ((m : Nat) : Int) = 16 by omega]
                subst e
                have HA : Hid (Arr wr gc 16 (bc (D (c + 1)))) := A6.congr (fun j hj => by unfold bm bc; rw [if_pos hj, HE0.out j hj])
                clear A6
                go_wp2_with fail
                exact ⟨⟨c + 1, y2, gc, 16, HcX.out, by have := HY2.out; have := HY.out; omega, rfl, by go_num, HA.out, R6, T6, B6, g6⟩, by simp [intOf]; have := HY2.out; omega⟩
        · have ey : y = 0 := by omega
          have e0 : ((y : Nat) : Int) = 0 := by omega
          rw [e0]
          have ec : c = X - 1 := by have := HY.out; have := HMX.out; omega
          have hWk : ∀ j, j < 16 → wr.cell? ⟨gw, 0 + j, none⟩ = some (bc KB j) := fun j hj => by rw [Nat.zero_add, hR.c j (by have := HMX.out; omega)]
          have C34 := rplus_core (D c) KB (D X) (by rw [ec]; exact HDe.out) ga gw 0 ca cw (by omega) wr A hWk
          clear hWk e0 ec ey yb y0 l1 l1c nyc
          go_wp2_with fail
          refine C34.mono ?_
          rintro e w4 ⟨rfl, hG4, A4⟩
          have B4 : Below gt w1 w4 := hB.grown hG4 (by have := hT.lt; omega) (fun q e => by cases e; omega)
          have cv := conv_tx w4 ga ca (D X) A4
          obtain ⟨Tx, hTx⟩ : ∃ T, tx (D X) = T := ⟨_, rfl⟩
          rw [hTx] at cv
          have HTx : Hid (tx (D X) = Tx) := hTx
          clear hTx C34 hG4 A hR hT hB
          go_wp2_with fail
          refine bodyPost_ret (v := .tuple #[.string Tx, .int .i64 0]) (by simp [results, Try.results18, go_sem]) rfl ?_
          exact ⟨by rw [HTx.out], by rw [HGT.out]; exact B4⟩
set_option maxHeartbeats 2000000 in
theorem rDecrypt_no (key block : ByteArray) (h : rfs key block ≠ 0) (w : World) :
    Calls Try.prog 18 #[.string key, .string block] w fun e w' => e = .returned (.tuple #[.string ⟨#[]⟩, .int .i64 (rfs key block)]) ∧ Below w.heap.size w w' := by
  have C31 := fun W => rrefused_any key block W
  generalize rfs key block = r at *
  go_enter Try.func18, Try.ntmps18
  go_wp2_with fail
  refine (C31 _).mono ?_
  rintro e w1 ⟨rfl, rfl⟩
  go_wp2_with fail
  refine bodyPost_ret (v := .tuple #[.string ⟨#[]⟩, .int .i64 r]) (by simp [results, Try.results18, go_sem]) rfl ?_
  exact ⟨rfl, Below.refl _ _⟩
theorem rDecrypt_any (key block : ByteArray) (w : World) :
    Calls Try.prog 18 #[.string key, .string block] w fun e w' => e = .returned (.tuple #[.string (if rfs key block = 0 then decS key block else ⟨#[]⟩), .int .i64 (rfs key block)]) ∧ Below w.heap.size w w' := by
  by_cases h : rfs key block = 0
  · obtain ⟨hk, hs⟩ := rfs_0 h
    have C31 := fun W => rrefused_any key block W
    rw [h] at C31
    rw [if_pos h, h]
    have nb := nk_bd hk
    refine rDecrypt_core key block hs _ (nkO key + 7) (KBo key) (dS key (bF block)) (by omega) (by omega) rfl (fun _ _ => rfl) (fun i h1 h2 j hj => ?_) (fun j hj => ?_) (fun j hj => ?_) C31 (fun W => rwords_any key hk W) w
    · show rdD key (nkO key + 6 - i) (plF (dS key (bF block) i) (rk key (nkO key + 6 - i))) j = _
      unfold rdD
      rw [if_neg (by omega), if_neg (by omega), show nkO key + 7 - 1 - i = nkO key + 6 - i by omega]
      rfl
    · show rdD key (nkO key + 6 - 0) (plF (bF block) (rk key (nkO key + 6 - 0))) j = _
      unfold rdD
      rw [if_neg (by omega), if_pos (by omega), show nkO key + 7 - 1 = nkO key + 6 - 0 by omega]
      rfl
    · rw [show nkO key + 7 - 1 = nkO key + 6 by omega]
      show rdD key (nkO key + 6 - (nkO key + 6)) (plF (dS key (bF block) (nkO key + 6)) (rk key (nkO key + 6 - (nkO key + 6)))) j = _
      rw [Nat.sub_self]
      unfold rdD
      rw [if_pos rfl]
      show xr _ (KBo key (16 * 0 + j)) = xr _ (KBo key j)
      rw [Nat.mul_zero, Nat.zero_add]
  · rw [if_neg h]
    exact rDecrypt_no key block h w
end Go.Proofs.Ytnmikancbfaejaa
