/- The reference: a block turned by a key's words. -/
import Derived.Test.YtnmikancbfaejaaR3
set_option linter.all false
set_option maxRecDepth 100000
namespace Go.Proofs.Ytnmikancbfaejaa
open Go.RowKit Go.Sort
theorem conv_tx (W : World) (gb cb : Nat) (f : Nat → By) (hA : Arr W gb 16 (bc f)) : (convert 48 9 (.slice (some ⟨gb, 0, none⟩) 16 cb)).run Try.prog W = .ok (.string (tx f)) W := by
  refine convC W gb 16 cb ((List.range 16).map fun j => ((f j).val : Int)) (by simp) ?_
  intro j u hu
  have hj : j < 16 := by have := (List.getElem?_eq_some_iff.1 hu).1; simpa using this
  rw [Addr.add_mid, Nat.zero_add, hA.c j hj, ← hu]
  simp [hj, bc]
theorem c4_at (j : Nat) (a b c d : By) (hj : j < 4) : (#[.int .u8 (a.val : Int), .int .u8 (b.val : Int), .int .u8 (c.val : Int), .int .u8 (d.val : Int)] : Array Value)[j]? = some (bc (bQ (a, b, c, d)) j) := by
  have : j = 0 ∨ j = 1 ∨ j = 2 ∨ j = 3 := by omega
  rcases this with rfl | rfl | rfl | rfl <;> rfl
set_option maxHeartbeats 8000000 in
theorem rencrypt_core (key block : ByteArray) (hb16 : block.size = 16) (M X gw cw : Nat) (KB : Nat → By) (E : Nat → Nat → By) (hX : 1 < X) (hX15 : X ≤ 15) (HMX : Hid (M = 16 * X)) (hcw : M ≤ cw)
    (hE1 : ∀ j, j < 16 → E 1 j = plF (bF block) KB j)
    (hEm : ∀ x, 1 ≤ x → x + 1 < X → ∀ j, j < 16 → E (x + 1) j = plF (mxF 2 3 1 1 (tnF (beF sb (E x)))) (fun j => KB (16 * x + j)) j)
    (hEl : ∀ x, x + 1 = X → ∀ j, j < 16 → E (x + 1) j = plF (tnF (beF sb (E x))) (fun j => KB (16 * x + j)) j)
    (w : World) (hgw : gw < w.heap.size) (hW : ∀ j, j < M → w.cell? ⟨gw, j, none⟩ = some (bc KB j)) :
    Calls Try.prog 32 #[.slice (some ⟨gw, 0, none⟩) M cw, .string block] w fun e w' => e = .returned (.string (tx (E X))) ∧ Below w.heap.size w w' := by
  obtain ⟨cap0, W0, hcv, hR0, hB0⟩ := conv_rw w block (by omega)
  rw [hb16] at hcv hR0
  have A0 := hR0.arr
  have m16 : (16 : Int) ≤ (M : Int) := by have := HMX.out; omega
  have mcw : (M : Int) ≤ (cw : Int) := by omega
  have hW0 : ∀ j, j < 16 → W0.cell? ⟨gw, 0 + j, none⟩ = some (bc KB j) := fun j hj => by rw [Nat.zero_add]; exact (hB0.cell (p := ⟨gw, j, none⟩) hgw).trans (hW j (by have := HMX.out; omega))
  have C34 := rplus_any (bF block) KB w.heap.size gw 0 cap0 cw (by omega) W0 A0 hW0
  have HEm : Hid _ := hEm
  have HEl : Hid _ := hEl
  have HW : Hid _ := hW
  clear hR0 hW0 hEm hEl hW
  go_enter Try.func32, Try.ntmps32
  go_wp2_with fail
  refine C34.mono ?_
  rintro e w1 ⟨rfl, hG1, A1⟩
  have B1 := gb_below hB0 hG1 (Nat.le_refl _)
  have A1' : Arr w1 w.heap.size 16 (bc (E 1)) := A1.congr (fun j hj => by unfold bc; rw [hE1 j hj])
  clear C34 hG1 A1 A0 hB0 hcv hE1
  go_wp2_with fail
  go_loopw [5, 6] (fun v i wr => ∃ x y gb cb : Nat, 1 ≤ x ∧ x ≤ X ∧ y = 16 * x ∧ v = .slice (some ⟨gb, 0, none⟩) 16 cb ∧ i = .int .i64 (y : Int) ∧ Arr wr gb 16 (bc (E x)) ∧ Below w.heap.size w wr ∧ w.heap.size ≤ gb) (fun _ i _ => M - (intOf i).toNat)
  case atStart => exact ⟨1, 16, w.heap.size, cap0, by omega, by omega, by omega, rfl, rfl, A1', B1, Nat.le_refl _⟩
  case round =>
    clear A1' B1
    obtain ⟨x, y, gb, cb, hx1, hx2, hy, rfl, rfl, A, hB, hgb⟩ := hrel
    have y0 : (0 : Int) ≤ (y : Int) := by omega
    by_cases hlt : x < X
    · have yM : (y : Int) < (M : Int) := by have := HMX.out; omega
      have HY : Hid (y = 16 * x) := hy
      have yb : (y : Int) ≤ 224 := by omega
      have Mb : (M : Int) ≤ 240 := by have := HMX.out; omega
      clear hy
      go_wp2_with fail
      go_loopw [7] (fun i wr => ∃ m : Nat, m ≤ 16 ∧ i = .int .i64 m ∧ Arr wr gb 16 (bm (beF sb (E x)) (E x) m) ∧ Below w.heap.size w wr) (fun i _ => 16 - (intOf i).toNat)
      case atStart => exact ⟨0, by omega, rfl, A.congr (fun j _ => by unfold bm bc; rw [if_neg (by omega)]), hB⟩
      case round =>
        clear A hB
        obtain ⟨m, hm, rfl, A, hB⟩ := hrel
        have m0 : (0 : Int) ≤ (m : Int) := by omega
        by_cases hlm : m < 16
        · have m1 : (m : Int) < 16 := by omega
          have c := A.cv m hlm (.int .u8 ((E x m).val : Int)) (by unfold bm; rw [if_neg (by omega)])
          have z := A.z m hlm
          have C11 := rsub_any (E x m) wr
          have HN : Hid (sb (E x m) = beF sb (E x) m) := rfl
          go_wp2_with fail
          refine C11.mono ?_
          rintro e w2 ⟨rfl, rfl⟩
          clear C11
          go_wp2_with fail
          refine ⟨⟨m + 1, by omega, by go_num, (A.set m hlm _).congr ?_, Bel.st hB hgb _⟩, by simp [intOf]; omega⟩
          intro j hj
          unfold bm
          by_cases e : j = m
          · subst e; rw [if_pos rfl, if_pos (by omega), HN.out]
          · rw [if_neg e]
            by_cases e2 : j < m
            · rw [if_pos e2, if_pos (by omega)]
            · rw [if_neg e2, if_neg (by omega)]
        · have e : m = 16 := by omega
          rw [show ((m : Nat) : Int) = 16 by omega]
          subst e
          have A2 : Arr wr gb 16 (bc (beF sb (E x))) := A.congr fun j hj => by unfold bm bc; rw [if_pos hj]
          have C36 := rturned_any (beF sb (E x)) gb cb wr A2
          have s1 := hB.size
          clear A A2 hm hlm m0
          go_wp2_with fail
          refine C36.mono ?_
          rintro e w2 ⟨rfl, hb2, A2⟩
          have B2 := Bel.call hB hb2
          have HG2 : w.heap.size ≤ wr.heap.size := s1
          clear C36 hB hb2 s1 hgb
          generalize wr.heap.size = gc at A2 HG2 ⊢
          have nce : ¬ cw = 16 * x := by have := HMX.out; omega
          have nyc : ¬ cw = y := by have := HMX.out; have := HY.out; omega
          have l1 : (y : Int) + 16 ≤ (cw : Int) := by have := HMX.out; have := HY.out; omega
          by_cases hlx : x + 1 < X
          · have l2 : (y : Int) + 16 < (M : Int) := by have := HMX.out; have := HY.out; omega
            have T3 : Arr (w2.alloc (.cells #[.int .u8 2, .int .u8 3, .int .u8 1, .int .u8 1] 5)) w2.heap.size 4 (bc (bQ (2, 3, 1, 1))) := Arr.new _ _ 5 _ rfl _ 4 (fun j hj => c4_at j 2 3 1 1 hj)
            have A3 := A2.al' (.cells #[.int .u8 2, .int .u8 3, .int .u8 1, .int .u8 1] 5)
            have B3 := Bel.al B2 (.cells #[.int .u8 2, .int .u8 3, .int .u8 1, .int .u8 1] 5)
            have C35 := rmixed_any (tnF (beF sb (E x))) (bQ (2, 3, 1, 1)) gc 16 w2.heap.size 4 _ A3 T3
            have s3 := B3.size
            go_wp2_with fail
            refine C35.mono ?_
            rintro e w4 ⟨rfl, hb4, A4⟩
            have B4 := Bel.call B3 hb4
            have HG4 := s3
            clear C35 A2 A3 B2 B3 T3 hb4 s3
            generalize (w2.alloc (.cells #[.int .u8 2, .int .u8 3, .int .u8 1, .int .u8 1] 5)).heap.size = gd at A4 HG4 ⊢
            have hWk : ∀ j, j < 16 → w4.cell? ⟨gw, y + j, none⟩ = some (bc (fun j => KB (16 * x + j)) j) := fun j hj => by
              rw [HY.out]
              exact (B4.cell (p := ⟨gw, 16 * x + j, none⟩) hgw).trans (HW.out (16 * x + j) (by have := HMX.out; omega))
            have C34 := rplus_core (mxF 2 3 1 1 (tnF (beF sb (E x)))) (fun j => KB (16 * x + j)) (E (x + 1)) (HEm.out x hx1 hlx) gd gw y 16 (cw - y) (by omega) w4 A4 hWk
            clear hWk
            go_wp2_with fail
            refine C34.mono ?_
            rintro e v9 ⟨rfl, hG9, A9⟩
            have B9 := gb_below B4 hG9 HG4
            clear C34 hG9
            go_wp2_with fail
            refine ⟨⟨x + 1, y + 16, gd, 16, by omega, by omega, by have := HY.out; omega, rfl, by go_num, A9, B9, HG4⟩, by simp [intOf]; omega⟩
          · have l2 : ¬ (y : Int) + 16 < (M : Int) := by have := HMX.out; have := HY.out; omega
            have hWk : ∀ j, j < 16 → w2.cell? ⟨gw, y + j, none⟩ = some (bc (fun j => KB (16 * x + j)) j) := fun j hj => by
              rw [HY.out]
              exact (B2.cell (p := ⟨gw, 16 * x + j, none⟩) hgw).trans (HW.out (16 * x + j) (by have := HMX.out; omega))
            have C34 := rplus_core (tnF (beF sb (E x))) (fun j => KB (16 * x + j)) (E (x + 1)) (HEl.out x (by omega)) gc gw y 16 (cw - y) (by omega) w2 A2 hWk
            clear hWk
            go_wp2_with fail
            refine C34.mono ?_
            rintro e v9 ⟨rfl, hG9, A9⟩
            have B9 := gb_below B2 hG9 HG2
            clear C34 hG9
            go_wp2_with fail
            refine ⟨⟨x + 1, y + 16, gc, 16, by omega, by omega, by have := HY.out; omega, rfl, by go_num, A9, B9, HG2⟩, by simp [intOf]; omega⟩
    · have e : x = X := by omega
      have yM : ¬ (y : Int) < (M : Int) := by have := HMX.out; omega
      clear hy
      subst e
      have cv := conv_tx wr gb cb (E x) A
      obtain ⟨T, hT⟩ : ∃ T, tx (E x) = T := ⟨_, rfl⟩
      rw [hT] at cv
      have HT : Hid (tx (E x) = T) := hT
      clear hT
      clear A
      go_wp2_with fail
      go_ret
      exact ⟨by rw [HT.out]; rfl, hB⟩
end Go.Proofs.Ytnmikancbfaejaa
