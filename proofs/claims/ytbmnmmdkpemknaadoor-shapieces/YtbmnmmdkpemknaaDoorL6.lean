/- The law's walk: ShaPieces. -/
import Derived.Test.YtbmnmmdkpemknaaDoorL2
import Derived.Test.YtbmnmmdkpemknaaDoorE1
import Derived.Deep.RegionHeld3
import Derived.Deep.CutRange
set_option linter.all false
set_option maxRecDepth 100000
namespace Go.Proofs.YtbmnmmdkpemknaaDoor
open Go.RowKit Go.Sort
/-- The first k texts, one behind the other. -/
def cat (S : Nat → ByteArray) : Nat → ByteArray
  | 0 => ⟨#[]⟩
  | k + 1 => cat S k ++ S k
theorem cat_mono (S : Nat → ByteArray) (j : Nat) : ∀ n, j ≤ n → (cat S j).size ≤ (cat S n).size := by
  intro n hj
  obtain ⟨d, rfl⟩ : ∃ d, n = j + d := ⟨n - j, by omega⟩
  clear hj
  induction d with
  | zero => exact Nat.le_refl _
  | succ d ih =>
    refine Nat.le_trans ih ?_
    show (cat S (j + d)).size ≤ (cat S (j + d) ++ S (j + d)).size
    rw [app_size]; omega
theorem Arr.mk10 {w : World} {b : Nat} {f : Nat → Value} (h0 : w.cell? ⟨b, 0, none⟩ = some (f 0)) (h1 : w.cell? ⟨b, 1, none⟩ = some (f 1)) (h2 : w.cell? ⟨b, 2, none⟩ = some (f 2)) (h3 : w.cell? ⟨b, 3, none⟩ = some (f 3)) (h4 : w.cell? ⟨b, 4, none⟩ = some (f 4)) (h5 : w.cell? ⟨b, 5, none⟩ = some (f 5)) (h6 : w.cell? ⟨b, 6, none⟩ = some (f 6)) (h7 : w.cell? ⟨b, 7, none⟩ = some (f 7)) (h8 : w.cell? ⟨b, 8, none⟩ = some (f 8)) (h9 : w.cell? ⟨b, 9, none⟩ = some (f 9)) (z0 : w.frozen? ⟨b, 0, none⟩ = false) (z1 : w.frozen? ⟨b, 1, none⟩ = false) (z2 : w.frozen? ⟨b, 2, none⟩ = false) (z3 : w.frozen? ⟨b, 3, none⟩ = false) (z4 : w.frozen? ⟨b, 4, none⟩ = false) (z5 : w.frozen? ⟨b, 5, none⟩ = false) (z6 : w.frozen? ⟨b, 6, none⟩ = false) (z7 : w.frozen? ⟨b, 7, none⟩ = false) (z8 : w.frozen? ⟨b, 8, none⟩ = false) (z9 : w.frozen? ⟨b, 9, none⟩ = false) : Arr w b 10 f := by
  intro j hj
  have : j = 0 ∨ j = 1 ∨ j = 2 ∨ j = 3 ∨ j = 4 ∨ j = 5 ∨ j = 6 ∨ j = 7 ∨ j = 8 ∨ j = 9 := by omega
  rcases this with rfl | rfl | rfl | rfl | rfl | rfl | rfl | rfl | rfl | rfl <;> exact ⟨by assumption, by assumption⟩
set_option maxHeartbeats 16000000 in
theorem pieces_law (h : Nat → Int) (L : ByteArray) (n : Int) (f : Bool) (ao : Option Addr) (S : Nat → ByteArray) (len cap : Nat) (hl : len ≤ maxLen) (hm : ∀ k, k < len → (S k).size ≤ maxLen) (w : World) (hT : Tab w)
    (hc : ∀ k, k < len → ∃ a, ao = some a ∧ w.cell? (a.add k) = some (.string (S k))) (xh yh : Nat → Nat → Int) (xl yl : Nat → ByteArray) (xn yn : Nat → Int) (D : ByteArray)
    (y0 : yh 0 = h ∧ yl 0 = L ∧ yn 0 = n)
    (o16 : Obj) (C16 : ∀ W, Tab W → Calls Tryd.prog 16 #[] W fun e w' => e = .returned (hv (xh 0) (xl 0) (xn 0)) ∧ w' = W.alloc o16)
    (CX : ∀ k W, k < len → (cat S (k + 1)).size ≤ 20000 → Tab W → Calls Tryd.prog 20 #[hv (xh k) (xl k) (xn k), .string (S k)] W fun e w' => e = .returned (hv (xh (k + 1)) (xl (k + 1)) (xn (k + 1))) ∧ Below W.heap.size W w')
    (CY : ∀ k W, f = true → k < len → (cat S (k + 1)).size ≤ 20000 → Tab W → Calls Tryd.prog 20 #[hv (yh k) (yl k) (yn k), .string (S k)] W fun e w' => e = .returned (hv (yh (k + 1)) (yl (k + 1)) (yn (k + 1))) ∧ Below W.heap.size W w')
    (CF : ∀ W, Calls Tryd.prog 19 #[hv h L n] W fun e w' => e = .returned (.bool f) ∧ Below W.heap.size W w')
    (C22 : (cat S len).size ≤ 20000 → ∀ W, Tab W → Calls Tryd.prog 22 #[hv (xh len) (xl len) (xn len)] W fun e w' => e = .returned (.string D) ∧ Below W.heap.size W w')
    (C12 : (cat S len).size ≤ 20000 → ∀ W, Tab W → Calls Tryd.prog 12 #[.string (cat S len)] W fun e w' => e = .returned (.string D) ∧ Below W.heap.size W w')
    (CG : (cat S len).size ≤ 20000 → ∀ W, Calls Tryd.prog 19 #[hv (xh len) (xl len) (xn len)] W fun e w' => e = .returned (.bool true) ∧ Below W.heap.size W w')
    (CW : f = true → (cat S len).size ≤ 20000 → ∀ W, Tab W → Calls Tryd.prog 20 #[hv h L n, .string (cat S len)] W fun e w' => e = .returned (hv (yh len) (yl len) (yn len)) ∧ Below W.heap.size W w')
    (CA : ∀ W, Tab W → Calls Tryd.prog 10 #[] W fun e w' => e = .returned (.bool true) ∧ Below W.heap.size W w') :
    Calls Tryd.prog 6 #[hv h L n, .slice ao len cap] w fun e w' => e = .returned (.bool true) ∧ Below w.heap.size w w' := by
  have q37 := eq37
  unfold maxLen at hl hm
  unfold hv at *
  go_enter Tryd.func6, Tryd.ntmps6
  go_wp2_with fail
  have A0 := Arr.new w #[.int .u32 (h 0), .int .u32 (h 1), .int .u32 (h 2), .int .u32 (h 3), .int .u32 (h 4), .int .u32 (h 5), .int .u32 (h 6), .int .u32 (h 7), .string L, .int .u64 n] 37 _ rfl _ 10 (hx_at h L n)
  have B0 : Below w.heap.size w (w.alloc (.cells #[.int .u32 (h 0), .int .u32 (h 1), .int .u32 (h 2), .int .u32 (h 3), .int .u32 (h 4), .int .u32 (h 5), .int .u32 (h 6), .int .u32 (h 7), .string L, .int .u64 n] 37)) := by go_grown
  generalize w.alloc (.cells #[.int .u32 (h 0), .int .u32 (h 1), .int .u32 (h 2), .int .u32 (h 3), .int .u32 (h 4), .int .u32 (h 5), .int .u32 (h 6), .int .u32 (h 7), .string L, .int .u64 n] 37) = W at *
  have hc' : ∀ k, k < len → ∃ a, ao = some a ∧ W.cell? (a.add k) = some (.string (S k)) := fun k hk => by
    obtain ⟨a, ea, r⟩ := hc k hk
    exact ⟨a, ea, (B0.cell (p := a.add k) (block_lt_of_cell r)).trans r⟩
  go_loopw [6, 15] (fun v i wr => ∃ k : Nat, k ≤ len ∧ i = .int .i64 k ∧ v = .int .i64 ((cat S k).size : Int) ∧ (cat S k).size ≤ 20000 ∧ wr = W) (fun _ i _ => len - (intOf i).toNat)
  case atStart => exact ⟨0, by omega, rfl, rfl, Nat.zero_le _, rfl⟩
  case round =>
    obtain ⟨k, hk, rfl, rfl, hz, rfl⟩ := hrel
    by_cases hlt : k < len
    · have k0 : (0 : Int) ≤ (k : Int) := by omega
      have k1 : (k : Int) < (len : Int) := by omega
      obtain ⟨a, ea, r⟩ := hc' k hlt
      subst ea
      have sk := hm k hlt
      have nx : (cat S (k + 1)).size = (cat S k).size + (S k).size := app_size _ _
      have HN : Hid _ := nx
      clear CX CY CF C22 C12 CG CW C16
      generalize SZ1 : (cat S (k + 1)).size = z1 at *
      generalize (cat S k).size = z0 at *
      generalize S k = s at *
      clear hc' hc hm nx y0
      have fin : ∀ W', Below wr.heap.size wr W' → Below w.heap.size w W' := fun W' hb => Bel.call B0 hb
      have T0 := hT.bel B0
      by_cases c1 : z0 + s.size ≤ 20000
      · have s2 : (s.size : Int) ≤ 20000 := by omega
        have z2 : (z0 : Int) ≤ 20000 := by omega
        have z3 : ¬ (20000 : Int) < (z0 : Int) + (s.size : Int) := by omega
        have z4 : ¬ (z0 : Int) + (s.size : Int) < 0 := by omega
        clear CA fin T0
        go_wp2_with fail
        have o := HN.out
        exact ⟨⟨k + 1, by omega, by go_num, by rw [SZ1, o]; rfl, by rw [SZ1]; omega, trivial⟩, by simp [intOf]; omega⟩
      · generalize hv' : wrap64 ((z0 : Int) + (s.size : Int)) = v
        have vv : 20000 < v ∨ (¬ 20000 < v ∧ v < 0) := by
          unfold wrap64 at hv'
          omega
        rcases vv with v1 | ⟨v1, v2⟩
        · go_wp2_with fail
          refine (CA _ T0).mono ?_
          rintro e w5 ⟨rfl, hb⟩
          have B5 := fin _ hb
          clear hb CA fin
          go_wp2_with fail
          go_ret
          exact ⟨rfl, B5⟩
        · go_wp2_with fail
          refine (CA _ T0).mono ?_
          rintro e w5 ⟨rfl, hb⟩
          have B5 := fin _ hb
          clear hb CA fin
          go_wp2_with fail
          go_ret
          exact ⟨rfl, B5⟩
    · obtain rfl : len = k := by omega
      have T0 := hT.bel B0
      clear hT hc hlt hk
      go_upto_region 9 with fail
      go_cut [9, 10] from 31 to 32 (fun s9 s10 wx => ∃ bx bz : Nat, s9 = .pointer (some ⟨bx, 0, none⟩) ∧ s10 = .pointer (some ⟨bz, 0, none⟩) ∧ bx ≠ bz ∧ wr.heap.size ≤ bx ∧ wr.heap.size ≤ bz ∧ Below wr.heap.size wr wx ∧ Arr wx bx 10 (hx (xh 0) (xl 0) (xn 0)) ∧ Arr wx bz 10 (hx h L n))
      case first =>
        clear CX CY CF C22 C12 CG CW CA hc' hm y0
        obtain ⟨k0, k8, k9⟩ := A0.ten
        have c0 := k0 0 (by omega)
        have c1 := k0 1 (by omega)
        have c2 := k0 2 (by omega)
        have c3 := k0 3 (by omega)
        have c4 := k0 4 (by omega)
        have c5 := k0 5 (by omega)
        have c6 := k0 6 (by omega)
        have c7 := k0 7 (by omega)
        have lt := A0.lt
        clear k0
        have g1 : ∀ o j, (wr.alloc o).cell? ⟨w.heap.size, j, none⟩ = wr.cell? ⟨w.heap.size, j, none⟩ := fun o j => World.cell?_alloc_past (w := wr) o _ j lt
        have g2 : ∀ o o' j, ((wr.alloc o).alloc o').cell? ⟨w.heap.size, j, none⟩ = wr.cell? ⟨w.heap.size, j, none⟩ := fun o o' j => (World.cell?_alloc_past (w := wr.alloc o) o' _ j (by simp; omega)).trans (g1 o j)
        have g3 : ∀ o o' o'' j, (((wr.alloc o).alloc o').alloc o'').cell? ⟨w.heap.size, j, none⟩ = wr.cell? ⟨w.heap.size, j, none⟩ := fun o o' o'' j => (World.cell?_alloc_past (w := (wr.alloc o).alloc o') o'' _ j (by simp; omega)).trans (g2 o o' j)
        go_region_held3 (fun w' => w'.cell? ⟨w.heap.size, 0, none⟩ = some (.int .u32 (h 0)) ∧ w'.cell? ⟨w.heap.size, 1, none⟩ = some (.int .u32 (h 1)) ∧ w'.cell? ⟨w.heap.size, 2, none⟩ = some (.int .u32 (h 2)) ∧ w'.cell? ⟨w.heap.size, 3, none⟩ = some (.int .u32 (h 3)) ∧ w'.cell? ⟨w.heap.size, 4, none⟩ = some (.int .u32 (h 4)) ∧ w'.cell? ⟨w.heap.size, 5, none⟩ = some (.int .u32 (h 5)) ∧ w'.cell? ⟨w.heap.size, 6, none⟩ = some (.int .u32 (h 6)) ∧ w'.cell? ⟨w.heap.size, 7, none⟩ = some (.int .u32 (h 7)) ∧ w'.cell? ⟨w.heap.size, 8, none⟩ = some (.string L) ∧ w'.cell? ⟨w.heap.size, 9, none⟩ = some (.int .u64 n)) (simp [go_sem, g1, g2, g3, c0, c1, c2, c3, c4, c5, c6, c7, k8, k9]) (first | (go_at_call 16; refine (C16 _ (by first | exact T0 | exact T0.al _ | exact (T0.al _).al _)).mono ?_; rintro e wn ⟨rfl, rfl⟩))
        all_goals (try go_wp2_with fail)
        all_goals
          go_meet
          case rel =>
            refine ⟨_, _, rfl, rfl, by omega, by omega, by omega, by go_grown, ?_, ?_⟩ <;> (apply Arr.mk10 <;> simp [go_sem, hx])
      case rest =>
        obtain ⟨bx, bz, rfl, rfl, hne, hx1, hz1, hBx, AX, AZ⟩ := hcut
        have ac : ∀ j, j < len → ∀ U, Below wr.heap.size wr U → ∃ a, ao = some a ∧ U.cell? (a.add j) = some (.string (S j)) := fun j hj U hU => by
          obtain ⟨a, ea, r⟩ := hc' j hj
          exact ⟨a, ea, (hU.cell (p := a.add j) (block_lt_of_cell r)).trans r⟩
        have lt0 := A0.lt
        clear hc'
        have mono := fun j (hj : j ≤ len) => cat_mono S j len hj
        rcases Bool.eq_false_or_eq_true f with hf | hf
        · subst hf
          have CY' := fun j U => CY j U rfl
          have CW' := CW rfl
          clear CY CW
          go_wp2_with fail
          go_loopw [5, 35] (fun v i wq => ∃ j : Nat, j ≤ len ∧ i = .int .i64 j ∧ v = .string (cat S j) ∧ Below wr.heap.size wr wq ∧ Arr wq bx 10 (hx (xh j) (xl j) (xn j)) ∧ Arr wq bz 10 (hx (yh j) (yl j) (yn j))) (fun _ i _ => len - (intOf i).toNat)
          case atStart => exact ⟨0, by omega, rfl, rfl, hBx, AX, by rw [y0.1, y0.2.1, y0.2.2]; exact AZ⟩
          case round =>
            clear AX AZ hBx
            obtain ⟨j, hj, rfl, rfl, hBq, AX, AZ⟩ := hrel
            have A0q := A0.to' hBq
            have Tq := T0.bel hBq
            by_cases hlt : j < len
            · have j0 : (0 : Int) ≤ (j : Int) := by omega
              have j1 : (j : Int) < (len : Int) := by omega
              obtain ⟨a, ea, r⟩ := ac j hlt _ hBq
              subst ea
              have z1 := mono (j + 1) (by omega)
              have z2 : (cat S (j + 1)).size = (cat S j).size + (S j).size := app_size _ _
              have cx := fun U => CX j U hlt (by omega)
              have cy := fun U => CY' j U hlt (by omega)
              have l1 : (cat S j).size ≤ 20000 := by omega
              have l2 : (S j).size ≤ 20000 := by omega
              have HC : Hid (cat S j ++ S j = cat S (j + 1)) := rfl
              obtain ⟨k0, k8, k9⟩ := AX.ten
              generalize hC1 : cat S (j + 1) = C1 at *
              have HC1 : Hid _ := hC1
              clear hC1
              generalize cat S j = C0 at *
              generalize S j = sj at *
              clear z1 z2 mono ac CA CX CW' CY' y0 C22 C12 CG C16
              go_wp2_with fail
              refine (cx _ Tq).mono ?_
              rintro e w3 ⟨rfl, hb⟩
              have B3 := Bel.call hBq hb
              have X3 := AX.to' hb
              have Z3 := AZ.to' hb
              have zx := X3.z
              obtain ⟨k0, k8, k9⟩ := X3.ten
              clear hb AX AZ cx A0q Tq hBq r
              generalize hxn : xh (j + 1) = xh1 at *
              generalize hxl : xl (j + 1) = xl1 at *
              generalize hxq : xn (j + 1) = xn1 at *
              go_upto_region 15 with fail
              have X4 := X3.st10 xh1 xl1 xn1
              have Z4 := Z3.st10o (b' := bx) hne xh1 xl1 xn1
              have B4 := Bel.st10 B3 (b := bx) hx1 xh1 xl1 xn1
              unfold Go.Proofs.YtbmnmmdkpemknaaDoor.st10 Go.Proofs.YtbmnmmdkpemknaaDoor.st8 at X4 Z4 B4
              generalize ((((((((((w3.setCell ⟨bx, 0, none⟩ (.int .u32 (xh1 0))).setCell ⟨bx, 1, none⟩ (.int .u32 (xh1 1))).setCell ⟨bx, 2, none⟩ (.int .u32 (xh1 2))).setCell ⟨bx, 3, none⟩ (.int .u32 (xh1 3))).setCell ⟨bx, 4, none⟩ (.int .u32 (xh1 4))).setCell ⟨bx, 5, none⟩ (.int .u32 (xh1 5))).setCell ⟨bx, 6, none⟩ (.int .u32 (xh1 6))).setCell ⟨bx, 7, none⟩ (.int .u32 (xh1 7))).setCell ⟨bx, 8, none⟩ (.string xl1)).setCell ⟨bx, 9, none⟩ (.int .u64 xn1)) = W4 at *
              clear X3 Z3 B3 k0 k8 k9 zx
              have A4 := A0.to' B4
              obtain ⟨k0, k8, k9⟩ := A4.ten
              go_wp2_with fail
              refine (CF _).mono ?_
              rintro e w5 ⟨rfl, hb⟩
              have B5 := Bel.call B4 hb
              have X5 := X4.to' hb
              have Z5 := Z4.to' hb
              clear hb X4 Z4 B4 k0 k8 k9 A4
              have T5 := T0.bel B5
              obtain ⟨k0, k8, k9⟩ := Z5.ten
              go_wp2_with fail
              refine (cy _ T5).mono ?_
              rintro e w6 ⟨rfl, hb⟩
              have B6 := Bel.call B5 hb
              have X6 := X5.to' hb
              have Z6 := Z5.to' hb
              have zz := Z6.z
              obtain ⟨k0, k8, k9⟩ := Z6.ten
              clear hb X5 Z5 B5 cy T5
              generalize hyn : yh (j + 1) = yh1 at *
              generalize hyl : yl (j + 1) = yl1 at *
              generalize hyq : yn (j + 1) = yn1 at *
              have HX : Hid (xh (j + 1) = xh1 ∧ xl (j + 1) = xl1 ∧ xn (j + 1) = xn1) := ⟨hxn, hxl, hxq⟩
              have HY : Hid (yh (j + 1) = yh1 ∧ yl (j + 1) = yl1 ∧ yn (j + 1) = yn1) := ⟨hyn, hyl, hyq⟩
              clear hxn hxl hxq hyn hyl hyq
              go_wp2_with fail
              rw [HC.out]
              obtain ⟨e1, e2, e3⟩ := HX.out
              obtain ⟨f1, f2, f3⟩ := HY.out
              refine ⟨⟨j + 1, by omega, by go_num, by rw [HC1.out], Bel.st10 B6 hz1 yh1 yl1 yn1, ?_, ?_⟩, by simp [intOf]; omega⟩
              · rw [e1, e2, e3]; exact X6.st10o (Ne.symm hne) yh1 yl1 yn1
              · rw [f1, f2, f3]; exact Z6.st10 yh1 yl1 yn1
            · obtain rfl : len = j := by omega
              have c22 := C22 hz
              have c12 := C12 hz
              have cg := CG hz
              have cw := CW' hz
              have l1 : (cat S len).size ≤ 20000 := hz
              obtain ⟨k0, k8, k9⟩ := AX.ten
              clear hlt hj mono ac CX C22 C12 CG C16 CY' CW'
              generalize cat S len = C0 at *
              go_wp2_with fail
              refine (c22 _ Tq).mono ?_
              rintro e w3 ⟨rfl, hb⟩
              have B3 := Bel.call hBq hb
              have X3 := AX.to' hb
              have Z3 := AZ.to' hb
              have T3 := T0.bel B3
              clear hb AX AZ Tq hBq c22 k0 k8 k9 A0q
              go_wp2_with fail
              refine (c12 _ T3).mono ?_
              rintro e w4 ⟨rfl, hb⟩
              have B4 := Bel.call B3 hb
              have X4 := X3.to' hb
              have Z4 := Z3.to' hb
              clear hb X3 Z3 T3 B3 c12
              obtain ⟨k0, k8, k9⟩ := X4.ten
              go_wp2_with fail
              refine (cg _).mono ?_
              rintro e w5 ⟨rfl, hb⟩
              have B5 := Bel.call B4 hb
              have Z5 := Z4.to' hb
              have T5 := T0.bel B5
              have A5 := A0.to' B5
              clear hb X4 Z4 B4 cg k0 k8 k9
              have tR := fun ds os => T5.bel (below_regrown w5 ds os)
              obtain ⟨k0, k8, k9⟩ := A5.ten
              obtain ⟨j0, j8, j9⟩ := Z5.ten
              have r0 := fun ds os => cell_regrown (k0 0 (by omega)) ds os
              have r1 := fun ds os => cell_regrown (k0 1 (by omega)) ds os
              have r2 := fun ds os => cell_regrown (k0 2 (by omega)) ds os
              have r3 := fun ds os => cell_regrown (k0 3 (by omega)) ds os
              have r4 := fun ds os => cell_regrown (k0 4 (by omega)) ds os
              have r5 := fun ds os => cell_regrown (k0 5 (by omega)) ds os
              have r6 := fun ds os => cell_regrown (k0 6 (by omega)) ds os
              have r7 := fun ds os => cell_regrown (k0 7 (by omega)) ds os
              have r8 := fun ds os => cell_regrown k8 ds os
              have r9 := fun ds os => cell_regrown k9 ds os
              have q0 := fun ds os => cell_regrown (j0 0 (by omega)) ds os
              have q1 := fun ds os => cell_regrown (j0 1 (by omega)) ds os
              have q2 := fun ds os => cell_regrown (j0 2 (by omega)) ds os
              have q3 := fun ds os => cell_regrown (j0 3 (by omega)) ds os
              have q4 := fun ds os => cell_regrown (j0 4 (by omega)) ds os
              have q5 := fun ds os => cell_regrown (j0 5 (by omega)) ds os
              have q6 := fun ds os => cell_regrown (j0 6 (by omega)) ds os
              have q7 := fun ds os => cell_regrown (j0 7 (by omega)) ds os
              have q8 := fun ds os => cell_regrown j8 ds os
              have q9 := fun ds os => cell_regrown j9 ds os
              clear k0 k8 k9 j0 j8 j9
              go_wp2_with fail
              refine wp_region_quiet_below (by kernel_rfl) (by kernel_rfl) ?_
              repeat (go_big_quiet_step (first | (go_at_call 19; exact Calls.regrown_of (CF _)) | (go_at_call 20; exact Calls.regrown_of (cw _ (tR _ _))) | (go_at_call 10; exact Calls.regrown_of (CA _ (tR _ _)))))
              refine wpQuiet_nil ?_
              intro w6 hw'
              obtain ⟨⟨dq, osq⟩, hw''⟩ := hw'
              have hb := below_of hw''
              clear hw'' tR
              have B6 := Bel.call B0 (Bel.call B5 hb)
              go_wp2_with fail
              go_ret
              exact ⟨rfl, B6⟩
        · subst hf
          clear CY CW
          go_wp2_with fail
          go_loopw [5, 35] (fun v i wq => ∃ j : Nat, j ≤ len ∧ i = .int .i64 j ∧ v = .string (cat S j) ∧ Below wr.heap.size wr wq ∧ Arr wq bx 10 (hx (xh j) (xl j) (xn j)) ∧ Arr wq bz 10 (hx h L n)) (fun _ i _ => len - (intOf i).toNat)
          case atStart => exact ⟨0, by omega, rfl, rfl, hBx, AX, AZ⟩
          case round =>
            clear AX AZ hBx
            obtain ⟨j, hj, rfl, rfl, hBq, AX, AZ⟩ := hrel
            have A0q := A0.to' hBq
            have Tq := T0.bel hBq
            by_cases hlt : j < len
            · have j0 : (0 : Int) ≤ (j : Int) := by omega
              have j1 : (j : Int) < (len : Int) := by omega
              obtain ⟨a, ea, r⟩ := ac j hlt _ hBq
              subst ea
              have z1 := mono (j + 1) (by omega)
              have z2 : (cat S (j + 1)).size = (cat S j).size + (S j).size := app_size _ _
              have cx := fun U => CX j U hlt (by omega)
              have l1 : (cat S j).size ≤ 20000 := by omega
              have l2 : (S j).size ≤ 20000 := by omega
              have HC : Hid (cat S j ++ S j = cat S (j + 1)) := rfl
              obtain ⟨k0, k8, k9⟩ := AX.ten
              generalize hC1 : cat S (j + 1) = C1 at *
              have HC1 : Hid _ := hC1
              clear hC1
              generalize cat S j = C0 at *
              generalize S j = sj at *
              clear z1 z2 mono ac CA CX y0 C22 C12 CG C16
              go_wp2_with fail
              refine (cx _ Tq).mono ?_
              rintro e w3 ⟨rfl, hb⟩
              have B3 := Bel.call hBq hb
              have X3 := AX.to' hb
              have Z3 := AZ.to' hb
              have zx := X3.z
              obtain ⟨k0, k8, k9⟩ := X3.ten
              clear hb AX AZ cx A0q Tq hBq r
              generalize hxn : xh (j + 1) = xh1 at *
              generalize hxl : xl (j + 1) = xl1 at *
              generalize hxq : xn (j + 1) = xn1 at *
              go_upto_region 15 with fail
              have X4 := X3.st10 xh1 xl1 xn1
              have Z4 := Z3.st10o (b' := bx) hne xh1 xl1 xn1
              have B4 := Bel.st10 B3 (b := bx) hx1 xh1 xl1 xn1
              unfold Go.Proofs.YtbmnmmdkpemknaaDoor.st10 Go.Proofs.YtbmnmmdkpemknaaDoor.st8 at X4 Z4 B4
              generalize ((((((((((w3.setCell ⟨bx, 0, none⟩ (.int .u32 (xh1 0))).setCell ⟨bx, 1, none⟩ (.int .u32 (xh1 1))).setCell ⟨bx, 2, none⟩ (.int .u32 (xh1 2))).setCell ⟨bx, 3, none⟩ (.int .u32 (xh1 3))).setCell ⟨bx, 4, none⟩ (.int .u32 (xh1 4))).setCell ⟨bx, 5, none⟩ (.int .u32 (xh1 5))).setCell ⟨bx, 6, none⟩ (.int .u32 (xh1 6))).setCell ⟨bx, 7, none⟩ (.int .u32 (xh1 7))).setCell ⟨bx, 8, none⟩ (.string xl1)).setCell ⟨bx, 9, none⟩ (.int .u64 xn1)) = W4 at *
              clear X3 Z3 B3 k0 k8 k9 zx
              have A4 := A0.to' B4
              obtain ⟨k0, k8, k9⟩ := A4.ten
              go_wp2_with fail
              refine (CF _).mono ?_
              rintro e w5 ⟨rfl, hb⟩
              have B5 := Bel.call B4 hb
              have X5 := X4.to' hb
              have Z5 := Z4.to' hb
              clear hb X4 Z4 B4 k0 k8 k9 A4
              have HX : Hid (xh (j + 1) = xh1 ∧ xl (j + 1) = xl1 ∧ xn (j + 1) = xn1) := ⟨hxn, hxl, hxq⟩
              clear hxn hxl hxq
              go_wp2_with fail
              rw [HC.out]
              obtain ⟨e1, e2, e3⟩ := HX.out
              refine ⟨⟨j + 1, by omega, by go_num, by rw [HC1.out], B5, ?_, Z5⟩, by simp [intOf]; omega⟩
              rw [e1, e2, e3]; exact X5
            · obtain rfl : len = j := by omega
              have c22 := C22 hz
              have c12 := C12 hz
              have cg := CG hz
              have l1 : (cat S len).size ≤ 20000 := hz
              obtain ⟨k0, k8, k9⟩ := AX.ten
              clear hlt hj mono ac CX C22 C12 CG C16
              generalize cat S len = C0 at *
              go_wp2_with fail
              refine (c22 _ Tq).mono ?_
              rintro e w3 ⟨rfl, hb⟩
              have B3 := Bel.call hBq hb
              have X3 := AX.to' hb
              have Z3 := AZ.to' hb
              have T3 := T0.bel B3
              clear hb AX AZ Tq hBq c22 k0 k8 k9 A0q
              go_wp2_with fail
              refine (c12 _ T3).mono ?_
              rintro e w4 ⟨rfl, hb⟩
              have B4 := Bel.call B3 hb
              have X4 := X3.to' hb
              have Z4 := Z3.to' hb
              clear hb X3 Z3 T3 B3 c12
              obtain ⟨k0, k8, k9⟩ := X4.ten
              go_wp2_with fail
              refine (cg _).mono ?_
              rintro e w5 ⟨rfl, hb⟩
              have B5 := Bel.call B4 hb
              have Z5 := Z4.to' hb
              have T5 := T0.bel B5
              have A5 := A0.to' B5
              clear hb X4 Z4 B4 cg k0 k8 k9
              have tR := fun ds os => T5.bel (below_regrown w5 ds os)
              obtain ⟨k0, k8, k9⟩ := A5.ten
              obtain ⟨j0, j8, j9⟩ := Z5.ten
              have r0 := fun ds os => cell_regrown (k0 0 (by omega)) ds os
              have r1 := fun ds os => cell_regrown (k0 1 (by omega)) ds os
              have r2 := fun ds os => cell_regrown (k0 2 (by omega)) ds os
              have r3 := fun ds os => cell_regrown (k0 3 (by omega)) ds os
              have r4 := fun ds os => cell_regrown (k0 4 (by omega)) ds os
              have r5 := fun ds os => cell_regrown (k0 5 (by omega)) ds os
              have r6 := fun ds os => cell_regrown (k0 6 (by omega)) ds os
              have r7 := fun ds os => cell_regrown (k0 7 (by omega)) ds os
              have r8 := fun ds os => cell_regrown k8 ds os
              have r9 := fun ds os => cell_regrown k9 ds os
              have q0 := fun ds os => cell_regrown (j0 0 (by omega)) ds os
              have q1 := fun ds os => cell_regrown (j0 1 (by omega)) ds os
              have q2 := fun ds os => cell_regrown (j0 2 (by omega)) ds os
              have q3 := fun ds os => cell_regrown (j0 3 (by omega)) ds os
              have q4 := fun ds os => cell_regrown (j0 4 (by omega)) ds os
              have q5 := fun ds os => cell_regrown (j0 5 (by omega)) ds os
              have q6 := fun ds os => cell_regrown (j0 6 (by omega)) ds os
              have q7 := fun ds os => cell_regrown (j0 7 (by omega)) ds os
              have q8 := fun ds os => cell_regrown j8 ds os
              have q9 := fun ds os => cell_regrown j9 ds os
              clear k0 k8 k9 j0 j8 j9
              go_wp2_with fail
              refine wp_region_quiet_below (by kernel_rfl) (by kernel_rfl) ?_
              repeat (go_big_quiet_step (first | (go_at_call 19; exact Calls.regrown_of (CF _)) | (go_at_call 10; exact Calls.regrown_of (CA _ (tR _ _)))))
              refine wpQuiet_nil ?_
              intro w6 hw'
              obtain ⟨⟨dq, osq⟩, hw''⟩ := hw'
              have hb := below_of hw''
              clear hw'' tR
              have B6 := Bel.call B0 (Bel.call B5 hb)
              go_wp2_with fail
              go_ret
              exact ⟨rfl, B6⟩
end Go.Proofs.YtbmnmmdkpemknaaDoor
