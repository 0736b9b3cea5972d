/- The reference's guess. -/
import Derived.Test.YtjdpeedghpblgaaGreatDoorJ15
set_option linter.all false
set_option maxRecDepth 100000
namespace Go.Proofs.YtjdpeedghpblgaaGreatDoor
open Go.RowKit Go.Sort Go.Lib
set_option maxHeartbeats 2000000 in
theorem rguess_20 (s : ByteArray) (w : World)
    (hz : s.size ≤ 1000000) :
    Calls Tryz.prog 29 #[.int .i64 20, .string s] w fun e w' => e = .returned ((⟨20, nS, nS, nS, nS, nS, [], 0, 0, s⟩ : Mg).v nC) ∧ Below w.heap.size w w' := by
  have hN := kL_cells 20
  have hR := (⟨20, nS, nS, nS, nS, nS, [], 0, 0, s⟩ : Mg).cells nC rfl
  rw [Mg.v_l]
  generalize (⟨20, nS, nS, nS, nS, nS, [], 0, 0, s⟩ : Mg).l nC = R at hR ⊢
  go_enter Tryz.func29, Tryz.ntmps29
  go_upto_region 1 with (fail)
  have A4 := newZ w _ rfl
  have hB : Below w.heap.size w (w.alloc (.cells z16 29)) := by go_grown
  have z4 := Arr.lt (n := 15) A4
  generalize w.alloc (.cells z16 29) = W at *
  refine wp_region_list ?_
  refine wpList_plain (by rfl) fun K1 hK1 => ?_
  have H1 : Hid _ := hK1
  clear hK1
  go_wp2_with fail
  refine H1.out _ _ ?_
  clear H1
  refine wpList_plain (by rfl) fun K1 hK1 => ?_
  have H1 : Hid _ := hK1
  clear hK1
  go_wp2_with fail
  refine H1.out _ _ ?_
  clear H1
  refine wpList_plain (by rfl) fun K1 hK1 => ?_
  have H1 : Hid _ := hK1
  clear hK1
  go_wp2_with fail
  refine H1.out _ _ ?_
  clear H1
  have A5 := newZ W _ rfl
  refine hN.wst tM A5 (by rfl) (.tmp 5) (.tmp 21) (by rfl) (by rfl) (by rfl) ?_
  refine wpList_nil ?_
  replace A5 := hN.set A5
  replace A4 : Arr _ _ 16 _ := (A4.al' (n := 15) (.cells z16 29)).setso (b' := W.heap.size) (by omega) (kL 20) 0
  have hz := hB.size
  replace hB := below_setCells (Bel.al hB (.cells z16 29)) (b := W.heap.size) hz (kL 20) 0
  have n1 : w.heap.size ≠ W.heap.size := by omega
  have n2 : w.heap.size < W.heap.size := by omega
  generalize (W.alloc (.cells z16 29)).setCells W.heap.size 0 (kL 20) = W0 at *
  generalize W.heap.size = b5 at *
  have c := A5.c 15 (by omega)
  have z := A5.z 15 (by omega)
  go_upto_region 33 with (fail)
  clear c z
  replace A5 : Arr (W0.setCell ⟨b5, 15, none⟩ (.string s)) b5 16 ((⟨20, nS, nS, nS, nS, nS, [], 0, 0, s⟩ : Mg).c nC) := (A5.set 15 (by omega) (.string s)).congr (to16 rfl rfl rfl rfl rfl rfl rfl rfl rfl rfl rfl rfl rfl rfl rfl rfl)
  replace A4 : Arr (W0.setCell ⟨b5, 15, none⟩ (.string s)) _ 16 _ := A4.other (b' := b5) (by omega) _
  replace hB : Below w.heap.size w (W0.setCell ⟨b5, 15, none⟩ (.string s)) := Bel.st hB (by omega) _
  generalize W0.setCell ⟨b5, 15, none⟩ (.string s) = W1 at *
  refine wp_region_list ?_
  refine hR.wld tM A5 0 (by omega) (fun j _ => by rw [Nat.zero_add]) (by rfl) (.tmp 5) (by rfl) (by rfl) ?_
  refine hR.wst tM A4 (by rfl) (.tmp 4) (.tmp 150) (by rfl) (by rfl) (by rfl) ?_
  refine wpList_nil ?_
  replace A4 := hR.set A4
  replace hB := below_setCells hB (b := w.heap.size) (by omega) R 0
  generalize W1.setCells w.heap.size 0 R = WE at *
  go_wp2_with fail
  exact bodyPost_ret (results_cell1 rfl _ rfl (hR.ld tM A4 0 (by omega) (fun j _ => by rw [Nat.zero_add]))) rfl ⟨rfl, hB⟩
set_option maxHeartbeats 2000000 in
theorem rguess_8 (s X Y al : ByteArray) (w : World)
    (C1 : ∀ W, Calls Tryz.prog 60 #[.int .i64 2, .string s] W fun e w' => e = .returned (.tuple #[.string X, .string Y]) ∧ Below W.heap.size W w')
    (C2 : ∀ W, Calls Tryz.prog 61 #[.string X] W fun e w' => e = .returned (.string al) ∧ Below W.heap.size W w') :
    Calls Tryz.prog 29 #[.int .i64 8, .string s] w fun e w' => e = .returned ((⟨8, nS, nS, nS, nS, al, [], 0, 0, nS⟩ : Mg).v nC) ∧ Below w.heap.size w w' := by
  have hN := kL_cells 8
  have hR := (⟨8, nS, nS, nS, nS, al, [], 0, 0, nS⟩ : Mg).cells nC rfl
  rw [Mg.v_l]
  generalize (⟨8, nS, nS, nS, nS, al, [], 0, 0, nS⟩ : Mg).l nC = R at hR ⊢
  go_enter Tryz.func29, Tryz.ntmps29
  go_upto_region 1 with (fail)
  have A4 := newZ w _ rfl
  have hB : Below w.heap.size w (w.alloc (.cells z16 29)) := by go_grown
  have z4 := Arr.lt (n := 15) A4
  generalize w.alloc (.cells z16 29) = W at *
  refine wp_region_list ?_
  refine wpList_plain (by rfl) fun K1 hK1 => ?_
  have H1 : Hid _ := hK1
  clear hK1
  go_wp2_with fail
  refine H1.out _ _ ?_
  clear H1
  refine wpList_plain (by rfl) fun K1 hK1 => ?_
  have H1 : Hid _ := hK1
  clear hK1
  go_wp2_with fail
  refine H1.out _ _ ?_
  clear H1
  refine wpList_plain (by rfl) fun K1 hK1 => ?_
  have H1 : Hid _ := hK1
  clear hK1
  go_wp2_with fail
  refine H1.out _ _ ?_
  clear H1
  have A5 := newZ W _ rfl
  refine hN.wst tM A5 (by rfl) (.tmp 5) (.tmp 21) (by rfl) (by rfl) (by rfl) ?_
  refine wpList_nil ?_
  replace A5 := hN.set A5
  replace A4 : Arr _ _ 16 _ := (A4.al' (n := 15) (.cells z16 29)).setso (b' := W.heap.size) (by omega) (kL 8) 0
  have hz := hB.size
  replace hB := below_setCells (Bel.al hB (.cells z16 29)) (b := W.heap.size) hz (kL 8) 0
  have n1 : w.heap.size ≠ W.heap.size := by omega
  have n2 : w.heap.size < W.heap.size := by omega
  generalize (W.alloc (.cells z16 29)).setCells W.heap.size 0 (kL 8) = W0 at *
  generalize W.heap.size = b5 at *
  go_wp2_with fail
  refine (C1 _).mono ?_
  rintro e W1 ⟨rfl, hb⟩
  replace A4 : Arr _ _ 16 _ := A4.to' (n := 15) hb
  replace A5 : Arr _ _ 16 _ := A5.to' (n := 15) hb
  replace hB := Bel.call hB hb
  clear hb
  go_wp2_with fail
  refine (C2 _).mono ?_
  rintro e W2 ⟨rfl, hb⟩
  replace A4 : Arr _ _ 16 _ := A4.to' (n := 15) hb
  replace A5 : Arr _ _ 16 _ := A5.to' (n := 15) hb
  replace hB := Bel.call hB hb
  clear hb
  have c := A5.c 5 (by omega)
  have z := A5.z 5 (by omega)
  go_upto_region 33 with (fail)
  clear c z
  replace A5 : Arr (W2.setCell ⟨b5, 5, none⟩ (.string al)) b5 16 ((⟨8, nS, nS, nS, nS, al, [], 0, 0, nS⟩ : Mg).c nC) := (A5.set 5 (by omega) (.string al)).congr (to16 rfl rfl rfl rfl rfl rfl rfl rfl rfl rfl rfl rfl rfl rfl rfl rfl)
  replace A4 : Arr (W2.setCell ⟨b5, 5, none⟩ (.string al)) _ 16 _ := A4.other (b' := b5) (by omega) _
  replace hB : Below w.heap.size w (W2.setCell ⟨b5, 5, none⟩ (.string al)) := Bel.st hB (by omega) _
  generalize W2.setCell ⟨b5, 5, none⟩ (.string al) = W3 at *
  refine wp_region_list ?_
  refine hR.wld tM A5 0 (by omega) (fun j _ => by rw [Nat.zero_add]) (by rfl) (.tmp 5) (by rfl) (by rfl) ?_
  refine hR.wst tM A4 (by rfl) (.tmp 4) (.tmp 150) (by rfl) (by rfl) (by rfl) ?_
  refine wpList_nil ?_
  replace A4 := hR.set A4
  replace hB := below_setCells hB (b := w.heap.size) (by omega) R 0
  generalize W3.setCells w.heap.size 0 R = WE at *
  go_wp2_with fail
  exact bodyPost_ret (results_cell1 rfl _ rfl (hR.ld tM A4 0 (by omega) (fun j _ => by rw [Nat.zero_add]))) rfl ⟨rfl, hB⟩
set_option maxHeartbeats 2000000 in
theorem rguess_2y (s X Y Z rn ss sh : ByteArray) (w : World)
    (C1 : ∀ W, Calls Tryz.prog 59 #[.string s, .int .i64 2] W fun e w' => e = .returned (.string X) ∧ Below W.heap.size W w')
    (C2 : ∀ W, Calls Tryz.prog 58 #[.string X, .int .i64 32] W fun e w' => e = .returned (.string rn) ∧ Below W.heap.size W w')
    (C3 : ∀ W, Calls Tryz.prog 59 #[.string s, .int .i64 34] W fun e w' => e = .returned (.string Y) ∧ Below W.heap.size W w')
    (C4 : ∀ W, Calls Tryz.prog 60 #[.int .i64 1, .string Y] W fun e w' => e = .returned (.tuple #[.string ss, .string Z]) ∧ Below W.heap.size W w')
    (h32 : (32 : Int) ≤ (s.size : Int)) (hm : (s.size : Int) ≤ 1000000)
    (S1 : ∀ W, (Instr.slice 9 (.string s) (some (.int .i64 ((s.size : Int) - 32))) none none).run Tryz.prog W = .ok (.string sh) W) :
    Calls Tryz.prog 29 #[.int .i64 2, .string s] w fun e w' => e = .returned ((⟨2, rn, ss, sh, nS, nS, [], 0, 0, nS⟩ : Mg).v nC) ∧ Below w.heap.size w w' := by
  have hN := kL_cells 2
  have hR := (⟨2, rn, ss, sh, nS, nS, [], 0, 0, nS⟩ : Mg).cells nC rfl
  rw [Mg.v_l]
  generalize (⟨2, rn, ss, sh, nS, nS, [], 0, 0, nS⟩ : Mg).l nC = R at hR ⊢
  go_enter Tryz.func29, Tryz.ntmps29
  go_upto_region 1 with (fail)
  have A4 := newZ w _ rfl
  have hB : Below w.heap.size w (w.alloc (.cells z16 29)) := by go_grown
  have z4 := Arr.lt (n := 15) A4
  generalize w.alloc (.cells z16 29) = W at *
  refine wp_region_list ?_
  refine wpList_plain (by rfl) fun K1 hK1 => ?_
  have H1 : Hid _ := hK1
  clear hK1
  go_wp2_with fail
  refine H1.out _ _ ?_
  clear H1
  refine wpList_plain (by rfl) fun K1 hK1 => ?_
  have H1 : Hid _ := hK1
  clear hK1
  go_wp2_with fail
  refine H1.out _ _ ?_
  clear H1
  refine wpList_plain (by rfl) fun K1 hK1 => ?_
  have H1 : Hid _ := hK1
  clear hK1
  go_wp2_with fail
  refine H1.out _ _ ?_
  clear H1
  have A5 := newZ W _ rfl
  refine hN.wst tM A5 (by rfl) (.tmp 5) (.tmp 21) (by rfl) (by rfl) (by rfl) ?_
  refine wpList_nil ?_
  replace A5 := hN.set A5
  replace A4 : Arr _ _ 16 _ := (A4.al' (n := 15) (.cells z16 29)).setso (b' := W.heap.size) (by omega) (kL 2) 0
  have hz := hB.size
  replace hB := below_setCells (Bel.al hB (.cells z16 29)) (b := W.heap.size) hz (kL 2) 0
  have n1 : w.heap.size ≠ W.heap.size := by omega
  have n2 : w.heap.size < W.heap.size := by omega
  generalize (W.alloc (.cells z16 29)).setCells W.heap.size 0 (kL 2) = W0 at *
  generalize W.heap.size = b5 at *
  go_wp2_with fail
  refine (C1 _).mono ?_
  rintro e W1 ⟨rfl, hb⟩
  replace A4 : Arr _ _ 16 _ := A4.to' (n := 15) hb
  replace A5 : Arr _ _ 16 _ := A5.to' (n := 15) hb
  replace hB := Bel.call hB hb
  clear hb
  go_wp2_with fail
  refine (C2 _).mono ?_
  rintro e W2 ⟨rfl, hb⟩
  replace A4 : Arr _ _ 16 _ := A4.to' (n := 15) hb
  replace A5 : Arr _ _ 16 _ := A5.to' (n := 15) hb
  replace hB := Bel.call hB hb
  clear hb
  have c := A5.c 1 (by omega)
  have z := A5.z 1 (by omega)
  go_wp2_with fail
  clear c z
  replace A5 : Arr (W2.setCell ⟨b5, 1, none⟩ (.string rn)) b5 16 ((⟨2, rn, nS, nS, nS, nS, [], 0, 0, nS⟩ : Mg).c nC) := (A5.set 1 (by omega) (.string rn)).congr (to16 rfl rfl rfl rfl rfl rfl rfl rfl rfl rfl rfl rfl rfl rfl rfl rfl)
  replace A4 : Arr (W2.setCell ⟨b5, 1, none⟩ (.string rn)) _ 16 _ := A4.other (b' := b5) (by omega) _
  replace hB : Below w.heap.size w (W2.setCell ⟨b5, 1, none⟩ (.string rn)) := Bel.st hB (by omega) _
  generalize W2.setCell ⟨b5, 1, none⟩ (.string rn) = W3 at *
  refine (C3 _).mono ?_
  rintro e W4 ⟨rfl, hb⟩
  replace A4 : Arr _ _ 16 _ := A4.to' (n := 15) hb
  replace A5 : Arr _ _ 16 _ := A5.to' (n := 15) hb
  replace hB := Bel.call hB hb
  clear hb
  go_wp2_with fail
  refine (C4 _).mono ?_
  rintro e W5 ⟨rfl, hb⟩
  replace A4 : Arr _ _ 16 _ := A4.to' (n := 15) hb
  replace A5 : Arr _ _ 16 _ := A5.to' (n := 15) hb
  replace hB := Bel.call hB hb
  clear hb
  have c := A5.c 2 (by omega)
  have z := A5.z 2 (by omega)
  go_upto_region 17 with (fail)
  clear c z
  replace A5 : Arr (W5.setCell ⟨b5, 2, none⟩ (.string ss)) b5 16 ((⟨2, rn, ss, nS, nS, nS, [], 0, 0, nS⟩ : Mg).c nC) := (A5.set 2 (by omega) (.string ss)).congr (to16 rfl rfl rfl rfl rfl rfl rfl rfl rfl rfl rfl rfl rfl rfl rfl rfl)
  replace A4 : Arr (W5.setCell ⟨b5, 2, none⟩ (.string ss)) _ 16 _ := A4.other (b' := b5) (by omega) _
  replace hB : Below w.heap.size w (W5.setCell ⟨b5, 2, none⟩ (.string ss)) := Bel.st hB (by omega) _
  generalize W5.setCell ⟨b5, 2, none⟩ (.string ss) = W6 at *
  have c := A5.c 3 (by omega)
  have z := A5.z 3 (by omega)
  go_upto_region 33 with (fail)
  clear c z
  replace A5 : Arr (W6.setCell ⟨b5, 3, none⟩ (.string sh)) b5 16 ((⟨2, rn, ss, sh, nS, nS, [], 0, 0, nS⟩ : Mg).c nC) := (A5.set 3 (by omega) (.string sh)).congr (to16 rfl rfl rfl rfl rfl rfl rfl rfl rfl rfl rfl rfl rfl rfl rfl rfl)
  replace A4 : Arr (W6.setCell ⟨b5, 3, none⟩ (.string sh)) _ 16 _ := A4.other (b' := b5) (by omega) _
  replace hB : Below w.heap.size w (W6.setCell ⟨b5, 3, none⟩ (.string sh)) := Bel.st hB (by omega) _
  generalize W6.setCell ⟨b5, 3, none⟩ (.string sh) = W7 at *
  refine wp_region_list ?_
  refine hR.wld tM A5 0 (by omega) (fun j _ => by rw [Nat.zero_add]) (by rfl) (.tmp 5) (by rfl) (by rfl) ?_
  refine hR.wst tM A4 (by rfl) (.tmp 4) (.tmp 150) (by rfl) (by rfl) (by rfl) ?_
  refine wpList_nil ?_
  replace A4 := hR.set A4
  replace hB := below_setCells hB (b := w.heap.size) (by omega) R 0
  generalize W7.setCells w.heap.size 0 R = WE at *
  go_wp2_with fail
  exact bodyPost_ret (results_cell1 rfl _ rfl (hR.ld tM A4 0 (by omega) (fun j _ => by rw [Nat.zero_add]))) rfl ⟨rfl, hB⟩
set_option maxHeartbeats 2000000 in
theorem rguess_2n (s X Y Z rn ss : ByteArray) (w : World)
    (C1 : ∀ W, Calls Tryz.prog 59 #[.string s, .int .i64 2] W fun e w' => e = .returned (.string X) ∧ Below W.heap.size W w')
    (C2 : ∀ W, Calls Tryz.prog 58 #[.string X, .int .i64 32] W fun e w' => e = .returned (.string rn) ∧ Below W.heap.size W w')
    (C3 : ∀ W, Calls Tryz.prog 59 #[.string s, .int .i64 34] W fun e w' => e = .returned (.string Y) ∧ Below W.heap.size W w')
    (C4 : ∀ W, Calls Tryz.prog 60 #[.int .i64 1, .string Y] W fun e w' => e = .returned (.tuple #[.string ss, .string Z]) ∧ Below W.heap.size W w')
    (h32 : ¬ (32 : Int) ≤ (s.size : Int)) :
    Calls Tryz.prog 29 #[.int .i64 2, .string s] w fun e w' => e = .returned ((⟨2, rn, ss, nS, nS, nS, [], 0, 0, nS⟩ : Mg).v nC) ∧ Below w.heap.size w w' := by
  have hN := kL_cells 2
  have hR := (⟨2, rn, ss, nS, nS, nS, [], 0, 0, nS⟩ : Mg).cells nC rfl
  rw [Mg.v_l]
  generalize (⟨2, rn, ss, nS, nS, nS, [], 0, 0, nS⟩ : Mg).l nC = R at hR ⊢
  go_enter Tryz.func29, Tryz.ntmps29
  go_upto_region 1 with (fail)
  have A4 := newZ w _ rfl
  have hB : Below w.heap.size w (w.alloc (.cells z16 29)) := by go_grown
  have z4 := Arr.lt (n := 15) A4
  generalize w.alloc (.cells z16 29) = W at *
  refine wp_region_list ?_
  refine wpList_plain (by rfl) fun K1 hK1 => ?_
  have H1 : Hid _ := hK1
  clear hK1
  go_wp2_with fail
  refine H1.out _ _ ?_
  clear H1
  refine wpList_plain (by rfl) fun K1 hK1 => ?_
  have H1 : Hid _ := hK1
  clear hK1
  go_wp2_with fail
  refine H1.out _ _ ?_
  clear H1
  refine wpList_plain (by rfl) fun K1 hK1 => ?_
  have H1 : Hid _ := hK1
  clear hK1
  go_wp2_with fail
  refine H1.out _ _ ?_
  clear H1
  have A5 := newZ W _ rfl
  refine hN.wst tM A5 (by rfl) (.tmp 5) (.tmp 21) (by rfl) (by rfl) (by rfl) ?_
  refine wpList_nil ?_
  replace A5 := hN.set A5
  replace A4 : Arr _ _ 16 _ := (A4.al' (n := 15) (.cells z16 29)).setso (b' := W.heap.size) (by omega) (kL 2) 0
  have hz := hB.size
  replace hB := below_setCells (Bel.al hB (.cells z16 29)) (b := W.heap.size) hz (kL 2) 0
  have n1 : w.heap.size ≠ W.heap.size := by omega
  have n2 : w.heap.size < W.heap.size := by omega
  generalize (W.alloc (.cells z16 29)).setCells W.heap.size 0 (kL 2) = W0 at *
  generalize W.heap.size = b5 at *
  go_wp2_with fail
  refine (C1 _).mono ?_
  rintro e W1 ⟨rfl, hb⟩
  replace A4 : Arr _ _ 16 _ := A4.to' (n := 15) hb
  replace A5 : Arr _ _ 16 _ := A5.to' (n := 15) hb
  replace hB := Bel.call hB hb
  clear hb
  go_wp2_with fail
  refine (C2 _).mono ?_
  rintro e W2 ⟨rfl, hb⟩
  replace A4 : Arr _ _ 16 _ := A4.to' (n := 15) hb
  replace A5 : Arr _ _ 16 _ := A5.to' (n := 15) hb
  replace hB := Bel.call hB hb
  clear hb
  have c := A5.c 1 (by omega)
  have z := A5.z 1 (by omega)
  go_wp2_with fail
  clear c z
  replace A5 : Arr (W2.setCell ⟨b5, 1, none⟩ (.string rn)) b5 16 ((⟨2, rn, nS, nS, nS, nS, [], 0, 0, nS⟩ : Mg).c nC) := (A5.set 1 (by omega) (.string rn)).congr (to16 rfl rfl rfl rfl rfl rfl rfl rfl rfl rfl rfl rfl rfl rfl rfl rfl)
  replace A4 : Arr (W2.setCell ⟨b5, 1, none⟩ (.string rn)) _ 16 _ := A4.other (b' := b5) (by omega) _
  replace hB : Below w.heap.size w (W2.setCell ⟨b5, 1, none⟩ (.string rn)) := Bel.st hB (by omega) _
  generalize W2.setCell ⟨b5, 1, none⟩ (.string rn) = W3 at *
  refine (C3 _).mono ?_
  rintro e W4 ⟨rfl, hb⟩
  replace A4 : Arr _ _ 16 _ := A4.to' (n := 15) hb
  replace A5 : Arr _ _ 16 _ := A5.to' (n := 15) hb
  replace hB := Bel.call hB hb
  clear hb
  go_wp2_with fail
  refine (C4 _).mono ?_
  rintro e W5 ⟨rfl, hb⟩
  replace A4 : Arr _ _ 16 _ := A4.to' (n := 15) hb
  replace A5 : Arr _ _ 16 _ := A5.to' (n := 15) hb
  replace hB := Bel.call hB hb
  clear hb
  have c := A5.c 2 (by omega)
  have z := A5.z 2 (by omega)
  go_upto_region 33 with (fail)
  clear c z
  replace A5 : Arr (W5.setCell ⟨b5, 2, none⟩ (.string ss)) b5 16 ((⟨2, rn, ss, nS, nS, nS, [], 0, 0, nS⟩ : Mg).c nC) := (A5.set 2 (by omega) (.string ss)).congr (to16 rfl rfl rfl rfl rfl rfl rfl rfl rfl rfl rfl rfl rfl rfl rfl rfl)
  replace A4 : Arr (W5.setCell ⟨b5, 2, none⟩ (.string ss)) _ 16 _ := A4.other (b' := b5) (by omega) _
  replace hB : Below w.heap.size w (W5.setCell ⟨b5, 2, none⟩ (.string ss)) := Bel.st hB (by omega) _
  generalize W5.setCell ⟨b5, 2, none⟩ (.string ss) = W6 at *
  refine wp_region_list ?_
  refine hR.wld tM A5 0 (by omega) (fun j _ => by rw [Nat.zero_add]) (by rfl) (.tmp 5) (by rfl) (by rfl) ?_
  refine hR.wst tM A4 (by rfl) (.tmp 4) (.tmp 150) (by rfl) (by rfl) (by rfl) ?_
  refine wpList_nil ?_
  replace A4 := hR.set A4
  replace hB := below_setCells hB (b := w.heap.size) (by omega) R 0
  generalize W6.setCells w.heap.size 0 R = WE at *
  go_wp2_with fail
  exact bodyPost_ret (results_cell1 rfl _ rfl (hR.ld tM A4 0 (by omega) (fun j _ => by rw [Nat.zero_add]))) rfl ⟨rfl, hB⟩
set_option maxHeartbeats 2000000 in
theorem rguess_1y (s X0 X1 X2 X3 X X4 X5 Y M Y2 Y3 Y4 Y5 M2 rn ss nm al sh : ByteArray) (w : World)
    (C1 : ∀ W, Calls Tryz.prog 59 #[.string s, .int .i64 2] W fun e w' => e = .returned (.string X0) ∧ Below W.heap.size W w')
    (C2 : ∀ W, Calls Tryz.prog 58 #[.string X0, .int .i64 32] W fun e w' => e = .returned (.string rn) ∧ Below W.heap.size W w')
    (C3 : ∀ W, Calls Tryz.prog 59 #[.string s, .int .i64 34] W fun e w' => e = .returned (.string X1) ∧ Below W.heap.size W w')
    (C4 : ∀ W, Calls Tryz.prog 60 #[.int .i64 1, .string X1] W fun e w' => e = .returned (.tuple #[.string ss, .string X2]) ∧ Below W.heap.size W w')
    (C5 : ∀ W, Calls Tryz.prog 59 #[.string X2, .int .i64 6] W fun e w' => e = .returned (.string X3) ∧ Below W.heap.size W w')
    (C6 : ∀ W, Calls Tryz.prog 60 #[.int .i64 2, .string X3] W fun e w' => e = .returned (.tuple #[.string X, .string X4]) ∧ Below W.heap.size W w')
    (C7 : ∀ W, Calls Tryz.prog 59 #[.string X, .int .i64 2] W fun e w' => e = .returned (.string X5) ∧ Below W.heap.size W w')
    (C8 : ∀ W, Calls Tryz.prog 60 #[.int .i64 2, .string X5] W fun e w' => e = .returned (.tuple #[.string Y, .string M]) ∧ Below W.heap.size W w')
    (C9 : ∀ W, Calls Tryz.prog 60 #[.int .i64 2, .string Y] W fun e w' => e = .returned (.tuple #[.string Y2, .string Y3]) ∧ Below W.heap.size W w')
    (C10 : ∀ W, Calls Tryz.prog 59 #[.string Y2, .int .i64 1] W fun e w' => e = .returned (.string Y4) ∧ Below W.heap.size W w')
    (C11 : ∀ W, Calls Tryz.prog 60 #[.int .i64 2, .string Y4] W fun e w' => e = .returned (.tuple #[.string nm, .string Y5]) ∧ Below W.heap.size W w')
    (C12 : ∀ W, Calls Tryz.prog 59 #[.string M, .int .i64 16] W fun e w' => e = .returned (.string M2) ∧ Below W.heap.size W w')
    (C13 : ∀ W, Calls Tryz.prog 61 #[.string M2] W fun e w' => e = .returned (.string al) ∧ Below W.heap.size W w')
    (h32 : (32 : Int) ≤ (X.size : Int)) (hm : (X.size : Int) ≤ 1000000)
    (S1 : ∀ W, (Instr.slice 9 (.string X) (some (.int .i64 ((X.size : Int) - 32))) none none).run Tryz.prog W = .ok (.string sh) W) :
    Calls Tryz.prog 29 #[.int .i64 1, .string s] w fun e w' => e = .returned ((⟨1, rn, ss, sh, nm, al, [], 0, 0, nS⟩ : Mg).v nC) ∧ Below w.heap.size w w' := by
  have hN := kL_cells 1
  have hR := (⟨1, rn, ss, sh, nm, al, [], 0, 0, nS⟩ : Mg).cells nC rfl
  rw [Mg.v_l]
  generalize (⟨1, rn, ss, sh, nm, al, [], 0, 0, nS⟩ : Mg).l nC = R at hR ⊢
  go_enter Tryz.func29, Tryz.ntmps29
  go_upto_region 1 with (fail)
  have A4 := newZ w _ rfl
  have hB : Below w.heap.size w (w.alloc (.cells z16 29)) := by go_grown
  have z4 := Arr.lt (n := 15) A4
  generalize w.alloc (.cells z16 29) = W at *
  refine wp_region_list ?_
  refine wpList_plain (by rfl) fun K1 hK1 => ?_
  have H1 : Hid _ := hK1
  clear hK1
  go_wp2_with fail
  refine H1.out _ _ ?_
  clear H1
  refine wpList_plain (by rfl) fun K1 hK1 => ?_
  have H1 : Hid _ := hK1
  clear hK1
  go_wp2_with fail
  refine H1.out _ _ ?_
  clear H1
  refine wpList_plain (by rfl) fun K1 hK1 => ?_
  have H1 : Hid _ := hK1
  clear hK1
  go_wp2_with fail
  refine H1.out _ _ ?_
  clear H1
  have A5 := newZ W _ rfl
  refine hN.wst tM A5 (by rfl) (.tmp 5) (.tmp 21) (by rfl) (by rfl) (by rfl) ?_
  refine wpList_nil ?_
  replace A5 := hN.set A5
  replace A4 : Arr _ _ 16 _ := (A4.al' (n := 15) (.cells z16 29)).setso (b' := W.heap.size) (by omega) (kL 1) 0
  have hz := hB.size
  replace hB := below_setCells (Bel.al hB (.cells z16 29)) (b := W.heap.size) hz (kL 1) 0
  have n1 : w.heap.size ≠ W.heap.size := by omega
  have n2 : w.heap.size < W.heap.size := by omega
  generalize (W.alloc (.cells z16 29)).setCells W.heap.size 0 (kL 1) = W0 at *
  generalize W.heap.size = b5 at *
  go_wp2_with fail
  refine (C1 _).mono ?_
  rintro e W1 ⟨rfl, hb⟩
  replace A4 : Arr _ _ 16 _ := A4.to' (n := 15) hb
  replace A5 : Arr _ _ 16 _ := A5.to' (n := 15) hb
  replace hB := Bel.call hB hb
  clear hb
  go_wp2_with fail
  refine (C2 _).mono ?_
  rintro e W2 ⟨rfl, hb⟩
  replace A4 : Arr _ _ 16 _ := A4.to' (n := 15) hb
  replace A5 : Arr _ _ 16 _ := A5.to' (n := 15) hb
  replace hB := Bel.call hB hb
  clear hb
  have c := A5.c 1 (by omega)
  have z := A5.z 1 (by omega)
  go_wp2_with fail
  clear c z
  replace A5 : Arr (W2.setCell ⟨b5, 1, none⟩ (.string rn)) b5 16 ((⟨1, rn, nS, nS, nS, nS, [], 0, 0, nS⟩ : Mg).c nC) := (A5.set 1 (by omega) (.string rn)).congr (to16 rfl rfl rfl rfl rfl rfl rfl rfl rfl rfl rfl rfl rfl rfl rfl rfl)
  replace A4 : Arr (W2.setCell ⟨b5, 1, none⟩ (.string rn)) _ 16 _ := A4.other (b' := b5) (by omega) _
  replace hB : Below w.heap.size w (W2.setCell ⟨b5, 1, none⟩ (.string rn)) := Bel.st hB (by omega) _
  generalize W2.setCell ⟨b5, 1, none⟩ (.string rn) = W3 at *
  refine (C3 _).mono ?_
  rintro e W4 ⟨rfl, hb⟩
  replace A4 : Arr _ _ 16 _ := A4.to' (n := 15) hb
  replace A5 : Arr _ _ 16 _ := A5.to' (n := 15) hb
  replace hB := Bel.call hB hb
  clear hb
  go_wp2_with fail
  refine (C4 _).mono ?_
  rintro e W5 ⟨rfl, hb⟩
  replace A4 : Arr _ _ 16 _ := A4.to' (n := 15) hb
  replace A5 : Arr _ _ 16 _ := A5.to' (n := 15) hb
  replace hB := Bel.call hB hb
  clear hb
  have c := A5.c 2 (by omega)
  have z := A5.z 2 (by omega)
  go_wp2_with fail
  clear c z
  replace A5 : Arr (W5.setCell ⟨b5, 2, none⟩ (.string ss)) b5 16 ((⟨1, rn, ss, nS, nS, nS, [], 0, 0, nS⟩ : Mg).c nC) := (A5.set 2 (by omega) (.string ss)).congr (to16 rfl rfl rfl rfl rfl rfl rfl rfl rfl rfl rfl rfl rfl rfl rfl rfl)
  replace A4 : Arr (W5.setCell ⟨b5, 2, none⟩ (.string ss)) _ 16 _ := A4.other (b' := b5) (by omega) _
  replace hB : Below w.heap.size w (W5.setCell ⟨b5, 2, none⟩ (.string ss)) := Bel.st hB (by omega) _
  generalize W5.setCell ⟨b5, 2, none⟩ (.string ss) = W6 at *
  refine (C5 _).mono ?_
  rintro e W7 ⟨rfl, hb⟩
  replace A4 : Arr _ _ 16 _ := A4.to' (n := 15) hb
  replace A5 : Arr _ _ 16 _ := A5.to' (n := 15) hb
  replace hB := Bel.call hB hb
  clear hb
  go_wp2_with fail
  refine (C6 _).mono ?_
  rintro e W8 ⟨rfl, hb⟩
  replace A4 : Arr _ _ 16 _ := A4.to' (n := 15) hb
  replace A5 : Arr _ _ 16 _ := A5.to' (n := 15) hb
  replace hB := Bel.call hB hb
  clear hb
  go_wp2_with fail
  refine (C7 _).mono ?_
  rintro e W9 ⟨rfl, hb⟩
  replace A4 : Arr _ _ 16 _ := A4.to' (n := 15) hb
  replace A5 : Arr _ _ 16 _ := A5.to' (n := 15) hb
  replace hB := Bel.call hB hb
  clear hb
  go_wp2_with fail
  refine (C8 _).mono ?_
  rintro e W10 ⟨rfl, hb⟩
  replace A4 : Arr _ _ 16 _ := A4.to' (n := 15) hb
  replace A5 : Arr _ _ 16 _ := A5.to' (n := 15) hb
  replace hB := Bel.call hB hb
  clear hb
  go_wp2_with fail
  refine (C9 _).mono ?_
  rintro e W11 ⟨rfl, hb⟩
  replace A4 : Arr _ _ 16 _ := A4.to' (n := 15) hb
  replace A5 : Arr _ _ 16 _ := A5.to' (n := 15) hb
  replace hB := Bel.call hB hb
  clear hb
  go_wp2_with fail
  refine (C10 _).mono ?_
  rintro e W12 ⟨rfl, hb⟩
  replace A4 : Arr _ _ 16 _ := A4.to' (n := 15) hb
  replace A5 : Arr _ _ 16 _ := A5.to' (n := 15) hb
  replace hB := Bel.call hB hb
  clear hb
  go_wp2_with fail
  refine (C11 _).mono ?_
  rintro e W13 ⟨rfl, hb⟩
  replace A4 : Arr _ _ 16 _ := A4.to' (n := 15) hb
  replace A5 : Arr _ _ 16 _ := A5.to' (n := 15) hb
  replace hB := Bel.call hB hb
  clear hb
  have c := A5.c 4 (by omega)
  have z := A5.z 4 (by omega)
  go_wp2_with fail
  clear c z
  replace A5 : Arr (W13.setCell ⟨b5, 4, none⟩ (.string nm)) b5 16 ((⟨1, rn, ss, nS, nm, nS, [], 0, 0, nS⟩ : Mg).c nC) := (A5.set 4 (by omega) (.string nm)).congr (to16 rfl rfl rfl rfl rfl rfl rfl rfl rfl rfl rfl rfl rfl rfl rfl rfl)
  replace A4 : Arr (W13.setCell ⟨b5, 4, none⟩ (.string nm)) _ 16 _ := A4.other (b' := b5) (by omega) _
  replace hB : Below w.heap.size w (W13.setCell ⟨b5, 4, none⟩ (.string nm)) := Bel.st hB (by omega) _
  generalize W13.setCell ⟨b5, 4, none⟩ (.string nm) = W14 at *
  refine (C12 _).mono ?_
  rintro e W15 ⟨rfl, hb⟩
  replace A4 : Arr _ _ 16 _ := A4.to' (n := 15) hb
  replace A5 : Arr _ _ 16 _ := A5.to' (n := 15) hb
  replace hB := Bel.call hB hb
  clear hb
  go_wp2_with fail
  refine (C13 _).mono ?_
  rintro e W16 ⟨rfl, hb⟩
  replace A4 : Arr _ _ 16 _ := A4.to' (n := 15) hb
  replace A5 : Arr _ _ 16 _ := A5.to' (n := 15) hb
  replace hB := Bel.call hB hb
  clear hb
  have c := A5.c 5 (by omega)
  have z := A5.z 5 (by omega)
  go_upto_region 12 with (fail)
  clear c z
  replace A5 : Arr (W16.setCell ⟨b5, 5, none⟩ (.string al)) b5 16 ((⟨1, rn, ss, nS, nm, al, [], 0, 0, nS⟩ : Mg).c nC) := (A5.set 5 (by omega) (.string al)).congr (to16 rfl rfl rfl rfl rfl rfl rfl rfl rfl rfl rfl rfl rfl rfl rfl rfl)
  replace A4 : Arr (W16.setCell ⟨b5, 5, none⟩ (.string al)) _ 16 _ := A4.other (b' := b5) (by omega) _
  replace hB : Below w.heap.size w (W16.setCell ⟨b5, 5, none⟩ (.string al)) := Bel.st hB (by omega) _
  generalize W16.setCell ⟨b5, 5, none⟩ (.string al) = W17 at *
  have c := A5.c 3 (by omega)
  have z := A5.z 3 (by omega)
  go_upto_region 33 with (fail)
  clear c z
  replace A5 : Arr (W17.setCell ⟨b5, 3, none⟩ (.string sh)) b5 16 ((⟨1, rn, ss, sh, nm, al, [], 0, 0, nS⟩ : Mg).c nC) := (A5.set 3 (by omega) (.string sh)).congr (to16 rfl rfl rfl rfl rfl rfl rfl rfl rfl rfl rfl rfl rfl rfl rfl rfl)
  replace A4 : Arr (W17.setCell ⟨b5, 3, none⟩ (.string sh)) _ 16 _ := A4.other (b' := b5) (by omega) _
  replace hB : Below w.heap.size w (W17.setCell ⟨b5, 3, none⟩ (.string sh)) := Bel.st hB (by omega) _
  generalize W17.setCell ⟨b5, 3, none⟩ (.string sh) = W18 at *
  refine wp_region_list ?_
  refine hR.wld tM A5 0 (by omega) (fun j _ => by rw [Nat.zero_add]) (by rfl) (.tmp 5) (by rfl) (by rfl) ?_
  refine hR.wst tM A4 (by rfl) (.tmp 4) (.tmp 150) (by rfl) (by rfl) (by rfl) ?_
  refine wpList_nil ?_
  replace A4 := hR.set A4
  replace hB := below_setCells hB (b := w.heap.size) (by omega) R 0
  generalize W18.setCells w.heap.size 0 R = WE at *
  go_wp2_with fail
  exact bodyPost_ret (results_cell1 rfl _ rfl (hR.ld tM A4 0 (by omega) (fun j _ => by rw [Nat.zero_add]))) rfl ⟨rfl, hB⟩
set_option maxHeartbeats 2000000 in
theorem rguess_1n (s X0 X1 X2 X3 X X4 X5 Y M Y2 Y3 Y4 Y5 M2 rn ss nm al : ByteArray) (w : World)
    (C1 : ∀ W, Calls Tryz.prog 59 #[.string s, .int .i64 2] W fun e w' => e = .returned (.string X0) ∧ Below W.heap.size W w')
    (C2 : ∀ W, Calls Tryz.prog 58 #[.string X0, .int .i64 32] W fun e w' => e = .returned (.string rn) ∧ Below W.heap.size W w')
    (C3 : ∀ W, Calls Tryz.prog 59 #[.string s, .int .i64 34] W fun e w' => e = .returned (.string X1) ∧ Below W.heap.size W w')
    (C4 : ∀ W, Calls Tryz.prog 60 #[.int .i64 1, .string X1] W fun e w' => e = .returned (.tuple #[.string ss, .string X2]) ∧ Below W.heap.size W w')
    (C5 : ∀ W, Calls Tryz.prog 59 #[.string X2, .int .i64 6] W fun e w' => e = .returned (.string X3) ∧ Below W.heap.size W w')
    (C6 : ∀ W, Calls Tryz.prog 60 #[.int .i64 2, .string X3] W fun e w' => e = .returned (.tuple #[.string X, .string X4]) ∧ Below W.heap.size W w')
    (C7 : ∀ W, Calls Tryz.prog 59 #[.string X, .int .i64 2] W fun e w' => e = .returned (.string X5) ∧ Below W.heap.size W w')
    (C8 : ∀ W, Calls Tryz.prog 60 #[.int .i64 2, .string X5] W fun e w' => e = .returned (.tuple #[.string Y, .string M]) ∧ Below W.heap.size W w')
    (C9 : ∀ W, Calls Tryz.prog 60 #[.int .i64 2, .string Y] W fun e w' => e = .returned (.tuple #[.string Y2, .string Y3]) ∧ Below W.heap.size W w')
    (C10 : ∀ W, Calls Tryz.prog 59 #[.string Y2, .int .i64 1] W fun e w' => e = .returned (.string Y4) ∧ Below W.heap.size W w')
    (C11 : ∀ W, Calls Tryz.prog 60 #[.int .i64 2, .string Y4] W fun e w' => e = .returned (.tuple #[.string nm, .string Y5]) ∧ Below W.heap.size W w')
    (C12 : ∀ W, Calls Tryz.prog 59 #[.string M, .int .i64 16] W fun e w' => e = .returned (.string M2) ∧ Below W.heap.size W w')
    (C13 : ∀ W, Calls Tryz.prog 61 #[.string M2] W fun e w' => e = .returned (.string al) ∧ Below W.heap.size W w')
    (h32 : ¬ (32 : Int) ≤ (X.size : Int)) :
    Calls Tryz.prog 29 #[.int .i64 1, .string s] w fun e w' => e = .returned ((⟨1, rn, ss, nS, nm, al, [], 0, 0, nS⟩ : Mg).v nC) ∧ Below w.heap.size w w' := by
  have hN := kL_cells 1
  have hR := (⟨1, rn, ss, nS, nm, al, [], 0, 0, nS⟩ : Mg).cells nC rfl
  rw [Mg.v_l]
  generalize (⟨1, rn, ss, nS, nm, al, [], 0, 0, nS⟩ : Mg).l nC = R at hR ⊢
  go_enter Tryz.func29, Tryz.ntmps29
  go_upto_region 1 with (fail)
  have A4 := newZ w _ rfl
  have hB : Below w.heap.size w (w.alloc (.cells z16 29)) := by go_grown
  have z4 := Arr.lt (n := 15) A4
  generalize w.alloc (.cells z16 29) = W at *
  refine wp_region_list ?_
  refine wpList_plain (by rfl) fun K1 hK1 => ?_
  have H1 : Hid _ := hK1
  clear hK1
  go_wp2_with fail
  refine H1.out _ _ ?_
  clear H1
  refine wpList_plain (by rfl) fun K1 hK1 => ?_
  have H1 : Hid _ := hK1
  clear hK1
  go_wp2_with fail
  refine H1.out _ _ ?_
  clear H1
  refine wpList_plain (by rfl) fun K1 hK1 => ?_
  have H1 : Hid _ := hK1
  clear hK1
  go_wp2_with fail
  refine H1.out _ _ ?_
  clear H1
  have A5 := newZ W _ rfl
  refine hN.wst tM A5 (by rfl) (.tmp 5) (.tmp 21) (by rfl) (by rfl) (by rfl) ?_
  refine wpList_nil ?_
  replace A5 := hN.set A5
  replace A4 : Arr _ _ 16 _ := (A4.al' (n := 15) (.cells z16 29)).setso (b' := W.heap.size) (by omega) (kL 1) 0
  have hz := hB.size
  replace hB := below_setCells (Bel.al hB (.cells z16 29)) (b := W.heap.size) hz (kL 1) 0
  have n1 : w.heap.size ≠ W.heap.size := by omega
  have n2 : w.heap.size < W.heap.size := by omega
  generalize (W.alloc (.cells z16 29)).setCells W.heap.size 0 (kL 1) = W0 at *
  generalize W.heap.size = b5 at *
  go_wp2_with fail
  refine (C1 _).mono ?_
  rintro e W1 ⟨rfl, hb⟩
  replace A4 : Arr _ _ 16 _ := A4.to' (n := 15) hb
  replace A5 : Arr _ _ 16 _ := A5.to' (n := 15) hb
  replace hB := Bel.call hB hb
  clear hb
  go_wp2_with fail
  refine (C2 _).mono ?_
  rintro e W2 ⟨rfl, hb⟩
  replace A4 : Arr _ _ 16 _ := A4.to' (n := 15) hb
  replace A5 : Arr _ _ 16 _ := A5.to' (n := 15) hb
  replace hB := Bel.call hB hb
  clear hb
  have c := A5.c 1 (by omega)
  have z := A5.z 1 (by omega)
  go_wp2_with fail
  clear c z
  replace A5 : Arr (W2.setCell ⟨b5, 1, none⟩ (.string rn)) b5 16 ((⟨1, rn, nS, nS, nS, nS, [], 0, 0, nS⟩ : Mg).c nC) := (A5.set 1 (by omega) (.string rn)).congr (to16 rfl rfl rfl rfl rfl rfl rfl rfl rfl rfl rfl rfl rfl rfl rfl rfl)
  replace A4 : Arr (W2.setCell ⟨b5, 1, none⟩ (.string rn)) _ 16 _ := A4.other (b' := b5) (by omega) _
  replace hB : Below w.heap.size w (W2.setCell ⟨b5, 1, none⟩ (.string rn)) := Bel.st hB (by omega) _
  generalize W2.setCell ⟨b5, 1, none⟩ (.string rn) = W3 at *
  refine (C3 _).mono ?_
  rintro e W4 ⟨rfl, hb⟩
  replace A4 : Arr _ _ 16 _ := A4.to' (n := 15) hb
  replace A5 : Arr _ _ 16 _ := A5.to' (n := 15) hb
  replace hB := Bel.call hB hb
  clear hb
  go_wp2_with fail
  refine (C4 _).mono ?_
  rintro e W5 ⟨rfl, hb⟩
  replace A4 : Arr _ _ 16 _ := A4.to' (n := 15) hb
  replace A5 : Arr _ _ 16 _ := A5.to' (n := 15) hb
  replace hB := Bel.call hB hb
  clear hb
  have c := A5.c 2 (by omega)
  have z := A5.z 2 (by omega)
  go_wp2_with fail
  clear c z
  replace A5 : Arr (W5.setCell ⟨b5, 2, none⟩ (.string ss)) b5 16 ((⟨1, rn, ss, nS, nS, nS, [], 0, 0, nS⟩ : Mg).c nC) := (A5.set 2 (by omega) (.string ss)).congr (to16 rfl rfl rfl rfl rfl rfl rfl rfl rfl rfl rfl rfl rfl rfl rfl rfl)
  replace A4 : Arr (W5.setCell ⟨b5, 2, none⟩ (.string ss)) _ 16 _ := A4.other (b' := b5) (by omega) _
  replace hB : Below w.heap.size w (W5.setCell ⟨b5, 2, none⟩ (.string ss)) := Bel.st hB (by omega) _
  generalize W5.setCell ⟨b5, 2, none⟩ (.string ss) = W6 at *
  refine (C5 _).mono ?_
  rintro e W7 ⟨rfl, hb⟩
  replace A4 : Arr _ _ 16 _ := A4.to' (n := 15) hb
  replace A5 : Arr _ _ 16 _ := A5.to' (n := 15) hb
  replace hB := Bel.call hB hb
  clear hb
  go_wp2_with fail
  refine (C6 _).mono ?_
  rintro e W8 ⟨rfl, hb⟩
  replace A4 : Arr _ _ 16 _ := A4.to' (n := 15) hb
  replace A5 : Arr _ _ 16 _ := A5.to' (n := 15) hb
  replace hB := Bel.call hB hb
  clear hb
  go_wp2_with fail
  refine (C7 _).mono ?_
  rintro e W9 ⟨rfl, hb⟩
  replace A4 : Arr _ _ 16 _ := A4.to' (n := 15) hb
  replace A5 : Arr _ _ 16 _ := A5.to' (n := 15) hb
  replace hB := Bel.call hB hb
  clear hb
  go_wp2_with fail
  refine (C8 _).mono ?_
  rintro e W10 ⟨rfl, hb⟩
  replace A4 : Arr _ _ 16 _ := A4.to' (n := 15) hb
  replace A5 : Arr _ _ 16 _ := A5.to' (n := 15) hb
  replace hB := Bel.call hB hb
  clear hb
  go_wp2_with fail
  refine (C9 _).mono ?_
  rintro e W11 ⟨rfl, hb⟩
  replace A4 : Arr _ _ 16 _ := A4.to' (n := 15) hb
  replace A5 : Arr _ _ 16 _ := A5.to' (n := 15) hb
  replace hB := Bel.call hB hb
  clear hb
  go_wp2_with fail
  refine (C10 _).mono ?_
  rintro e W12 ⟨rfl, hb⟩
  replace A4 : Arr _ _ 16 _ := A4.to' (n := 15) hb
  replace A5 : Arr _ _ 16 _ := A5.to' (n := 15) hb
  replace hB := Bel.call hB hb
  clear hb
  go_wp2_with fail
  refine (C11 _).mono ?_
  rintro e W13 ⟨rfl, hb⟩
  replace A4 : Arr _ _ 16 _ := A4.to' (n := 15) hb
  replace A5 : Arr _ _ 16 _ := A5.to' (n := 15) hb
  replace hB := Bel.call hB hb
  clear hb
  have c := A5.c 4 (by omega)
  have z := A5.z 4 (by omega)
  go_wp2_with fail
  clear c z
  replace A5 : Arr (W13.setCell ⟨b5, 4, none⟩ (.string nm)) b5 16 ((⟨1, rn, ss, nS, nm, nS, [], 0, 0, nS⟩ : Mg).c nC) := (A5.set 4 (by omega) (.string nm)).congr (to16 rfl rfl rfl rfl rfl rfl rfl rfl rfl rfl rfl rfl rfl rfl rfl rfl)
  replace A4 : Arr (W13.setCell ⟨b5, 4, none⟩ (.string nm)) _ 16 _ := A4.other (b' := b5) (by omega) _
  replace hB : Below w.heap.size w (W13.setCell ⟨b5, 4, none⟩ (.string nm)) := Bel.st hB (by omega) _
  generalize W13.setCell ⟨b5, 4, none⟩ (.string nm) = W14 at *
  refine (C12 _).mono ?_
  rintro e W15 ⟨rfl, hb⟩
  replace A4 : Arr _ _ 16 _ := A4.to' (n := 15) hb
  replace A5 : Arr _ _ 16 _ := A5.to' (n := 15) hb
  replace hB := Bel.call hB hb
  clear hb
  go_wp2_with fail
  refine (C13 _).mono ?_
  rintro e W16 ⟨rfl, hb⟩
  replace A4 : Arr _ _ 16 _ := A4.to' (n := 15) hb
  replace A5 : Arr _ _ 16 _ := A5.to' (n := 15) hb
  replace hB := Bel.call hB hb
  clear hb
  have c := A5.c 5 (by omega)
  have z := A5.z 5 (by omega)
  go_upto_region 33 with (fail)
  clear c z
  replace A5 : Arr (W16.setCell ⟨b5, 5, none⟩ (.string al)) b5 16 ((⟨1, rn, ss, nS, nm, al, [], 0, 0, nS⟩ : Mg).c nC) := (A5.set 5 (by omega) (.string al)).congr (to16 rfl rfl rfl rfl rfl rfl rfl rfl rfl rfl rfl rfl rfl rfl rfl rfl)
  replace A4 : Arr (W16.setCell ⟨b5, 5, none⟩ (.string al)) _ 16 _ := A4.other (b' := b5) (by omega) _
  replace hB : Below w.heap.size w (W16.setCell ⟨b5, 5, none⟩ (.string al)) := Bel.st hB (by omega) _
  generalize W16.setCell ⟨b5, 5, none⟩ (.string al) = W17 at *
  refine wp_region_list ?_
  refine hR.wld tM A5 0 (by omega) (fun j _ => by rw [Nat.zero_add]) (by rfl) (.tmp 5) (by rfl) (by rfl) ?_
  refine hR.wst tM A4 (by rfl) (.tmp 4) (.tmp 150) (by rfl) (by rfl) (by rfl) ?_
  refine wpList_nil ?_
  replace A4 := hR.set A4
  replace hB := below_setCells hB (b := w.heap.size) (by omega) R 0
  generalize W17.setCells w.heap.size 0 R = WE at *
  go_wp2_with fail
  exact bodyPost_ret (results_cell1 rfl _ rfl (hR.ld tM A4 0 (by omega) (fun j _ => by rw [Nat.zero_add]))) rfl ⟨rfl, hB⟩
end Go.Proofs.YtjdpeedghpblgaaGreatDoor
