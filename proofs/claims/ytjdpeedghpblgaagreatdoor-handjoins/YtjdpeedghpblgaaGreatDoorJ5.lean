/- The reference: a host's name; a message with nothing but what its kind has. -/
import Derived.Test.YtjdpeedghpblgaaGreatDoorJ4
set_option linter.all false
set_option maxRecDepth 100000
namespace Go.Proofs.YtjdpeedghpblgaaGreatDoor
open Go.RowKit Go.Sort
set_option maxHeartbeats 1000000 in
theorem rhost_any (s : ByteArray) (hs : s.size ≤ maxLen) (w : World) :
    Calls Tryz.prog 31 #[.string s] w fun e w' => e = .returned (.bool (hoB s)) ∧ w' = w := by
  unfold maxLen at hs
  have HH : Hid (∀ r : Bool, r = hoB s → hoB s = r) := fun r h => h.symm
  have HY : Hid ((∀ j, j < s.size → 33 ≤ bt s j ∧ bt s j ≤ 126) → hoB s = (decide (s.size ≠ 0) && decide (s.size ≤ 64))) := fun h => by
    unfold hoB
    by_cases a : s.size ≠ 0 <;> by_cases b : s.size ≤ 64 <;> simp [a, b, h]
    intro j hj
    exact h j hj
  have HN : Hid (∀ j, j < s.size → ¬ (33 ≤ bt s j ∧ bt s j ≤ 126) → hoB s = false) := fun j hj h => by
    unfold hoB
    exact decide_eq_false (fun q => h (q.2.2 j hj))
  go_enter Tryz.func31, Tryz.ntmps31
  go_wp2
  go_loop [3] (fun i => ∃ j : Nat, j ≤ s.size ∧ i = .int .i64 j ∧ Hid (∀ q, q < j → 33 ≤ bt s q ∧ bt s q ≤ 126)) (fun i => s.size - (intOf i).toNat)
  case atStart => exact ⟨0, Nat.zero_le _, rfl, fun q hq => absurd hq (Nat.not_lt_zero _)⟩
  case round =>
    obtain ⟨j, hj, rfl, ht⟩ := hrel
    have j0 : (0 : Int) ≤ (j : Int) := by omega
    by_cases hlt : j < s.size
    · have j1 : (j : Int) < (s.size : Int) := by omega
      have ix := fun W => idxS s j hlt W
      have bd := bt_bd s j
      by_cases h1 : bt s j < 33
      · have RR : Hid (hoB s = false) := HN.out j hlt (by omega)
        generalize bt s j = b at *
        go_wp2
        go_ret
        exact ⟨by rw [RR.out]; rfl, rfl⟩
      · by_cases h2 : 126 < bt s j
        · have RR : Hid (hoB s = false) := HN.out j hlt (by omega)
          generalize bt s j = b at *
          go_wp2
          go_ret
          exact ⟨by rw [RR.out]; rfl, rfl⟩
        · have HT : Hid (∀ q, q < j + 1 → 33 ≤ bt s q ∧ bt s q ≤ 126) := fun q hq => by
            by_cases e : q = j
            · subst e; omega
            · exact ht.out q (by omega)
          clear ht
          generalize bt s j = b at *
          go_wp2
          go_round
          case rel => exact ⟨j + 1, by omega, by go_num, HT⟩
          case measure => simp [intOf]; omega
    · have j1 : ¬ (j : Int) < (s.size : Int) := by omega
      have R := HY.out (fun q hq => ht.out q (by omega))
      by_cases a : s.size = 0
      · have e0 : s = nS := nS_size a
        subst e0
        have RR : Hid (hoB nS = false) := (by show _ = _; rw [R]; rfl)
        clear HY HN HH ht R
        go_wp2
        go_ret
        exact ⟨by rw [RR.out]; rfl, rfl⟩
      · have a2 : (s.toList == []) = false := by
          have := txt_ne (s := s) (t := nS) (fun e => a (by rw [e]; rfl))
          simpa using this
        by_cases b : s.size ≤ 64
        · have b2 : (s.size : Int) ≤ 64 := by omega
          have RR : Hid (hoB s = true) := (by show _ = _; rw [R, decide_eq_true a, decide_eq_true b]; rfl)
          clear HY HN HH ht R
          go_wp2
          go_ret
          exact ⟨by rw [RR.out]; rfl, rfl⟩
        · have b2 : ¬ (s.size : Int) ≤ 64 := by omega
          have RR : Hid (hoB s = false) := (by show _ = _; rw [R, decide_eq_true a, decide_eq_false b]; rfl)
          clear HY HN HH ht R
          go_wp2
          go_ret
          exact ⟨by rw [RR.out]; rfl, rfl⟩
/-- A message with nothing but what its kind has. -/
def onM (m : Mg) : Mg :=
  if m.k = 1 then ⟨1, m.rn, m.ss, m.sh, m.nm, m.al, [], 0, 0, nS⟩
  else if m.k = 2 then ⟨2, m.rn, m.ss, m.sh, nS, nS, [], 0, 0, nS⟩
  else if m.k = 8 then ⟨8, nS, nS, nS, nS, m.al, [], 0, 0, nS⟩
  else if m.k = 11 then ⟨11, nS, nS, nS, nS, nS, m.cs, 0, 0, nS⟩
  else if m.k = 15 then ⟨15, nS, nS, nS, nS, nS, [], m.x, m.y, nS⟩
  else if m.k = 20 then ⟨20, nS, nS, nS, nS, nS, [], 0, 0, m.mc⟩
  else ⟨m.k, nS, nS, nS, nS, nS, [], 0, 0, nS⟩
def onV (m : Mg) (u : Value) : Value := if m.k = 11 then u else nC
theorem lim_0 (k : Nat) : lim 0 k = 0 := by unfold lim; simp
/-- The cells of a message. -/
def Mg.l (m : Mg) (cv : Value) : List Value := [.int .i64 m.k, .string m.rn, .string m.ss, .string m.sh, .string m.nm, .string m.al, cv, .int .u64 (lim m.x 0), .int .u64 (lim m.x 1), .int .u64 (lim m.x 2), .int .u64 (lim m.x 3), .int .u64 (lim m.y 0), .int .u64 (lim m.y 1), .int .u64 (lim m.y 2), .int .u64 (lim m.y 3), .string m.mc]
def Mg.c (m : Mg) (cv : Value) (j : Nat) : Value := (m.l cv).getD j undef
theorem Mg.v_l (m : Mg) (cv : Value) : m.v cv = .agg (m.l cv).toArray := rfl
theorem to16 {P : Nat → Prop} (h0 : P 0) (h1 : P 1) (h2 : P 2) (h3 : P 3) (h4 : P 4) (h5 : P 5) (h6 : P 6) (h7 : P 7) (h8 : P 8) (h9 : P 9) (h10 : P 10) (h11 : P 11) (h12 : P 12) (h13 : P 13) (h14 : P 14) (h15 : P 15) (j : Nat) (hj : j < 16) : P j := by
  have : j = 0 ∨ j = 1 ∨ j = 2 ∨ j = 3 ∨ j = 4 ∨ j = 5 ∨ j = 6 ∨ j = 7 ∨ j = 8 ∨ j = 9 ∨ j = 10 ∨ j = 11 ∨ j = 12 ∨ j = 13 ∨ j = 14 ∨ j = 15 := by omega
  rcases this with rfl | rfl | rfl | rfl | rfl | rfl | rfl | rfl | rfl | rfl | rfl | rfl | rfl | rfl | rfl | rfl <;> assumption
theorem Mg.cells (m : Mg) (cv : Value) (h : cv.oneCell' = true) : Cells (m.l cv) 16 (m.c cv) := by
  refine ⟨rfl, to16 rfl rfl rfl rfl rfl rfl rfl rfl rfl rfl rfl rfl rfl rfl rfl rfl, fun v hv => ?_⟩
  simp only [Mg.l, List.mem_cons, List.not_mem_nil, or_false] at hv
  rcases hv with rfl | rfl | rfl | rfl | rfl | rfl | rfl | rfl | rfl | rfl | rfl | rfl | rfl | rfl | rfl | rfl <;> first | rfl | exact h
/-- The message of nothing. -/
def noM : Mg := ⟨0, nS, nS, nS, nS, nS, [], 0, 0, nS⟩
abbrev z16 : Array Value := #[.int .i64 0, .string nS, .string nS, .string nS, .string nS, .string nS, nC, .int .u64 0, .int .u64 0, .int .u64 0, .int .u64 0, .int .u64 0, .int .u64 0, .int .u64 0, .int .u64 0, .string nS]
theorem lim00 (k : Nat) (hk : k < 4) : Value.int .u64 (lim 0 k) = .int .u64 0 := by rw [lim_0]
theorem noM_is : (noM.l nC).toArray = z16 := by unfold noM Mg.l; simp only [lim_0]
theorem kM_l (k : Int) : ((⟨k, nS, nS, nS, nS, nS, [], 0, 0, nS⟩ : Mg).l nC).toArray = (mL k nS nS nS nS nS nC (fun _ => 0) nS).toArray := by unfold Mg.l mL; simp only [lim_0]
theorem newZ (w : World) (b : Nat) (hb : b = w.heap.size) : Arr (w.alloc (.cells z16 29)) b 16 (noM.c nC) := by
  rw [← noM_is]
  exact (noM.cells nC rfl).new w 29 b hb
abbrev kL (k : Int) : List Value := [.int .i64 k, .string nS, .string nS, .string nS, .string nS, .string nS, nC, .int .u64 0, .int .u64 0, .int .u64 0, .int .u64 0, .int .u64 0, .int .u64 0, .int .u64 0, .int .u64 0, .string nS]
theorem kL_is (k : Int) : kL k = (⟨k, nS, nS, nS, nS, nS, [], 0, 0, nS⟩ : Mg).l nC := by unfold kL Mg.l; simp only [lim_0]
theorem kL_cells (k : Int) : Cells (kL k) 16 ((⟨k, nS, nS, nS, nS, nS, [], 0, 0, nS⟩ : Mg).c nC) := by rw [kL_is]; exact Mg.cells _ nC rfl
set_option maxHeartbeats 2000000 in
theorem ronly_1 (m : Mg) (hk : m.k = 1) (a0 : Option Addr) (n c : Nat) (w : World) :
    Calls Tryz.prog 30 #[m.v (.slice a0 n c)] w fun e w' => e = .returned ((⟨1, m.rn, m.ss, m.sh, m.nm, m.al, [], 0, 0, nS⟩ : Mg).v nC) ∧ Below w.heap.size w w' := by
  have hL := m.cells (.slice a0 n c) rfl
  rw [m.v_l]
  have F0 : m.c (.slice a0 n c) 0 = .int .i64 1 := by show Value.int .i64 m.k = _; rw [hk]
  generalize m.l (.slice a0 n c) = L at hL ⊢
  have hN := kL_cells 1
  have hR := (⟨1, m.rn, m.ss, m.sh, m.nm, m.al, [], 0, 0, nS⟩ : Mg).cells nC rfl
  rw [Mg.v_l]
  have HR : Hid (∀ j, j < 16 → (⟨1, m.rn, m.ss, m.sh, m.nm, m.al, [], 0, 0, nS⟩ : Mg).c nC j = (⟨1, m.rn, m.ss, m.sh, m.nm, m.al, [], 0, 0, nS⟩ : Mg).c nC j) := fun j _ => rfl
  generalize (⟨1, m.rn, m.ss, m.sh, m.nm, m.al, [], 0, 0, nS⟩ : Mg).l nC = R at hR ⊢
  go_enter Tryz.func30, Tryz.ntmps30
  go_upto_region 1 with (fail)
  have A1 : Arr _ _ 16 _ := (hL.new w 29 _ rfl).al' (n := 15) (.cells z16 29)
  have A2 := newZ (w.alloc (.cells L.toArray 29)) (w.heap.size + 1) (by simp)
  have hB : Below w.heap.size w ((w.alloc (.cells L.toArray 29)).alloc (.cells z16 29)) := by go_grown
  generalize (w.alloc (.cells L.toArray 29)).alloc (.cells z16 29) = W at *
  have z1 := Arr.lt (n := 15) A1
  have z2 := Arr.lt (n := 15) A2
  have l0 := A1.cv 0 (by omega) (.int .i64 1) F0
  refine wp_region_list ?_
  refine wpList_plain (by rfl) fun K1 hK1 => ?_
  have H1 : Hid _ := hK1
  clear hK1
  go_wp2_with fail
  refine H1.out _ _ ?_
  clear H1
  refine wpList_plain (by rfl) fun K1 hK1 => ?_
  have H1 : Hid _ := hK1
  clear hK1
  go_wp2_with fail
  refine H1.out _ _ ?_
  clear H1
  refine wpList_plain (by rfl) fun K1 hK1 => ?_
  have H1 : Hid _ := hK1
  clear hK1
  go_wp2_with fail
  refine H1.out _ _ ?_
  clear H1
  refine wpList_plain (by rfl) fun K1 hK1 => ?_
  have H1 : Hid _ := hK1
  clear hK1
  go_wp2_with fail
  refine H1.out _ _ ?_
  clear H1
  have A3 := newZ W _ rfl
  refine hN.wst tM A3 (by rfl) (.tmp 3) (.tmp 6) (by rfl) (by rfl) (by rfl) ?_
  refine wpList_nil ?_
  replace A3 := hN.set A3
  replace A1 : Arr _ _ 16 _ := (A1.al' (n := 15) (.cells z16 29)).setso (b' := W.heap.size) (by omega) (kL 1) 0
  replace A2 : Arr _ _ 16 _ := (A2.al' (n := 15) (.cells z16 29)).setso (b' := W.heap.size) (by omega) (kL 1) 0
  have hz := hB.size
  replace hB := below_setCells (Bel.al hB (.cells z16 29)) (b := W.heap.size) hz (kL 1) 0
  have n1 : w.heap.size ≠ W.heap.size := by omega
  have n2 : W.heap.size ≠ w.heap.size := by omega
  generalize (W.alloc (.cells z16 29)).setCells W.heap.size 0 (kL 1) = W3 at *
  generalize W.heap.size = b3 at *
  clear l0
  have l0 := A1.cv 0 (by omega) (.int .i64 1) F0
  have l1 := A1.cv 1 (by omega) (.string m.rn) rfl
  have l2 := A1.cv 2 (by omega) (.string m.ss) rfl
  have l3 := A1.cv 3 (by omega) (.string m.sh) rfl
  have l4 := A1.cv 4 (by omega) (.string m.nm) rfl
  have l5 := A1.cv 5 (by omega) (.string m.al) rfl
  have f1 := A3.z 1 (by omega)
  have g1 := A3.c 1 (by omega)
  have f2 := A3.z 2 (by omega)
  have g2 := A3.c 2 (by omega)
  have f3 := A3.z 3 (by omega)
  have g3 := A3.c 3 (by omega)
  have f4 := A3.z 4 (by omega)
  have g4 := A3.c 4 (by omega)
  have f5 := A3.z 5 (by omega)
  have g5 := A3.c 5 (by omega)
  go_upto_region 21 with (fail)
  replace A3 : Arr (((((W3.setCell ⟨b3, 1, none⟩ (.string m.rn)).setCell ⟨b3, 2, none⟩ (.string m.ss)).setCell ⟨b3, 3, none⟩ (.string m.sh)).setCell ⟨b3, 4, none⟩ (.string m.nm)).setCell ⟨b3, 5, none⟩ (.string m.al)) b3 16 ((⟨1, m.rn, m.ss, m.sh, m.nm, m.al, [], 0, 0, nS⟩ : Mg).c nC) := (((((A3.set 1 (by omega) (.string m.rn)).set 2 (by omega) (.string m.ss)).set 3 (by omega) (.string m.sh)).set 4 (by omega) (.string m.nm)).set 5 (by omega) (.string m.al)).congr (to16 rfl rfl rfl rfl rfl rfl rfl rfl rfl rfl rfl rfl rfl rfl rfl rfl)
  replace A2 : Arr (((((W3.setCell ⟨b3, 1, none⟩ (.string m.rn)).setCell ⟨b3, 2, none⟩ (.string m.ss)).setCell ⟨b3, 3, none⟩ (.string m.sh)).setCell ⟨b3, 4, none⟩ (.string m.nm)).setCell ⟨b3, 5, none⟩ (.string m.al)) _ 16 _ := (((((A2.other (b' := b3) (by omega) _).other (b' := b3) (by omega) _).other (b' := b3) (by omega) _).other (b' := b3) (by omega) _).other (b' := b3) (by omega) _)
  replace hB : Below w.heap.size w (((((W3.setCell ⟨b3, 1, none⟩ (.string m.rn)).setCell ⟨b3, 2, none⟩ (.string m.ss)).setCell ⟨b3, 3, none⟩ (.string m.sh)).setCell ⟨b3, 4, none⟩ (.string m.nm)).setCell ⟨b3, 5, none⟩ (.string m.al)) := (Bel.st (Bel.st (Bel.st (Bel.st (Bel.st hB (by omega) _) (by omega) _) (by omega) _) (by omega) _) (by omega) _)
  generalize (((((W3.setCell ⟨b3, 1, none⟩ (.string m.rn)).setCell ⟨b3, 2, none⟩ (.string m.ss)).setCell ⟨b3, 3, none⟩ (.string m.sh)).setCell ⟨b3, 4, none⟩ (.string m.nm)).setCell ⟨b3, 5, none⟩ (.string m.al)) = W4 at *
  refine wp_region_list ?_
  refine hR.wld tM A3 0 (by omega) (fun j _ => by rw [Nat.zero_add]) (by rfl) (.tmp 3) (by rfl) (by rfl) ?_
  refine hR.wst tM A2 (by rfl) (.tmp 2) (.tmp 57) (by rfl) (by rfl) (by rfl) ?_
  refine wpList_nil ?_
  replace A2 := hR.set A2
  replace hB := below_setCells hB (b := w.heap.size + 1) (by omega) R 0
  generalize W4.setCells (w.heap.size + 1) 0 R = W5 at *
  go_wp2_with fail
  exact bodyPost_ret (results_cell1 rfl _ rfl (hR.ld tM A2 0 (by omega) (fun j _ => by rw [Nat.zero_add]))) rfl ⟨rfl, hB⟩
set_option maxHeartbeats 2000000 in
theorem ronly_2 (m : Mg) (hk : m.k = 2) (a0 : Option Addr) (n c : Nat) (w : World) :
    Calls Tryz.prog 30 #[m.v (.slice a0 n c)] w fun e w' => e = .returned ((⟨2, m.rn, m.ss, m.sh, nS, nS, [], 0, 0, nS⟩ : Mg).v nC) ∧ Below w.heap.size w w' := by
  have hL := m.cells (.slice a0 n c) rfl
  rw [m.v_l]
  have F0 : m.c (.slice a0 n c) 0 = .int .i64 2 := by show Value.int .i64 m.k = _; rw [hk]
  generalize m.l (.slice a0 n c) = L at hL ⊢
  have hN := kL_cells 2
  have hR := (⟨2, m.rn, m.ss, m.sh, nS, nS, [], 0, 0, nS⟩ : Mg).cells nC rfl
  rw [Mg.v_l]
  have HR : Hid (∀ j, j < 16 → (⟨2, m.rn, m.ss, m.sh, nS, nS, [], 0, 0, nS⟩ : Mg).c nC j = (⟨2, m.rn, m.ss, m.sh, nS, nS, [], 0, 0, nS⟩ : Mg).c nC j) := fun j _ => rfl
  generalize (⟨2, m.rn, m.ss, m.sh, nS, nS, [], 0, 0, nS⟩ : Mg).l nC = R at hR ⊢
  go_enter Tryz.func30, Tryz.ntmps30
  go_upto_region 1 with (fail)
  have A1 : Arr _ _ 16 _ := (hL.new w 29 _ rfl).al' (n := 15) (.cells z16 29)
  have A2 := newZ (w.alloc (.cells L.toArray 29)) (w.heap.size + 1) (by simp)
  have hB : Below w.heap.size w ((w.alloc (.cells L.toArray 29)).alloc (.cells z16 29)) := by go_grown
  generalize (w.alloc (.cells L.toArray 29)).alloc (.cells z16 29) = W at *
  have z1 := Arr.lt (n := 15) A1
  have z2 := Arr.lt (n := 15) A2
  have l0 := A1.cv 0 (by omega) (.int .i64 2) F0
  refine wp_region_list ?_
  refine wpList_plain (by rfl) fun K1 hK1 => ?_
  have H1 : Hid _ := hK1
  clear hK1
  go_wp2_with fail
  refine H1.out _ _ ?_
  clear H1
  refine wpList_plain (by rfl) fun K1 hK1 => ?_
  have H1 : Hid _ := hK1
  clear hK1
  go_wp2_with fail
  refine H1.out _ _ ?_
  clear H1
  refine wpList_plain (by rfl) fun K1 hK1 => ?_
  have H1 : Hid _ := hK1
  clear hK1
  go_wp2_with fail
  refine H1.out _ _ ?_
  clear H1
  refine wpList_plain (by rfl) fun K1 hK1 => ?_
  have H1 : Hid _ := hK1
  clear hK1
  go_wp2_with fail
  refine H1.out _ _ ?_
  clear H1
  have A3 := newZ W _ rfl
  refine hN.wst tM A3 (by rfl) (.tmp 3) (.tmp 6) (by rfl) (by rfl) (by rfl) ?_
  refine wpList_nil ?_
  replace A3 := hN.set A3
  replace A1 : Arr _ _ 16 _ := (A1.al' (n := 15) (.cells z16 29)).setso (b' := W.heap.size) (by omega) (kL 2) 0
  replace A2 : Arr _ _ 16 _ := (A2.al' (n := 15) (.cells z16 29)).setso (b' := W.heap.size) (by omega) (kL 2) 0
  have hz := hB.size
  replace hB := below_setCells (Bel.al hB (.cells z16 29)) (b := W.heap.size) hz (kL 2) 0
  have n1 : w.heap.size ≠ W.heap.size := by omega
  have n2 : W.heap.size ≠ w.heap.size := by omega
  generalize (W.alloc (.cells z16 29)).setCells W.heap.size 0 (kL 2) = W3 at *
  generalize W.heap.size = b3 at *
  clear l0
  have l0 := A1.cv 0 (by omega) (.int .i64 2) F0
  have l1 := A1.cv 1 (by omega) (.string m.rn) rfl
  have l2 := A1.cv 2 (by omega) (.string m.ss) rfl
  have l3 := A1.cv 3 (by omega) (.string m.sh) rfl
  have f1 := A3.z 1 (by omega)
  have g1 := A3.c 1 (by omega)
  have f2 := A3.z 2 (by omega)
  have g2 := A3.c 2 (by omega)
  have f3 := A3.z 3 (by omega)
  have g3 := A3.c 3 (by omega)
  go_upto_region 21 with (fail)
  replace A3 : Arr (((W3.setCell ⟨b3, 1, none⟩ (.string m.rn)).setCell ⟨b3, 2, none⟩ (.string m.ss)).setCell ⟨b3, 3, none⟩ (.string m.sh)) b3 16 ((⟨2, m.rn, m.ss, m.sh, nS, nS, [], 0, 0, nS⟩ : Mg).c nC) := (((A3.set 1 (by omega) (.string m.rn)).set 2 (by omega) (.string m.ss)).set 3 (by omega) (.string m.sh)).congr (to16 rfl rfl rfl rfl rfl rfl rfl rfl rfl rfl rfl rfl rfl rfl rfl rfl)
  replace A2 : Arr (((W3.setCell ⟨b3, 1, none⟩ (.string m.rn)).setCell ⟨b3, 2, none⟩ (.string m.ss)).setCell ⟨b3, 3, none⟩ (.string m.sh)) _ 16 _ := (((A2.other (b' := b3) (by omega) _).other (b' := b3) (by omega) _).other (b' := b3) (by omega) _)
  replace hB : Below w.heap.size w (((W3.setCell ⟨b3, 1, none⟩ (.string m.rn)).setCell ⟨b3, 2, none⟩ (.string m.ss)).setCell ⟨b3, 3, none⟩ (.string m.sh)) := (Bel.st (Bel.st (Bel.st hB (by omega) _) (by omega) _) (by omega) _)
  generalize (((W3.setCell ⟨b3, 1, none⟩ (.string m.rn)).setCell ⟨b3, 2, none⟩ (.string m.ss)).setCell ⟨b3, 3, none⟩ (.string m.sh)) = W4 at *
  refine wp_region_list ?_
  refine hR.wld tM A3 0 (by omega) (fun j _ => by rw [Nat.zero_add]) (by rfl) (.tmp 3) (by rfl) (by rfl) ?_
  refine hR.wst tM A2 (by rfl) (.tmp 2) (.tmp 57) (by rfl) (by rfl) (by rfl) ?_
  refine wpList_nil ?_
  replace A2 := hR.set A2
  replace hB := below_setCells hB (b := w.heap.size + 1) (by omega) R 0
  generalize W4.setCells (w.heap.size + 1) 0 R = W5 at *
  go_wp2_with fail
  exact bodyPost_ret (results_cell1 rfl _ rfl (hR.ld tM A2 0 (by omega) (fun j _ => by rw [Nat.zero_add]))) rfl ⟨rfl, hB⟩
set_option maxHeartbeats 2000000 in
theorem ronly_8 (m : Mg) (hk : m.k = 8) (a0 : Option Addr) (n c : Nat) (w : World) :
    Calls Tryz.prog 30 #[m.v (.slice a0 n c)] w fun e w' => e = .returned ((⟨8, nS, nS, nS, nS, m.al, [], 0, 0, nS⟩ : Mg).v nC) ∧ Below w.heap.size w w' := by
  have hL := m.cells (.slice a0 n c) rfl
  rw [m.v_l]
  have F0 : m.c (.slice a0 n c) 0 = .int .i64 8 := by show Value.int .i64 m.k = _; rw [hk]
  generalize m.l (.slice a0 n c) = L at hL ⊢
  have hN := kL_cells 8
  have hR := (⟨8, nS, nS, nS, nS, m.al, [], 0, 0, nS⟩ : Mg).cells nC rfl
  rw [Mg.v_l]
  have HR : Hid (∀ j, j < 16 → (⟨8, nS, nS, nS, nS, m.al, [], 0, 0, nS⟩ : Mg).c nC j = (⟨8, nS, nS, nS, nS, m.al, [], 0, 0, nS⟩ : Mg).c nC j) := fun j _ => rfl
  generalize (⟨8, nS, nS, nS, nS, m.al, [], 0, 0, nS⟩ : Mg).l nC = R at hR ⊢
  go_enter Tryz.func30, Tryz.ntmps30
  go_upto_region 1 with (fail)
  have A1 : Arr _ _ 16 _ := (hL.new w 29 _ rfl).al' (n := 15) (.cells z16 29)
  have A2 := newZ (w.alloc (.cells L.toArray 29)) (w.heap.size + 1) (by simp)
  have hB : Below w.heap.size w ((w.alloc (.cells L.toArray 29)).alloc (.cells z16 29)) := by go_grown
  generalize (w.alloc (.cells L.toArray 29)).alloc (.cells z16 29) = W at *
  have z1 := Arr.lt (n := 15) A1
  have z2 := Arr.lt (n := 15) A2
  have l0 := A1.cv 0 (by omega) (.int .i64 8) F0
  refine wp_region_list ?_
  refine wpList_plain (by rfl) fun K1 hK1 => ?_
  have H1 : Hid _ := hK1
  clear hK1
  go_wp2_with fail
  refine H1.out _ _ ?_
  clear H1
  refine wpList_plain (by rfl) fun K1 hK1 => ?_
  have H1 : Hid _ := hK1
  clear hK1
  go_wp2_with fail
  refine H1.out _ _ ?_
  clear H1
  refine wpList_plain (by rfl) fun K1 hK1 => ?_
  have H1 : Hid _ := hK1
  clear hK1
  go_wp2_with fail
  refine H1.out _ _ ?_
  clear H1
  refine wpList_plain (by rfl) fun K1 hK1 => ?_
  have H1 : Hid _ := hK1
  clear hK1
  go_wp2_with fail
  refine H1.out _ _ ?_
  clear H1
  have A3 := newZ W _ rfl
  refine hN.wst tM A3 (by rfl) (.tmp 3) (.tmp 6) (by rfl) (by rfl) (by rfl) ?_
  refine wpList_nil ?_
  replace A3 := hN.set A3
  replace A1 : Arr _ _ 16 _ := (A1.al' (n := 15) (.cells z16 29)).setso (b' := W.heap.size) (by omega) (kL 8) 0
  replace A2 : Arr _ _ 16 _ := (A2.al' (n := 15) (.cells z16 29)).setso (b' := W.heap.size) (by omega) (kL 8) 0
  have hz := hB.size
  replace hB := below_setCells (Bel.al hB (.cells z16 29)) (b := W.heap.size) hz (kL 8) 0
  have n1 : w.heap.size ≠ W.heap.size := by omega
  have n2 : W.heap.size ≠ w.heap.size := by omega
  generalize (W.alloc (.cells z16 29)).setCells W.heap.size 0 (kL 8) = W3 at *
  generalize W.heap.size = b3 at *
  clear l0
  have l0 := A1.cv 0 (by omega) (.int .i64 8) F0
  have l5 := A1.cv 5 (by omega) (.string m.al) rfl
  have f5 := A3.z 5 (by omega)
  have g5 := A3.c 5 (by omega)
  go_upto_region 21 with (fail)
  replace A3 : Arr (W3.setCell ⟨b3, 5, none⟩ (.string m.al)) b3 16 ((⟨8, nS, nS, nS, nS, m.al, [], 0, 0, nS⟩ : Mg).c nC) := (A3.set 5 (by omega) (.string m.al)).congr (to16 rfl rfl rfl rfl rfl rfl rfl rfl rfl rfl rfl rfl rfl rfl rfl rfl)
  replace A2 : Arr (W3.setCell ⟨b3, 5, none⟩ (.string m.al)) _ 16 _ := (A2.other (b' := b3) (by omega) _)
  replace hB : Below w.heap.size w (W3.setCell ⟨b3, 5, none⟩ (.string m.al)) := (Bel.st hB (by omega) _)
  generalize (W3.setCell ⟨b3, 5, none⟩ (.string m.al)) = W4 at *
  refine wp_region_list ?_
  refine hR.wld tM A3 0 (by omega) (fun j _ => by rw [Nat.zero_add]) (by rfl) (.tmp 3) (by rfl) (by rfl) ?_
  refine hR.wst tM A2 (by rfl) (.tmp 2) (.tmp 57) (by rfl) (by rfl) (by rfl) ?_
  refine wpList_nil ?_
  replace A2 := hR.set A2
  replace hB := below_setCells hB (b := w.heap.size + 1) (by omega) R 0
  generalize W4.setCells (w.heap.size + 1) 0 R = W5 at *
  go_wp2_with fail
  exact bodyPost_ret (results_cell1 rfl _ rfl (hR.ld tM A2 0 (by omega) (fun j _ => by rw [Nat.zero_add]))) rfl ⟨rfl, hB⟩
set_option maxHeartbeats 2000000 in
theorem ronly_11 (m : Mg) (hk : m.k = 11) (a0 : Option Addr) (n c : Nat) (w : World) :
    Calls Tryz.prog 30 #[m.v (.slice a0 n c)] w fun e w' => e = .returned ((⟨11, nS, nS, nS, nS, nS, m.cs, 0, 0, nS⟩ : Mg).v (.slice a0 n c)) ∧ Below w.heap.size w w' := by
  have hL := m.cells (.slice a0 n c) rfl
  rw [m.v_l]
  have F0 : m.c (.slice a0 n c) 0 = .int .i64 11 := by show Value.int .i64 m.k = _; rw [hk]
  generalize m.l (.slice a0 n c) = L at hL ⊢
  have hN := kL_cells 11
  have hR := (⟨11, nS, nS, nS, nS, nS, m.cs, 0, 0, nS⟩ : Mg).cells (.slice a0 n c) rfl
  rw [Mg.v_l]
  have HR : Hid (∀ j, j < 16 → (⟨11, nS, nS, nS, nS, nS, m.cs, 0, 0, nS⟩ : Mg).c (.slice a0 n c) j = (⟨11, nS, nS, nS, nS, nS, m.cs, 0, 0, nS⟩ : Mg).c (.slice a0 n c) j) := fun j _ => rfl
  generalize (⟨11, nS, nS, nS, nS, nS, m.cs, 0, 0, nS⟩ : Mg).l (.slice a0 n c) = R at hR ⊢
  go_enter Tryz.func30, Tryz.ntmps30
  go_upto_region 1 with (fail)
  have A1 : Arr _ _ 16 _ := (hL.new w 29 _ rfl).al' (n := 15) (.cells z16 29)
  have A2 := newZ (w.alloc (.cells L.toArray 29)) (w.heap.size + 1) (by simp)
  have hB : Below w.heap.size w ((w.alloc (.cells L.toArray 29)).alloc (.cells z16 29)) := by go_grown
  generalize (w.alloc (.cells L.toArray 29)).alloc (.cells z16 29) = W at *
  have z1 := Arr.lt (n := 15) A1
  have z2 := Arr.lt (n := 15) A2
  have l0 := A1.cv 0 (by omega) (.int .i64 11) F0
  refine wp_region_list ?_
  refine wpList_plain (by rfl) fun K1 hK1 => ?_
  have H1 : Hid _ := hK1
  clear hK1
  go_wp2_with fail
  refine H1.out _ _ ?_
  clear H1
  refine wpList_plain (by rfl) fun K1 hK1 => ?_
  have H1 : Hid _ := hK1
  clear hK1
  go_wp2_with fail
  refine H1.out _ _ ?_
  clear H1
  refine wpList_plain (by rfl) fun K1 hK1 => ?_
  have H1 : Hid _ := hK1
  clear hK1
  go_wp2_with fail
  refine H1.out _ _ ?_
  clear H1
  refine wpList_plain (by rfl) fun K1 hK1 => ?_
  have H1 : Hid _ := hK1
  clear hK1
  go_wp2_with fail
  refine H1.out _ _ ?_
  clear H1
  have A3 := newZ W _ rfl
  refine hN.wst tM A3 (by rfl) (.tmp 3) (.tmp 6) (by rfl) (by rfl) (by rfl) ?_
  refine wpList_nil ?_
  replace A3 := hN.set A3
  replace A1 : Arr _ _ 16 _ := (A1.al' (n := 15) (.cells z16 29)).setso (b' := W.heap.size) (by omega) (kL 11) 0
  replace A2 : Arr _ _ 16 _ := (A2.al' (n := 15) (.cells z16 29)).setso (b' := W.heap.size) (by omega) (kL 11) 0
  have hz := hB.size
  replace hB := below_setCells (Bel.al hB (.cells z16 29)) (b := W.heap.size) hz (kL 11) 0
  have n1 : w.heap.size ≠ W.heap.size := by omega
  have n2 : W.heap.size ≠ w.heap.size := by omega
  generalize (W.alloc (.cells z16 29)).setCells W.heap.size 0 (kL 11) = W3 at *
  generalize W.heap.size = b3 at *
  clear l0
  have l0 := A1.cv 0 (by omega) (.int .i64 11) F0
  have l6 := A1.cv 6 (by omega) (.slice a0 n c) rfl
  have f6 := A3.z 6 (by omega)
  have g6 := A3.c 6 (by omega)
  go_upto_region 21 with (fail)
  replace A3 : Arr (W3.setCell ⟨b3, 6, none⟩ (.slice a0 n c)) b3 16 ((⟨11, nS, nS, nS, nS, nS, m.cs, 0, 0, nS⟩ : Mg).c (.slice a0 n c)) := (A3.set 6 (by omega) (.slice a0 n c)).congr (to16 rfl rfl rfl rfl rfl rfl rfl rfl rfl rfl rfl rfl rfl rfl rfl rfl)
  replace A2 : Arr (W3.setCell ⟨b3, 6, none⟩ (.slice a0 n c)) _ 16 _ := (A2.other (b' := b3) (by omega) _)
  replace hB : Below w.heap.size w (W3.setCell ⟨b3, 6, none⟩ (.slice a0 n c)) := (Bel.st hB (by omega) _)
  generalize (W3.setCell ⟨b3, 6, none⟩ (.slice a0 n c)) = W4 at *
  refine wp_region_list ?_
  refine hR.wld tM A3 0 (by omega) (fun j _ => by rw [Nat.zero_add]) (by rfl) (.tmp 3) (by rfl) (by rfl) ?_
  refine hR.wst tM A2 (by rfl) (.tmp 2) (.tmp 57) (by rfl) (by rfl) (by rfl) ?_
  refine wpList_nil ?_
  replace A2 := hR.set A2
  replace hB := below_setCells hB (b := w.heap.size + 1) (by omega) R 0
  generalize W4.setCells (w.heap.size + 1) 0 R = W5 at *
  go_wp2_with fail
  exact bodyPost_ret (results_cell1 rfl _ rfl (hR.ld tM A2 0 (by omega) (fun j _ => by rw [Nat.zero_add]))) rfl ⟨rfl, hB⟩
set_option maxHeartbeats 2000000 in
theorem ronly_15 (m : Mg) (hk : m.k = 15) (a0 : Option Addr) (n c : Nat) (w : World) :
    Calls Tryz.prog 30 #[m.v (.slice a0 n c)] w fun e w' => e = .returned ((⟨15, nS, nS, nS, nS, nS, [], m.x, m.y, nS⟩ : Mg).v nC) ∧ Below w.heap.size w w' := by
  have hL := m.cells (.slice a0 n c) rfl
  rw [m.v_l]
  have F0 : m.c (.slice a0 n c) 0 = .int .i64 15 := by show Value.int .i64 m.k = _; rw [hk]
  generalize m.l (.slice a0 n c) = L at hL ⊢
  have hN := kL_cells 15
  have hR := (⟨15, nS, nS, nS, nS, nS, [], m.x, m.y, nS⟩ : Mg).cells nC rfl
  rw [Mg.v_l]
  have HR : Hid (∀ j, j < 16 → (⟨15, nS, nS, nS, nS, nS, [], m.x, m.y, nS⟩ : Mg).c nC j = (⟨15, nS, nS, nS, nS, nS, [], m.x, m.y, nS⟩ : Mg).c nC j) := fun j _ => rfl
  generalize (⟨15, nS, nS, nS, nS, nS, [], m.x, m.y, nS⟩ : Mg).l nC = R at hR ⊢
  go_enter Tryz.func30, Tryz.ntmps30
  go_upto_region 1 with (fail)
  have A1 : Arr _ _ 16 _ := (hL.new w 29 _ rfl).al' (n := 15) (.cells z16 29)
  have A2 := newZ (w.alloc (.cells L.toArray 29)) (w.heap.size + 1) (by simp)
  have hB : Below w.heap.size w ((w.alloc (.cells L.toArray 29)).alloc (.cells z16 29)) := by go_grown
  generalize (w.alloc (.cells L.toArray 29)).alloc (.cells z16 29) = W at *
  have z1 := Arr.lt (n := 15) A1
  have z2 := Arr.lt (n := 15) A2
  have l0 := A1.cv 0 (by omega) (.int .i64 15) F0
  refine wp_region_list ?_
  refine wpList_plain (by rfl) fun K1 hK1 => ?_
  have H1 : Hid _ := hK1
  clear hK1
  go_wp2_with fail
  refine H1.out _ _ ?_
  clear H1
  refine wpList_plain (by rfl) fun K1 hK1 => ?_
  have H1 : Hid _ := hK1
  clear hK1
  go_wp2_with fail
  refine H1.out _ _ ?_
  clear H1
  refine wpList_plain (by rfl) fun K1 hK1 => ?_
  have H1 : Hid _ := hK1
  clear hK1
  go_wp2_with fail
  refine H1.out _ _ ?_
  clear H1
  refine wpList_plain (by rfl) fun K1 hK1 => ?_
  have H1 : Hid _ := hK1
  clear hK1
  go_wp2_with fail
  refine H1.out _ _ ?_
  clear H1
  have A3 := newZ W _ rfl
  refine hN.wst tM A3 (by rfl) (.tmp 3) (.tmp 6) (by rfl) (by rfl) (by rfl) ?_
  refine wpList_nil ?_
  replace A3 := hN.set A3
  replace A1 : Arr _ _ 16 _ := (A1.al' (n := 15) (.cells z16 29)).setso (b' := W.heap.size) (by omega) (kL 15) 0
  replace A2 : Arr _ _ 16 _ := (A2.al' (n := 15) (.cells z16 29)).setso (b' := W.heap.size) (by omega) (kL 15) 0
  have hz := hB.size
  replace hB := below_setCells (Bel.al hB (.cells z16 29)) (b := W.heap.size) hz (kL 15) 0
  have n1 : w.heap.size ≠ W.heap.size := by omega
  have n2 : W.heap.size ≠ w.heap.size := by omega
  generalize (W.alloc (.cells z16 29)).setCells W.heap.size 0 (kL 15) = W3 at *
  generalize W.heap.size = b3 at *
  clear l0
  have l0 := A1.cv 0 (by omega) (.int .i64 15) F0
  have l17 := A1.cv 7 (by omega) (.int .u64 (lim m.x 0)) rfl
  have l18 := A1.cv 8 (by omega) (.int .u64 (lim m.x 1)) rfl
  have l19 := A1.cv 9 (by omega) (.int .u64 (lim m.x 2)) rfl
  have l20 := A1.cv 10 (by omega) (.int .u64 (lim m.x 3)) rfl
  have l21 := A1.cv 11 (by omega) (.int .u64 (lim m.y 0)) rfl
  have l22 := A1.cv 12 (by omega) (.int .u64 (lim m.y 1)) rfl
  have l23 := A1.cv 13 (by omega) (.int .u64 (lim m.y 2)) rfl
  have l24 := A1.cv 14 (by omega) (.int .u64 (lim m.y 3)) rfl
  have f17 := A3.z 7 (by omega)
  have g17 := A3.c 7 (by omega)
  have f18 := A3.z 8 (by omega)
  have g18 := A3.c 8 (by omega)
  have f19 := A3.z 9 (by omega)
  have g19 := A3.c 9 (by omega)
  have f20 := A3.z 10 (by omega)
  have g20 := A3.c 10 (by omega)
  have f21 := A3.z 11 (by omega)
  have g21 := A3.c 11 (by omega)
  have f22 := A3.z 12 (by omega)
  have g22 := A3.c 12 (by omega)
  have f23 := A3.z 13 (by omega)
  have g23 := A3.c 13 (by omega)
  have f24 := A3.z 14 (by omega)
  have g24 := A3.c 14 (by omega)
  go_upto_region 21 with (fail)
  replace A3 : Arr ((((((((W3.setCell ⟨b3, 7, none⟩ (.int .u64 (lim m.x 0))).setCell ⟨b3, 8, none⟩ (.int .u64 (lim m.x 1))).setCell ⟨b3, 9, none⟩ (.int .u64 (lim m.x 2))).setCell ⟨b3, 10, none⟩ (.int .u64 (lim m.x 3))).setCell ⟨b3, 11, none⟩ (.int .u64 (lim m.y 0))).setCell ⟨b3, 12, none⟩ (.int .u64 (lim m.y 1))).setCell ⟨b3, 13, none⟩ (.int .u64 (lim m.y 2))).setCell ⟨b3, 14, none⟩ (.int .u64 (lim m.y 3))) b3 16 ((⟨15, nS, nS, nS, nS, nS, [], m.x, m.y, nS⟩ : Mg).c nC) := ((((((((A3.set 7 (by omega) (.int .u64 (lim m.x 0))).set 8 (by omega) (.int .u64 (lim m.x 1))).set 9 (by omega) (.int .u64 (lim m.x 2))).set 10 (by omega) (.int .u64 (lim m.x 3))).set 11 (by omega) (.int .u64 (lim m.y 0))).set 12 (by omega) (.int .u64 (lim m.y 1))).set 13 (by omega) (.int .u64 (lim m.y 2))).set 14 (by omega) (.int .u64 (lim m.y 3))).congr (to16 rfl rfl rfl rfl rfl rfl rfl rfl rfl rfl rfl rfl rfl rfl rfl rfl)
  replace A2 : Arr ((((((((W3.setCell ⟨b3, 7, none⟩ (.int .u64 (lim m.x 0))).setCell ⟨b3, 8, none⟩ (.int .u64 (lim m.x 1))).setCell ⟨b3, 9, none⟩ (.int .u64 (lim m.x 2))).setCell ⟨b3, 10, none⟩ (.int .u64 (lim m.x 3))).setCell ⟨b3, 11, none⟩ (.int .u64 (lim m.y 0))).setCell ⟨b3, 12, none⟩ (.int .u64 (lim m.y 1))).setCell ⟨b3, 13, none⟩ (.int .u64 (lim m.y 2))).setCell ⟨b3, 14, none⟩ (.int .u64 (lim m.y 3))) _ 16 _ := ((((((((A2.other (b' := b3) (by omega) _).other (b' := b3) (by omega) _).other (b' := b3) (by omega) _).other (b' := b3) (by omega) _).other (b' := b3) (by omega) _).other (b' := b3) (by omega) _).other (b' := b3) (by omega) _).other (b' := b3) (by omega) _)
  replace hB : Below w.heap.size w ((((((((W3.setCell ⟨b3, 7, none⟩ (.int .u64 (lim m.x 0))).setCell ⟨b3, 8, none⟩ (.int .u64 (lim m.x 1))).setCell ⟨b3, 9, none⟩ (.int .u64 (lim m.x 2))).setCell ⟨b3, 10, none⟩ (.int .u64 (lim m.x 3))).setCell ⟨b3, 11, none⟩ (.int .u64 (lim m.y 0))).setCell ⟨b3, 12, none⟩ (.int .u64 (lim m.y 1))).setCell ⟨b3, 13, none⟩ (.int .u64 (lim m.y 2))).setCell ⟨b3, 14, none⟩ (.int .u64 (lim m.y 3))) := (Bel.st (Bel.st (Bel.st (Bel.st (Bel.st (Bel.st (Bel.st (Bel.st hB (by omega) _) (by omega) _) (by omega) _) (by omega) _) (by omega) _) (by omega) _) (by omega) _) (by omega) _)
  generalize ((((((((W3.setCell ⟨b3, 7, none⟩ (.int .u64 (lim m.x 0))).setCell ⟨b3, 8, none⟩ (.int .u64 (lim m.x 1))).setCell ⟨b3, 9, none⟩ (.int .u64 (lim m.x 2))).setCell ⟨b3, 10, none⟩ (.int .u64 (lim m.x 3))).setCell ⟨b3, 11, none⟩ (.int .u64 (lim m.y 0))).setCell ⟨b3, 12, none⟩ (.int .u64 (lim m.y 1))).setCell ⟨b3, 13, none⟩ (.int .u64 (lim m.y 2))).setCell ⟨b3, 14, none⟩ (.int .u64 (lim m.y 3))) = W4 at *
  refine wp_region_list ?_
  refine hR.wld tM A3 0 (by omega) (fun j _ => by rw [Nat.zero_add]) (by rfl) (.tmp 3) (by rfl) (by rfl) ?_
  refine hR.wst tM A2 (by rfl) (.tmp 2) (.tmp 57) (by rfl) (by rfl) (by rfl) ?_
  refine wpList_nil ?_
  replace A2 := hR.set A2
  replace hB := below_setCells hB (b := w.heap.size + 1) (by omega) R 0
  generalize W4.setCells (w.heap.size + 1) 0 R = W5 at *
  go_wp2_with fail
  exact bodyPost_ret (results_cell1 rfl _ rfl (hR.ld tM A2 0 (by omega) (fun j _ => by rw [Nat.zero_add]))) rfl ⟨rfl, hB⟩
set_option maxHeartbeats 2000000 in
theorem ronly_20 (m : Mg) (hk : m.k = 20) (a0 : Option Addr) (n c : Nat) (w : World) :
    Calls Tryz.prog 30 #[m.v (.slice a0 n c)] w fun e w' => e = .returned ((⟨20, nS, nS, nS, nS, nS, [], 0, 0, m.mc⟩ : Mg).v nC) ∧ Below w.heap.size w w' := by
  have hL := m.cells (.slice a0 n c) rfl
  rw [m.v_l]
  have F0 : m.c (.slice a0 n c) 0 = .int .i64 20 := by show Value.int .i64 m.k = _; rw [hk]
  generalize m.l (.slice a0 n c) = L at hL ⊢
  have hN := kL_cells 20
  have hR := (⟨20, nS, nS, nS, nS, nS, [], 0, 0, m.mc⟩ : Mg).cells nC rfl
  rw [Mg.v_l]
  have HR : Hid (∀ j, j < 16 → (⟨20, nS, nS, nS, nS, nS, [], 0, 0, m.mc⟩ : Mg).c nC j = (⟨20, nS, nS, nS, nS, nS, [], 0, 0, m.mc⟩ : Mg).c nC j) := fun j _ => rfl
  generalize (⟨20, nS, nS, nS, nS, nS, [], 0, 0, m.mc⟩ : Mg).l nC = R at hR ⊢
  go_enter Tryz.func30, Tryz.ntmps30
  go_upto_region 1 with (fail)
  have A1 : Arr _ _ 16 _ := (hL.new w 29 _ rfl).al' (n := 15) (.cells z16 29)
  have A2 := newZ (w.alloc (.cells L.toArray 29)) (w.heap.size + 1) (by simp)
  have hB : Below w.heap.size w ((w.alloc (.cells L.toArray 29)).alloc (.cells z16 29)) := by go_grown
  generalize (w.alloc (.cells L.toArray 29)).alloc (.cells z16 29) = W at *
  have z1 := Arr.lt (n := 15) A1
  have z2 := Arr.lt (n := 15) A2
  have l0 := A1.cv 0 (by omega) (.int .i64 20) F0
  refine wp_region_list ?_
  refine wpList_plain (by rfl) fun K1 hK1 => ?_
  have H1 : Hid _ := hK1
  clear hK1
  go_wp2_with fail
  refine H1.out _ _ ?_
  clear H1
  refine wpList_plain (by rfl) fun K1 hK1 => ?_
  have H1 : Hid _ := hK1
  clear hK1
  go_wp2_with fail
  refine H1.out _ _ ?_
  clear H1
  refine wpList_plain (by rfl) fun K1 hK1 => ?_
  have H1 : Hid _ := hK1
  clear hK1
  go_wp2_with fail
  refine H1.out _ _ ?_
  clear H1
  refine wpList_plain (by rfl) fun K1 hK1 => ?_
  have H1 : Hid _ := hK1
  clear hK1
  go_wp2_with fail
  refine H1.out _ _ ?_
  clear H1
  have A3 := newZ W _ rfl
  refine hN.wst tM A3 (by rfl) (.tmp 3) (.tmp 6) (by rfl) (by rfl) (by rfl) ?_
  refine wpList_nil ?_
  replace A3 := hN.set A3
  replace A1 : Arr _ _ 16 _ := (A1.al' (n := 15) (.cells z16 29)).setso (b' := W.heap.size) (by omega) (kL 20) 0
  replace A2 : Arr _ _ 16 _ := (A2.al' (n := 15) (.cells z16 29)).setso (b' := W.heap.size) (by omega) (kL 20) 0
  have hz := hB.size
  replace hB := below_setCells (Bel.al hB (.cells z16 29)) (b := W.heap.size) hz (kL 20) 0
  have n1 : w.heap.size ≠ W.heap.size := by omega
  have n2 : W.heap.size ≠ w.heap.size := by omega
  generalize (W.alloc (.cells z16 29)).setCells W.heap.size 0 (kL 20) = W3 at *
  generalize W.heap.size = b3 at *
  clear l0
  have l0 := A1.cv 0 (by omega) (.int .i64 20) F0
  have l8 := A1.cv 15 (by omega) (.string m.mc) rfl
  have f8 := A3.z 15 (by omega)
  have g8 := A3.c 15 (by omega)
  go_upto_region 21 with (fail)
  replace A3 : Arr (W3.setCell ⟨b3, 15, none⟩ (.string m.mc)) b3 16 ((⟨20, nS, nS, nS, nS, nS, [], 0, 0, m.mc⟩ : Mg).c nC) := (A3.set 15 (by omega) (.string m.mc)).congr (to16 rfl rfl rfl rfl rfl rfl rfl rfl rfl rfl rfl rfl rfl rfl rfl rfl)
  replace A2 : Arr (W3.setCell ⟨b3, 15, none⟩ (.string m.mc)) _ 16 _ := (A2.other (b' := b3) (by omega) _)
  replace hB : Below w.heap.size w (W3.setCell ⟨b3, 15, none⟩ (.string m.mc)) := (Bel.st hB (by omega) _)
  generalize (W3.setCell ⟨b3, 15, none⟩ (.string m.mc)) = W4 at *
  refine wp_region_list ?_
  refine hR.wld tM A3 0 (by omega) (fun j _ => by rw [Nat.zero_add]) (by rfl) (.tmp 3) (by rfl) (by rfl) ?_
  refine hR.wst tM A2 (by rfl) (.tmp 2) (.tmp 57) (by rfl) (by rfl) (by rfl) ?_
  refine wpList_nil ?_
  replace A2 := hR.set A2
  replace hB := below_setCells hB (b := w.heap.size + 1) (by omega) R 0
  generalize W4.setCells (w.heap.size + 1) 0 R = W5 at *
  go_wp2_with fail
  exact bodyPost_ret (results_cell1 rfl _ rfl (hR.ld tM A2 0 (by omega) (fun j _ => by rw [Nat.zero_add]))) rfl ⟨rfl, hB⟩
theorem ronly_any (m : Mg) (hk : kdB m.k = true) (a0 : Option Addr) (n c : Nat) (w : World) :
    Calls Tryz.prog 30 #[m.v (.slice a0 n c)] w fun e w' => e = .returned ((onM m).v (onV m (.slice a0 n c))) ∧ Below w.heap.size w w' := by
  have hc : m.k = 1 ∨ m.k = 2 ∨ m.k = 8 ∨ m.k = 11 ∨ m.k = 15 ∨ m.k = 20 := by
    unfold kdB at hk
    simp only [Bool.or_eq_true, beq_iff_eq] at hk
    omega
  unfold onM onV
  rcases hc with h | h | h | h | h | h <;> rw [h]
  · exact ronly_1 m h a0 n c w
  · exact ronly_2 m h a0 n c w
  · exact ronly_8 m h a0 n c w
  · exact ronly_11 m h a0 n c w
  · exact ronly_15 m h a0 n c w
  · exact ronly_20 m h a0 n c w
theorem onM_ok (m : Mg) (h : m.ok) : (onM m).ok := by
  unfold onM Mg.ok top256 at *
  repeat' split
  all_goals (first | exact h | (simp only; omega))
theorem onV_txs (m : Mg) (u : Value) {w : World} (h : Txs w u m.cs) (hk : kdB m.k = true) : Txs w (onV m u) (onM m).cs := by
  have hc : m.k = 1 ∨ m.k = 2 ∨ m.k = 8 ∨ m.k = 11 ∨ m.k = 15 ∨ m.k = 20 := by
    unfold kdB at hk
    simp only [Bool.or_eq_true, beq_iff_eq] at hk
    omega
  unfold onV onM
  rcases hc with e | e | e | e | e | e <;> rw [e] <;> first | exact h | exact Or.inl ⟨rfl, rfl⟩
theorem onM_cs (m : Mg) : (onM m).cs = m.cs ∨ (onM m).cs = [] := by
  unfold onM
  repeat' split
  all_goals simp
end Go.Proofs.YtjdpeedghpblgaaGreatDoor
