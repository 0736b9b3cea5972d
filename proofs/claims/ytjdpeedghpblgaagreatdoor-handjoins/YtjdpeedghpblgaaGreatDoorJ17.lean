/- The reference's guess: a signature, certificates. -/
import Derived.Test.YtjdpeedghpblgaaGreatDoorJ16
set_option linter.all false
set_option maxRecDepth 100000
namespace Go.Proofs.YtjdpeedghpblgaaGreatDoor
open Go.RowKit Go.Sort Go.Lib
set_option maxHeartbeats 2000000 in
theorem rguess_15 (s X Y Z : ByteArray) (x y : Int) (w : World)
    (C1 : ∀ W, Calls Tryz.prog 59 #[.string s, .int .i64 2] W fun e w' => e = .returned (.string X) ∧ Below W.heap.size W w')
    (C2 : ∀ W, Calls Tryz.prog 60 #[.int .i64 2, .string X] W fun e w' => e = .returned (.tuple #[.string Y, .string Z]) ∧ Below W.heap.size W w')
    (C3 : ∀ W, Calls Tryz.prog 62 #[.string Y] W fun e w' => e = .returned (.agg #[.int .u64 (lim x 0), .int .u64 (lim x 1), .int .u64 (lim x 2), .int .u64 (lim x 3), .int .u64 (lim y 0), .int .u64 (lim y 1), .int .u64 (lim y 2), .int .u64 (lim y 3)]) ∧ Below W.heap.size W w') :
    Calls Tryz.prog 29 #[.int .i64 15, .string s] w fun e w' => e = .returned ((⟨15, nS, nS, nS, nS, nS, [], x, y, nS⟩ : Mg).v nC) ∧ Below w.heap.size w w' := by
  have hN := kL_cells 15
  have hR := (⟨15, nS, nS, nS, nS, nS, [], x, y, nS⟩ : Mg).cells nC rfl
  rw [Mg.v_l]
  generalize (⟨15, nS, nS, nS, nS, nS, [], x, y, nS⟩ : Mg).l nC = R at hR ⊢
  go_enter Tryz.func29, Tryz.ntmps29
  go_upto_region 1 with (fail)
  have A4 := newZ w _ rfl
  have hB : Below w.heap.size w (w.alloc (.cells z16 29)) := by go_grown
  have z4 := Arr.lt (n := 15) A4
  generalize w.alloc (.cells z16 29) = W at *
  refine wp_region_list ?_
  refine wpList_plain (by rfl) fun K1 hK1 => ?_
  have H1 : Hid _ := hK1
  clear hK1
  go_wp2_with fail
  refine H1.out _ _ ?_
  clear H1
  refine wpList_plain (by rfl) fun K1 hK1 => ?_
  have H1 : Hid _ := hK1
  clear hK1
  go_wp2_with fail
  refine H1.out _ _ ?_
  clear H1
  refine wpList_plain (by rfl) fun K1 hK1 => ?_
  have H1 : Hid _ := hK1
  clear hK1
  go_wp2_with fail
  refine H1.out _ _ ?_
  clear H1
  have A5 := newZ W _ rfl
  refine hN.wst tM A5 (by rfl) (.tmp 5) (.tmp 21) (by rfl) (by rfl) (by rfl) ?_
  refine wpList_nil ?_
  replace A5 := hN.set A5
  replace A4 : Arr _ _ 16 _ := (A4.al' (n := 15) (.cells z16 29)).setso (b' := W.heap.size) (by omega) (kL 15) 0
  have hz := hB.size
  replace hB := below_setCells (Bel.al hB (.cells z16 29)) (b := W.heap.size) hz (kL 15) 0
  have n1 : w.heap.size ≠ W.heap.size := by omega
  have n2 : w.heap.size < W.heap.size := by omega
  generalize (W.alloc (.cells z16 29)).setCells W.heap.size 0 (kL 15) = W0 at *
  generalize W.heap.size = b5 at *
  go_wp2_with fail
  refine (C1 _).mono ?_
  rintro e W1 ⟨rfl, hb⟩
  replace A4 : Arr _ _ 16 _ := A4.to' (n := 15) hb
  replace A5 : Arr _ _ 16 _ := A5.to' (n := 15) hb
  replace hB := Bel.call hB hb
  clear hb
  go_wp2_with fail
  refine (C2 _).mono ?_
  rintro e W2 ⟨rfl, hb⟩
  replace A4 : Arr _ _ 16 _ := A4.to' (n := 15) hb
  replace A5 : Arr _ _ 16 _ := A5.to' (n := 15) hb
  replace hB := Bel.call hB hb
  clear hb
  go_wp2_with fail
  refine (C3 _).mono ?_
  rintro e W3 ⟨rfl, hb⟩
  replace A4 : Arr _ _ 16 _ := A4.to' (n := 15) hb
  replace A5 : Arr _ _ 16 _ := A5.to' (n := 15) hb
  replace hB := Bel.call hB hb
  clear hb
  have c0 := A5.c 7 (by omega)
  have z0 := A5.z 7 (by omega)
  have c1 := A5.c 8 (by omega)
  have z1 := A5.z 8 (by omega)
  have c2 := A5.c 9 (by omega)
  have z2 := A5.z 9 (by omega)
  have c3 := A5.c 10 (by omega)
  have z3 := A5.z 10 (by omega)
  have c4 := A5.c 11 (by omega)
  have z4 := A5.z 11 (by omega)
  have c5 := A5.c 12 (by omega)
  have z5 := A5.z 12 (by omega)
  have c6 := A5.c 13 (by omega)
  have z6 := A5.z 13 (by omega)
  have c7 := A5.c 14 (by omega)
  have z7 := A5.z 14 (by omega)
  go_upto_region 33 with (fail)
  clear c0 z0 c1 z1 c2 z2 c3 z3 c4 z4 c5 z5 c6 z6 c7 z7
  replace A5 : Arr ((((((((W3.setCell ⟨b5, 7, none⟩ (.int .u64 (lim x 0))).setCell ⟨b5, 8, none⟩ (.int .u64 (lim x 1))).setCell ⟨b5, 9, none⟩ (.int .u64 (lim x 2))).setCell ⟨b5, 10, none⟩ (.int .u64 (lim x 3))).setCell ⟨b5, 11, none⟩ (.int .u64 (lim y 0))).setCell ⟨b5, 12, none⟩ (.int .u64 (lim y 1))).setCell ⟨b5, 13, none⟩ (.int .u64 (lim y 2))).setCell ⟨b5, 14, none⟩ (.int .u64 (lim y 3))) b5 16 ((⟨15, nS, nS, nS, nS, nS, [], x, y, nS⟩ : Mg).c nC) := ((((((((A5.set 7 (by omega) (.int .u64 (lim x 0))).set 8 (by omega) (.int .u64 (lim x 1))).set 9 (by omega) (.int .u64 (lim x 2))).set 10 (by omega) (.int .u64 (lim x 3))).set 11 (by omega) (.int .u64 (lim y 0))).set 12 (by omega) (.int .u64 (lim y 1))).set 13 (by omega) (.int .u64 (lim y 2))).set 14 (by omega) (.int .u64 (lim y 3))).congr (to16 rfl rfl rfl rfl rfl rfl rfl rfl rfl rfl rfl rfl rfl rfl rfl rfl)
  replace A4 : Arr ((((((((W3.setCell ⟨b5, 7, none⟩ (.int .u64 (lim x 0))).setCell ⟨b5, 8, none⟩ (.int .u64 (lim x 1))).setCell ⟨b5, 9, none⟩ (.int .u64 (lim x 2))).setCell ⟨b5, 10, none⟩ (.int .u64 (lim x 3))).setCell ⟨b5, 11, none⟩ (.int .u64 (lim y 0))).setCell ⟨b5, 12, none⟩ (.int .u64 (lim y 1))).setCell ⟨b5, 13, none⟩ (.int .u64 (lim y 2))).setCell ⟨b5, 14, none⟩ (.int .u64 (lim y 3))) _ 16 _ := ((((((((A4.other (b' := b5) (by omega) _).other (b' := b5) (by omega) _).other (b' := b5) (by omega) _).other (b' := b5) (by omega) _).other (b' := b5) (by omega) _).other (b' := b5) (by omega) _).other (b' := b5) (by omega) _).other (b' := b5) (by omega) _)
  replace hB : Below w.heap.size w ((((((((W3.setCell ⟨b5, 7, none⟩ (.int .u64 (lim x 0))).setCell ⟨b5, 8, none⟩ (.int .u64 (lim x 1))).setCell ⟨b5, 9, none⟩ (.int .u64 (lim x 2))).setCell ⟨b5, 10, none⟩ (.int .u64 (lim x 3))).setCell ⟨b5, 11, none⟩ (.int .u64 (lim y 0))).setCell ⟨b5, 12, none⟩ (.int .u64 (lim y 1))).setCell ⟨b5, 13, none⟩ (.int .u64 (lim y 2))).setCell ⟨b5, 14, none⟩ (.int .u64 (lim y 3))) := (Bel.st (Bel.st (Bel.st (Bel.st (Bel.st (Bel.st (Bel.st (Bel.st hB (by omega) _) (by omega) _) (by omega) _) (by omega) _) (by omega) _) (by omega) _) (by omega) _) (by omega) _)
  generalize ((((((((W3.setCell ⟨b5, 7, none⟩ (.int .u64 (lim x 0))).setCell ⟨b5, 8, none⟩ (.int .u64 (lim x 1))).setCell ⟨b5, 9, none⟩ (.int .u64 (lim x 2))).setCell ⟨b5, 10, none⟩ (.int .u64 (lim x 3))).setCell ⟨b5, 11, none⟩ (.int .u64 (lim y 0))).setCell ⟨b5, 12, none⟩ (.int .u64 (lim y 1))).setCell ⟨b5, 13, none⟩ (.int .u64 (lim y 2))).setCell ⟨b5, 14, none⟩ (.int .u64 (lim y 3))) = W4 at *
  refine wp_region_list ?_
  refine hR.wld tM A5 0 (by omega) (fun j _ => by rw [Nat.zero_add]) (by rfl) (.tmp 5) (by rfl) (by rfl) ?_
  refine hR.wst tM A4 (by rfl) (.tmp 4) (.tmp 150) (by rfl) (by rfl) (by rfl) ?_
  refine wpList_nil ?_
  replace A4 := hR.set A4
  replace hB := below_setCells hB (b := w.heap.size) (by omega) R 0
  generalize W4.setCells w.heap.size 0 R = WE at *
  go_wp2_with fail
  exact bodyPost_ret (results_cell1 rfl _ rfl (hR.ld tM A4 0 (by omega) (fun j _ => by rw [Nat.zero_add]))) rfl ⟨rfl, hB⟩
theorem Arr.grown {w w' : World} {b n : Nat} {f : Nat → Value} {row : Option Nat} (h : Arr w b n f) (hg : w.grownBy w' row) (hb : b < w.heap.size) (hne : some b ≠ row) : Arr w' b n f := fun j hj => by
  have e := hg.block b hb hne
  have h1 := (h j hj).1
  have h2 := (h j hj).2
  unfold World.cell? at *
  unfold World.frozen? at *
  simp only [e] at *
  exact ⟨h1, h2⟩
/-- Certificates one behind the other, five at most. -/
def gsC : Nat → ByteArray → List ByteArray → List ByteArray
  | 0, _, acc => acc
  | f + 1, x, acc => if x.size = 0 then acc else gsC f (bh (tkR 3 x) 2) (acc ++ [tkA 3 x])
theorem Txs.own {W : World} {b : Nat} {v : Value} {l : List ByteArray} (h : W.ownsRow b 9 1 v l.length (l.map Value.string)) : Txs W v l := by
  have hc := fun g hg => World.ownsRow.cells h (g := g) hg
  rcases h.2 with ⟨h1, h0⟩ | ⟨g, c, cur, h1, _, _, hle, _⟩
  · have e : l = [] := List.eq_nil_of_length_eq_zero h0
    exact Or.inl ⟨h1, e⟩
  · subst h1
    exact Or.inr ⟨_, c, rfl, hle, fun i s hi => hc g rfl i _ (by rw [List.getElem?_map, hi]; rfl)⟩
theorem Txs.own_sets {W : World} {b : Nat} {v : Value} {l : List ByteArray} (h : W.ownsRow b 9 1 v l.length (l.map Value.string)) (d : Nat) (hd : d < b) (o : Nat) (R : List Value) : Txs (W.setCells d o R) v l := by
  have hc := fun g hg => World.ownsRow.cells h (g := g) hg
  have hl := h.lt
  rcases h.2 with ⟨h1, h0⟩ | ⟨g, c, cur, h1, _, _, hle, _⟩
  · have e : l = [] := List.eq_nil_of_length_eq_zero h0
    exact Or.inl ⟨h1, e⟩
  · subst h1
    have hg := (hl g rfl).1
    refine Or.inr ⟨_, c, rfl, hle, fun i s hi => ?_⟩
    have := hc g rfl i _ (by rw [List.getElem?_map, hi]; rfl)
    rw [Addr.add_mid, Nat.zero_add] at *
    rw [cell_sets_other W d g i (by omega)]
    exact this
/-- A row that lies in a block from b on. -/
def Frs (b : Nat) (v : Value) : Prop := ∀ a n c, v = .slice (some a) n c → ∃ g, a = ⟨g, 0, none⟩ ∧ b ≤ g
theorem Frs.nil (b : Nat) : Frs b (.slice none 0 0) := fun a n c h => by cases h
theorem Frs.own {W : World} {b d : Nat} {v : Value} {l : List ByteArray} (h : W.ownsRow b 9 1 v l.length (l.map Value.string)) (hd : d ≤ b) : Frs d v := by
  have hl := h.lt
  rcases h.2 with ⟨h1, h0⟩ | ⟨g, c, cur, h1, _⟩
  · rw [h1]; exact Frs.nil d
  · subst h1
    intro a n c e
    injection e with e1 _ _
    cases e1
    have := (hl g rfl).1
    exact ⟨g, rfl, by omega⟩
theorem gs_less (S : ByteArray) (h : S.size ≠ 0) : (bh (tkR 3 S) 2).size < S.size := by
  have := bh_size (tkR 3 S) 2
  have h2 : (tkR 3 S).size < S.size := by
    unfold tkR
    split
    · rw [ByteArray.size_extract]; omega
    · show 0 < S.size; omega
  omega
theorem grown_setCell (w : World) (b o : Nat) (v : Value) : w.grownBy (w.setCell ⟨b, o, none⟩ v) (some b) := by
  refine ⟨rfl, rfl, rfl, by rw [size_set]; exact Nat.le_refl _, fun k hk hne => ?_⟩
  have : k ≠ b := fun e => hne (by rw [e])
  simp [World.setCell, Array.getElem?_modify, Ne.symm this]
theorem Tryz.infoS : (Tryz.prog.info? 9).map (fun i => (i.zero, i.size, i.bytes)) = some (some (.string nS), 1, 16) := by kernel_rfl
set_option maxHeartbeats 2000000 in
theorem rguess_11 (s X0 X Z : ByteArray) (w : World)
    (C1 : ∀ W, Calls Tryz.prog 59 #[.string s, .int .i64 1] W fun e w' => e = .returned (.string X0) ∧ Below W.heap.size W w')
    (C2 : ∀ W, Calls Tryz.prog 60 #[.int .i64 3, .string X0] W fun e w' => e = .returned (.tuple #[.string X, .string Z]) ∧ Below W.heap.size W w')
    (hX : X.size ≤ 1000000) :
    Calls Tryz.prog 29 #[.int .i64 11, .string s] w fun e w' => (∃ v, e = .returned ((⟨11, nS, nS, nS, nS, nS, gsC 5 X [], 0, 0, nS⟩ : Mg).v v) ∧ Txs w' v (gsC 5 X []) ∧ Frs w.heap.size v) ∧ Below w.heap.size w w' := by
  have hN := kL_cells 11
  go_enter Tryz.func29, Tryz.ntmps29
  go_upto_region 1 with (fail)
  have A4 := newZ w _ rfl
  have hB : Below w.heap.size w (w.alloc (.cells z16 29)) := by go_grown
  have z4 := Arr.lt (n := 15) A4
  generalize w.alloc (.cells z16 29) = W at *
  refine wp_region_list ?_
  refine wpList_plain (by rfl) fun K1 hK1 => ?_
  have H1 : Hid _ := hK1
  clear hK1
  go_wp2_with fail
  refine H1.out _ _ ?_
  clear H1
  refine wpList_plain (by rfl) fun K1 hK1 => ?_
  have H1 : Hid _ := hK1
  clear hK1
  go_wp2_with fail
  refine H1.out _ _ ?_
  clear H1
  refine wpList_plain (by rfl) fun K1 hK1 => ?_
  have H1 : Hid _ := hK1
  clear hK1
  go_wp2_with fail
  refine H1.out _ _ ?_
  clear H1
  have A5 := newZ W _ rfl
  refine hN.wst tM A5 (by rfl) (.tmp 5) (.tmp 21) (by rfl) (by rfl) (by rfl) ?_
  refine wpList_nil ?_
  replace A5 := hN.set A5
  replace A4 : Arr _ _ 16 _ := (A4.al' (n := 15) (.cells z16 29)).setso (b' := W.heap.size) (by omega) (kL 11) 0
  have hz := hB.size
  replace hB := below_setCells (Bel.al hB (.cells z16 29)) (b := W.heap.size) hz (kL 11) 0
  have n1 : w.heap.size ≠ W.heap.size := by omega
  have n2 : w.heap.size < W.heap.size := by omega
  generalize (W.alloc (.cells z16 29)).setCells W.heap.size 0 (kL 11) = W0 at *
  generalize W.heap.size = b5 at *
  go_wp2_with fail
  refine (C1 _).mono ?_
  rintro e W1 ⟨rfl, hb⟩
  replace A4 : Arr _ _ 16 _ := A4.to' (n := 15) hb
  replace A5 : Arr _ _ 16 _ := A5.to' (n := 15) hb
  replace hB := Bel.call hB hb
  clear hb
  go_wp2_with fail
  refine (C2 _).mono ?_
  rintro e W2 ⟨rfl, hb⟩
  replace A4 : Arr _ _ 16 _ := A4.to' (n := 15) hb
  replace A5 : Arr _ _ 16 _ := A5.to' (n := 15) hb
  replace hB := Bel.call hB hb
  clear hb
  clear C1 C2
  obtain ⟨i0, hi, hz0, hz1, hz2⟩ := info_parts Tryz.infoS
  have z5 := Arr.lt (n := 15) A5
  have own0 : W2.ownsRow (b5 + 1) 9 1 (.slice none 0 0) 0 (([] : List ByteArray).map Value.string) := ⟨rfl, .inl ⟨rfl, rfl⟩⟩
  obtain ⟨R, hR⟩ : ∃ R, gsC 5 X [] = R := ⟨_, rfl⟩
  have HR : Hid (gsC 5 X [] = R) := hR
  have HG0 : Hid (gsC (5 - ([] : List ByteArray).length) X [] = R) := hR
  clear hR
  go_wp2_with fail
  go_loopw [14] (fun x wr => ∃ (S : ByteArray) (L : List ByteArray) (v : Value), x = .string S ∧ S.size ≤ 1000000 ∧ L.length ≤ 5 ∧ Hid (gsC (5 - L.length) S L = R) ∧ wr.ownsRow (b5 + 1) 9 1 v L.length (L.map Value.string) ∧ Arr wr b5 16 ((⟨11, nS, nS, nS, nS, nS, L, 0, 0, nS⟩ : Mg).c v) ∧ Arr wr w.heap.size 16 (noM.c nC) ∧ Below w.heap.size w wr)
    (fun x _ => szOf x)
  case atStart => exact ⟨X, [], _, rfl, hX, by decide, HG0, own0, A5, A4, hB⟩
  case round =>
    clear own0 HG0 hX A5 A4 hB z5
    obtain ⟨S, L, v, rfl, hS, hL, hG, hown, A5, A4, hB⟩ := hrel
    obtain ⟨ao, cv, hv⟩ := own_frm hown
    subst hv
    have z5 := Arr.lt (n := 15) A5
    have l6 := A5.cv 6 (by omega) (.slice ao L.length cv) rfl
    have fin : (S.size = 0 ∨ L.length = 5) → gsC 5 X [] = L := fun h => by
      rw [HR.out, ← hG.out]
      rcases h with h | h
      · cases 5 - L.length with
        | zero => rfl
        | succ f => rw [gsC, if_pos h]
      · rw [h]; rfl
    have HO : Hid (∀ R', Txs (wr.setCells w.heap.size 0 R') (.slice ao L.length cv) L) := fun R' => Txs.own_sets hown w.heap.size (by omega) 0 R'
    have HF : Hid (Frs w.heap.size (.slice ao L.length cv)) := Frs.own hown (by omega)
    by_cases h0 : S.size = 0
    · have HE : Hid (gsC 5 X [] = L) := fin (Or.inl h0)
      have e := nS_size h0
      subst e
      have hR' := (⟨11, nS, nS, nS, nS, nS, L, 0, 0, nS⟩ : Mg).cells (.slice ao L.length cv) rfl
      have HV' : Hid ((⟨11, nS, nS, nS, nS, nS, L, 0, 0, nS⟩ : Mg).v (.slice ao L.length cv) = .agg ((⟨11, nS, nS, nS, nS, nS, L, 0, 0, nS⟩ : Mg).l (.slice ao L.length cv)).toArray) := rfl
      generalize (⟨11, nS, nS, nS, nS, nS, L, 0, 0, nS⟩ : Mg).l (.slice ao L.length cv) = R' at *
      clear fin hG hown
      go_upto_region 33 with (fail)
      clear l6
      refine wp_region_list ?_
      refine hR'.wld tM A5 0 (by omega) (fun j _ => by rw [Nat.zero_add]) (by rfl) (.tmp 5) (by rfl) (by rfl) ?_
      refine hR'.wst tM A4 (by rfl) (.tmp 4) (.tmp 150) (by rfl) (by rfl) (by rfl) ?_
      refine wpList_nil ?_
      have HT := HO.out R'
      replace A4 := hR'.set A4
      replace hB := below_setCells hB (b := w.heap.size) (by omega) R' 0
      generalize wr.setCells w.heap.size 0 R' = WE at *
      go_wp2_with fail
      refine bodyPost_ret (results_cell1 rfl _ rfl (hR'.ld tM A4 0 (by omega) (fun j _ => by rw [Nat.zero_add]))) rfl ⟨⟨.slice ao L.length cv, ?_, ?_, HF.out⟩, hB⟩
      · rw [HE.out, Mg.v_l]
        rw [Mg.v_l] at HV'
        exact congrArg Ending.returned HV'.out.symm
      · rw [HE.out]; exact HT
    · have h1 : (S.toList == []) = false := by simpa using txt_ne (s := S) (t := nS) (fun e => h0 (by rw [e]; rfl))
      by_cases h5 : L.length = 5
      · have HE : Hid (gsC 5 X [] = L) := fin (Or.inr h5)
        have h5' : ¬ ((L.length : Nat) : Int) ≤ 4 := by omega
        have hR' := (⟨11, nS, nS, nS, nS, nS, L, 0, 0, nS⟩ : Mg).cells (.slice ao L.length cv) rfl
        have HV' : Hid ((⟨11, nS, nS, nS, nS, nS, L, 0, 0, nS⟩ : Mg).v (.slice ao L.length cv) = .agg ((⟨11, nS, nS, nS, nS, nS, L, 0, 0, nS⟩ : Mg).l (.slice ao L.length cv)).toArray) := rfl
        generalize (⟨11, nS, nS, nS, nS, nS, L, 0, 0, nS⟩ : Mg).l (.slice ao L.length cv) = R' at *
        clear fin hG hown
        go_upto_region 33 with (fail)
        clear l6
        refine wp_region_list ?_
        refine hR'.wld tM A5 0 (by omega) (fun j _ => by rw [Nat.zero_add]) (by rfl) (.tmp 5) (by rfl) (by rfl) ?_
        refine hR'.wst tM A4 (by rfl) (.tmp 4) (.tmp 150) (by rfl) (by rfl) (by rfl) ?_
        refine wpList_nil ?_
        have HT := HO.out R'
        replace A4 := hR'.set A4
        replace hB := below_setCells hB (b := w.heap.size) (by omega) R' 0
        generalize wr.setCells w.heap.size 0 R' = WE at *
        go_wp2_with fail
        refine bodyPost_ret (results_cell1 rfl _ rfl (hR'.ld tM A4 0 (by omega) (fun j _ => by rw [Nat.zero_add]))) rfl ⟨⟨.slice ao L.length cv, ?_, ?_, HF.out⟩, hB⟩
        · rw [HE.out, Mg.v_l]
          rw [Mg.v_l] at HV'
          exact congrArg Ending.returned HV'.out.symm
        · rw [HE.out]; exact HT
      · have h5' : ((L.length : Nat) : Int) ≤ 4 := by omega
        obtain ⟨f, hf⟩ : ∃ f, 5 - L.length = f + 1 := ⟨4 - L.length, by omega⟩
        have HG : Hid (gsC (5 - (L ++ [tkA 3 S]).length) (bh (tkR 3 S) 2) (L ++ [tkA 3 S]) = R) := by
          show _ = _
          rw [← hG.out, hf, gsC, if_neg h0, List.length_append]
          congr 1
          show 5 - (L.length + 1) = f
          omega
        have q1 := (tk_size 3 S).2
        have q2 := bh_size (tkR 3 S) 2
        have C3 := fun W => rtaken_any 3 S (by omega) (by omega) W
        have C4 := fun W => rbehind_any (tkR 3 S) 2 (by omega) W
        rw [show ((3 : Nat) : Int) = 3 from rfl] at C3
        rw [show ((2 : Nat) : Int) = 2 from rfl] at C4
        have HZ : Hid ((bh (tkR 3 S) 2).size < S.size ∧ (bh (tkR 3 S) 2).size ≤ 1000000) := ⟨gs_less S h0, by omega⟩
        have kb : L.length + 1 ≤ maxLen := by unfold maxLen; omega
        have HO2 : Hid (wr.ownsRow (b5 + 1) 9 1 (.slice ao L.length cv) L.length (L.map Value.string)) := hown
        clear hG hown fin hf q1 q2 HO
        generalize bh (tkR 3 S) 2 = S' at *
        generalize tkA 3 S = c at *
        generalize tkR 3 S = Y at *
        go_wp2_with fail
        refine (C3 _).mono ?_
        rintro e w3 ⟨rfl, hb⟩
        have O3 : Hid (w3.ownsRow (b5 + 1) 9 1 (.slice ao L.length cv) L.length (L.map Value.string)) := HO2.out.kept (row := none) ⟨hb.os, hb.tape, hb.output, hb.size, fun k hk _ => hb.block k hk⟩ (by cases ao <;> simp [Value.ownBlock])
        replace A4 : Arr _ _ 16 _ := A4.to' (n := 15) hb
        replace A5 : Arr _ _ 16 _ := A5.to' (n := 15) hb
        replace hB := Bel.call hB hb
        clear hb C3 HO2 l6
        have l6 := A5.cv 6 (by omega) (.slice ao L.length cv) rfl
        have y5 := Arr.lt (n := 15) A5
        go_wp2_with (at_builtin; refine stopAt ?_)
        unfold Stop
        have O4 := World.ownsRow.alloc O3.out (.cells #[.string c] 9)
        have nw := news_new w3 [.string c] 9
        have hle : b5 + 1 ≤ (w3.alloc (.cells #[.string c] 9)).heap.size := by simp; omega
        replace A4 : Arr _ _ 16 _ := A4.al' (n := 15) (.cells #[.string c] 9)
        replace A5 : Arr _ _ 16 _ := A5.al' (n := 15) (.cells #[.string c] 9)
        replace hB := Bel.al hB (.cells #[.string c] 9)
        have hB2 := hB.size
        clear l6
        generalize w3.alloc (.cells #[.string c] 9) = W4 at *
        refine wpList_append_own _ rfl _ _ 22 rfl (b5 + 1) 9 i0 (.string nS) 1 16 Tryz.underlying22 hi hz0 hz1 hz2 rfl (by decide) _ _ _ rfl O4 ⟨_, 0, none⟩ 1 1 [.string c] rfl rfl nw (fun u hu => by simp at hu; subst hu; rfl) kb (by omega) hle ?_
        intro v' w5 hown' hgrow hnil
        have far : ∀ q, q < b5 + 1 → some q ≠ (Value.slice ao L.length cv).ownBlock := fun q hq e => by have := (O4.lt q e.symm).1; omega
        replace A4 : Arr w5 w.heap.size 16 (noM.c nC) := A4.grown hgrow (Arr.lt (n := 15) A4) (far _ (by omega))
        replace A5 : Arr w5 b5 16 ((⟨11, nS, nS, nS, nS, nS, L, 0, 0, nS⟩ : Mg).c (.slice ao L.length cv)) := A5.grown hgrow (Arr.lt (n := 15) A5) (far _ (by omega))
        replace hB : Below w.heap.size w w5 := hB.grown hgrow hB2 (fun q hq => by have := (O4.lt q hq).1; omega)
        clear hgrow hnil O4 O3 nw far hle hB2
        have c6 := A5.c 6 (by omega)
        have z6 := A5.z 6 (by omega)
        obtain ⟨ao', cv', hv'⟩ := own_frm hown'
        subst hv'
        go_wp2_with fail
        have HO' : Hid ((w5.setCell ⟨b5, 6, none⟩ (.slice ao' (L.length + 1) cv')).ownsRow (b5 + 1) 9 1 (.slice ao' (L.length + 1) cv') (L ++ [c]).length ((L ++ [c]).map Value.string)) := by
          show World.ownsRow _ _ _ _ _ _ _
          rw [List.length_append, List.map_append]
          refine hown'.kept (row := some b5) (grown_setCell w5 b5 6 _) ?_
          by_cases e : (Value.slice ao' (L.length + 1) cv').ownBlock = none
          · exact Or.inl e
          · refine Or.inr (fun e2 => ?_)
            have := (hown'.lt b5 e2).1
            omega
        replace A4 : Arr (w5.setCell ⟨b5, 6, none⟩ (.slice ao' (L.length + 1) cv')) _ 16 _ := A4.other (b' := b5) (by omega) _
        replace A5 : Arr (w5.setCell ⟨b5, 6, none⟩ (.slice ao' (L.length + 1) cv')) b5 16 ((⟨11, nS, nS, nS, nS, nS, L ++ [c], 0, 0, nS⟩ : Mg).c (.slice ao' (L.length + 1) cv')) := (A5.set 6 (by omega) (.slice ao' (L.length + 1) cv')).congr (to16 rfl rfl rfl rfl rfl rfl rfl rfl rfl rfl rfl rfl rfl rfl rfl rfl)
        replace hB : Below w.heap.size w (w5.setCell ⟨b5, 6, none⟩ (.slice ao' (L.length + 1) cv')) := Bel.st hB (by omega) _
        clear c6 z6 hown'
        generalize w5.setCell ⟨b5, 6, none⟩ (.slice ao' (L.length + 1) cv') = W6 at *
        refine (C4 _).mono ?_
        rintro e w7 ⟨rfl, hb⟩
        have O7 : Hid (w7.ownsRow (b5 + 1) 9 1 (.slice ao' (L.length + 1) cv') (L ++ [c]).length ((L ++ [c]).map Value.string)) := HO'.out.kept (row := none) ⟨hb.os, hb.tape, hb.output, hb.size, fun k hk _ => hb.block k hk⟩ (by cases ao' <;> simp [Value.ownBlock])
        replace A4 : Arr _ _ 16 _ := A4.to' (n := 15) hb
        replace A5 : Arr _ _ 16 _ := A5.to' (n := 15) hb
        replace hB := Bel.call hB hb
        have HL : Hid ((L ++ [c]).length ≤ 5) := by show _ ≤ _; rw [List.length_append]; show L.length + 1 ≤ 5; omega
        clear hb C4 HO'
        go_wp2_with fail
        exact ⟨⟨S', L ++ [c], _, rfl, HZ.out.2, HL.out, HG, O7.out, A5, A4, hB⟩, HZ.out.1⟩
end Go.Proofs.YtjdpeedghpblgaaGreatDoor
