/- Texts joined: HX, HY. -/
import Derived.Test.YtjdpeedghpblgaaGreatDoorJ18
import Derived.Test.YtjdpeedghpblgaaGreatDoorJ21
import Derived.Test.YtjdpeedghpblgaaGreatDoorJ15
/- Package hand: a body of certificates as bytes. -/
set_option linter.all false
set_option maxRecDepth 100000
namespace Go.Proofs.YtjdpeedghpblgaaGreatDoor
open Go.RowKit Go.Sort Go.Shelf
theorem bytes_cells (s : ByteArray) : Lib.strCells s = Lib.byteCells s.data.toList := by
  unfold Lib.strCells Lib.byteCells
  rfl
theorem strC_app (a b : ByteArray) : Lib.strCells (a ++ b) = Lib.strCells a ++ Lib.strCells b := by
  unfold Lib.strCells
  simp
theorem cfS_snoc (l : List ByteArray) (t : ByteArray) : cfS (l ++ [t]) = cfS l ++ (vec 3 t ++ ⟨#[0, 0]⟩) := by
  induction l with
  | nil =>
    show vec 3 t ++ (⟨#[0, 0]⟩ ++ nS) = nS ++ _
    rw [ap_nS, ap_nil]
  | cons c l ih =>
    show vec 3 c ++ (⟨#[0, 0]⟩ ++ cfS (l ++ [t])) = (vec 3 c ++ (⟨#[0, 0]⟩ ++ cfS l)) ++ _
    rw [ih]
    simp only [ap_assoc]
theorem isB_fresh (w : World) (b : Nat) (hb : b = w.heap.size) (B : Nat) (hB : B ≤ b) : Lib.IsBuilder 85 5 B b [] (w.alloc (.cells #[.pointer none, .slice none 0 0] 85)) := by
  subst hb
  exact .inl ⟨hB, .slice none 0 0, by show (w.heap.push _)[w.heap.size]? = _; simp, ⟨rfl, .inl ⟨rfl, rfl⟩⟩, by simp [Value.ownBlock]⟩
theorem isB_to {w w' : World} {B b : Nat} {bs : List Value} (h : Lib.IsBuilder 85 5 B b bs w) (hb : Below w.heap.size w w') : Lib.IsBuilder 85 5 B b bs w' := by
  have go : ∀ p, Lib.BuilderAt 85 5 B b p bs w → Lib.BuilderAt 85 5 B b p bs w' := fun p ⟨h1, v, h2, h3, h4⟩ => by
    obtain ⟨ao, cc, rfl⟩ := own_frm h3
    exact ⟨h1, _, (hb.block b (Array.getElem?_eq_some_iff.1 h2).1).trans h2, h3.kept (row := none) ⟨hb.os, hb.tape, hb.output, hb.size, fun k hk _ => hb.block k hk⟩ (by cases ao <;> simp [Value.ownBlock]), h4⟩
  exact h.elim (fun q => .inl (go _ q)) (fun q => .inr (go _ q))
set_option maxHeartbeats 4000000 in
theorem wCt (m : Mg) (hk : m.k = 11) (a0 : Option Addr) (c : Nat) (z1 : m.cs.length ≤ 4) (z2 : ∀ t ∈ m.cs, t.size ≤ 2048) (w : World) (hu : Txs w (.slice a0 m.cs.length c) m.cs) :
    Calls Tryz.prog 44 #[m.v (.slice a0 m.cs.length c)] w fun e w' => e = .returned (.string (bdy m)) ∧ Below w.heap.size w w' := by
  have HB : Hid (bdy m = (⟨#[0]⟩ : ByteArray) ++ vec 3 (cfS m.cs)) := by show _ = _; unfold bdy; simp [hk]; rfl
  obtain ⟨a1, c1, e1, f1⟩ := hu.form
  cases e1
  have HF : Hid (∀ (i : Nat) (s : ByteArray), m.cs[i]? = some s → ∃ b, a0 = some b ∧ (b.add i).block < w.heap.size ∧ w.cell? (b.add i) = some (.string s)) := f1
  have HZ : Hid (∀ t ∈ m.cs, t.size ≤ 2048) := z2
  have zc := (cfS_size m.cs z2).1
  have hL := m.cells (.slice a0 m.cs.length c) rfl
  rw [m.v_l] at *
  have F6 : m.c (.slice a0 m.cs.length c) 6 = .slice a0 m.cs.length c := rfl
  generalize m.l (.slice a0 m.cs.length c) = L at *
  have A1 := hL.new w 29 w.heap.size rfl
  have hB1 : Below w.heap.size w (w.alloc (.cells L.toArray 29)) := by go_grown
  have zW : (w.alloc (.cells L.toArray 29)).heap.size = w.heap.size + 1 := by simp
  have I0 := isB_fresh (w.alloc (.cells L.toArray 29)) (w.heap.size + 1) (by simp) (w.heap.size + 1) (Nat.le_refl _)
  have hb2 := Below.alloc (Below.refl (w.alloc (.cells L.toArray 29)).heap.size (w.alloc (.cells L.toArray 29))) (Nat.le_refl _) (.cells #[.pointer none, .slice none 0 0] 85)
  have A2 := Arr.to' (n := 15) A1 hb2
  have hB2 := Bel.call hB1 hb2
  have l6 := A2.cv 6 (by omega) _ F6
  have zW2 : ((w.alloc (.cells L.toArray 29)).alloc (.cells #[.pointer none, .slice none 0 0] 85)).heap.size = w.heap.size + 2 := by simp
  clear A1 hB1 hb2 f1 hu z2
  generalize hn : m.cs.length = n at *
  have HN : Hid (m.cs.length = n) := hn
  clear hn
  go_enter Tryz.func44, Tryz.ntmps44
  go_upto_region 2 with (fail)
  generalize (w.alloc (.cells L.toArray 29)).alloc (.cells #[.pointer none, .slice none 0 0] 85) = W2 at *
  go_wp2_with fail
  go_loopw [9] (fun i wr => ∃ j : Nat, j ≤ n ∧ i = .int .i64 (j : Int) ∧ Lib.IsBuilder 85 5 (w.heap.size + 1) (w.heap.size + 1) (Lib.strCells (cfS (m.cs.take j))) wr ∧ Below (w.heap.size + 1) W2 wr) (fun i _ => n - (Go.RowKit.intOf i).toNat)
  case atStart => exact ⟨0, by omega, rfl, I0, Below.refl _ _⟩
  case round =>
    clear I0
    obtain ⟨j, hj, rfl, hI, hB⟩ := hrel
    have j0 : (0 : Int) ≤ (j : Int) := by omega
    have s2 := hB.size
    by_cases hlt : j < n
    · have j1 : (j : Int) < (n : Int) := by omega
      obtain ⟨t, ht⟩ : ∃ t, m.cs[j]? = some t := ⟨_, List.getElem?_eq_getElem (by rw [HN.out]; exact hlt)⟩
      obtain ⟨b, hb, lb, g1⟩ := HF.out j t ht
      have g2 := (hB2.cell lb).trans g1
      have g3 := (hB.cell (p := b.add j) (by omega)).trans g2
      subst hb
      have zt := HZ.out t (List.mem_of_getElem? ht)
      have V3 := fun W => hvec_any 3 t (by omega) (by omega) W
      have zv : ((vec 3 t).size : Int) = 3 + t.size := by rw [vec_size]; omega
      have zk : (cfS (m.cs.take j)).size ≤ 2053 * (m.cs.take j).length := (cfS_size _ (fun q hq => HZ.out q (List.mem_of_mem_take hq))).1
      have zj : (m.cs.take j).length ≤ 4 := by rw [List.length_take]; omega
      have HT : Hid (Lib.strCells (cfS (m.cs.take (j + 1))) = Lib.strCells (cfS (m.cs.take j)) ++ Lib.strCells (vec 3 t ++ ⟨#[0, 0]⟩)) := by
        show _ = _
        rw [List.take_add_one, ht, ← strC_app]
        congr 1
        exact cfS_snoc _ _
      have hlen : (Lib.strCells (cfS (m.cs.take j))).length + (vec 3 t ++ (⟨#[0, 0]⟩ : ByteArray)).size ≤ 1000000 := by
        rw [Lib.strCells_length, ap_size, vec_size]
        have : (⟨#[0, 0]⟩ : ByteArray).size = 2 := rfl
        omega
      have HI : Hid _ := hI
      clear hI ht g1 g2 zk zj HF HZ
      generalize hU : vec 3 t = U at *
      have hap : ∀ W : World, True := fun _ => trivial
      go_wp2_with fail
      refine (V3 _).mono ?_
      rintro e w3 ⟨rfl, hb3⟩
      have I3 := isB_to HI.out hb3
      have s3 := hb3.size
      have BW := bw_any _ _ _ (U ++ ⟨#[0, 0]⟩) w3 I3 hlen (by omega)
      have hB3 := hB.trans (hb3.mono (B' := w.heap.size + 1) (by omega))
      clear HI I3 hb3 hlen
      go_wp2_with (go_at_call 66; refine BW.mono ?_; rintro e w4 ⟨rfl, hI4, hb4⟩)
      exact ⟨⟨j + 1, by omega, by go_num, by rw [HT.out]; exact .inr hI4, hB3.trans hb4⟩, by simp [Go.RowKit.intOf]; omega⟩
    · have ej : j = n := by omega
      have j1 : ¬ (j : Int) < (n : Int) := by omega
      have te : m.cs.take j = m.cs := List.take_of_length_le (by rw [HN.out]; omega)
      rw [te, bytes_cells] at hI
      have ST := sh_Builder_String_any _ _ _ wr hI (by omega)
      have es : (⟨(cfS m.cs).data.toList.toArray⟩ : ByteArray) = cfS m.cs := by simp
      rw [es] at ST
      have V3 := fun W => hvec_any 3 (cfS m.cs) (by omega) (by omega) W
      have zv : ((vec 3 (cfS m.cs)).size : Int) = 3 + (cfS m.cs).size := by rw [vec_size]; omega
      have zi : ((cfS m.cs).size : Int) ≤ 10000 := by have := HN.out; omega
      clear hI te es HF HZ
      generalize cfS m.cs = X at *
      generalize vec 3 X = V at *
      go_wp2_with fail
      refine ST.mono ?_
      rintro e w3 ⟨rfl, hb3⟩
      go_wp2_with fail
      refine (V3 _).mono ?_
      rintro e w4 ⟨rfl, hb4⟩
      have hB4 : Below w.heap.size w w4 := (hB2.trans ((hB.trans hb3).mono (B' := w.heap.size) (by omega))).trans (hb4.mono (by have := hb3.size; omega))
      clear hb3 hb4
      go_wp2_with fail
      go_ret
      exact ⟨by rw [HB.out]; rfl, hB4⟩
end Go.Proofs.YtjdpeedghpblgaaGreatDoor
/- Package hand: a signature's body as bytes. -/
set_option linter.all false
set_option maxRecDepth 100000
namespace Go.Proofs.YtjdpeedghpblgaaGreatDoor
open Go.RowKit Go.Sort Go.Shelf
set_option maxHeartbeats 1000000 in
theorem integer_any (x : Int) (h0 : 0 ≤ x) (h1 : x < top256) (w : World) :
    Calls Tryz.prog 84 #[nv x] w fun e w' => e = .returned (tlv 2 (mkS (inL x))) ∧ Below w.heap.size w w' := by
  have C := fun W => int_any x h0 h1 W
  unfold nv at *
  generalize mkS (inL x) = S at *
  generalize lim x 0 = x0 at *
  generalize lim x 1 = x1 at *
  generalize lim x 2 = x2 at *
  generalize lim x 3 = x3 at *
  have b0 : Below w.heap.size w ((w.alloc (.cells #[.int .u64 x0, .int .u64 x1, .int .u64 x2, .int .u64 x3] 25)).alloc (.cells #[.int .i64 0, .string nS] 99)) := by go_grown
  go_enter Tryz.func84, Tryz.ntmps84
  go_wp2_with fail
  refine (C _).mono ?_
  rintro e w1 ⟨rfl, hb⟩
  have e0 : w1.cell? ⟨w.heap.size + 1, 0, none⟩ = some (.int .i64 0) := (hb.cell (p := ⟨w.heap.size + 1, 0, none⟩) (by simp only [World.size_alloc]; omega)).trans (by simp [go_sem])
  have e1 : w1.cell? ⟨w.heap.size + 1, 1, none⟩ = some (.string nS) := (hb.cell (p := ⟨w.heap.size + 1, 1, none⟩) (by simp only [World.size_alloc]; omega)).trans (by simp [go_sem])
  have f0 : w1.frozen? ⟨w.heap.size + 1, 0, none⟩ = false := (hb.frozen (p := ⟨w.heap.size + 1, 0, none⟩) (by simp only [World.size_alloc]; omega)).trans (by simp [go_sem])
  have f1 : w1.frozen? ⟨w.heap.size + 1, 1, none⟩ = false := (hb.frozen (p := ⟨w.heap.size + 1, 1, none⟩) (by simp only [World.size_alloc]; omega)).trans (by simp [go_sem])
  have b1 := Bel.call b0 hb
  clear hb b0
  go_wp2_with fail
  refine bodyPost_ret (v := tlv 2 S) (by simp [results, Tryz.results84, e0, e1, f0, f1, go_sem]) rfl ⟨rfl, ?_⟩
  exact (b1.setCell (p := ⟨w.heap.size + 1, 0, none⟩) (by show _ ≤ w.heap.size + 1; omega) _).setCell (p := ⟨w.heap.size + 1, 1, none⟩) (by show _ ≤ w.heap.size + 1; omega) _
set_option maxHeartbeats 4000000 in
theorem row2_any (N0 N1 : ByteArray) (z0 : N0.size ≤ 100) (z1 : N1.size ≤ 100) (X : ByteArray) (hX : wrS 2 N0 ++ wrS 2 N1 = X) (g c : Nat) (w : World) (c0 : w.cell? ⟨g, 0, none⟩ = some (.int .i64 2)) (c1 : w.cell? ⟨g, 1, none⟩ = some (.string N0)) (c2 : w.cell? ⟨g, 2, none⟩ = some (.int .i64 2)) (c3 : w.cell? ⟨g, 3, none⟩ = some (.string N1)) :
    Calls Tryz.prog 83 #[.int .i64 48, .slice (some ⟨g, 0, none⟩) 2 c] w fun e w' => e = .returned (.tuple #[tlv 48 X, .int .i64 0]) ∧ Below w.heap.size w w' := by
  have e0 : wrE 2 N0.size = 0 := by unfold wrE; simp [tagB]; omega
  have e1 : wrE 2 N1.size = 0 := by unfold wrE; simp [tagB]; omega
  have RF0 := fun W => refused_any 2 N0 (by unfold maxLen; omega) W
  have RF1 := fun W => refused_any 2 N1 (by unfold maxLen; omega) W
  rw [e0] at RF0
  rw [e1] at RF1
  have WR0 := fun W => write_yes 2 N0 e0 W
  have WR1 := fun W => write_yes 2 N1 e1 W
  have y0 := wrS_size 2 N0 (by omega)
  have y1 := wrS_size 2 N1 (by omega)
  have IT := fun W => isTag_any 48 W
  rw [show tagB 48 = true by rfl] at IT
  have lg := block_lt_of_cell c0
  generalize wrS 2 N0 = S0 at *
  generalize wrS 2 N1 = S1 at *
  go_enter Tryz.func83, Tryz.ntmps83
  go_wp2_with fail
  have hB0 : Below w.heap.size w (w.alloc (.cells #[.int .i64 0, .string nS] 99)) := by go_grown
  have zW0 : (w.alloc (.cells #[.int .i64 0, .string nS] 99)).heap.size = w.heap.size + 1 := by simp
  have q0 : (w.alloc (.cells #[.int .i64 0, .string nS] 99)).cell? ⟨w.heap.size, 0, none⟩ = some (.int .i64 0) := by simp [go_sem]
  have q1 : (w.alloc (.cells #[.int .i64 0, .string nS] 99)).cell? ⟨w.heap.size, 1, none⟩ = some (.string nS) := by simp [go_sem]
  have p0 : (w.alloc (.cells #[.int .i64 0, .string nS] 99)).frozen? ⟨w.heap.size, 0, none⟩ = false := by simp [go_sem]
  have p1 : (w.alloc (.cells #[.int .i64 0, .string nS] 99)).frozen? ⟨w.heap.size, 1, none⟩ = false := by simp [go_sem]
  replace c0 := (hB0.cell (p := ⟨g, 0, none⟩) lg).trans c0
  replace c1 := (hB0.cell (p := ⟨g, 1, none⟩) lg).trans c1
  replace c2 := (hB0.cell (p := ⟨g, 2, none⟩) lg).trans c2
  replace c3 := (hB0.cell (p := ⟨g, 3, none⟩) lg).trans c3
  generalize w.alloc (.cells #[.int .i64 0, .string nS] 99) = W0 at *
  go_loopw [16] (fun i wr => ∃ j : Nat, j ≤ 2 ∧ i = .int .i64 (j : Int) ∧ Below W0.heap.size W0 wr) (fun i _ => 2 - (Go.RowKit.intOf i).toNat)
  case atStart => exact ⟨0, by omega, rfl, Below.refl _ _⟩
  case round =>
    obtain ⟨j, hj, rfl, hB⟩ := hrel
    have sB := hB.size
    have cj : j = 0 ∨ j = 1 ∨ j = 2 := by omega
    rcases cj with rfl | rfl | rfl
    · have d0 := (hB.cell (p := ⟨g, 0, none⟩) (by show g < _; omega)).trans c0
      have d1 := (hB.cell (p := ⟨g, 1, none⟩) (by show g < _; omega)).trans c1
      have hBa := Bel.al hB (.cells #[.int .i64 2, .string N0] 99)
      go_wp2_with (go_at_call 103; refine (RF0 _).mono ?_; rintro e w4 ⟨rfl, hb4⟩)
      exact ⟨⟨1, by omega, by go_num, Bel.call hBa hb4⟩, by simp [Go.RowKit.intOf]⟩
    · have d0 := (hB.cell (p := ⟨g, 2, none⟩) (by show g < _; omega)).trans c2
      have d1 := (hB.cell (p := ⟨g, 3, none⟩) (by show g < _; omega)).trans c3
      have hBa := Bel.al hB (.cells #[.int .i64 2, .string N1] 99)
      go_wp2_with (go_at_call 103; refine (RF1 _).mono ?_; rintro e w4 ⟨rfl, hb4⟩)
      exact ⟨⟨2, by omega, by go_num, Bel.call hBa hb4⟩, by simp [Go.RowKit.intOf]⟩
    · clear RF0 RF1
      have I0 := isB_fresh wr wr.heap.size rfl wr.heap.size (Nat.le_refl _)
      have hb1 := Below.alloc (Below.refl wr.heap.size wr) (Nat.le_refl _) (.cells #[.pointer none, .slice none 0 0] 85)
      have z1' : (wr.alloc (.cells #[.pointer none, .slice none 0 0] 85)).heap.size = wr.heap.size + 1 := by simp
      have hBw := Bel.call hB hb1
      have k0 := (hBw.cell (p := ⟨g, 0, none⟩) (by show g < _; omega)).trans c0
      have k1 := (hBw.cell (p := ⟨g, 1, none⟩) (by show g < _; omega)).trans c1
      have k2 := (hBw.cell (p := ⟨g, 2, none⟩) (by show g < _; omega)).trans c2
      have k3 := (hBw.cell (p := ⟨g, 3, none⟩) (by show g < _; omega)).trans c3
      clear c0 c1 c2 c3 hb1 hB
      go_wp2_with fail
      generalize wr.alloc (.cells #[.pointer none, .slice none 0 0] 85) = W1 at *
      generalize wr.heap.size = bb at *
      go_loopw [33] (fun i wr => ∃ j : Nat, j ≤ 2 ∧ i = .int .i64 (j : Int) ∧ Lib.IsBuilder 85 5 bb bb (if j = 0 then [] else if j = 1 then Lib.strCells S0 else Lib.strCells X) wr ∧ Below bb W1 wr) (fun i _ => 2 - (Go.RowKit.intOf i).toNat)
      case atStart => exact ⟨0, by omega, rfl, I0, Below.refl _ _⟩
      case round =>
        clear I0
        obtain ⟨j, hj, rfl, hI, hB2⟩ := hrel
        have sB2 := hB2.size
        have cj : j = 0 ∨ j = 1 ∨ j = 2 := by omega
        rcases cj with rfl | rfl | rfl
        · have d0 := (hB2.cell (p := ⟨g, 0, none⟩) (by show g < _; omega)).trans k0
          have d1 := (hB2.cell (p := ⟨g, 1, none⟩) (by show g < _; omega)).trans k1
          have hb3 := Below.alloc (Below.refl wr.heap.size wr) (Nat.le_refl _) (.cells #[.int .i64 2, .string N0] 99)
          have Ia := isB_to hI hb3
          have hBa := hB2.trans (hb3.mono (B' := bb) (by omega))
          have za : (wr.alloc (.cells #[.int .i64 2, .string N0] 99)).heap.size = wr.heap.size + 1 := by simp
          have HI : Hid _ := Ia
          clear hI Ia hb3
          go_wp2_with fail
          refine (WR0 _).mono ?_
          generalize wr.alloc (.cells #[.int .i64 2, .string N0] 99) = wa at *
          rintro e w4 ⟨rfl, hb4⟩
          have I4 := isB_to HI.out hb4
          have s4 := hb4.size
          have BW := bw_any _ _ _ S0 w4 I4 (by show (0 : Nat) + _ ≤ _; omega) (by omega)
          have hB4 := hBa.trans (hb4.mono (B' := bb) (by omega))
          clear hb4 I4 HI
          go_wp2_with (go_at_call 66; refine BW.mono ?_; rintro e w5 ⟨rfl, hI5, hb5⟩)
          refine ⟨⟨_, _, _, _, _, _, _, _, _, _, _, _, _, _, _, ⟨1, by omega, by go_num, ?_, hB4.trans hb5⟩, rfl⟩, by simp [Go.RowKit.intOf]⟩
          exact .inr hI5
        · have d0 := (hB2.cell (p := ⟨g, 2, none⟩) (by show g < _; omega)).trans k2
          have d1 := (hB2.cell (p := ⟨g, 3, none⟩) (by show g < _; omega)).trans k3
          have hb3 := Below.alloc (Below.refl wr.heap.size wr) (Nat.le_refl _) (.cells #[.int .i64 2, .string N1] 99)
          have Ia := isB_to hI hb3
          have hBa := hB2.trans (hb3.mono (B' := bb) (by omega))
          have za : (wr.alloc (.cells #[.int .i64 2, .string N1] 99)).heap.size = wr.heap.size + 1 := by simp
          have HI : Hid _ := Ia
          clear hI Ia hb3
          go_wp2_with fail
          refine (WR1 _).mono ?_
          generalize wr.alloc (.cells #[.int .i64 2, .string N1] 99) = wa at *
          rintro e w4 ⟨rfl, hb4⟩
          have I4 := isB_to HI.out hb4
          have s4 := hb4.size
          have BW := bw_any _ _ _ S1 w4 I4 (by show (Lib.strCells S0).length + _ ≤ _; rw [Lib.strCells_length]; omega) (by omega)
          have hB4 := hBa.trans (hb4.mono (B' := bb) (by omega))
          clear hb4 I4 HI
          go_wp2_with (go_at_call 66; refine BW.mono ?_; rintro e w5 ⟨rfl, hI5, hb5⟩)
          refine ⟨⟨_, _, _, _, _, _, _, _, _, _, _, _, _, _, _, ⟨2, by omega, by go_num, ?_, hB4.trans hb5⟩, rfl⟩, by simp [Go.RowKit.intOf]⟩
          show Lib.IsBuilder _ _ _ _ (Lib.strCells X) _; rw [← hX, strC_app]; exact .inr hI5
        · have hI' : Lib.IsBuilder 85 5 bb bb (Lib.strCells X) wr := hI
          have LN := sh_Builder_Len _ _ _ wr hI'
          rw [Lib.strCells_length] at LN
          have zs : ((X.size : Nat) : Int) ≤ 300 := by rw [← hX, ap_size]; omega
          rw [bytes_cells] at hI'
          have ST := sh_Builder_String_any _ _ _ wr hI' (by omega)
          have es : (⟨X.data.toList.toArray⟩ : ByteArray) = X := by simp
          rw [es] at ST
          have q0' := (hB2.cell (p := ⟨w.heap.size, 0, none⟩) (by show w.heap.size < _; omega)).trans ((hBw.cell (p := ⟨w.heap.size, 0, none⟩) (by show w.heap.size < _; omega)).trans q0)
          have q1' := (hB2.cell (p := ⟨w.heap.size, 1, none⟩) (by show w.heap.size < _; omega)).trans ((hBw.cell (p := ⟨w.heap.size, 1, none⟩) (by show w.heap.size < _; omega)).trans q1)
          have p0' := (hB2.frozen (p := ⟨w.heap.size, 0, none⟩) (by show w.heap.size < _; omega)).trans ((hBw.frozen (p := ⟨w.heap.size, 0, none⟩) (by show w.heap.size < _; omega)).trans p0)
          have p1' := (hB2.frozen (p := ⟨w.heap.size, 1, none⟩) (by show w.heap.size < _; omega)).trans ((hBw.frozen (p := ⟨w.heap.size, 1, none⟩) (by show w.heap.size < _; omega)).trans p1)
          have hBx : Below w.heap.size w wr := hB0.trans ((hBw.mono (by omega)).trans (hB2.mono (by omega)))
          clear hI hI' es WR0 WR1 q0 q1 p0 p1 k0 k1 k2 k3
          clear hX
          go_wp2_with (first | (go_at_call 67; refine LN.mono ?_; intro ee ww hh; rw [hh.1, hh.2]; clear hh ee ww) | (go_at_call 104; refine (IT _).mono ?_; intro ee ww hh; rw [hh.1, hh.2]; clear hh ee ww))
          refine ST.mono ?_
          rintro e w6 ⟨rfl, hb6⟩
          replace q0' := (hb6.cell (p := ⟨w.heap.size, 0, none⟩) (by show w.heap.size < _; omega)).trans q0'
          replace q1' := (hb6.cell (p := ⟨w.heap.size, 1, none⟩) (by show w.heap.size < _; omega)).trans q1'
          replace p0' := (hb6.frozen (p := ⟨w.heap.size, 0, none⟩) (by show w.heap.size < _; omega)).trans p0'
          replace p1' := (hb6.frozen (p := ⟨w.heap.size, 1, none⟩) (by show w.heap.size < _; omega)).trans p1'
          have hBy := hBx.trans (hb6.mono (B' := w.heap.size) (by omega))
          clear hb6 hBx
          go_wp2_with fail
          refine bodyPost_ret (v := .tuple #[tlv 48 X, .int .i64 0]) (by simp [results, Tryz.results83, q0', q1', p0', p1', go_sem]) rfl ⟨rfl, ?_⟩
          exact (hBy.setCell (p := ⟨w.heap.size, 0, none⟩) (Nat.le_refl _) _).setCell (p := ⟨w.heap.size, 1, none⟩) (Nat.le_refl _) _
end Go.Proofs.YtjdpeedghpblgaaGreatDoor
