/- Package hand: the functions that read messages. -/
import Derived.Test.YtjdpeedghpblgaaGreatDoorJ24
set_option linter.all false
set_option maxRecDepth 100000
namespace Go.Proofs.YtjdpeedghpblgaaGreatDoor
open Go.RowKit Go.Sort Go.Shelf
def fiF (s : ByteArray) : Option (Mg × ByteArray) := (tkF 32 s).bind fun x => some (⟨0, nS, nS, nS, nS, nS, [], 0, 0, x.1⟩, x.2)
def exF (s : ByteArray) : Option (Mg × ByteArray) := (vcF 2 s).bind fun x => (whF alF x.1).bind fun a => some (⟨0, nS, nS, nS, nS, a, [], 0, 0, nS⟩, x.2)
def svF (s : ByteArray) : Option (Mg × ByteArray) := (psF ⟨#[3, 3]⟩ s).bind fun s1 => (tkF 32 s1).bind fun x => (vcF 1 x.2).bind fun y => (psF ⟨#[19, 1, 0]⟩ y.2).bind fun s4 => (vcF 2 s4).bind fun z => (whF sv1 z.1).bind fun a => some (⟨0, x.1, y.1, a, nS, nS, [], 0, 0, nS⟩, z.2)
def clE (s : ByteArray) : Option (Mg × ByteArray) := (psF ⟨#[0, 0]⟩ s).bind fun s1 => (vcF 2 s1).bind fun x => (whF nm1 x.1).bind fun nm => (psF ⟨#[0, 10, 0, 4, 0, 2, 0, 29, 0, 13, 0, 4, 0, 2, 4, 3]⟩ x.2).bind fun s4 => (alF s4).bind fun y => (psF ⟨#[0, 43, 0, 3, 2, 3, 4, 0, 51, 0, 38, 0, 36, 0, 29, 0, 32]⟩ y.2).bind fun s6 => (tkF 32 s6).bind fun z => some (⟨0, nS, nS, z.1, nm, y.1, [], 0, 0, nS⟩, z.2)
set_option maxHeartbeats 2000000 in
theorem rFi : RdC 51 Vm fiF := by
  intro p s w hz h
  have lt0 := h.lt
  have A2 := newZ w w.heap.size rfl
  have hB0 := Below.alloc (Below.refl w.heap.size w) (Nat.le_refl _) (.cells z16 29)
  have hR := h.to hB0
  have hU := Below.upto p hB0
  have z0 : (w.alloc (.cells z16 29)).heap.size = w.heap.size + 1 := by simp
  have pq : w.heap.size ≠ p := by omega
  go_enter Tryz.func51, Tryz.ntmps51
  go_wp2_with fail
  generalize w.alloc (.cells z16 29) = w0 at *
  refine (take_any p s 32 w0 hR).mono ?_
  rintro xe w1 ⟨hU1, hx⟩
  have z1 := hU1.size
  replace A2 : Arr w1 w.heap.size 16 _ := fun j hj => ⟨by rw [hU1.cell (by show w.heap.size < _; omega) pq]; exact (A2 j hj).1, by rw [hU1.frozen (by show w.heap.size < _; omega) pq]; exact (A2 j hj).2⟩
  replace hU := hU.trans hU1
  have HH : Hid _ := hx
  clear hx
  cases h1 : tkF 32 s with
  | none =>
    have hx := HH.out
    rw [h1] at hx
    cases hx
    have e : fiF s = none := by simp only [fiF, Option.bind_some, Option.bind_none, Option.map_none, Option.map_some, h1]
    go_wp2_with fail
    exact ⟨rfl, hU, by rw [e]; rfl⟩
  | some y1 =>
    obtain ⟨a, r1⟩ := y1
    have hx := HH.out
    clear HH
    rw [h1] at hx
    obtain ⟨v, rfl, hv, hR⟩ := hx
    cases hv
    have q1 := tk_le h1
    have H1 : Hid _ := h1
    clear h1
    have e : fiF s = some (⟨0, nS, nS, nS, nS, nS, [], 0, 0, a⟩, r1) := by simp only [fiF, H1.out, Option.bind_some, Option.map_some]
    have hC := eL_cells nS nS nS nS nS nC [] a rfl
    have HE : Hid _ := eL_v nS nS nS nS nS nC [] a
    have HX : Hid _ := e
    clear e
    have HA : Hid _ := A2
    clear A2
    go_wp2_with (refine hC.wst tM HA.out (by rfl) (.tmp 2) (.tmp 5) (by rfl) (by rfl) (by rfl) ?_; generalize hW9 : World.setCells _ w.heap.size 0 _ = w9)
    have A9 := hC.set HA.out
    rw [hW9] at A9
    have U9 := hU.own (w.heap.size) (Nat.le_refl _) (Upto.sets w.heap.size w1 (eL nS nS nS nS nS nC a) 0)
    rw [hW9] at U9
    have R9 := hR.sets pq (eL nS nS nS nS nS nC a)
    rw [hW9] at R9
    refine bodyPost_ret (results_cell1 rfl _ rfl (hC.ld tM A9 0 (by omega) (fun j _ => by rw [Nat.zero_add]))) rfl ⟨U9, ?_⟩
    rw [HX.out]
    exact ⟨_, rfl, ⟨_, HE.out, Txs.nil _, Fsh.nil _⟩, R9⟩
set_option maxHeartbeats 2000000 in
theorem rEx : RdC 42 Vm exF := by
  intro p s w hz h
  have lt0 := h.lt
  have A2 := newZ w w.heap.size rfl
  have hB0 := Below.alloc (Below.refl w.heap.size w) (Nat.le_refl _) (.cells z16 29)
  have hR := h.to hB0
  have hU := Below.upto p hB0
  have z0 : (w.alloc (.cells z16 29)).heap.size = w.heap.size + 1 := by simp
  have pq : w.heap.size ≠ p := by omega
  go_enter Tryz.func42, Tryz.ntmps42
  go_wp2_with fail
  generalize w.alloc (.cells z16 29) = w0 at *
  refine (vector_any p s 2 (by omega) (by omega) w0 hR).mono ?_
  rintro xe w1 ⟨hU1, hx⟩
  have z1 := hU1.size
  replace A2 : Arr w1 w.heap.size 16 _ := fun j hj => ⟨by rw [hU1.cell (by show w.heap.size < _; omega) pq]; exact (A2 j hj).1, by rw [hU1.frozen (by show w.heap.size < _; omega) pq]; exact (A2 j hj).2⟩
  replace hU := hU.trans hU1
  have HH : Hid _ := hx
  clear hx
  cases h1 : vcF 2 s with
  | none =>
    have hx := HH.out
    rw [h1] at hx
    cases hx
    have e : exF s = none := by simp only [exF, Option.bind_some, Option.bind_none, Option.map_none, Option.map_some, h1]
    go_wp2_with fail
    exact ⟨rfl, hU, by rw [e]; rfl⟩
  | some y1 =>
    obtain ⟨x, r1⟩ := y1
    have hx := HH.out
    clear HH
    rw [h1] at hx
    obtain ⟨v, rfl, hv, hR⟩ := hx
    cases hv
    have q1 := vc_le (by omega) h1
    have H1 : Hid _ := h1
    clear h1
    go_wp2_with fail
    refine (wholeS 79 (enters_of Tryz.func79 (by kernel_rfl) rfl) rAl x (by omega) w1).mono ?_
    rintro xe w2 ⟨hU2, hx⟩
    have hB2 := hU2
    replace hU2 := Below.upto p hU2
    have z2 := hU2.size
    replace A2 := Arr.to' (n := 15) A2 hB2
    replace hU := hU.trans hU2
    have HH : Hid _ := hx
    clear hx
    cases h2 : whF alF x with
    | none =>
      have hx := HH.out
      rw [h2] at hx
      cases hx
      have e : exF s = none := by simp only [exF, H1.out, Option.bind_some, Option.bind_none, Option.map_none, Option.map_some, h2]
      go_wp2_with fail
      exact ⟨rfl, hU, by rw [e]; rfl⟩
    | some y2 =>
      have hx := HH.out
      clear HH
      rw [h2] at hx
      obtain ⟨v, rfl, hv⟩ := hx
      cases hv
      replace hR := hR.to hB2
      generalize y2 = a at *
      have H2 : Hid _ := h2
      clear h2
      have e : exF s = some (⟨0, nS, nS, nS, nS, a, [], 0, 0, nS⟩, r1) := by simp only [exF, H1.out, H2.out, Option.bind_some, Option.map_some]
      have hC := eL_cells nS nS nS nS a nC [] nS rfl
      have HE : Hid _ := eL_v nS nS nS nS a nC [] nS
      have HX : Hid _ := e
      clear e
      have HA : Hid _ := A2
      clear A2
      go_wp2_with (refine hC.wst tM HA.out (by rfl) (.tmp 2) (.tmp 6) (by rfl) (by rfl) (by rfl) ?_; generalize hW9 : World.setCells _ w.heap.size 0 _ = w9)
      have A9 := hC.set HA.out
      rw [hW9] at A9
      have U9 := hU.own (w.heap.size) (Nat.le_refl _) (Upto.sets w.heap.size w2 (eL nS nS nS nS a nC nS) 0)
      rw [hW9] at U9
      have R9 := hR.sets pq (eL nS nS nS nS a nC nS)
      rw [hW9] at R9
      refine bodyPost_ret (results_cell1 rfl _ rfl (hC.ld tM A9 0 (by omega) (fun j _ => by rw [Nat.zero_add]))) rfl ⟨U9, ?_⟩
      rw [HX.out]
      exact ⟨_, rfl, ⟨_, HE.out, Txs.nil _, Fsh.nil _⟩, R9⟩
set_option maxHeartbeats 2000000 in
theorem rSv : RdC 39 Vm svF := by
  intro p s w hz h
  have lt0 := h.lt
  have A2 := newZ w w.heap.size rfl
  have hB0 := Below.alloc (Below.refl w.heap.size w) (Nat.le_refl _) (.cells z16 29)
  have hR := h.to hB0
  have hU := Below.upto p hB0
  have z0 : (w.alloc (.cells z16 29)).heap.size = w.heap.size + 1 := by simp
  have pq : w.heap.size ≠ p := by omega
  go_enter Tryz.func39, Tryz.ntmps39
  go_wp2_with fail
  generalize w.alloc (.cells z16 29) = w0 at *
  refine (pass_any p s ⟨#[3, 3]⟩ (by omega) w0 hR).mono ?_
  rintro xe w1 ⟨hU1, hx⟩
  have z1 := hU1.size
  replace A2 : Arr w1 w.heap.size 16 _ := fun j hj => ⟨by rw [hU1.cell (by show w.heap.size < _; omega) pq]; exact (A2 j hj).1, by rw [hU1.frozen (by show w.heap.size < _; omega) pq]; exact (A2 j hj).2⟩
  replace hU := hU.trans hU1
  have HH : Hid _ := hx
  clear hx
  cases h1 : psF ⟨#[3, 3]⟩ s with
  | none =>
    have hx := HH.out
    rw [h1] at hx
    cases hx
    have e : svF s = none := by simp only [svF, Option.bind_some, Option.bind_none, Option.map_none, Option.map_some, h1]
    go_wp2_with fail
    exact ⟨rfl, hU, by rw [e]; rfl⟩
  | some y1 =>
    have hx := HH.out
    clear HH
    rw [h1] at hx
    obtain ⟨v, rfl, hv, hR⟩ := hx
    cases hv
    have q1 := ps_le h1
    generalize y1 = r1 at *
    have H1 : Hid _ := h1
    clear h1
    go_wp2_with fail
    refine (take_any p r1 32 w1 hR).mono ?_
    rintro xe w2 ⟨hU2, hx⟩
    have z2 := hU2.size
    replace A2 : Arr w2 w.heap.size 16 _ := fun j hj => ⟨by rw [hU2.cell (by show w.heap.size < _; omega) pq]; exact (A2 j hj).1, by rw [hU2.frozen (by show w.heap.size < _; omega) pq]; exact (A2 j hj).2⟩
    replace hU := hU.trans hU2
    have HH : Hid _ := hx
    clear hx
    cases h2 : tkF 32 r1 with
    | none =>
      have hx := HH.out
      rw [h2] at hx
      cases hx
      have e : svF s = none := by simp only [svF, H1.out, Option.bind_some, Option.bind_none, Option.map_none, Option.map_some, h2]
      go_wp2_with fail
      exact ⟨rfl, hU, by rw [e]; rfl⟩
    | some y2 =>
      obtain ⟨rn, r2⟩ := y2
      have hx := HH.out
      clear HH
      rw [h2] at hx
      obtain ⟨v, rfl, hv, hR⟩ := hx
      cases hv
      have q2 := tk_le h2
      have H2 : Hid _ := h2
      clear h2
      go_wp2_with fail
      refine (vector_any p r2 1 (by omega) (by omega) w2 hR).mono ?_
      rintro xe w3 ⟨hU3, hx⟩
      have z3 := hU3.size
      replace A2 : Arr w3 w.heap.size 16 _ := fun j hj => ⟨by rw [hU3.cell (by show w.heap.size < _; omega) pq]; exact (A2 j hj).1, by rw [hU3.frozen (by show w.heap.size < _; omega) pq]; exact (A2 j hj).2⟩
      replace hU := hU.trans hU3
      have HH : Hid _ := hx
      clear hx
      cases h3 : vcF 1 r2 with
      | none =>
        have hx := HH.out
        rw [h3] at hx
        cases hx
        have e : svF s = none := by simp only [svF, H1.out, H2.out, Option.bind_some, Option.bind_none, Option.map_none, Option.map_some, h3]
        go_wp2_with fail
        exact ⟨rfl, hU, by rw [e]; rfl⟩
      | some y3 =>
        obtain ⟨ss, r3⟩ := y3
        have hx := HH.out
        clear HH
        rw [h3] at hx
        obtain ⟨v, rfl, hv, hR⟩ := hx
        cases hv
        have q3 := vc_le (by omega) h3
        have H3 : Hid _ := h3
        clear h3
        go_wp2_with fail
        refine (pass_any p r3 ⟨#[19, 1, 0]⟩ (by omega) w3 hR).mono ?_
        rintro xe w4 ⟨hU4, hx⟩
        have z4 := hU4.size
        replace A2 : Arr w4 w.heap.size 16 _ := fun j hj => ⟨by rw [hU4.cell (by show w.heap.size < _; omega) pq]; exact (A2 j hj).1, by rw [hU4.frozen (by show w.heap.size < _; omega) pq]; exact (A2 j hj).2⟩
        replace hU := hU.trans hU4
        have HH : Hid _ := hx
        clear hx
        cases h4 : psF ⟨#[19, 1, 0]⟩ r3 with
        | none =>
          have hx := HH.out
          rw [h4] at hx
          cases hx
          have e : svF s = none := by simp only [svF, H1.out, H2.out, H3.out, Option.bind_some, Option.bind_none, Option.map_none, Option.map_some, h4]
          go_wp2_with fail
          exact ⟨rfl, hU, by rw [e]; rfl⟩
        | some y4 =>
          have hx := HH.out
          clear HH
          rw [h4] at hx
          obtain ⟨v, rfl, hv, hR⟩ := hx
          cases hv
          have q4 := ps_le h4
          generalize y4 = r4 at *
          have H4 : Hid _ := h4
          clear h4
          go_wp2_with fail
          refine (vector_any p r4 2 (by omega) (by omega) w4 hR).mono ?_
          rintro xe w5 ⟨hU5, hx⟩
          have z5 := hU5.size
          replace A2 : Arr w5 w.heap.size 16 _ := fun j hj => ⟨by rw [hU5.cell (by show w.heap.size < _; omega) pq]; exact (A2 j hj).1, by rw [hU5.frozen (by show w.heap.size < _; omega) pq]; exact (A2 j hj).2⟩
          replace hU := hU.trans hU5
          have HH : Hid _ := hx
          clear hx
          cases h5 : vcF 2 r4 with
          | none =>
            have hx := HH.out
            rw [h5] at hx
            cases hx
            have e : svF s = none := by simp only [svF, H1.out, H2.out, H3.out, H4.out, Option.bind_some, Option.bind_none, Option.map_none, Option.map_some, h5]
            go_wp2_with fail
            exact ⟨rfl, hU, by rw [e]; rfl⟩
          | some y5 =>
            obtain ⟨x, r5⟩ := y5
            have hx := HH.out
            clear HH
            rw [h5] at hx
            obtain ⟨v, rfl, hv, hR⟩ := hx
            cases hv
            have q5 := vc_le (by omega) h5
            have H5 : Hid _ := h5
            clear h5
            go_wp2_with fail
            refine (wholeS 78 (enters_of Tryz.func78 (by kernel_rfl) rfl) rSv1 x (by omega) w5).mono ?_
            rintro xe w6 ⟨hU6, hx⟩
            have hB6 := hU6
            replace hU6 := Below.upto p hU6
            have z6 := hU6.size
            replace A2 := Arr.to' (n := 15) A2 hB6
            replace hU := hU.trans hU6
            have HH : Hid _ := hx
            clear hx
            cases h6 : whF sv1 x with
            | none =>
              have hx := HH.out
              rw [h6] at hx
              cases hx
              have e : svF s = none := by simp only [svF, H1.out, H2.out, H3.out, H4.out, H5.out, Option.bind_some, Option.bind_none, Option.map_none, Option.map_some, h6]
              go_wp2_with fail
              exact ⟨rfl, hU, by rw [e]; rfl⟩
            | some y6 =>
              have hx := HH.out
              clear HH
              rw [h6] at hx
              obtain ⟨v, rfl, hv⟩ := hx
              cases hv
              replace hR := hR.to hB6
              generalize y6 = sh at *
              have H6 : Hid _ := h6
              clear h6
              have e : svF s = some (⟨0, rn, ss, sh, nS, nS, [], 0, 0, nS⟩, r5) := by simp only [svF, H1.out, H2.out, H3.out, H4.out, H5.out, H6.out, Option.bind_some, Option.map_some]
              have hC := eL_cells rn ss sh nS nS nC [] nS rfl
              have HE : Hid _ := eL_v rn ss sh nS nS nC [] nS
              have HX : Hid _ := e
              clear e
              have HA : Hid _ := A2
              clear A2
              go_wp2_with (refine hC.wst tM HA.out (by rfl) (.tmp 2) (.tmp 20) (by rfl) (by rfl) (by rfl) ?_; generalize hW9 : World.setCells _ w.heap.size 0 _ = w9)
              have A9 := hC.set HA.out
              rw [hW9] at A9
              have U9 := hU.own (w.heap.size) (Nat.le_refl _) (Upto.sets w.heap.size w6 (eL rn ss sh nS nS nC nS) 0)
              rw [hW9] at U9
              have R9 := hR.sets pq (eL rn ss sh nS nS nC nS)
              rw [hW9] at R9
              refine bodyPost_ret (results_cell1 rfl _ rfl (hC.ld tM A9 0 (by omega) (fun j _ => by rw [Nat.zero_add]))) rfl ⟨U9, ?_⟩
              rw [HX.out]
              exact ⟨_, rfl, ⟨_, HE.out, Txs.nil _, Fsh.nil _⟩, R9⟩
set_option maxHeartbeats 2000000 in
theorem rClE : RdC 76 Vm clE := by
  intro p s w hz h
  have lt0 := h.lt
  have A2 := newZ w w.heap.size rfl
  have hB0 := Below.alloc (Below.refl w.heap.size w) (Nat.le_refl _) (.cells z16 29)
  have hR := h.to hB0
  have hU := Below.upto p hB0
  have z0 : (w.alloc (.cells z16 29)).heap.size = w.heap.size + 1 := by simp
  have pq : w.heap.size ≠ p := by omega
  go_enter Tryz.func76, Tryz.ntmps76
  go_wp2_with fail
  generalize w.alloc (.cells z16 29) = w0 at *
  refine (pass_any p s ⟨#[0, 0]⟩ (by omega) w0 hR).mono ?_
  rintro xe w1 ⟨hU1, hx⟩
  have z1 := hU1.size
  replace A2 : Arr w1 w.heap.size 16 _ := fun j hj => ⟨by rw [hU1.cell (by show w.heap.size < _; omega) pq]; exact (A2 j hj).1, by rw [hU1.frozen (by show w.heap.size < _; omega) pq]; exact (A2 j hj).2⟩
  replace hU := hU.trans hU1
  have HH : Hid _ := hx
  clear hx
  cases h1 : psF ⟨#[0, 0]⟩ s with
  | none =>
    have hx := HH.out
    rw [h1] at hx
    cases hx
    have e : clE s = none := by simp only [clE, Option.bind_some, Option.bind_none, Option.map_none, Option.map_some, h1]
    go_wp2_with fail
    exact ⟨rfl, hU, by rw [e]; rfl⟩
  | some y1 =>
    have hx := HH.out
    clear HH
    rw [h1] at hx
    obtain ⟨v, rfl, hv, hR⟩ := hx
    cases hv
    have q1 := ps_le h1
    generalize y1 = r1 at *
    have H1 : Hid _ := h1
    clear h1
    go_wp2_with fail
    refine (vector_any p r1 2 (by omega) (by omega) w1 hR).mono ?_
    rintro xe w2 ⟨hU2, hx⟩
    have z2 := hU2.size
    replace A2 : Arr w2 w.heap.size 16 _ := fun j hj => ⟨by rw [hU2.cell (by show w.heap.size < _; omega) pq]; exact (A2 j hj).1, by rw [hU2.frozen (by show w.heap.size < _; omega) pq]; exact (A2 j hj).2⟩
    replace hU := hU.trans hU2
    have HH : Hid _ := hx
    clear hx
    cases h2 : vcF 2 r1 with
    | none =>
      have hx := HH.out
      rw [h2] at hx
      cases hx
      have e : clE s = none := by simp only [clE, H1.out, Option.bind_some, Option.bind_none, Option.map_none, Option.map_some, h2]
      go_wp2_with fail
      exact ⟨rfl, hU, by rw [e]; rfl⟩
    | some y2 =>
      obtain ⟨x, r2⟩ := y2
      have hx := HH.out
      clear HH
      rw [h2] at hx
      obtain ⟨v, rfl, hv, hR⟩ := hx
      cases hv
      have q2 := vc_le (by omega) h2
      have H2 : Hid _ := h2
      clear h2
      go_wp2_with fail
      refine (wholeS 100 (enters_of Tryz.func100 (by kernel_rfl) rfl) rNm1 x (by omega) w2).mono ?_
      rintro xe w3 ⟨hU3, hx⟩
      have hB3 := hU3
      replace hU3 := Below.upto p hU3
      have z3 := hU3.size
      replace A2 := Arr.to' (n := 15) A2 hB3
      replace hU := hU.trans hU3
      have HH : Hid _ := hx
      clear hx
      cases h3 : whF nm1 x with
      | none =>
        have hx := HH.out
        rw [h3] at hx
        cases hx
        have e : clE s = none := by simp only [clE, H1.out, H2.out, Option.bind_some, Option.bind_none, Option.map_none, Option.map_some, h3]
        go_wp2_with fail
        exact ⟨rfl, hU, by rw [e]; rfl⟩
      | some y3 =>
        have hx := HH.out
        clear HH
        rw [h3] at hx
        obtain ⟨v, rfl, hv⟩ := hx
        cases hv
        replace hR := hR.to hB3
        generalize y3 = nm at *
        have H3 : Hid _ := h3
        clear h3
        go_wp2_with fail
        refine (pass_any p r2 ⟨#[0, 10, 0, 4, 0, 2, 0, 29, 0, 13, 0, 4, 0, 2, 4, 3]⟩ (by omega) w3 hR).mono ?_
        rintro xe w4 ⟨hU4, hx⟩
        have z4 := hU4.size
        replace A2 : Arr w4 w.heap.size 16 _ := fun j hj => ⟨by rw [hU4.cell (by show w.heap.size < _; omega) pq]; exact (A2 j hj).1, by rw [hU4.frozen (by show w.heap.size < _; omega) pq]; exact (A2 j hj).2⟩
        replace hU := hU.trans hU4
        have HH : Hid _ := hx
        clear hx
        cases h4 : psF ⟨#[0, 10, 0, 4, 0, 2, 0, 29, 0, 13, 0, 4, 0, 2, 4, 3]⟩ r2 with
        | none =>
          have hx := HH.out
          rw [h4] at hx
          cases hx
          have e : clE s = none := by simp only [clE, H1.out, H2.out, H3.out, Option.bind_some, Option.bind_none, Option.map_none, Option.map_some, h4]
          go_wp2_with fail
          exact ⟨rfl, hU, by rw [e]; rfl⟩
        | some y4 =>
          have hx := HH.out
          clear HH
          rw [h4] at hx
          obtain ⟨v, rfl, hv, hR⟩ := hx
          cases hv
          have q4 := ps_le h4
          generalize y4 = r4 at *
          have H4 : Hid _ := h4
          clear h4
          go_wp2_with fail
          refine (rAl p r4 w4 (by omega) hR).mono ?_
          rintro xe w5 ⟨hU5, hx⟩
          have z5 := hU5.size
          replace A2 : Arr w5 w.heap.size 16 _ := fun j hj => ⟨by rw [hU5.cell (by show w.heap.size < _; omega) pq]; exact (A2 j hj).1, by rw [hU5.frozen (by show w.heap.size < _; omega) pq]; exact (A2 j hj).2⟩
          replace hU := hU.trans hU5
          have HH : Hid _ := hx
          clear hx
          cases h5 : alF r4 with
          | none =>
            have hx := HH.out
            rw [h5] at hx
            cases hx
            have e : clE s = none := by simp only [clE, H1.out, H2.out, H3.out, H4.out, Option.bind_some, Option.bind_none, Option.map_none, Option.map_some, h5]
            go_wp2_with fail
            exact ⟨rfl, hU, by rw [e]; rfl⟩
          | some y5 =>
            obtain ⟨al, r5⟩ := y5
            have hx := HH.out
            clear HH
            rw [h5] at hx
            obtain ⟨v, rfl, hv, hR⟩ := hx
            cases hv
            have q5 := al_le h5
            have H5 : Hid _ := h5
            clear h5
            go_wp2_with fail
            refine (pass_any p r5 ⟨#[0, 43, 0, 3, 2, 3, 4, 0, 51, 0, 38, 0, 36, 0, 29, 0, 32]⟩ (by omega) w5 hR).mono ?_
            rintro xe w6 ⟨hU6, hx⟩
            have z6 := hU6.size
            replace A2 : Arr w6 w.heap.size 16 _ := fun j hj => ⟨by rw [hU6.cell (by show w.heap.size < _; omega) pq]; exact (A2 j hj).1, by rw [hU6.frozen (by show w.heap.size < _; omega) pq]; exact (A2 j hj).2⟩
            replace hU := hU.trans hU6
            have HH : Hid _ := hx
            clear hx
            cases h6 : psF ⟨#[0, 43, 0, 3, 2, 3, 4, 0, 51, 0, 38, 0, 36, 0, 29, 0, 32]⟩ r5 with
            | none =>
              have hx := HH.out
              rw [h6] at hx
              cases hx
              have e : clE s = none := by simp only [clE, H1.out, H2.out, H3.out, H4.out, H5.out, Option.bind_some, Option.bind_none, Option.map_none, Option.map_some, h6]
              go_wp2_with fail
              exact ⟨rfl, hU, by rw [e]; rfl⟩
            | some y6 =>
              have hx := HH.out
              clear HH
              rw [h6] at hx
              obtain ⟨v, rfl, hv, hR⟩ := hx
              cases hv
              have q6 := ps_le h6
              generalize y6 = r6 at *
              have H6 : Hid _ := h6
              clear h6
              go_wp2_with fail
              refine (take_any p r6 32 w6 hR).mono ?_
              rintro xe w7 ⟨hU7, hx⟩
              have z7 := hU7.size
              replace A2 : Arr w7 w.heap.size 16 _ := fun j hj => ⟨by rw [hU7.cell (by show w.heap.size < _; omega) pq]; exact (A2 j hj).1, by rw [hU7.frozen (by show w.heap.size < _; omega) pq]; exact (A2 j hj).2⟩
              replace hU := hU.trans hU7
              have HH : Hid _ := hx
              clear hx
              cases h7 : tkF 32 r6 with
              | none =>
                have hx := HH.out
                rw [h7] at hx
                cases hx
                have e : clE s = none := by simp only [clE, H1.out, H2.out, H3.out, H4.out, H5.out, H6.out, Option.bind_some, Option.bind_none, Option.map_none, Option.map_some, h7]
                go_wp2_with fail
                exact ⟨rfl, hU, by rw [e]; rfl⟩
              | some y7 =>
                obtain ⟨sh, r7⟩ := y7
                have hx := HH.out
                clear HH
                rw [h7] at hx
                obtain ⟨v, rfl, hv, hR⟩ := hx
                cases hv
                have q7 := tk_le h7
                have H7 : Hid _ := h7
                clear h7
                have e : clE s = some (⟨0, nS, nS, sh, nm, al, [], 0, 0, nS⟩, r7) := by simp only [clE, H1.out, H2.out, H3.out, H4.out, H5.out, H6.out, H7.out, Option.bind_some, Option.map_some]
                have hC := eL_cells nS nS sh nm al nC [] nS rfl
                have HE : Hid _ := eL_v nS nS sh nm al nC [] nS
                have HX : Hid _ := e
                clear e
                have HA : Hid _ := A2
                clear A2
                go_wp2_with (refine hC.wst tM HA.out (by rfl) (.tmp 2) (.tmp 20) (by rfl) (by rfl) (by rfl) ?_; generalize hW9 : World.setCells _ w.heap.size 0 _ = w9)
                have A9 := hC.set HA.out
                rw [hW9] at A9
                have U9 := hU.own (w.heap.size) (Nat.le_refl _) (Upto.sets w.heap.size w7 (eL nS nS sh nm al nC nS) 0)
                rw [hW9] at U9
                have R9 := hR.sets pq (eL nS nS sh nm al nC nS)
                rw [hW9] at R9
                refine bodyPost_ret (results_cell1 rfl _ rfl (hC.ld tM A9 0 (by omega) (fun j _ => by rw [Nat.zero_add]))) rfl ⟨U9, ?_⟩
                rw [HX.out]
                exact ⟨_, rfl, ⟨_, HE.out, Txs.nil _, Fsh.nil _⟩, R9⟩
end Go.Proofs.YtjdpeedghpblgaaGreatDoor
