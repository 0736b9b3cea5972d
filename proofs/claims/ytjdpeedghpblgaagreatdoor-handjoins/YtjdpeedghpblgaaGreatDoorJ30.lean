/- Texts joined: HF, HG, HH. -/
import Derived.Test.YtjdpeedghpblgaaGreatDoorJ29
import Derived.Test.YtjdpeedghpblgaaGreatDoorJ17
import Derived.Test.YtjdpeedghpblgaaGreatDoorJ15
import Derived.Test.YtjdpeedghpblgaaGreatDoorJ10
/- Package hand: a list of certificates is read. -/
set_option linter.all false
set_option maxRecDepth 100000
namespace Go.Proofs.YtjdpeedghpblgaaGreatDoor
open Go.RowKit Go.Sort Go.Shelf
def ceG : Nat → ByteArray → List ByteArray → Option (List ByteArray)
  | 0, s, acc => if s.size = 0 then some acc else none
  | f + 1, s, acc => if s.size = 0 then some acc else (vcF 3 s).bind fun x => (psF ⟨#[0, 0]⟩ x.2).bind fun r => ceG f r (acc ++ [x.1])
def ceF (s : ByteArray) : Option (List ByteArray × ByteArray) := (ceG s.size s []).bind fun l => some (l, nS)
/-- How much a reader has left. -/
def lfN (p : Nat) (w : World) : Nat := match w.cell? ⟨p, 0, none⟩ with
  | some (.string s) => s.size
  | _ => 0
theorem Rdr.n {w : World} {p : Nat} {s : ByteArray} {e : Int} (h : Rdr w p s e) : lfN p w = s.size := by unfold lfN; rw [h.l]
theorem Upto.gr {p : Nat} {w w' : World} (h : Upto p w w') : w.grownBy w' (some p) := ⟨h.os, h.tape, h.output, h.size, fun k hk hp => h.block k hk (fun e => hp (by rw [e]))⟩
theorem Rdr.gr {w w' : World} {p : Nat} {s : ByteArray} {e : Int} {row : Option Nat} (h : Rdr w p s e) (hg : w.grownBy w' row) (hp : some p ≠ row) : Rdr w' p s e :=
  ⟨by rw [World.cell?_of_block (w := w) (hg.block p h.lt hp)]; exact h.l, by rw [World.cell?_of_block (w := w) (a := ⟨p, 1, none⟩) (hg.block p h.lt hp)]; exact h.k, by rw [World.frozen?_of_block (w := w) (hg.block p h.lt hp)]; exact h.z⟩
theorem Upto.grw {p : Nat} {a w w' : World} {row : Option Nat} (h : Upto p a w) (hg : w.grownBy w' row) (hr : ∀ k, row = some k → a.heap.size ≤ k) : Upto p a w' :=
  ⟨hg.os.trans h.os, hg.tape.trans h.tape, hg.output.trans h.output, Nat.le_trans h.size hg.size, fun i hi hp => (hg.block i (Nat.lt_of_lt_of_le hi h.size) (fun e => by have := hr i e.symm; omega)).trans (h.block i hi hp)⟩
set_option maxHeartbeats 4000000 in
theorem rCe : RdC 82 Vl ceF := by
  intro p s w hz h
  obtain ⟨R, hR⟩ : ∃ R, ceG s.size s [] = R := ⟨_, rfl⟩
  have HN : Hid (R = none → ceF s = none) := fun e => by unfold ceF; rw [hR, e]; rfl
  have HS : Hid (∀ l, R = some l → ceF s = some (l, nS)) := fun l e => by unfold ceF; rw [hR, e]; rfl
  have HR : Hid (ceG s.size s [] = R) := hR
  clear hR
  obtain ⟨i0, hi, hz0, hz1, hz2⟩ := info_parts Tryz.infoS
  have own0 : w.ownsRow w.heap.size 9 1 (.slice none 0 0) 0 (([] : List ByteArray).map Value.string) := ⟨rfl, .inl ⟨rfl, rfl⟩⟩
  go_enter Tryz.func82, Tryz.ntmps82
  go_wp2_with fail
  go_loopw [3] (fun v wr => ∃ (S : ByteArray) (L : List ByteArray) (f : Nat), Rdr wr p S 10 ∧ S.size ≤ f ∧ L.length + S.size ≤ s.size ∧ Hid (ceG f S L = R) ∧ wr.ownsRow w.heap.size 9 1 v L.length (L.map Value.string) ∧ Upto p w wr)
    (fun _ wr => lfN p wr)
  case atStart => exact ⟨s, [], s.size, h, Nat.le_refl _, by simp, HR, own0, Upto.refl _ _⟩
  case round =>
    have lt0 := h.lt
    clear own0 HR h
    obtain ⟨S, L, f, hR, hS, hL, hG, hown, hU⟩ := hrel
    obtain ⟨ao, cv, hv⟩ := own_frm hown
    subst hv
    have s0 := hU.size
    have nb : some p ≠ (Value.slice ao L.length cv).ownBlock := fun e => by have := (hown.lt p e.symm).1; omega
    by_cases h0 : S.size = 0
    · have e := nS_size h0
      subst e
      have er : R = some L := by
        rw [← hG.out]
        cases f <;> (unfold ceG; rw [if_pos h0])
      have HE : Hid _ := HS.out L er
      have HT : Hid (Txs wr (.slice ao L.length cv) L ∧ Fsh w.heap.size (.slice ao L.length cv)) := ⟨Txs.own hown, Frs.own hown (Nat.le_refl _)⟩
      have l0 := hR.l
      have HR' : Hid _ := hR
      clear hR hown hG er
      go_wp2_with fail
      go_ret
      exact ⟨hU, by rw [HE.out]; exact ⟨_, rfl, HT.out, HR'.out⟩⟩
    · obtain ⟨f', rfl⟩ : ∃ f', f = f' + 1 := ⟨f - 1, by omega⟩
      have h1 := no_mt h0
      have l0 := hR.l
      have HO : Hid (wr.ownsRow w.heap.size 9 1 (.slice ao L.length cv) L.length (L.map Value.string)) := hown
      have HRr : Hid (Rdr wr p S 10) := hR
      clear hown
      go_wp2_with fail
      refine (vector_any p S 3 (by omega) (by omega) wr HRr.out).mono ?_
      rintro xe w1 ⟨hU1, hx⟩
      have HH : Hid _ := hx
      clear hx
      cases hv : vcF 3 S with
      | none =>
        have hx := HH.out
        rw [hv] at hx
        cases hx
        have er : R = none := by rw [← hG.out, ceG, if_neg h0, hv]; rfl
        have HE := HN.out er
        have hU2 := hU.trans hU1
        clear l0 hR
        go_wp2_with fail
        exact ⟨rfl, hU2, by rw [HE]; rfl⟩
      | some y =>
        obtain ⟨c, r⟩ := y
        have hx := HH.out
        rw [hv] at hx
        obtain ⟨vv, rfl, hvv, hR1⟩ := hx
        cases hvv
        have q1 := vc_le (by omega) hv
        have q2 : r.size + 3 ≤ S.size := by
          have := ((vc_iff 3 (by omega) S c r).1 hv).2
          rw [this, ap_size, vec_size]; omega
        have er : ((psF ⟨#[0, 0]⟩ r).bind fun r => ceG f' r (L ++ [c])) = R := by rw [← hG.out, ceG, if_neg h0, hv]; rfl
        have HG : Hid _ := er
        have O1 := HO.out.kept hU1.gr (Or.inr nb.symm)
        have hU2 := hU.trans hU1
        have n0 := HRr.out.n
        have kb : L.length + 1 ≤ maxLen := by unfold maxLen; omega
        clear er hG hv HH l0 hR HRr HO hU hU1
        go_wp2_with (at_builtin; refine stopAt ?_)
        unfold Stop
        have s1 := hU2.size
        have O4 := World.ownsRow.alloc O1 (.cells #[.string c] 9)
        have nw := news_new w1 [.string c] 9
        have hle : w.heap.size ≤ (w1.alloc (.cells #[.string c] 9)).heap.size := by simp; omega
        have hal := Below.alloc (Below.refl w1.heap.size w1) (Nat.le_refl _) (.cells #[.string c] 9)
        replace hR1 := hR1.to hal
        replace hU2 := hU2.trans (Below.upto p hal)
        clear hal O1
        generalize w1.alloc (.cells #[.string c] 9) = W4 at *
        refine wpList_append_own _ rfl _ _ 22 rfl w.heap.size 9 i0 (.string nS) 1 16 Tryz.underlying22 hi hz0 hz1 hz2 rfl (by decide) _ _ _ rfl O4 ⟨_, 0, none⟩ 1 1 [.string c] rfl rfl nw (fun u hu => by simp at hu; subst hu; rfl) kb (by omega) hle ?_
        intro v' w5 hown' hgrow hnil
        replace hR1 := hR1.gr hgrow nb
        replace hU2 := hU2.grw hgrow (fun k hk => (O4.lt k hk).1)
        clear hgrow hnil O4 nw hle
        obtain ⟨ao', cv', hv'⟩ := own_frm hown'
        subst hv'
        have HO' : Hid (w5.ownsRow w.heap.size 9 1 (.slice ao' (L.length + 1) cv') (L ++ [c]).length ((L ++ [c]).map Value.string)) := by
          show World.ownsRow _ _ _ _ _ _ _
          rw [List.length_append, List.map_append]; exact hown'
        have nb' : some p ≠ (Value.slice ao' (L.length + 1) cv').ownBlock := fun e => by have := (hown'.lt p e.symm).1; omega
        clear hown'
        go_wp2_with fail
        refine (pass_any p r ⟨#[0, 0]⟩ (by omega) w5 hR1).mono ?_
        rintro xe w6 ⟨hU6, hx⟩
        have HH : Hid _ := hx
        clear hx
        cases hp : psF ⟨#[0, 0]⟩ r with
        | none =>
          have hx := HH.out
          rw [hp] at hx
          cases hx
          have er : R = none := by rw [← HG.out, hp]; rfl
          have HE := HN.out er
          have hU7 := hU2.trans hU6
          go_wp2_with fail
          exact ⟨rfl, hU7, by rw [HE]; rfl⟩
        | some r' =>
          have hx := HH.out
          rw [hp] at hx
          obtain ⟨vv, rfl, hvv, hR6⟩ := hx
          cases hvv
          have q3 := ps_le hp
          have er : ceG f' r' (L ++ [c]) = R := by rw [← HG.out, hp]; rfl
          have HG6 : Hid _ := er
          have O6 : Hid _ := HO'.out.kept hU6.gr (Or.inr nb'.symm)
          have hU7 := hU2.trans hU6
          have n6 := hR6.n
          have HL : Hid ((L ++ [c]).length + r'.size ≤ s.size) := by show _ ≤ _; rw [List.length_append]; show L.length + 1 + _ ≤ _; omega
          clear er hp HH HG HO' hU2 hU6
          go_wp2_with fail
          exact ⟨⟨r', L ++ [c], f', hR6, by omega, HL.out, HG6, O6.out, hU7⟩, by rw [n6, n0]; omega⟩
end Go.Proofs.YtjdpeedghpblgaaGreatDoor
/- Package hand: certificates, and what a client says, are read. -/
set_option linter.all false
set_option maxRecDepth 100000
namespace Go.Proofs.YtjdpeedghpblgaaGreatDoor
open Go.RowKit Go.Sort Go.Shelf
theorem Txs.lt {w : World} {u : Value} {l : List ByteArray} (h : Txs w u l) {a : Addr} {n c : Nat} (e : u = .slice (some a) n c) (ne : l ≠ []) : a.block < w.heap.size := by
  rcases h with ⟨h1, h2⟩ | ⟨b, cap, h1, h0, h2⟩
  · exact absurd h2 ne
  · rw [e] at h1
    injection h1 with h1 _ _
    injection h1 with h1
    subst h1
    cases l with
    | nil => exact absurd rfl ne
    | cons t l =>
      have := block_lt_of_cell (h2 0 t rfl)
      have q : (a.add ((0 : Nat) : Nat)).block = a.block := by simp only [Addr.add]; split <;> rfl
      exact q ▸ this
theorem Txs.ups {w w' : World} {u : Value} {l : List ByteArray} {p : Nat} (h : Txs w u l) (hp : ∀ a n c, u = .slice (some a) n c → l ≠ [] → a.block ≠ p) (hU : Upto p w w') : Txs w' u l := by
  rcases h with h | ⟨b, cap, h1, h0, h2⟩
  · exact .inl h
  · refine .inr ⟨b, cap, h1, h0, fun i s hi => ?_⟩
    have q := h2 i s hi
    rw [← q]
    have q2 : (b.add i).block = b.block := by simp only [Addr.add]; split <;> rfl
    exact hU.cell (block_lt_of_cell q) (by rw [q2]; exact hp b _ _ h1 (fun e => by rw [e] at hi; cases hi))
def ctF (s : ByteArray) : Option (Mg × ByteArray) := (psF ⟨#[0]⟩ s).bind fun s1 => (vcF 3 s1).bind fun x => (whF ceF x.1).bind fun l => some (⟨0, nS, nS, nS, nS, nS, l, 0, 0, nS⟩, x.2)
def clF (s : ByteArray) : Option (Mg × ByteArray) := (psF ⟨#[3, 3]⟩ s).bind fun s1 => (tkF 32 s1).bind fun x => (vcF 1 x.2).bind fun y => (psF ⟨#[0, 2, 19, 1, 1, 0]⟩ y.2).bind fun s4 => (vcF 2 s4).bind fun z => (whF clE z.1).bind fun m => some (⟨m.k, x.1, y.1, m.sh, m.nm, m.al, m.cs, m.x, m.y, m.mc⟩, z.2)
set_option maxHeartbeats 2000000 in
theorem rCt : RdC 45 Vm ctF := by
  intro p s w hz h
  have lt0 := h.lt
  have A2 := newZ w w.heap.size rfl
  have hB0 := Below.alloc (Below.refl w.heap.size w) (Nat.le_refl _) (.cells z16 29)
  have hR := h.to hB0
  have hU := Below.upto p hB0
  have z0 : (w.alloc (.cells z16 29)).heap.size = w.heap.size + 1 := by simp
  have pq : w.heap.size ≠ p := by omega
  go_enter Tryz.func45, Tryz.ntmps45
  go_wp2_with fail
  generalize w.alloc (.cells z16 29) = w0 at *
  refine (pass_any p s ⟨#[0]⟩ (by omega) w0 hR).mono ?_
  rintro xe w1 ⟨hU1, hx⟩
  have z1 := hU1.size
  replace A2 : Arr w1 w.heap.size 16 _ := fun j hj => ⟨by rw [hU1.cell (by show w.heap.size < _; omega) pq]; exact (A2 j hj).1, by rw [hU1.frozen (by show w.heap.size < _; omega) pq]; exact (A2 j hj).2⟩
  replace hU := hU.trans hU1
  have HH : Hid _ := hx
  clear hx
  cases h1 : psF ⟨#[0]⟩ s with
  | none =>
    have hx := HH.out
    rw [h1] at hx
    cases hx
    have e : ctF s = none := by simp only [ctF, Option.bind_some, Option.bind_none, Option.map_none, Option.map_some, h1]
    go_wp2_with fail
    exact ⟨rfl, hU, by rw [e]; rfl⟩
  | some y1 =>
    have hx := HH.out
    clear HH
    rw [h1] at hx
    obtain ⟨v, rfl, hv, hR⟩ := hx
    cases hv
    have q1 := ps_le h1
    generalize y1 = r1 at *
    have H1 : Hid _ := h1
    clear h1
    go_wp2_with fail
    refine (vector_any p r1 3 (by omega) (by omega) w1 hR).mono ?_
    rintro xe w2 ⟨hU2, hx⟩
    have z2 := hU2.size
    replace A2 : Arr w2 w.heap.size 16 _ := fun j hj => ⟨by rw [hU2.cell (by show w.heap.size < _; omega) pq]; exact (A2 j hj).1, by rw [hU2.frozen (by show w.heap.size < _; omega) pq]; exact (A2 j hj).2⟩
    replace hU := hU.trans hU2
    have HH : Hid _ := hx
    clear hx
    cases h2 : vcF 3 r1 with
    | none =>
      have hx := HH.out
      rw [h2] at hx
      cases hx
      have e : ctF s = none := by simp only [ctF, H1.out, Option.bind_some, Option.bind_none, Option.map_none, Option.map_some, h2]
      go_wp2_with fail
      exact ⟨rfl, hU, by rw [e]; rfl⟩
    | some y2 =>
      obtain ⟨x, r2⟩ := y2
      have hx := HH.out
      clear HH
      rw [h2] at hx
      obtain ⟨v, rfl, hv, hR⟩ := hx
      cases hv
      have q2 := vc_le (by omega) h2
      have H2 : Hid _ := h2
      clear h2
      go_wp2_with fail
      refine (wholeL 82 (enters_of Tryz.func82 (by kernel_rfl) rfl) rCe x (by omega) w2).mono ?_
      rintro xe w3 ⟨hU3, hx⟩
      have hB3 := hU3
      replace hU3 := Below.upto p hU3
      have z3 := hU3.size
      replace A2 := Arr.to' (n := 15) A2 hB3
      replace hU := hU.trans hU3
      have HH : Hid _ := hx
      clear hx
      cases h3 : whF ceF x with
      | none =>
        have hx := HH.out
        rw [h3] at hx
        cases hx
        have e : ctF s = none := by simp only [ctF, H1.out, H2.out, Option.bind_some, Option.bind_none, Option.map_none, Option.map_some, h3]
        go_wp2_with fail
        exact ⟨rfl, hU, by rw [e]; rfl⟩
      | some y3 =>
        have hx := HH.out
        clear HH
        rw [h3] at hx
        obtain ⟨v, rfl, hT, hF⟩ := hx
        replace hR := hR.to hB3
        generalize y3 = cs at *
        obtain ⟨ao, cv, rfl⟩ : ∃ ao cv, v = .slice ao cs.length cv := by
          rcases hT with ⟨h1, h2⟩ | ⟨a, cap, h1, _⟩
          · exact ⟨none, 0, by rw [h2]; exact h1⟩
          · exact ⟨some a, cap, h1⟩
        have HT : Hid (Txs w3 (.slice ao cs.length cv) cs ∧ Fsh _ (.slice ao cs.length cv)) := ⟨hT, hF⟩
        clear hT hF
        have H3 : Hid _ := h3
        clear h3
        have e : ctF s = some (⟨0, nS, nS, nS, nS, nS, cs, 0, 0, nS⟩, r2) := by simp only [ctF, H1.out, H2.out, H3.out, Option.bind_some, Option.map_some]
        have hC := eL_cells nS nS nS nS nS (.slice ao cs.length cv) cs nS rfl
        have HE : Hid _ := eL_v nS nS nS nS nS (.slice ao cs.length cv) cs nS
        have HX : Hid _ := e
        clear e
        have HA : Hid _ := A2
        clear A2
        go_wp2_with (refine hC.wst tM HA.out (by rfl) (.tmp 2) (.tmp 8) (by rfl) (by rfl) (by rfl) ?_; generalize hW9 : World.setCells _ w.heap.size 0 _ = w9)
        have A9 := hC.set HA.out
        rw [hW9] at A9
        have U9 := hU.own (w.heap.size) (Nat.le_refl _) (Upto.sets w.heap.size w3 (eL nS nS nS nS nS (.slice ao cs.length cv) nS) 0)
        rw [hW9] at U9
        have R9 := hR.sets pq (eL nS nS nS nS nS (.slice ao cs.length cv) nS)
        rw [hW9] at R9
        refine bodyPost_ret (results_cell1 rfl _ rfl (hC.ld tM A9 0 (by omega) (fun j _ => by rw [Nat.zero_add]))) rfl ⟨U9, ?_⟩
        rw [HX.out]
        exact ⟨_, rfl, ⟨_, HE.out, by rw [← hW9]; exact HT.out.1.up HT.out.2 (by omega) (Upto.sets _ _ _ _), HT.out.2.less (by omega)⟩, R9⟩
set_option maxHeartbeats 2000000 in
theorem rCl : RdC 36 Vm clF := by
  intro p s w hz h
  have lt0 := h.lt
  have A2 := newZ w w.heap.size rfl
  have hB0 := Below.alloc (Below.refl w.heap.size w) (Nat.le_refl _) (.cells z16 29)
  have hR := h.to hB0
  have hU := Below.upto p hB0
  have z0 : (w.alloc (.cells z16 29)).heap.size = w.heap.size + 1 := by simp
  have pq : w.heap.size ≠ p := by omega
  go_enter Tryz.func36, Tryz.ntmps36
  go_wp2_with fail
  generalize w.alloc (.cells z16 29) = w0 at *
  refine (pass_any p s ⟨#[3, 3]⟩ (by omega) w0 hR).mono ?_
  rintro xe w1 ⟨hU1, hx⟩
  have z1 := hU1.size
  replace A2 : Arr w1 w.heap.size 16 _ := fun j hj => ⟨by rw [hU1.cell (by show w.heap.size < _; omega) pq]; exact (A2 j hj).1, by rw [hU1.frozen (by show w.heap.size < _; omega) pq]; exact (A2 j hj).2⟩
  replace hU := hU.trans hU1
  have HH : Hid _ := hx
  clear hx
  cases h1 : psF ⟨#[3, 3]⟩ s with
  | none =>
    have hx := HH.out
    rw [h1] at hx
    cases hx
    have e : clF s = none := by simp only [clF, Option.bind_some, Option.bind_none, Option.map_none, Option.map_some, h1]
    go_wp2_with fail
    exact ⟨rfl, hU, by rw [e]; rfl⟩
  | some y1 =>
    have hx := HH.out
    clear HH
    rw [h1] at hx
    obtain ⟨v, rfl, hv, hR⟩ := hx
    cases hv
    have q1 := ps_le h1
    generalize y1 = r1 at *
    have H1 : Hid _ := h1
    clear h1
    go_wp2_with fail
    refine (take_any p r1 32 w1 hR).mono ?_
    rintro xe w2 ⟨hU2, hx⟩
    have z2 := hU2.size
    replace A2 : Arr w2 w.heap.size 16 _ := fun j hj => ⟨by rw [hU2.cell (by show w.heap.size < _; omega) pq]; exact (A2 j hj).1, by rw [hU2.frozen (by show w.heap.size < _; omega) pq]; exact (A2 j hj).2⟩
    replace hU := hU.trans hU2
    have HH : Hid _ := hx
    clear hx
    cases h2 : tkF 32 r1 with
    | none =>
      have hx := HH.out
      rw [h2] at hx
      cases hx
      have e : clF s = none := by simp only [clF, H1.out, Option.bind_some, Option.bind_none, Option.map_none, Option.map_some, h2]
      go_wp2_with fail
      exact ⟨rfl, hU, by rw [e]; rfl⟩
    | some y2 =>
      obtain ⟨rn, r2⟩ := y2
      have hx := HH.out
      clear HH
      rw [h2] at hx
      obtain ⟨v, rfl, hv, hR⟩ := hx
      cases hv
      have q2 := tk_le h2
      have H2 : Hid _ := h2
      clear h2
      go_wp2_with fail
      refine (vector_any p r2 1 (by omega) (by omega) w2 hR).mono ?_
      rintro xe w3 ⟨hU3, hx⟩
      have z3 := hU3.size
      replace A2 : Arr w3 w.heap.size 16 _ := fun j hj => ⟨by rw [hU3.cell (by show w.heap.size < _; omega) pq]; exact (A2 j hj).1, by rw [hU3.frozen (by show w.heap.size < _; omega) pq]; exact (A2 j hj).2⟩
      replace hU := hU.trans hU3
      have HH : Hid _ := hx
      clear hx
      cases h3 : vcF 1 r2 with
      | none =>
        have hx := HH.out
        rw [h3] at hx
        cases hx
        have e : clF s = none := by simp only [clF, H1.out, H2.out, Option.bind_some, Option.bind_none, Option.map_none, Option.map_some, h3]
        go_wp2_with fail
        exact ⟨rfl, hU, by rw [e]; rfl⟩
      | some y3 =>
        obtain ⟨ss, r3⟩ := y3
        have hx := HH.out
        clear HH
        rw [h3] at hx
        obtain ⟨v, rfl, hv, hR⟩ := hx
        cases hv
        have q3 := vc_le (by omega) h3
        have H3 : Hid _ := h3
        clear h3
        go_wp2_with fail
        refine (pass_any p r3 ⟨#[0, 2, 19, 1, 1, 0]⟩ (by omega) w3 hR).mono ?_
        rintro xe w4 ⟨hU4, hx⟩
        have z4 := hU4.size
        replace A2 : Arr w4 w.heap.size 16 _ := fun j hj => ⟨by rw [hU4.cell (by show w.heap.size < _; omega) pq]; exact (A2 j hj).1, by rw [hU4.frozen (by show w.heap.size < _; omega) pq]; exact (A2 j hj).2⟩
        replace hU := hU.trans hU4
        have HH : Hid _ := hx
        clear hx
        cases h4 : psF ⟨#[0, 2, 19, 1, 1, 0]⟩ r3 with
        | none =>
          have hx := HH.out
          rw [h4] at hx
          cases hx
          have e : clF s = none := by simp only [clF, H1.out, H2.out, H3.out, Option.bind_some, Option.bind_none, Option.map_none, Option.map_some, h4]
          go_wp2_with fail
          exact ⟨rfl, hU, by rw [e]; rfl⟩
        | some y4 =>
          have hx := HH.out
          clear HH
          rw [h4] at hx
          obtain ⟨v, rfl, hv, hR⟩ := hx
          cases hv
          have q4 := ps_le h4
          generalize y4 = r4 at *
          have H4 : Hid _ := h4
          clear h4
          go_wp2_with fail
          refine (vector_any p r4 2 (by omega) (by omega) w4 hR).mono ?_
          rintro xe w5 ⟨hU5, hx⟩
          have z5 := hU5.size
          replace A2 : Arr w5 w.heap.size 16 _ := fun j hj => ⟨by rw [hU5.cell (by show w.heap.size < _; omega) pq]; exact (A2 j hj).1, by rw [hU5.frozen (by show w.heap.size < _; omega) pq]; exact (A2 j hj).2⟩
          replace hU := hU.trans hU5
          have HH : Hid _ := hx
          clear hx
          cases h5 : vcF 2 r4 with
          | none =>
            have hx := HH.out
            rw [h5] at hx
            cases hx
            have e : clF s = none := by simp only [clF, H1.out, H2.out, H3.out, H4.out, Option.bind_some, Option.bind_none, Option.map_none, Option.map_some, h5]
            go_wp2_with fail
            exact ⟨rfl, hU, by rw [e]; rfl⟩
          | some y5 =>
            obtain ⟨x, r5⟩ := y5
            have hx := HH.out
            clear HH
            rw [h5] at hx
            obtain ⟨v, rfl, hv, hR⟩ := hx
            cases hv
            have q5 := vc_le (by omega) h5
            have H5 : Hid _ := h5
            clear h5
            go_wp2_with fail
            refine (wholeM 76 (enters_of Tryz.func76 (by kernel_rfl) rfl) rClE x (by omega) w5).mono ?_
            rintro xe w6 ⟨hU6, hx⟩
            have hB6 := hU6
            replace hU6 := Below.upto p hU6
            have z6 := hU6.size
            replace A2 := Arr.to' (n := 15) A2 hB6
            replace hU := hU.trans hU6
            have HH : Hid _ := hx
            clear hx
            cases h6 : whF clE x with
            | none =>
              have hx := HH.out
              rw [h6] at hx
              cases hx
              have e : clF s = none := by simp only [clF, H1.out, H2.out, H3.out, H4.out, H5.out, Option.bind_some, Option.bind_none, Option.map_none, Option.map_some, h6]
              go_wp2_with fail
              exact ⟨rfl, hU, by rw [e]; rfl⟩
            | some y6 =>
              have hx := HH.out
              clear HH
              rw [h6] at hx
              obtain ⟨v, rfl, u, rfl, hT, hF⟩ := hx
              replace hR := hR.to hB6
              generalize y6 = m at *
              have H6 : Hid _ := h6
              clear h6
              have e : clF s = some (⟨m.k, rn, ss, m.sh, m.nm, m.al, m.cs, m.x, m.y, m.mc⟩, r5) := by simp only [clF, H1.out, H2.out, H3.out, H4.out, H5.out, H6.out, Option.bind_some, Option.map_some]
              have HX : Hid _ := e
              clear e
              have hL := m.cells u hT.one
              have hL2 := (⟨m.k, rn, ss, m.sh, m.nm, m.al, m.cs, m.x, m.y, m.mc⟩ : Mg).cells u hT.one
              have HV : Hid ((⟨m.k, rn, ss, m.sh, m.nm, m.al, m.cs, m.x, m.y, m.mc⟩ : Mg).v u = .agg ((⟨m.k, rn, ss, m.sh, m.nm, m.al, m.cs, m.x, m.y, m.mc⟩ : Mg).l u).toArray) := Mg.v_l _ u
              have HT : Hid (Txs w6 u m.cs ∧ Fsh w5.heap.size u) := ⟨hT, hF⟩
              clear hT hF
              rw [Mg.v_l m u]
              have HC : Hid (∀ W b, Arr W b 16 (m.c u) → Arr ((W.setCell ⟨b, 1, none⟩ (.string rn)).setCell ⟨b, 2, none⟩ (.string ss)) b 16 ((⟨m.k, rn, ss, m.sh, m.nm, m.al, m.cs, m.x, m.y, m.mc⟩ : Mg).c u)) := fun W b A => ((A.set 1 (by omega) (.string rn)).set 2 (by omega) (.string ss)).congr (to16 rfl rfl rfl rfl rfl rfl rfl rfl rfl rfl rfl rfl rfl rfl rfl rfl)
              generalize m.l u = L at *
              generalize m.c u = Fc at *
              generalize (⟨m.k, rn, ss, m.sh, m.nm, m.al, m.cs, m.x, m.y, m.mc⟩ : Mg).l u = L2 at *
              generalize (⟨m.k, rn, ss, m.sh, m.nm, m.al, m.cs, m.x, m.y, m.mc⟩ : Mg).c u = Fd at *
              have A5 := newZ w6 w6.heap.size rfl
              have HA : Hid _ := A2
              clear A2
              go_upto_region 5 with (refine hL.wst tM A5 (by rfl) (.tmp 5) (.tmp 16) (by rfl) (by rfl) (by rfl) ?_)
              have hB7 := below_setCells (Below.alloc (Below.refl w6.heap.size w6) (Nat.le_refl _) (.cells z16 29)) (b := w6.heap.size) (Nat.le_refl _) L 0
              replace A5 := hL.set A5
              replace hR := hR.to hB7
              have A2 := Arr.to' (n := 15) HA.out hB7
              replace hU := hU.trans (Below.upto p hB7)
              have HT7 : Hid (Txs ((w6.alloc (.cells z16 29)).setCells w6.heap.size 0 L) u m.cs ∧ Fsh w5.heap.size u ∧ (∀ a n c, u = .slice (some a) n c → m.cs ≠ [] → a.block < w6.heap.size)) := ⟨HT.out.1.to hB7, HT.out.2, fun a n c e ne => Txs.lt HT.out.1 e ne⟩
              have s7 := hB7.size
              clear hB7 HA HT
              generalize (w6.alloc (.cells z16 29)).setCells w6.heap.size 0 L = W7 at *
              generalize hb5 : w6.heap.size = b5 at *
              have g1 := A5.c 1 (by omega)
              have f1 := A5.z 1 (by omega)
              have g2 := A5.c 2 (by omega)
              have f2 := A5.z 2 (by omega)
              go_upto_region 6 with (fail)
              have A6 := HC.out W7 b5 A5
              have U6 := (Upto.put b5 1 W7 (.string rn)).trans (Upto.put b5 2 _ (.string ss))
              have lt5 := Arr.lt (n := 15) A5
              have b5p : b5 ≠ p := by omega
              replace hR := hR.gr U6.gr (fun e => b5p (Option.some.inj e).symm)
              replace A2 : Arr ((W7.setCell ⟨b5, 1, none⟩ (.string rn)).setCell ⟨b5, 2, none⟩ (.string ss)) w.heap.size 16 _ := (A2.other (b' := b5) (by omega) _).other (b' := b5) (by omega) _
              replace hU := hU.own b5 (by omega) U6
              have z6 := U6.size
              have HT8 : Hid (Txs ((W7.setCell ⟨b5, 1, none⟩ (.string rn)).setCell ⟨b5, 2, none⟩ (.string ss)) u m.cs) := Txs.ups HT7.out.1 (fun a n c e ne => by have := HT7.out.2.2 a n c e ne; omega) U6
              clear U6 g1 g2 f1 f2 A5
              generalize (W7.setCell ⟨b5, 1, none⟩ (.string rn)).setCell ⟨b5, 2, none⟩ (.string ss) = W8 at *
              have HA : Hid _ := A2
              clear A2
              go_wp2_with (first | (refine hL2.wld tM A6 0 (by omega) (fun j _ => by rw [Nat.zero_add]) (by rfl) (.tmp 5) (by rfl) (by rfl) ?_) | (refine hL2.wst tM HA.out (by rfl) (.tmp 2) (.tmp 21) (by rfl) (by rfl) (by rfl) ?_))
              have A9 := hL2.set HA.out
              refine bodyPost_ret (results_cell1 rfl _ rfl (hL2.ld tM A9 0 (by omega) (fun j _ => by rw [Nat.zero_add]))) rfl ⟨hU.own (w.heap.size) (Nat.le_refl _) (Upto.sets w.heap.size W8 L2 0), ?_⟩
              rw [HX.out]
              exact ⟨_, rfl, ⟨u, HV.out.symm, HT8.out.up HT7.out.2.1 (by omega) (Upto.sets _ _ _ _), HT7.out.2.1.less (by omega)⟩, hR.sets pq L2⟩
end Go.Proofs.YtjdpeedghpblgaaGreatDoor
/- Package hand: the parts of a text of tags; signatures are read. -/
set_option linter.all false
set_option maxRecDepth 100000
namespace Go.Proofs.YtjdpeedghpblgaaGreatDoor
open Go.RowKit Go.Sort Go.Shelf
theorem mustT_ok (v : Value) (w : World) : Calls Tryz.prog 107 #[v, .int .i64 0] w fun x w' => x = .returned v ∧ w' = w := by
  go_enter Tryz.func107, Tryz.ntmps107
  go_wp2
  go_ret
  exact ⟨rfl, rfl⟩
theorem mustT_no (v : Value) (E : Int) (hE : E ≠ 0) (w : World) : Calls Tryz.prog 107 #[v, .int .i64 E] w fun x w' => x = .panicked (pk 10) ∧ w' = w := by
  have h2 : (E == 0) = false := by simpa using hE
  go_enter Tryz.func107, Tryz.ntmps107
  go_wp2
  exact ⟨rfl, rfl, rfl⟩
theorem mustN_ok (N : Int) (w : World) : Calls Tryz.prog 87 #[nv N, .int .i64 0] w fun x w' => x = .returned (nv N) ∧ Below w.heap.size w w' := by
  unfold nv
  go_enter Tryz.func87, Tryz.ntmps87
  go_wp2
  refine bodyPost_ret (v := .agg #[.int .u64 (lim N 0), .int .u64 (lim N 1), .int .u64 (lim N 2), .int .u64 (lim N 3)]) (by simp [results, Tryz.results87, go_sem]) rfl ⟨rfl, by go_grown⟩
theorem mustN_no (E : Int) (hE : E ≠ 0) (w : World) : Calls Tryz.prog 87 #[nz, .int .i64 E] w fun x w' => x = .panicked (pk 10) ∧ Below w.heap.size w w' := by
  have h2 : (E == 0) = false := by simpa using hE
  go_enter Tryz.func87, Tryz.ntmps87
  go_wp2
  exact ⟨rfl, rfl, by go_grown⟩
def paF (s : ByteArray) (T : List Int) : Option (List ByteArray) := match alG 64 s [] with
  | some l => if l.map (·.1) = T then some (l.map (·.2)) else none
  | none => none
/-- A row of numbers. -/
def Ints (w : World) (g : Nat) (T : List Int) : Prop := ∀ (i : Nat) (t : Int), T[i]? = some t → w.cell? ⟨g, i, none⟩ = some (.int .i64 t)
theorem Ints.to {w w' : World} {g : Nat} {T : List Int} (h : Ints w g T) (hb : Below w.heap.size w w') : Ints w' g T := fun i t e => (hb.cell (p := ⟨g, i, none⟩) (block_lt_of_cell (h i t e))).trans (h i t e)
set_option maxHeartbeats 4000000 in
theorem parts_any (s : ByteArray) (hs : s.size ≤ 20000) (T : List Int) (hT : T.length = 1 ∨ T.length = 2) (g c : Nat) (w : World) (hg : Ints w g T) :
    Calls Tryz.prog 86 #[.string s, .slice (some ⟨g, 0, none⟩) T.length c] w fun x w' => Below w.heap.size w w' ∧ WhR (Vl w.heap.size) (paF s T) x w' := by
  obtain ⟨i0, hi, hz0, hz1, hz2⟩ := info_parts Tryz.infoS
  have A := dAll_any s (by omega) w
  go_enter Tryz.func86, Tryz.ntmps86
  go_wp2_with fail
  refine A.mono ?_
  rintro xe w1 ⟨hB, ⟨l, v, hl, rfl, hv⟩ | ⟨hl, E, hE, rfl⟩⟩
  · have M := fun W => mustT_ok v W
    have hg1 := hg.to hB
    obtain ⟨a, c', rfl, hc⟩ := hv
    have HP : Hid (paF s T = if l.map (·.1) = T then some (l.map (·.2)) else none) := by show _ = _; unfold paF; rw [hl]
    have t2 : T.length ≤ 2 := by omega
    clear hl A hg
    by_cases hn : l.length = T.length
    · have hlen : ((l.length : Nat) : Int) = ((T.length : Nat) : Int) := by omega
      have own0 : w1.ownsRow w1.heap.size 9 1 (.slice none 0 0) 0 (([] : List ByteArray).map Value.string) := ⟨rfl, .inl ⟨rfl, rfl⟩⟩
      have HC : Hid _ := hc
      have HN : Hid (l.length = T.length) := hn
      have HG : Hid (Ints w1 g T) := hg1
      clear hc hn hg1
      generalize hln : l.length = n at *
      generalize htn : T.length = m at *
      have em : m = n := by have := HN.out; omega
      subst em
      clear hlen
      go_wp2_with (go_at_call 107; refine (M _).mono ?_; intro ee ww hh; rw [hh.1, hh.2]; clear hh ee ww)
      go_loopw [6, 22] (fun v i wr => ∃ j : Nat, j ≤ m ∧ i = .int .i64 (j : Int) ∧ Hid ((l.take j).map (·.1) = T.take j) ∧ wr.ownsRow w1.heap.size 9 1 v ((l.take j).map (·.2)).length (((l.take j).map (·.2)).map Value.string) ∧ Below w1.heap.size w1 wr) (fun _ i _ => m - (Go.RowKit.intOf i).toNat)
      case atStart => exact ⟨0, by omega, rfl, rfl, own0, Below.refl _ _⟩
      case round =>
        clear own0 M
        obtain ⟨j, hj, rfl, hE, hown, hB1⟩ := hrel
        obtain ⟨ao, cv, hv⟩ := own_frm hown
        subst hv
        have szB := hB1.size
        by_cases hlt : j < m
        · obtain ⟨⟨t, b⟩, hp⟩ : ∃ p, l[j]? = some p := ⟨l[j]'(by omega), List.getElem?_eq_getElem (by omega)⟩
          obtain ⟨u, hu⟩ : ∃ u, T[j]? = some u := ⟨T[j]'(by omega), List.getElem?_eq_getElem (by omega)⟩
          obtain ⟨gg, rfl, lt, c0, c1⟩ := HC.out j (t, b) hp
          have d0 := (hB1.cell (p := ⟨gg, 2 * j, none⟩) lt).trans c0
          have d1 := (hB1.cell (p := ⟨gg, 2 * j + 1, none⟩) lt).trans c1
          have dT := (hB1.cell (p := ⟨g, j, none⟩) (block_lt_of_cell (HG.out j u hu))).trans (HG.out j u hu)
          have s1 : l.take (j + 1) = l.take j ++ [(t, b)] := by rw [List.take_add_one, hp]; rfl
          have s2 : T.take (j + 1) = T.take j ++ [u] := by rw [List.take_add_one, hu]; rfl
          have HO : Hid _ := hown
          have HE2 : Hid (t = u → (l.take (j + 1)).map (·.1) = T.take (j + 1)) := fun e => by rw [s1, s2, List.map_append, hE.out, e]; rfl
          have HN2 : Hid (t ≠ u → paF s T = none) := fun e => by
            rw [HP.out, if_neg]
            intro q
            apply e
            have := congrArg (fun z : List Int => z[j]?) q
            simp only [List.getElem?_map, hp, hu, Option.map_some, Option.some.injEq] at this
            exact this
          have HS1 : Hid ((l.take (j + 1)).map (·.2) = (l.take j).map (·.2) ++ [b]) := by show _ = _; rw [s1, List.map_append]; rfl
          have ll : ((l.take j).map (·.2)).length ≤ 2 := by rw [List.length_map, List.length_take]; omega
          clear s1 s2 hp hu HC HG HP hown hE c0 c1
          generalize (l.take j).map (·.2) = L at *
          have kb : L.length + 1 ≤ maxLen := by unfold maxLen; omega
          have hB3 := Bel.al hB1 (.cells #[.int .i64 t, .string b] 99)
          have hj01 : j = 0 ∨ j = 1 := by omega
          by_cases htu : t = u
          · subst htu
            rcases hj01 with rfl | rfl
            · go_wp2_with fail
              have b0 : (wr.alloc (.cells #[.int .i64 t, .string b] 99)).cell? ⟨wr.heap.size, 0, none⟩ = some (.int .i64 t) := by simp [go_sem]
              have b1 : (wr.alloc (.cells #[.int .i64 t, .string b] 99)).cell? ⟨wr.heap.size, 1, none⟩ = some (.string b) := by simp [go_sem]
              have bT := (Below.cell (Below.alloc (Below.refl wr.heap.size wr) (Nat.le_refl _) (.cells #[.int .i64 t, .string b] 99)) (p := ⟨g, 0, none⟩) (block_lt_of_cell dT)).trans dT
              have O3 : Hid _ := World.ownsRow.alloc HO.out (.cells #[.int .i64 t, .string b] 99)
              have s3 : (wr.alloc (.cells #[.int .i64 t, .string b] 99)).heap.size = wr.heap.size + 1 := by simp
              clear d0 d1 dT HO
              generalize wr.alloc (.cells #[.int .i64 t, .string b] 99) = W3 at *
              generalize wr.heap.size = b8 at *
              go_region
              go_wp2_with (at_builtin; refine stopAt ?_)
              unfold Stop
              have O4 := World.ownsRow.drew (World.ownsRow.alloc O3.out (.cells #[.string b] 9))
              have nw : ∀ j u, ([.string b] : List Value)[j]? = some u → (W3.alloc (.cells #[.string b] 9)).drew.cell? (Addr.add ⟨W3.heap.size, 0, none⟩ j) = some u := news_new W3 [.string b] 9
              rw [s3] at nw
              have hle : w1.heap.size ≤ (W3.alloc (.cells #[.string b] 9)).drew.heap.size := by show w1.heap.size ≤ (W3.alloc (.cells #[.string b] 9)).heap.size; simp; omega
              have hB4 : Below w1.heap.size w1 (W3.alloc (.cells #[.string b] 9)).drew := (Bel.al hB3 (.cells #[.string b] 9)).drew
              clear b0 b1 bT hB3 O3
              generalize (W3.alloc (.cells #[.string b] 9)).drew = W4 at *
              refine wpList_append_own _ rfl _ _ 22 rfl w1.heap.size 9 i0 (.string nS) 1 16 Tryz.underlying22 hi hz0 hz1 hz2 rfl (by decide) _ _ _ rfl O4 ⟨_, 0, none⟩ 1 1 [.string b] rfl rfl nw (fun u hu => by simp at hu; subst hu; rfl) kb (by omega) hle ?_
              intro v' w5 hown' hgrow hnil
              have hB5 : Below w1.heap.size w1 w5 := hB4.grown hgrow hle (fun q hq => (O4.lt q hq).1)
              clear hgrow hnil O4 nw hle hB4
              obtain ⟨ao', cv', hv'⟩ := own_frm hown'
              subst hv'
              have HO' : Hid (w5.ownsRow w1.heap.size 9 1 (.slice ao' (L.length + 1) cv') ((l.take (0 + 1)).map (·.2)).length (((l.take (0 + 1)).map (·.2)).map Value.string)) := by
                show World.ownsRow _ _ _ _ _ _ _
                rw [HS1.out, List.length_append, List.map_append]; exact hown'
              clear hown'
              go_wp2_with fail
              exact ⟨⟨0 + 1, by omega, by go_num, HE2.out (by first | rfl | trivial), HO'.out, hB5⟩, by simp [Go.RowKit.intOf]; try omega⟩
            · go_wp2_with fail
              have b0 : (wr.alloc (.cells #[.int .i64 t, .string b] 99)).cell? ⟨wr.heap.size, 0, none⟩ = some (.int .i64 t) := by simp [go_sem]
              have b1 : (wr.alloc (.cells #[.int .i64 t, .string b] 99)).cell? ⟨wr.heap.size, 1, none⟩ = some (.string b) := by simp [go_sem]
              have bT := (Below.cell (Below.alloc (Below.refl wr.heap.size wr) (Nat.le_refl _) (.cells #[.int .i64 t, .string b] 99)) (p := ⟨g, 1, none⟩) (block_lt_of_cell dT)).trans dT
              have O3 : Hid _ := World.ownsRow.alloc HO.out (.cells #[.int .i64 t, .string b] 99)
              have s3 : (wr.alloc (.cells #[.int .i64 t, .string b] 99)).heap.size = wr.heap.size + 1 := by simp
              clear d0 d1 dT HO
              generalize wr.alloc (.cells #[.int .i64 t, .string b] 99) = W3 at *
              generalize wr.heap.size = b8 at *
              go_region
              go_wp2_with (at_builtin; refine stopAt ?_)
              unfold Stop
              have O4 := World.ownsRow.drew (World.ownsRow.alloc O3.out (.cells #[.string b] 9))
              have nw : ∀ j u, ([.string b] : List Value)[j]? = some u → (W3.alloc (.cells #[.string b] 9)).drew.cell? (Addr.add ⟨W3.heap.size, 0, none⟩ j) = some u := news_new W3 [.string b] 9
              rw [s3] at nw
              have hle : w1.heap.size ≤ (W3.alloc (.cells #[.string b] 9)).drew.heap.size := by show w1.heap.size ≤ (W3.alloc (.cells #[.string b] 9)).heap.size; simp; omega
              have hB4 : Below w1.heap.size w1 (W3.alloc (.cells #[.string b] 9)).drew := (Bel.al hB3 (.cells #[.string b] 9)).drew
              clear b0 b1 bT hB3 O3
              generalize (W3.alloc (.cells #[.string b] 9)).drew = W4 at *
              refine wpList_append_own _ rfl _ _ 22 rfl w1.heap.size 9 i0 (.string nS) 1 16 Tryz.underlying22 hi hz0 hz1 hz2 rfl (by decide) _ _ _ rfl O4 ⟨_, 0, none⟩ 1 1 [.string b] rfl rfl nw (fun u hu => by simp at hu; subst hu; rfl) kb (by omega) hle ?_
              intro v' w5 hown' hgrow hnil
              have hB5 : Below w1.heap.size w1 w5 := hB4.grown hgrow hle (fun q hq => (O4.lt q hq).1)
              clear hgrow hnil O4 nw hle hB4
              obtain ⟨ao', cv', hv'⟩ := own_frm hown'
              subst hv'
              have HO' : Hid (w5.ownsRow w1.heap.size 9 1 (.slice ao' (L.length + 1) cv') ((l.take (1 + 1)).map (·.2)).length (((l.take (1 + 1)).map (·.2)).map Value.string)) := by
                show World.ownsRow _ _ _ _ _ _ _
                rw [HS1.out, List.length_append, List.map_append]; exact hown'
              clear hown'
              go_wp2_with fail
              exact ⟨⟨1 + 1, by omega, by go_num, HE2.out (by first | rfl | trivial), HO'.out, hB5⟩, by simp [Go.RowKit.intOf]; try omega⟩
          · have htb : (t == u) = false := by simpa using htu
            have HN3 := HN2.out htu
            rcases hj01 with rfl | rfl
            · go_wp2_with fail
              have b0 : (wr.alloc (.cells #[.int .i64 t, .string b] 99)).cell? ⟨wr.heap.size, 0, none⟩ = some (.int .i64 t) := by simp [go_sem]
              have bT := (Below.cell (Below.alloc (Below.refl wr.heap.size wr) (Nat.le_refl _) (.cells #[.int .i64 t, .string b] 99)) (p := ⟨g, 0, none⟩) (block_lt_of_cell dT)).trans dT
              clear d0 d1 dT HO
              generalize wr.alloc (.cells #[.int .i64 t, .string b] 99) = W3 at *
              generalize wr.heap.size = b8 at *
              go_region
              go_wp2_with fail
              exact ⟨rfl, hB.trans (hB3.drew.mono hB.size), by rw [HN3]; rfl⟩
            · go_wp2_with fail
              have b0 : (wr.alloc (.cells #[.int .i64 t, .string b] 99)).cell? ⟨wr.heap.size, 0, none⟩ = some (.int .i64 t) := by simp [go_sem]
              have bT := (Below.cell (Below.alloc (Below.refl wr.heap.size wr) (Nat.le_refl _) (.cells #[.int .i64 t, .string b] 99)) (p := ⟨g, 1, none⟩) (block_lt_of_cell dT)).trans dT
              clear d0 d1 dT HO
              generalize wr.alloc (.cells #[.int .i64 t, .string b] 99) = W3 at *
              generalize wr.heap.size = b8 at *
              go_region
              go_wp2_with fail
              exact ⟨rfl, hB.trans (hB3.drew.mono hB.size), by rw [HN3]; rfl⟩
        · have ej : j = m := by omega
          subst ej
          have t1 : l.take j = l := List.take_of_length_le (by omega)
          have t2 : T.take j = T := List.take_of_length_le (by omega)
          have e : paF s T = some (l.map (·.2)) := by
            rw [HP.out, if_pos]
            have := hE.out
            rw [t1, t2] at this
            exact this
          have lj : ((l.take j).map (·.2)).length = j := by rw [List.length_map, t1]; omega
          rw [lj, t1] at hown
          rw [lj]
          have lj2 : (l.map (·.2)).length = j := by rw [List.length_map]; omega
          have HT : Hid (Vl w.heap.size wr (.slice ao j cv) (l.map (·.2))) := by
            have h9 : wr.ownsRow w1.heap.size 9 1 (.slice ao j cv) (l.map (·.2)).length ((l.map (·.2)).map Value.string) := by rw [lj2]; exact hown
            exact ⟨Txs.own h9, Frs.own h9 hB.size⟩
          clear lj lj2
          have HX : Hid _ := e
          clear hown hE e t1 t2
          go_wp2_with fail
          go_ret
          exact ⟨hB.trans (hB1.mono hB.size), by rw [HX.out]; exact ⟨_, rfl, HT.out⟩⟩
    · have hlen : ¬ ((l.length : Nat) : Int) = ((T.length : Nat) : Int) := by omega
      have e : paF s T = none := by rw [HP.out, if_neg (fun q => hn (by rw [← q, List.length_map]))]
      have hb2 : (((l.length : Nat) : Int) == ((T.length : Nat) : Int)) = false := by simpa using hlen
      clear hc hg1
      go_wp2_with (go_at_call 107; refine (M _).mono ?_; intro ee ww hh; rw [hh.1, hh.2]; clear hh ee ww)
      exact ⟨rfl, hB, by rw [e]; rfl⟩
  · have M := fun W => mustT_no (.slice none 0 0) E hE W
    have e : paF s T = none := by unfold paF; rw [hl]
    go_wp2_with (go_at_call 107; refine (M _).mono ?_; intro ee ww hh; rw [hh.1, hh.2]; clear hh ee ww)
    exact ⟨rfl, hB, by rw [e]; rfl⟩
end Go.Proofs.YtjdpeedghpblgaaGreatDoor
