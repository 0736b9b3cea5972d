/- Texts joined: HD, HO. -/
import Derived.Test.YtjdpeedghpblgaaGreatDoorJ23
/- Package hand: the functions that read a message's parts. -/
set_option linter.all false
set_option maxRecDepth 100000
namespace Go.Proofs.YtjdpeedghpblgaaGreatDoor
open Go.RowKit Go.Sort Go.Shelf
theorem ps_le {t s r : ByteArray} (h : psF t s = some r) : r.size ≤ s.size := by
  have := (ps_iff t s r).1 h
  rw [this, ap_size]; omega
theorem tk_le {n : Nat} {s x r : ByteArray} (h : tkF n s = some (x, r)) : x.size ≤ s.size ∧ r.size ≤ s.size := by
  have := ((tk_iff n s x r).1 h).2
  rw [this, ap_size]; omega
theorem vc_le {k : Nat} (hk : k ≤ 3) {s x r : ByteArray} (h : vcF k s = some (x, r)) : x.size ≤ s.size ∧ r.size ≤ s.size := by
  have := ((vc_iff k hk s x r).1 h).2
  rw [this, ap_size, vec_size]; omega
theorem take_any (p : Nat) (s : ByteArray) (n : Nat) (w : World) (h : Rdr w p s 10) :
    Calls Tryz.prog 56 #[rp p, .int .i64 (n : Int)] w fun x w' => Upto p w w' ∧ RdR (fun _ v a => v = .string a) p (tkF n s) x w' := by
  unfold tkF
  by_cases c : n ≤ s.size
  · rw [if_pos c]
    exact (take_ok p s 10 n w h c).mono fun x w' ⟨h1, h2⟩ => by subst h2; exact ⟨Upto.put _ _ _ _, _, h1, rfl, h.put _⟩
  · rw [if_neg c]
    exact (take_no p s 10 n w h (by omega)).mono fun x w' ⟨h1, h2⟩ => by subst h2; exact ⟨Upto.refl _ _, h1⟩
/-- The cells of a message that is built. -/
abbrev eL (a1 a2 a3 a4 a5 : ByteArray) (cv : Value) (am : ByteArray) : List Value := [.int .i64 0, .string a1, .string a2, .string a3, .string a4, .string a5, cv, .int .u64 0, .int .u64 0, .int .u64 0, .int .u64 0, .int .u64 0, .int .u64 0, .int .u64 0, .int .u64 0, .string am]
theorem eL_is (a1 a2 a3 a4 a5 : ByteArray) (cv : Value) (cs : List ByteArray) (am : ByteArray) : eL a1 a2 a3 a4 a5 cv am = (⟨0, a1, a2, a3, a4, a5, cs, 0, 0, am⟩ : Mg).l cv := by unfold eL Mg.l; simp only [lim_0]
theorem eL_cells (a1 a2 a3 a4 a5 : ByteArray) (cv : Value) (cs : List ByteArray) (am : ByteArray) (h : cv.oneCell' = true) : Cells (eL a1 a2 a3 a4 a5 cv am) 16 ((⟨0, a1, a2, a3, a4, a5, cs, 0, 0, am⟩ : Mg).c cv) := by rw [eL_is a1 a2 a3 a4 a5 cv cs am]; exact Mg.cells _ cv h
theorem eL_v (a1 a2 a3 a4 a5 : ByteArray) (cv : Value) (cs : List ByteArray) (am : ByteArray) : Value.agg (eL a1 a2 a3 a4 a5 cv am).toArray = (⟨0, a1, a2, a3, a4, a5, cs, 0, 0, am⟩ : Mg).v cv := by rw [eL_is a1 a2 a3 a4 a5 cv cs am]; rfl
theorem Txs.nil (w : World) : Txs w nC [] := .inl ⟨rfl, rfl⟩
theorem Upto.own {p : Nat} {a b c : World} (h : Upto p a b) (q : Nat) (hq : a.heap.size ≤ q) (k : Upto q b c) : Upto p a c :=
  ⟨k.os.trans h.os, k.tape.trans h.tape, k.output.trans h.output, Nat.le_trans h.size k.size, fun i hi hp => (k.block i (Nat.lt_of_lt_of_le hi h.size) (by omega)).trans (h.block i hi hp)⟩
theorem Rdr.sets {w : World} {p q : Nat} {s : ByteArray} {e : Int} (h : Rdr w p s e) (hq : q ≠ p) (L : List Value) : Rdr (w.setCells q 0 L) p s e :=
  ⟨by rw [cell_sets_other w q p 0 hq]; exact h.l, by rw [cell_sets_other w q p 1 hq]; exact h.k, by rw [frozen_sets]; exact h.z⟩
def al2 (s : ByteArray) : Option (ByteArray × ByteArray) := (vcF 1 s).bind fun x => some (x.1, x.2)
def al1 (s : ByteArray) : Option (ByteArray × ByteArray) := (vcF 2 s).bind fun x => (whF al2 x.1).bind fun a => some (a, x.2)
def alF (s : ByteArray) : Option (ByteArray × ByteArray) := (psF ⟨#[0, 16]⟩ s).bind fun s1 => (vcF 2 s1).bind fun x => (whF al1 x.1).bind fun a => some (a, x.2)
def nm2 (s : ByteArray) : Option (ByteArray × ByteArray) := (psF ⟨#[0]⟩ s).bind fun s1 => (vcF 2 s1).bind fun x => some (x.1, x.2)
def nm1 (s : ByteArray) : Option (ByteArray × ByteArray) := (vcF 2 s).bind fun x => (whF nm2 x.1).bind fun a => some (a, x.2)
def sv1 (s : ByteArray) : Option (ByteArray × ByteArray) := (psF ⟨#[0, 43, 0, 2, 3, 4, 0, 51, 0, 36, 0, 29, 0, 32]⟩ s).bind fun s1 => (tkF 32 s1).bind fun x => some (x.1, x.2)
set_option maxHeartbeats 2000000 in
theorem rAl2 : RdC 102 Vs al2 := by
  intro p s w hz h
  have lt0 := h.lt
  have hR := h
  have hU := Upto.refl p w
  go_enter Tryz.func102, Tryz.ntmps102
  go_wp2_with fail
  refine (vector_any p s 1 (by omega) (by omega) w hR).mono ?_
  rintro xe w1 ⟨hU1, hx⟩
  have z1 := hU1.size
  replace hU := hU.trans hU1
  have HH : Hid _ := hx
  clear hx
  cases h1 : vcF 1 s with
  | none =>
    have hx := HH.out
    rw [h1] at hx
    cases hx
    have e : al2 s = none := by simp only [al2, Option.bind_some, Option.bind_none, Option.map_none, Option.map_some, h1]
    go_wp2_with fail
    exact ⟨rfl, hU, by rw [e]; rfl⟩
  | some y1 =>
    obtain ⟨a, r1⟩ := y1
    have hx := HH.out
    clear HH
    rw [h1] at hx
    obtain ⟨v, rfl, hv, hR⟩ := hx
    cases hv
    have q1 := vc_le (by omega) h1
    have H1 : Hid _ := h1
    clear h1
    have e : al2 s = some (a, r1) := by simp only [al2, H1.out, Option.bind_some, Option.map_some]
    go_wp2_with fail
    go_ret
    exact ⟨hU, by rw [e]; exact ⟨_, rfl, rfl, hR⟩⟩
set_option maxHeartbeats 2000000 in
theorem rAl1 : RdC 101 Vs al1 := by
  intro p s w hz h
  have lt0 := h.lt
  have hR := h
  have hU := Upto.refl p w
  go_enter Tryz.func101, Tryz.ntmps101
  go_wp2_with fail
  refine (vector_any p s 2 (by omega) (by omega) w hR).mono ?_
  rintro xe w1 ⟨hU1, hx⟩
  have z1 := hU1.size
  replace hU := hU.trans hU1
  have HH : Hid _ := hx
  clear hx
  cases h1 : vcF 2 s with
  | none =>
    have hx := HH.out
    rw [h1] at hx
    cases hx
    have e : al1 s = none := by simp only [al1, Option.bind_some, Option.bind_none, Option.map_none, Option.map_some, h1]
    go_wp2_with fail
    exact ⟨rfl, hU, by rw [e]; rfl⟩
  | some y1 =>
    obtain ⟨x, r1⟩ := y1
    have hx := HH.out
    clear HH
    rw [h1] at hx
    obtain ⟨v, rfl, hv, hR⟩ := hx
    cases hv
    have q1 := vc_le (by omega) h1
    have H1 : Hid _ := h1
    clear h1
    go_wp2_with fail
    refine (wholeS 102 (enters_of Tryz.func102 (by kernel_rfl) rfl) rAl2 x (by omega) w1).mono ?_
    rintro xe w2 ⟨hU2, hx⟩
    have hB2 := hU2
    replace hU2 := Below.upto p hU2
    have z2 := hU2.size
    replace hU := hU.trans hU2
    have HH : Hid _ := hx
    clear hx
    cases h2 : whF al2 x with
    | none =>
      have hx := HH.out
      rw [h2] at hx
      cases hx
      have e : al1 s = none := by simp only [al1, H1.out, Option.bind_some, Option.bind_none, Option.map_none, Option.map_some, h2]
      go_wp2_with fail
      exact ⟨rfl, hU, by rw [e]; rfl⟩
    | some y2 =>
      have hx := HH.out
      clear HH
      rw [h2] at hx
      obtain ⟨v, rfl, hv⟩ := hx
      cases hv
      replace hR := hR.to hB2
      generalize y2 = a at *
      have H2 : Hid _ := h2
      clear h2
      have e : al1 s = some (a, r1) := by simp only [al1, H1.out, H2.out, Option.bind_some, Option.map_some]
      go_wp2_with fail
      go_ret
      exact ⟨hU, by rw [e]; exact ⟨_, rfl, rfl, hR⟩⟩
set_option maxHeartbeats 2000000 in
theorem rAl : RdC 79 Vs alF := by
  intro p s w hz h
  have lt0 := h.lt
  have hR := h
  have hU := Upto.refl p w
  go_enter Tryz.func79, Tryz.ntmps79
  go_wp2_with fail
  refine (pass_any p s ⟨#[0, 16]⟩ (by omega) w hR).mono ?_
  rintro xe w1 ⟨hU1, hx⟩
  have z1 := hU1.size
  replace hU := hU.trans hU1
  have HH : Hid _ := hx
  clear hx
  cases h1 : psF ⟨#[0, 16]⟩ s with
  | none =>
    have hx := HH.out
    rw [h1] at hx
    cases hx
    have e : alF s = none := by simp only [alF, Option.bind_some, Option.bind_none, Option.map_none, Option.map_some, h1]
    go_wp2_with fail
    exact ⟨rfl, hU, by rw [e]; rfl⟩
  | some y1 =>
    have hx := HH.out
    clear HH
    rw [h1] at hx
    obtain ⟨v, rfl, hv, hR⟩ := hx
    cases hv
    have q1 := ps_le h1
    generalize y1 = r1 at *
    have H1 : Hid _ := h1
    clear h1
    go_wp2_with fail
    refine (vector_any p r1 2 (by omega) (by omega) w1 hR).mono ?_
    rintro xe w2 ⟨hU2, hx⟩
    have z2 := hU2.size
    replace hU := hU.trans hU2
    have HH : Hid _ := hx
    clear hx
    cases h2 : vcF 2 r1 with
    | none =>
      have hx := HH.out
      rw [h2] at hx
      cases hx
      have e : alF s = none := by simp only [alF, H1.out, Option.bind_some, Option.bind_none, Option.map_none, Option.map_some, h2]
      go_wp2_with fail
      exact ⟨rfl, hU, by rw [e]; rfl⟩
    | some y2 =>
      obtain ⟨x, r2⟩ := y2
      have hx := HH.out
      clear HH
      rw [h2] at hx
      obtain ⟨v, rfl, hv, hR⟩ := hx
      cases hv
      have q2 := vc_le (by omega) h2
      have H2 : Hid _ := h2
      clear h2
      go_wp2_with fail
      refine (wholeS 101 (enters_of Tryz.func101 (by kernel_rfl) rfl) rAl1 x (by omega) w2).mono ?_
      rintro xe w3 ⟨hU3, hx⟩
      have hB3 := hU3
      replace hU3 := Below.upto p hU3
      have z3 := hU3.size
      replace hU := hU.trans hU3
      have HH : Hid _ := hx
      clear hx
      cases h3 : whF al1 x with
      | none =>
        have hx := HH.out
        rw [h3] at hx
        cases hx
        have e : alF s = none := by simp only [alF, H1.out, H2.out, Option.bind_some, Option.bind_none, Option.map_none, Option.map_some, h3]
        go_wp2_with fail
        exact ⟨rfl, hU, by rw [e]; rfl⟩
      | some y3 =>
        have hx := HH.out
        clear HH
        rw [h3] at hx
        obtain ⟨v, rfl, hv⟩ := hx
        cases hv
        replace hR := hR.to hB3
        generalize y3 = a at *
        have H3 : Hid _ := h3
        clear h3
        have e : alF s = some (a, r2) := by simp only [alF, H1.out, H2.out, H3.out, Option.bind_some, Option.map_some]
        go_wp2_with fail
        go_ret
        exact ⟨hU, by rw [e]; exact ⟨_, rfl, rfl, hR⟩⟩
set_option maxHeartbeats 2000000 in
theorem rNm2 : RdC 117 Vs nm2 := by
  intro p s w hz h
  have lt0 := h.lt
  have hR := h
  have hU := Upto.refl p w
  go_enter Tryz.func117, Tryz.ntmps117
  go_wp2_with fail
  refine (pass_any p s ⟨#[0]⟩ (by omega) w hR).mono ?_
  rintro xe w1 ⟨hU1, hx⟩
  have z1 := hU1.size
  replace hU := hU.trans hU1
  have HH : Hid _ := hx
  clear hx
  cases h1 : psF ⟨#[0]⟩ s with
  | none =>
    have hx := HH.out
    rw [h1] at hx
    cases hx
    have e : nm2 s = none := by simp only [nm2, Option.bind_some, Option.bind_none, Option.map_none, Option.map_some, h1]
    go_wp2_with fail
    exact ⟨rfl, hU, by rw [e]; rfl⟩
  | some y1 =>
    have hx := HH.out
    clear HH
    rw [h1] at hx
    obtain ⟨v, rfl, hv, hR⟩ := hx
    cases hv
    have q1 := ps_le h1
    generalize y1 = r1 at *
    have H1 : Hid _ := h1
    clear h1
    go_wp2_with fail
    refine (vector_any p r1 2 (by omega) (by omega) w1 hR).mono ?_
    rintro xe w2 ⟨hU2, hx⟩
    have z2 := hU2.size
    replace hU := hU.trans hU2
    have HH : Hid _ := hx
    clear hx
    cases h2 : vcF 2 r1 with
    | none =>
      have hx := HH.out
      rw [h2] at hx
      cases hx
      have e : nm2 s = none := by simp only [nm2, H1.out, Option.bind_some, Option.bind_none, Option.map_none, Option.map_some, h2]
      go_wp2_with fail
      exact ⟨rfl, hU, by rw [e]; rfl⟩
    | some y2 =>
      obtain ⟨a, r2⟩ := y2
      have hx := HH.out
      clear HH
      rw [h2] at hx
      obtain ⟨v, rfl, hv, hR⟩ := hx
      cases hv
      have q2 := vc_le (by omega) h2
      have H2 : Hid _ := h2
      clear h2
      have e : nm2 s = some (a, r2) := by simp only [nm2, H1.out, H2.out, Option.bind_some, Option.map_some]
      go_wp2_with fail
      go_ret
      exact ⟨hU, by rw [e]; exact ⟨_, rfl, rfl, hR⟩⟩
set_option maxHeartbeats 2000000 in
theorem rNm1 : RdC 100 Vs nm1 := by
  intro p s w hz h
  have lt0 := h.lt
  have hR := h
  have hU := Upto.refl p w
  go_enter Tryz.func100, Tryz.ntmps100
  go_wp2_with fail
  refine (vector_any p s 2 (by omega) (by omega) w hR).mono ?_
  rintro xe w1 ⟨hU1, hx⟩
  have z1 := hU1.size
  replace hU := hU.trans hU1
  have HH : Hid _ := hx
  clear hx
  cases h1 : vcF 2 s with
  | none =>
    have hx := HH.out
    rw [h1] at hx
    cases hx
    have e : nm1 s = none := by simp only [nm1, Option.bind_some, Option.bind_none, Option.map_none, Option.map_some, h1]
    go_wp2_with fail
    exact ⟨rfl, hU, by rw [e]; rfl⟩
  | some y1 =>
    obtain ⟨x, r1⟩ := y1
    have hx := HH.out
    clear HH
    rw [h1] at hx
    obtain ⟨v, rfl, hv, hR⟩ := hx
    cases hv
    have q1 := vc_le (by omega) h1
    have H1 : Hid _ := h1
    clear h1
    go_wp2_with fail
    refine (wholeS 117 (enters_of Tryz.func117 (by kernel_rfl) rfl) rNm2 x (by omega) w1).mono ?_
    rintro xe w2 ⟨hU2, hx⟩
    have hB2 := hU2
    replace hU2 := Below.upto p hU2
    have z2 := hU2.size
    replace hU := hU.trans hU2
    have HH : Hid _ := hx
    clear hx
    cases h2 : whF nm2 x with
    | none =>
      have hx := HH.out
      rw [h2] at hx
      cases hx
      have e : nm1 s = none := by simp only [nm1, H1.out, Option.bind_some, Option.bind_none, Option.map_none, Option.map_some, h2]
      go_wp2_with fail
      exact ⟨rfl, hU, by rw [e]; rfl⟩
    | some y2 =>
      have hx := HH.out
      clear HH
      rw [h2] at hx
      obtain ⟨v, rfl, hv⟩ := hx
      cases hv
      replace hR := hR.to hB2
      generalize y2 = a at *
      have H2 : Hid _ := h2
      clear h2
      have e : nm1 s = some (a, r1) := by simp only [nm1, H1.out, H2.out, Option.bind_some, Option.map_some]
      go_wp2_with fail
      go_ret
      exact ⟨hU, by rw [e]; exact ⟨_, rfl, rfl, hR⟩⟩
set_option maxHeartbeats 2000000 in
theorem rSv1 : RdC 78 Vs sv1 := by
  intro p s w hz h
  have lt0 := h.lt
  have hR := h
  have hU := Upto.refl p w
  go_enter Tryz.func78, Tryz.ntmps78
  go_wp2_with fail
  refine (pass_any p s ⟨#[0, 43, 0, 2, 3, 4, 0, 51, 0, 36, 0, 29, 0, 32]⟩ (by omega) w hR).mono ?_
  rintro xe w1 ⟨hU1, hx⟩
  have z1 := hU1.size
  replace hU := hU.trans hU1
  have HH : Hid _ := hx
  clear hx
  cases h1 : psF ⟨#[0, 43, 0, 2, 3, 4, 0, 51, 0, 36, 0, 29, 0, 32]⟩ s with
  | none =>
    have hx := HH.out
    rw [h1] at hx
    cases hx
    have e : sv1 s = none := by simp only [sv1, Option.bind_some, Option.bind_none, Option.map_none, Option.map_some, h1]
    go_wp2_with fail
    exact ⟨rfl, hU, by rw [e]; rfl⟩
  | some y1 =>
    have hx := HH.out
    clear HH
    rw [h1] at hx
    obtain ⟨v, rfl, hv, hR⟩ := hx
    cases hv
    have q1 := ps_le h1
    generalize y1 = r1 at *
    have H1 : Hid _ := h1
    clear h1
    go_wp2_with fail
    refine (take_any p r1 32 w1 hR).mono ?_
    rintro xe w2 ⟨hU2, hx⟩
    have z2 := hU2.size
    replace hU := hU.trans hU2
    have HH : Hid _ := hx
    clear hx
    cases h2 : tkF 32 r1 with
    | none =>
      have hx := HH.out
      rw [h2] at hx
      cases hx
      have e : sv1 s = none := by simp only [sv1, H1.out, Option.bind_some, Option.bind_none, Option.map_none, Option.map_some, h2]
      go_wp2_with fail
      exact ⟨rfl, hU, by rw [e]; rfl⟩
    | some y2 =>
      obtain ⟨a, r2⟩ := y2
      have hx := HH.out
      clear HH
      rw [h2] at hx
      obtain ⟨v, rfl, hv, hR⟩ := hx
      cases hv
      have q2 := tk_le h2
      have H2 : Hid _ := h2
      clear h2
      have e : sv1 s = some (a, r2) := by simp only [sv1, H1.out, H2.out, Option.bind_some, Option.map_some]
      go_wp2_with fail
      go_ret
      exact ⟨hU, by rw [e]; exact ⟨_, rfl, rfl, hR⟩⟩
theorem al2_iff (s a r : ByteArray) : al2 s = some (a, r) ↔ a.size < 256 ∧ s = vec 1 a ++ r := by
  have := vc_iff 1 (by omega) s a r
  unfold al2
  rw [Option.bind_eq_some_iff]
  constructor
  · rintro ⟨⟨x, r'⟩, h1, h2⟩
    simp only [Option.some.injEq, Prod.mk.injEq] at h2
    obtain ⟨rfl, rfl⟩ := h2
    exact this.1 h1
  · intro h
    exact ⟨(a, r), this.2 h, rfl⟩
theorem al1_iff (s a r : ByteArray) : al1 s = some (a, r) ↔ a.size < 256 ∧ s = vec 2 (vec 1 a) ++ r := by
  unfold al1
  rw [Option.bind_eq_some_iff]
  constructor
  · rintro ⟨⟨x, r'⟩, h1, h2⟩
    rw [Option.bind_eq_some_iff] at h2
    obtain ⟨a', h3, h4⟩ := h2
    simp only [Option.some.injEq, Prod.mk.injEq] at h4
    obtain ⟨rfl, rfl⟩ := h4
    obtain ⟨_, rfl⟩ := (vc_iff 2 (by omega) _ _ _).1 h1
    obtain ⟨h5, rfl⟩ := (al2_iff _ _ _).1 ((wh_iff _ _ _).1 h3)
    exact ⟨h5, by rw [ap_nS]⟩
  · rintro ⟨h, rfl⟩
    refine ⟨(vec 1 a, r), (vc_iff 2 (by omega) _ _ _).2 ⟨by rw [vec_size]; omega, rfl⟩, ?_⟩
    rw [Option.bind_eq_some_iff]
    exact ⟨a, (wh_iff _ _ _).2 ((al2_iff _ _ _).2 ⟨h, by rw [ap_nS]⟩), rfl⟩
theorem al_iff (s a r : ByteArray) : alF s = some (a, r) ↔ a.size < 256 ∧ s = alS a ++ r := by
  unfold alF
  rw [Option.bind_eq_some_iff]
  constructor
  · rintro ⟨s1, h0, h2⟩
    have e := (ps_iff _ _ _).1 h0
    subst e
    rw [Option.bind_eq_some_iff] at h2
    obtain ⟨⟨x, r'⟩, h1, h2⟩ := h2
    rw [Option.bind_eq_some_iff] at h2
    obtain ⟨a', h3, h4⟩ := h2
    simp only [Option.some.injEq, Prod.mk.injEq] at h4
    obtain ⟨rfl, rfl⟩ := h4
    obtain ⟨_, rfl⟩ := (vc_iff 2 (by omega) _ _ _).1 h1
    obtain ⟨h5, rfl⟩ := (al1_iff _ _ _).1 ((wh_iff _ _ _).1 h3)
    exact ⟨h5, by unfold alS; rw [ap_nS, ap_assoc]⟩
  · rintro ⟨h, rfl⟩
    refine ⟨vec 2 (vec 2 (vec 1 a)) ++ r, (ps_iff _ _ _).2 (by unfold alS; rw [ap_assoc]), ?_⟩
    rw [Option.bind_eq_some_iff]
    refine ⟨(vec 2 (vec 1 a), r), (vc_iff 2 (by omega) _ _ _).2 ⟨by rw [vec_size, vec_size]; omega, rfl⟩, ?_⟩
    rw [Option.bind_eq_some_iff]
    exact ⟨a, (wh_iff _ _ _).2 ((al1_iff _ _ _).2 ⟨h, by rw [ap_nS]⟩), rfl⟩
theorem al_le {s a r : ByteArray} (h : alF s = some (a, r)) : a.size ≤ s.size ∧ r.size ≤ s.size := by
  obtain ⟨_, rfl⟩ := (al_iff _ _ _).1 h
  rw [ap_size, al_size]; omega
theorem nm2_iff (s a r : ByteArray) : nm2 s = some (a, r) ↔ a.size < 65536 ∧ s = ⟨#[0]⟩ ++ (vec 2 a ++ r) := by
  unfold nm2
  rw [Option.bind_eq_some_iff]
  constructor
  · rintro ⟨s1, h0, h2⟩
    have e := (ps_iff _ _ _).1 h0
    subst e
    rw [Option.bind_eq_some_iff] at h2
    obtain ⟨⟨x, r'⟩, h1, h2⟩ := h2
    simp only [Option.some.injEq, Prod.mk.injEq] at h2
    obtain ⟨rfl, rfl⟩ := h2
    obtain ⟨h5, rfl⟩ := (vc_iff 2 (by omega) _ _ _).1 h1
    exact ⟨h5, rfl⟩
  · rintro ⟨h, rfl⟩
    refine ⟨vec 2 a ++ r, (ps_iff _ _ _).2 rfl, ?_⟩
    rw [Option.bind_eq_some_iff]
    exact ⟨(a, r), (vc_iff 2 (by omega) _ _ _).2 ⟨h, rfl⟩, rfl⟩
theorem nm1_iff (s a r : ByteArray) (ha : a.size ≤ 20000) : nm1 s = some (a, r) ↔ s = vec 2 (⟨#[0]⟩ ++ vec 2 a) ++ r := by
  unfold nm1
  rw [Option.bind_eq_some_iff]
  constructor
  · rintro ⟨⟨x, r'⟩, h1, h2⟩
    rw [Option.bind_eq_some_iff] at h2
    obtain ⟨a', h3, h4⟩ := h2
    simp only [Option.some.injEq, Prod.mk.injEq] at h4
    obtain ⟨rfl, rfl⟩ := h4
    obtain ⟨_, rfl⟩ := (vc_iff 2 (by omega) _ _ _).1 h1
    obtain ⟨h5, rfl⟩ := (nm2_iff _ _ _).1 ((wh_iff _ _ _).1 h3)
    rw [ap_nS]
  · rintro rfl
    have o1 : (⟨#[0]⟩ ++ vec 2 a : ByteArray).size = 1 + (2 + a.size) := by rw [ap_size, vec_size]; rfl
    have o3 := (nm2_iff (⟨#[0]⟩ ++ vec 2 a) a nS).2 ⟨by omega, by rw [ap_nS]⟩
    generalize (⟨#[0]⟩ ++ vec 2 a : ByteArray) = X at *
    refine ⟨(X, r), (vc_iff 2 (by omega) _ X r).2 ⟨by rw [o1]; omega, rfl⟩, ?_⟩
    rw [Option.bind_eq_some_iff]
    exact ⟨a, (wh_iff _ _ _).2 o3, rfl⟩
theorem sv1_iff (s a r : ByteArray) : sv1 s = some (a, r) ↔ a.size = 32 ∧ s = ⟨#[0, 43, 0, 2, 3, 4, 0, 51, 0, 36, 0, 29, 0, 32]⟩ ++ (a ++ r) := by
  unfold sv1
  rw [Option.bind_eq_some_iff]
  constructor
  · rintro ⟨s1, h0, h2⟩
    have e := (ps_iff _ _ _).1 h0
    subst e
    rw [Option.bind_eq_some_iff] at h2
    obtain ⟨⟨x, r'⟩, h1, h2⟩ := h2
    simp only [Option.some.injEq, Prod.mk.injEq] at h2
    obtain ⟨rfl, rfl⟩ := h2
    obtain ⟨h5, rfl⟩ := (tk_iff _ _ _ _).1 h1
    exact ⟨h5, rfl⟩
  · rintro ⟨h, rfl⟩
    refine ⟨a ++ r, (ps_iff _ _ _).2 rfl, ?_⟩
    rw [Option.bind_eq_some_iff]
    exact ⟨(a, r), (tk_iff _ _ _ _).2 ⟨h, rfl⟩, rfl⟩
end Go.Proofs.YtjdpeedghpblgaaGreatDoor
/- Package hand: how many bytes a body has. -/
set_option linter.all false
set_option maxRecDepth 100000
namespace Go.Proofs.YtjdpeedghpblgaaGreatDoor
open Go.RowKit Go.Sort Go.Shelf
def lnR (r : ByteArray) : Int := (bt r 0 * 256 + bt r 1) * 256 + bt r 2
def pL (r : ByteArray) : Nat → Int
  | 0 => 0
  | 1 => bt r 0 * 65536
  | 2 => bt r 0 * 65536 + bt r 1 * 256
  | _ => bt r 0 * 65536 + bt r 1 * 256 + bt r 2
theorem bt_end (r : ByteArray) (j : Nat) (h : r.size ≤ j) : bt r j = 0 := by
  unfold bt
  have : r.data[j]? = none := Array.getElem?_eq_none (by exact h)
  rw [this]; rfl
theorem num1 (p : Nat) (r : ByteArray) (e : Int) (j : Nat) (hz : (r.size : Int) ≤ 281474976710656) (w : World) (h : Rdr w p (r.extract j r.size) e) (hj : j ≤ r.size) :
    Calls Tryz.prog 54 #[rp p, .int .i64 1] w fun x w' => Upto p w w' ∧ ((j < r.size ∧ x = .returned (.int .i64 (bt r j)) ∧ Rdr w' p (r.extract (j + 1) r.size) e) ∨ (r.size = j ∧ x = .panicked (pk e))) := by
  have z : (r.extract j r.size).size = r.size - j := by simp only [ByteArray.size_extract]; omega
  have N := number_any p _ e 1 (by omega) (by rw [z]; omega) w h
  refine N.mono ?_
  rintro x w' ⟨hU, ⟨h1, h2, h3⟩ | ⟨h1, h2⟩⟩
  · have b1 : bt (r.extract j r.size) 0 = bt r j := by rw [bt_ext r j r.size 0 (by omega) (by omega)]; rfl
    have e1 : nB (r.extract j r.size) 1 = bt r j := by show 0 * 256 + bt _ 0 = _; rw [b1]; omega
    rw [e1] at h2
    rw [ex_ex] at h3
    exact ⟨hU, .inl ⟨by omega, h2, h3⟩⟩
  · exact ⟨hU, .inr ⟨by omega, h2⟩⟩
set_option maxHeartbeats 2000000 in
theorem length_any (p : Nat) (r : ByteArray) (e : Int) (hz : (r.size : Int) ≤ 281474976710656) (w : World) (h : Rdr w p r e) :
    Calls Tryz.prog 57 #[rp p] w fun x w' => Upto p w w' ∧ ((16384 < lnR r ∧ x = .panicked (pk 12)) ∨ (lnR r ≤ 16384 ∧ r.size < 3 ∧ x = .panicked (pk e)) ∨ (lnR r ≤ 16384 ∧ 3 ≤ r.size ∧ x = .returned (.int .i64 (lnR r)) ∧ Rdr w' p (r.extract 3 r.size) e)) := by
  have b0 := bt_bd r 0
  have b1 := bt_bd r 1
  have b2 := bt_bd r 2
  have HO : Hid (∀ j, r.size ≤ j → bt r j = 0) := fun j hj => bt_end r j hj
  have HL : Hid (lnR r = bt r 0 * 65536 + bt r 1 * 256 + bt r 2) := by show _ = _; unfold lnR; omega
  obtain ⟨f, hf⟩ : ∃ f : Nat → Int, Hid (f 0 = 0 ∧ f 1 = bt r 0 * 65536 ∧ f 2 = bt r 0 * 65536 + bt r 1 * 256 ∧ f 3 = bt r 0 * 65536 + bt r 1 * 256 + bt r 2) := ⟨pL r, rfl, rfl, rfl, rfl⟩
  go_enter Tryz.func57, Tryz.ntmps57
  go_wp2_with fail
  go_loopw [3, 5] (fun n i wr => ∃ j : Nat, j ≤ 3 ∧ j ≤ r.size ∧ i = .int .i64 (j : Int) ∧ n = .int .i64 (f j) ∧ f j ≤ 16384 ∧ Rdr wr p (r.extract j r.size) e ∧ Upto p w wr) (fun _ i _ => 3 - (Go.RowKit.intOf i).toNat)
  case atStart => exact ⟨0, by omega, by omega, rfl, by rw [hf.out.1], by rw [hf.out.1]; decide, by rw [show r.extract 0 r.size = r from ByteArray.extract_zero_size]; exact h, Upto.refl _ _⟩
  case round =>
    clear h
    obtain ⟨j, hj, hjs, rfl, rfl, hp, hR, hU⟩ := hrel
    have cj : j = 0 ∨ j = 1 ∨ j = 2 ∨ j = 3 := by omega
    rcases cj with rfl | rfl | rfl | rfl
    · have ej := hf.out.1
      rw [ej] at hp ⊢
      have N := num1 p r e 0 hz wr hR (by omega)
      clear ej
      go_wp2_with fail
      refine N.mono ?_
      rintro x w1 ⟨hU1, ⟨h1, rfl, h3⟩ | ⟨h1, rfl⟩⟩
      · have hU2 := hU.trans hU1
        have ef := hf.out.2.1
        by_cases g : 16384 < f 1
        · have HX : Hid (16384 < lnR r) := by show _ < _; rw [HL.out]; omega
          rw [ef] at g
          clear ef HL HO N hf
          generalize bt r 0 = y0 at *
          generalize bt r 1 = y1 at *
          generalize bt r 2 = y2 at *
          go_wp2_with fail
          exact ⟨rfl, hU2, .inl ⟨HX.out, rfl⟩⟩
        · have HP : Hid (f 1 = bt r 0 * 65536 ∧ f 1 ≤ 16384) := ⟨ef, by omega⟩
          rw [ef] at g
          clear ef HL HO N hf
          generalize bt r 0 = y0 at *
          generalize bt r 1 = y1 at *
          generalize bt r 2 = y2 at *
          go_wp2_with fail
          exact ⟨⟨1, by omega, by omega, by go_num, by rw [HP.out.1], HP.out.2, h3, hU2⟩, by simp [Go.RowKit.intOf]⟩
      · have HX : Hid (lnR r ≤ 16384) := by
          show _ ≤ _
          rw [HL.out, HO.out 0 (by omega), HO.out 1 (by omega), HO.out 2 (by omega)]
          omega
        have hU2 := hU.trans hU1
        clear HL HO N hf
        go_wp2_with fail
        exact ⟨rfl, hU2, .inr (.inl ⟨HX.out, by omega, rfl⟩)⟩
    · have ej := hf.out.2.1
      rw [ej] at hp ⊢
      have N := num1 p r e 1 hz wr hR (by omega)
      clear ej
      go_wp2_with fail
      refine N.mono ?_
      rintro x w1 ⟨hU1, ⟨h1, rfl, h3⟩ | ⟨h1, rfl⟩⟩
      · have hU2 := hU.trans hU1
        have ef := hf.out.2.2.1
        by_cases g : 16384 < f 2
        · have HX : Hid (16384 < lnR r) := by show _ < _; rw [HL.out]; omega
          rw [ef] at g
          clear ef HL HO N hf
          generalize bt r 0 = y0 at *
          generalize bt r 1 = y1 at *
          generalize bt r 2 = y2 at *
          go_wp2_with fail
          exact ⟨rfl, hU2, .inl ⟨HX.out, rfl⟩⟩
        · have HP : Hid (f 2 = bt r 0 * 65536 + bt r 1 * 256 ∧ f 2 ≤ 16384) := ⟨ef, by omega⟩
          rw [ef] at g
          clear ef HL HO N hf
          generalize bt r 0 = y0 at *
          generalize bt r 1 = y1 at *
          generalize bt r 2 = y2 at *
          go_wp2_with fail
          exact ⟨⟨2, by omega, by omega, by go_num, by rw [HP.out.1], HP.out.2, h3, hU2⟩, by simp [Go.RowKit.intOf]⟩
      · have HX : Hid (lnR r ≤ 16384) := by
          show _ ≤ _
          rw [HL.out, HO.out 1 (by omega), HO.out 2 (by omega)]
          omega
        have hU2 := hU.trans hU1
        clear HL HO N hf
        go_wp2_with fail
        exact ⟨rfl, hU2, .inr (.inl ⟨HX.out, by omega, rfl⟩)⟩
    · have ej := hf.out.2.2.1
      rw [ej] at hp ⊢
      have N := num1 p r e 2 hz wr hR (by omega)
      clear ej
      go_wp2_with fail
      refine N.mono ?_
      rintro x w1 ⟨hU1, ⟨h1, rfl, h3⟩ | ⟨h1, rfl⟩⟩
      · have hU2 := hU.trans hU1
        have ef := hf.out.2.2.2
        by_cases g : 16384 < f 3
        · have HX : Hid (16384 < lnR r) := by show _ < _; rw [HL.out]; omega
          rw [ef] at g
          clear ef HL HO N hf
          generalize bt r 0 = y0 at *
          generalize bt r 1 = y1 at *
          generalize bt r 2 = y2 at *
          go_wp2_with fail
          exact ⟨rfl, hU2, .inl ⟨HX.out, rfl⟩⟩
        · have HP : Hid (f 3 = bt r 0 * 65536 + bt r 1 * 256 + bt r 2 ∧ f 3 ≤ 16384) := ⟨ef, by omega⟩
          rw [ef] at g
          clear ef HL HO N hf
          generalize bt r 0 = y0 at *
          generalize bt r 1 = y1 at *
          generalize bt r 2 = y2 at *
          go_wp2_with fail
          exact ⟨⟨3, by omega, by omega, by go_num, by rw [HP.out.1], HP.out.2, h3, hU2⟩, by simp [Go.RowKit.intOf]⟩
      · have HX : Hid (lnR r ≤ 16384) := by
          show _ ≤ _
          rw [HL.out, HO.out 2 (by omega)]
          omega
        have hU2 := hU.trans hU1
        clear HL HO N hf
        go_wp2_with fail
        exact ⟨rfl, hU2, .inr (.inl ⟨HX.out, by omega, rfl⟩)⟩
    · have e3 : f 3 = lnR r := by rw [hf.out.2.2.2, HL.out]
      rw [e3] at hp ⊢
      clear e3 HL HO hf
      go_wp2_with fail
      go_ret
      exact ⟨hU, .inr (.inr ⟨hp, by omega, rfl, hR⟩)⟩
end Go.Proofs.YtjdpeedghpblgaaGreatDoor
