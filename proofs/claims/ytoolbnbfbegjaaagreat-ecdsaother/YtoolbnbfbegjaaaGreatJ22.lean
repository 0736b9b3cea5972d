/- What mod.divisor does of what its callees answer. -/
import Derived.WalkMore
import Derived.Test.YtoolbnbfbegjaaaGreatJ15
set_option linter.all false
namespace Go.Proofs.YtoolbnbfbegjaaaGreat
open Go.RowKit
attribute [local go_sem] sc0 sc1 sc2 sc3 sc4 sc5 sc6 sc7
theorem lim_zero (k : Nat) : lim 0 k = 0 := by simp [lim]
theorem lim_one0 : lim 1 0 = 1 := by decide
theorem lim_one1 : lim 1 1 = 0 := by decide
theorem lim_one2 : lim 1 2 = 0 := by decide
theorem lim_one3 : lim 1 3 = 0 := by decide
theorem Arr.z8 (w : World) : Arr (w.alloc (.cells #[.int .u64 0, .int .u64 0, .int .u64 0, .int .u64 0, .int .u64 0, .int .u64 0, .int .u64 0, .int .u64 0] 130)) w.heap.size 8 (fun _ => .int .u64 0) :=
  Arr.mk8 (by simp [go_sem]) (by simp [go_sem]) (by simp [go_sem]) (by simp [go_sem]) (by simp [go_sem]) (by simp [go_sem]) (by simp [go_sem]) (by simp [go_sem]) (by simp [go_sem])
theorem Arr.z8d (w : World) : Arr ((w.alloc (.cells #[.int .u64 0, .int .u64 0, .int .u64 0, .int .u64 0, .int .u64 0, .int .u64 0, .int .u64 0, .int .u64 0] 130)).drew) w.heap.size 8 (fun _ => .int .u64 0) := (Arr.z8 w).drew
theorem Arr.z88 (w : World) (o : Obj) : Arr ((w.alloc (.cells #[.int .u64 0, .int .u64 0, .int .u64 0, .int .u64 0, .int .u64 0, .int .u64 0, .int .u64 0, .int .u64 0] 130)).alloc o) w.heap.size 8 (fun _ => .int .u64 0) := (Arr.z8 w).alloc (by simp) o
theorem Arr.z88d (w : World) (o : Obj) : Arr (((w.alloc (.cells #[.int .u64 0, .int .u64 0, .int .u64 0, .int .u64 0, .int .u64 0, .int .u64 0, .int .u64 0, .int .u64 0] 130)).alloc o).drew) w.heap.size 8 (fun _ => .int .u64 0) := (Arr.z88 w o).drew
theorem set8 {w : World} {b : Nat} {f : Nat → Value} (h : Arr w b 8 f) (v0 v1 v2 v3 v4 v5 v6 v7 : Value) (g : Nat → Value) (g0 : g 0 = v0) (g1 : g 1 = v1) (g2 : g 2 = v2) (g3 : g 3 = v3) (g4 : g 4 = v4) (g5 : g 5 = v5) (g6 : g 6 = v6) (g7 : g 7 = v7) :
    Arr ((((((((w.setCell ⟨b, 0, none⟩ v0).setCell ⟨b, 1, none⟩ v1).setCell ⟨b, 2, none⟩ v2).setCell ⟨b, 3, none⟩ v3).setCell ⟨b, 4, none⟩ v4).setCell ⟨b, 5, none⟩ v5).setCell ⟨b, 6, none⟩ v6).setCell ⟨b, 7, none⟩ v7) b 8 g := by
  refine ((((((((h.set 0 (by omega) v0).set 1 (by omega) v1).set 2 (by omega) v2).set 3 (by omega) v3).set 4 (by omega) v4).set 5 (by omega) v5).set 6 (by omega) v6).set 7 (by omega) v7).congr ?_
  intro j hj
  have hc : j = 0 ∨ j = 1 ∨ j = 2 ∨ j = 3 ∨ j = 4 ∨ j = 5 ∨ j = 6 ∨ j = 7 := by omega
  rcases hc with hc | hc | hc | hc | hc | hc | hc | hc <;> subst hc <;> simp [g0, g1, g2, g3, g4, g5, g6, g7]
def cellInt (w : World) (b j : Nat) : Int := match w.cell? ⟨b, j, none⟩ with
  | some (.int _ v) => v
  | _ => 0
def mz (w : World) (b : Nat) : Nat := (V4 (cellInt w b 0) (cellInt w b 1) (cellInt w b 2) (cellInt w b 3)).toNat
theorem mz_eq {w : World} {b : Nat} {r t : Int} (h : Arr w b 8 (sc r t)) (h0 : 0 ≤ r) (h1 : r < top256) : mz w b = r.toNat := by
  unfold mz cellInt
  rw [h.c 0 (by omega), h.c 1 (by omega), h.c 2 (by omega), h.c 3 (by omega)]
  simp only [sc0, sc1, sc2, sc3]
  rw [V4_lim r h0 h1]
def EL (w : World) (b6 b7 : Nat) (M : Int) (wr : World) (r0 t0 r1 t1 : Int) : Prop :=
  Below w.heap.size w wr ∧ b6 < wr.heap.size ∧ b7 < wr.heap.size ∧ Arr wr b6 8 (sc r0 t0) ∧ Arr wr b7 8 (sc r1 t1) ∧ R4 wr (w.heap.size + 1) (fun j => .int .u64 (lim M j)) ∧ Arr wr (w.heap.size + 1 + 1) 4 (fun _ => .int .u64 0) ∧ Arr wr (w.heap.size + 1 + 1 + 1) 4 (fun _ => .int .u64 0)
set_option maxHeartbeats 1000000 in
theorem EL.step {w : World} {b6 b7 : Nat} {M : Int} {wr wc : World} {r0 t0 r1 t1 : Int} (h : EL w b6 b7 M wr r0 t0 r1 t1) (hbc : Below wr.drew.heap.size wr.drew wc) (r2 t2 : Int)
    (n6 : w.heap.size + 1 + 1 + 1 < b6) (n7 : w.heap.size + 1 + 1 + 1 < b7) (hne : b6 ≠ b7) : EL w b6 b7 M ((((((((((((((((wc.setCell ⟨b6, 0, none⟩ (.int .u64 (lim r1 0))).setCell ⟨b6, 1, none⟩ (.int .u64 (lim r1 1))).setCell ⟨b6, 2, none⟩ (.int .u64 (lim r1 2))).setCell ⟨b6, 3, none⟩ (.int .u64 (lim r1 3))).setCell ⟨b6, 4, none⟩ (.int .u64 (lim t1 0))).setCell ⟨b6, 5, none⟩ (.int .u64 (lim t1 1))).setCell ⟨b6, 6, none⟩ (.int .u64 (lim t1 2))).setCell ⟨b6, 7, none⟩ (.int .u64 (lim t1 3))).setCell ⟨b7, 0, none⟩ (.int .u64 (lim r2 0))).setCell ⟨b7, 1, none⟩ (.int .u64 (lim r2 1))).setCell ⟨b7, 2, none⟩ (.int .u64 (lim r2 2))).setCell ⟨b7, 3, none⟩ (.int .u64 (lim r2 3))).setCell ⟨b7, 4, none⟩ (.int .u64 (lim t2 0))).setCell ⟨b7, 5, none⟩ (.int .u64 (lim t2 1))).setCell ⟨b7, 6, none⟩ (.int .u64 (lim t2 2))).setCell ⟨b7, 7, none⟩ (.int .u64 (lim t2 3))) r1 t1 r2 t2 := by
  obtain ⟨hB, hl6, hl7, A6, A7, MM, A4, A5⟩ := h
  have hz : wr.heap.size ≤ wc.heap.size := hbc.size
  have D6 := A6.drew.below hbc hl6
  have D7 := A7.drew.below hbc hl7
  have D4 := A4.drew.below hbc (by show _ < wr.heap.size; omega)
  have D5 := A5.drew.below hbc (by show _ < wr.heap.size; omega)
  have DM : R4 wc (w.heap.size + 1) (fun j => .int .u64 (lim M j)) := R4.to (w := wr.drew) MM hbc (by show _ < wr.heap.size; omega)
  have hBc : Below w.heap.size w wc := hB.drew.trans (hbc.mono hB.size)
  refine ⟨?_, ?_, ?_, ?_, ?_, ?_, ?_, ?_⟩
  · repeat (first | (with_reducible exact hBc) | (with_reducible refine Bel.st ?_ (by omega) _))
  · simp only [size_set]; omega
  · simp only [size_set]; omega
  · refine (((((((((set8 D6 _ _ _ _ _ _ _ _ (sc r1 t1) rfl rfl rfl rfl rfl rfl rfl rfl).other (by omega) _).other (by omega) _).other (by omega) _).other (by omega) _).other (by omega) _).other (by omega) _).other (by omega) _).other (by omega) _)
  · exact set8 ((((((((D7.other (by omega) _).other (by omega) _).other (by omega) _).other (by omega) _).other (by omega) _).other (by omega) _).other (by omega) _).other (by omega) _) _ _ _ _ _ _ _ _ (sc r2 t2) rfl rfl rfl rfl rfl rfl rfl rfl
  · repeat (first | (with_reducible exact DM) | (with_reducible refine R4.st ?_ (by omega) _))
  · repeat (first | (with_reducible exact D4) | (with_reducible refine Arr.other ?_ (by omega) _))
  · repeat (first | (with_reducible exact D5) | (with_reducible refine Arr.other ?_ (by omega) _))
attribute [local go_sem] eq24
set_option maxHeartbeats 4000000 in
theorem divisor_core (A M X : Int) (P : Bool → Int → Int → Int → Int → Prop) (sb : Int → Int) (w : World)
    (C1 : ∀ W, Calls Tryz.prog 100 #[nv A, nv M] W fun e w' => e = .returned (nv X) ∧ Below W.heap.size W w')
    (h0 : P false M 0 X 1) (hr : ∀ l a b c d, P l a b c d → 0 ≤ c ∧ c < top256)
    (hs : ∀ l a b c d, P l a b c d → 0 < c → P (!l) c d (a % c) (a / c * d + b))
    (NX : ∀ l a b c d W, P l a b c d → 0 < c → Calls Tryz.prog 132 #[sv a b, sv c d] W fun e w' => e = .returned (sv (a % c) (a / c * d + b)) ∧ Below W.heap.size W w')
    (SB : ∀ a b d W, P false a b 0 d → Calls Tryz.prog 64 #[.agg #[.int .u64 0, .int .u64 0, .int .u64 0, .int .u64 0], nv b, nv M] W fun e w' => e = .returned (nv (sb b)) ∧ Below W.heap.size W w') :
    Calls Tryz.prog 121 #[nv A, nv M] w fun e w' => (∃ l a b d, P l a b 0 d ∧ e = .returned (.tuple #[nv a, nv (if l then b else sb b)])) ∧ Below w.heap.size w w' := by
  go_enter Tryz.func121, Tryz.ntmps121
  go_wp2_with fail
  go_step3
  go_upto_region 1 with fail
  go_cut [6, 7] from 9 to 15 (fun s6 s7 wx => ∃ b6 b7 : Nat, s6 = .pointer (some ⟨b6, 0, none⟩) ∧ s7 = .pointer (some ⟨b7, 0, none⟩) ∧ w.heap.size + 1 + 1 + 1 < b6 ∧ w.heap.size + 1 + 1 + 1 < b7 ∧ b6 ≠ b7 ∧ b6 < wx.heap.size ∧ b7 < wx.heap.size ∧ Arr wx b6 8 (sc M 0) ∧ Arr wx b7 8 (sc X 1) ∧
     (R4 wx (w.heap.size + 1) (fun j => .int .u64 (lim M j)) ∧ Arr wx (w.heap.size + 1 + 1) 4 (fun _ => .int .u64 0) ∧ Arr wx (w.heap.size + 1 + 1 + 1) 4 (fun _ => .int .u64 0) ∧ Below w.heap.size w wx))
  case first =>
    have l1 := lim_one0
    have l2 := lim_one1
    have l3 := lim_one2
    have l4 := lim_one3
    have l5 := lim_zero
    go_region_held3 (fun w' => R4 w' w.heap.size (fun j => .int .u64 (lim A j)) ∧ R4 w' (w.heap.size + 1) (fun j => .int .u64 (lim M j)))
      ((go_split_ands; refine ⟨?_, ?_⟩ <;> (first | (with_reducible assumption) | (apply R4.of <;> (simp [go_sem]; done)) | ((with_reducible refine R4.al (R4.al ?_ ?_ _) ?_ _) <;> (first | (with_reducible assumption) | (go_size; done) | fail)) | ((with_reducible refine R4.al ?_ ?_ _) <;> (first | (with_reducible assumption) | (go_size; done) | fail)) | (repeat (first | (with_reducible assumption) | (with_reducible refine R4.st ?_ (by go_size) _) | (with_reducible refine R4.al ?_ (by go_size) _))) | fail)))
      (first | (go_at_call 100; refine (C1 _).mono ?_; rintro e wn ⟨rfl, hbc⟩; have hz : w.heap.size + 1 + 1 + 1 < wn.heap.size := (by (have hq := hbc.size; (try simp at hq); omega)); have hsz := hbc.size; (try simp at hsz); (have hBn : Below w.heap.size w wn := Below.trans (by go_grown) (hbc.mono (by go_size))); (have A4n : Arr wn (w.heap.size + 1 + 1) 4 (fun _ => .int .u64 0) := Arr.below (Arr.mk4 (by simp [go_sem]) (by simp [go_sem]) (by simp [go_sem]) (by simp [go_sem]) (by simp [go_sem]) (by simp [go_sem]) (by simp [go_sem]) (by simp [go_sem])) hbc (by go_size)); (have A5n : Arr wn (w.heap.size + 1 + 1 + 1) 4 (fun _ => .int .u64 0) := Arr.below (Arr.mk4 (by simp [go_sem]) (by simp [go_sem]) (by simp [go_sem]) (by simp [go_sem]) (by simp [go_sem]) (by simp [go_sem]) (by simp [go_sem]) (by simp [go_sem])) hbc (by go_size)); (have MAn : R4 wn w.heap.size (fun j => .int .u64 (lim A j)) := R4.to (R4.of (by simp [go_sem]) (by simp [go_sem]) (by simp [go_sem]) (by simp [go_sem])) hbc (by go_size)); (have MMn : R4 wn (w.heap.size + 1) (fun j => .int .u64 (lim M j)) := R4.to (R4.of (by simp [go_sem]) (by simp [go_sem]) (by simp [go_sem]) (by simp [go_sem])) hbc (by go_size)); (first | (have Z6 := Arr.below (Arr.z88d _ _) hbc (by go_size)) | (have Z6 := Arr.below (Arr.z88 _ _) hbc (by go_size)) | skip); (first | (have Z7 := Arr.below (Arr.z8d _) hbc (by go_size)) | (have Z7 := Arr.below (Arr.z8 _) hbc (by go_size)) | skip); (try simp only [World.size_alloc, World.size_drew] at Z7); (try simp only [World.size_alloc, World.size_drew] at Z6); (try (have c7 := Z7.c; have z7 := Z7.z)); (try (have c6 := Z6.c; have z6 := Z6.z)); (try (have c7a := fun o => (Z7.alloc (by go_size) o).c; have z7a := fun o => (Z7.alloc (by go_size) o).z))))
    all_goals (go_split_ands; try go_wp2_with fail)
    all_goals
      go_meet
      case rel =>
        refine ⟨_, _, rfl, rfl, by go_size, by go_size, by go_size, by go_size, by go_size, ?_, ?_, ?_, ?_, ?_, ?_⟩
        · first | ((with_reducible refine set8 (f := fun _ => .int .u64 0) ?_ _ _ _ _ _ _ _ _ _ (by simp [go_sem, l1, l2, l3, l4, l5]) (by simp [go_sem, l1, l2, l3, l4, l5]) (by simp [go_sem, l1, l2, l3, l4, l5]) (by simp [go_sem, l1, l2, l3, l4, l5]) (by simp [go_sem, l1, l2, l3, l4, l5]) (by simp [go_sem, l1, l2, l3, l4, l5]) (by simp [go_sem, l1, l2, l3, l4, l5]) (by simp [go_sem, l1, l2, l3, l4, l5])); (repeat (first | (with_reducible assumption) | (with_reducible refine Arr.other ?_ (by go_size) _) | (with_reducible refine Arr.alloc ?_ (by go_size) _))); done) | ((with_reducible refine Arr.other (Arr.other (Arr.other (Arr.other (Arr.other (Arr.other (Arr.other (Arr.other ?_ (by go_size) _) (by go_size) _) (by go_size) _) (by go_size) _) (by go_size) _) (by go_size) _) (by go_size) _) (by go_size) _); first | ((with_reducible refine set8 (f := fun _ => .int .u64 0) ?_ _ _ _ _ _ _ _ _ _ (by simp [go_sem, l1, l2, l3, l4, l5]) (by simp [go_sem, l1, l2, l3, l4, l5]) (by simp [go_sem, l1, l2, l3, l4, l5]) (by simp [go_sem, l1, l2, l3, l4, l5]) (by simp [go_sem, l1, l2, l3, l4, l5]) (by simp [go_sem, l1, l2, l3, l4, l5]) (by simp [go_sem, l1, l2, l3, l4, l5]) (by simp [go_sem, l1, l2, l3, l4, l5])); (repeat (first | (with_reducible assumption) | (with_reducible refine Arr.other ?_ (by go_size) _) | (with_reducible refine Arr.alloc ?_ (by go_size) _))); done) | (apply Arr.mk8 <;> (simp [go_sem, l1, l2, l3, l4, l5]; done))) | (apply Arr.mk8 <;> (simp [go_sem, l1, l2, l3, l4, l5]; done))
        · first | ((with_reducible refine set8 (f := fun _ => .int .u64 0) ?_ _ _ _ _ _ _ _ _ _ (by simp [go_sem, l1, l2, l3, l4, l5]) (by simp [go_sem, l1, l2, l3, l4, l5]) (by simp [go_sem, l1, l2, l3, l4, l5]) (by simp [go_sem, l1, l2, l3, l4, l5]) (by simp [go_sem, l1, l2, l3, l4, l5]) (by simp [go_sem, l1, l2, l3, l4, l5]) (by simp [go_sem, l1, l2, l3, l4, l5]) (by simp [go_sem, l1, l2, l3, l4, l5])); (repeat (first | (with_reducible assumption) | (with_reducible refine Arr.other ?_ (by go_size) _) | (with_reducible refine Arr.alloc ?_ (by go_size) _))); done) | ((with_reducible refine Arr.other (Arr.other (Arr.other (Arr.other (Arr.other (Arr.other (Arr.other (Arr.other ?_ (by go_size) _) (by go_size) _) (by go_size) _) (by go_size) _) (by go_size) _) (by go_size) _) (by go_size) _) (by go_size) _); first | ((with_reducible refine set8 (f := fun _ => .int .u64 0) ?_ _ _ _ _ _ _ _ _ _ (by simp [go_sem, l1, l2, l3, l4, l5]) (by simp [go_sem, l1, l2, l3, l4, l5]) (by simp [go_sem, l1, l2, l3, l4, l5]) (by simp [go_sem, l1, l2, l3, l4, l5]) (by simp [go_sem, l1, l2, l3, l4, l5]) (by simp [go_sem, l1, l2, l3, l4, l5]) (by simp [go_sem, l1, l2, l3, l4, l5]) (by simp [go_sem, l1, l2, l3, l4, l5])); (repeat (first | (with_reducible assumption) | (with_reducible refine Arr.other ?_ (by go_size) _) | (with_reducible refine Arr.alloc ?_ (by go_size) _))); done) | (apply Arr.mk8 <;> (simp [go_sem, l1, l2, l3, l4, l5]; done))) | (apply Arr.mk8 <;> (simp [go_sem, l1, l2, l3, l4, l5]; done))
        · repeat (first | (with_reducible assumption) | (with_reducible refine R4.st ?_ (by go_size) _) | (with_reducible refine R4.al ?_ (by go_size) _))
        · repeat (first | (with_reducible assumption) | (with_reducible refine Arr.other ?_ (by go_size) _) | (with_reducible refine Arr.alloc ?_ (by go_size) _))
        · repeat (first | (with_reducible assumption) | (with_reducible refine Arr.other ?_ (by go_size) _) | (with_reducible refine Arr.alloc ?_ (by go_size) _))
        · repeat (first | (with_reducible assumption) | (with_reducible refine Bel.st ?_ (by go_size) _) | (with_reducible refine Bel.al ?_ _))
  case rest =>
    clear C1
    obtain ⟨b6, b7, rfl, rfl, hb6, hb7, hne, hl6, hl7, A6, A7, MM, A4, A5, hB⟩ := hcut
    go_wp2_with fail
    go_step3
    go_wp2_with fail
    go_loopw [8] (fun l wr => ∃ (lb : Bool) (r0 t0 r1 t1 : Int), l = .bool lb ∧ P lb r0 t0 r1 t1 ∧ EL w b6 b7 M wr r0 t0 r1 t1) (fun _ wr => mz wr b7)
    case atStart => exact ⟨false, M, 0, X, 1, rfl, h0, hB, hl6, hl7, A6, A7, MM, A4, A5⟩
    case round =>
      clear A6 A7 MM A4 A5 hB hl6 hl7 h0
      obtain ⟨lb, r0, t0, r1, t1, rfl, hP, hD⟩ := hrel
      obtain ⟨hB, hl6, hl7, A6, A7, MM, A4, A5⟩ := id hD
      obtain ⟨n1, n2⟩ := hr _ _ _ _ _ hP
      have c7 := A7.c
      have c6 := A6.c
      by_cases hz : r1 = 0
      · subst hz
        have e0 : (lim 0 0 == 0 && (lim 0 1 == 0 && (lim 0 2 == 0 && lim 0 3 == 0))) = true := by decide
        cases lb with
        | true =>
          have c4 := A4.c
          have z4 := A4.z
          have c5 := A5.c
          have z5 := A5.z
          clear hD NX SB hs hr
          go_wp2_with fail
          go_region
          all_goals
            go_wp2
            try rw [Exit.noGoto_ret]
            refine bodyPost_ret (v := .tuple #[nv r0, nv t0]) (by simp [results, Tryz.results121, go_sem, c4, c5]) rfl ⟨⟨true, r0, t0, t1, hP, rfl⟩, ?_⟩
            go_grown
        | false =>
          have SC := fun W => SB _ _ _ W hP
          have cM := MM
          clear hD NX hs hr SB
          go_wp2_with fail
          go_region_with (go_at_call 64; refine (SC _).mono ?_; rintro e wc ⟨rfl, hbc⟩; have D6 := A6.drew.below hbc hl6; have D4 := A4.drew.below hbc (by show _ < wr.heap.size; omega); have D5 := A5.drew.below hbc (by show _ < wr.heap.size; omega); have c6' := D6.c; have c4 := D4.c; have z4 := D4.z; have c5 := D5.c; have z5 := D5.z; have hBc : Below w.heap.size w wc := hB.drew.trans (hbc.mono hB.size))
          all_goals
            go_wp2
            try rw [Exit.noGoto_ret]
            refine bodyPost_ret (v := .tuple #[nv r0, nv (sb t0)]) (by simp [results, Tryz.results121, go_sem, c4, c5]) rfl ⟨⟨false, r0, t0, t1, hP, rfl⟩, ?_⟩
            go_grown
      · have hp : 0 < r1 := by omega
        have e0 : (lim r1 0 == 0 && (lim r1 1 == 0 && (lim r1 2 == 0 && lim r1 3 == 0))) = false := by
          have v := V4_lim r1 n1 n2
          unfold V4 at v
          by_cases c0 : lim r1 0 = 0
          · by_cases c1 : lim r1 1 = 0
            · by_cases c2 : lim r1 2 = 0
              · by_cases c3 : lim r1 3 = 0
                · rw [c0, c1, c2, c3] at v; omega
                · simp [c3]
              · simp [c2]
            · simp [c1]
          · simp [c0]
        have N := fun W => NX _ _ _ _ _ W hP hp
        have hP' := hs _ _ _ _ _ hP hp
        have hm : (r0 % r1).toNat < r1.toNat := by
          have q1 := Int.emod_lt_of_pos r0 hp
          have q0 := Int.emod_nonneg r0 (Int.ne_of_gt hp)
          omega
        have hr' := hr _ _ _ _ _ hP'
        clear NX SB hs hr
        go_wp2_with fail
        go_region_with (go_at_call 132; refine (N _).mono ?_; rintro e wc ⟨rfl, hbc⟩; have D6 := A6.drew.below hbc hl6; have D7 := A7.drew.below hbc hl7; have c6' := D6.c; have z6' := D6.z; have c7' := D7.c; have z7' := D7.z)
        all_goals
          have ST := EL.step hD hbc (r0 % r1) (r0 / r1 * t1 + t0) hb6 hb7 hne
          have mzn := mz_eq ST.2.2.2.2.1 hr'.1 hr'.2
          have mzo := mz_eq A7 n1 n2
          clear c6' z6' c7' z7' D6 D7 hbc hD A6 A7 MM A4 A5 N
          go_wp2
          go_roundw
          case rel => exact ⟨!lb, r1, t1, _, _, rfl, hP', ST⟩
          case measure => rw [mzn, mzo]; exact hm
end Go.Proofs.YtoolbnbfbegjaaaGreat
