/- What num.Div answers, for any numbers. -/
import Derived.Deep.RegionHeld3
import Derived.Test.YtpigofooblmdhaaJ7
set_option linter.all false
namespace Go.Proofs.Ytpigofooblmdhaa
open Go.RowKit
theorem idxN (N : Int) (k : Nat) (hk : k < 4) (w : World) : (Instr.index 24 (nv N) (.int .i64 (k : Int))).run Try.prog w = .ok (.int .u64 (lim N k)) w := by
  have h : k = 0 ∨ k = 1 ∨ k = 2 ∨ k = 3 := by omega
  rcases h with h | h | h | h <;> subst h
  · exact idx24_0 _ _ _ _ w
  · exact idx24_1 _ _ _ _ w
  · exact idx24_2 _ _ _ _ w
  · exact idx24_3 _ _ _ _ w
theorem Arr.mk8 {w : World} {b : Nat} {f : Nat → Value} (h0 : w.cell? ⟨b, 0, none⟩ = some (f 0)) (h1 : w.cell? ⟨b, 1, none⟩ = some (f 1)) (h2 : w.cell? ⟨b, 2, none⟩ = some (f 2)) (h3 : w.cell? ⟨b, 3, none⟩ = some (f 3))
    (h4 : w.cell? ⟨b, 4, none⟩ = some (f 4)) (h5 : w.cell? ⟨b, 5, none⟩ = some (f 5)) (h6 : w.cell? ⟨b, 6, none⟩ = some (f 6)) (h7 : w.cell? ⟨b, 7, none⟩ = some (f 7)) (z : ∀ j, j < 8 → w.frozen? ⟨b, j, none⟩ = false) : Arr w b 8 f := by
  intro j hj
  refine ⟨?_, z j hj⟩
  have h : j = 0 ∨ j = 1 ∨ j = 2 ∨ j = 3 ∨ j = 4 ∨ j = 5 ∨ j = 6 ∨ j = 7 := by omega
  rcases h with h | h | h | h | h | h | h | h <;> subst h <;> assumption
def DR (w : World) (b4 b6 ba b3 : Nat) (F D Q : Int) (wr : World) (k : Nat) : Prop :=
  Below w.heap.size w wr ∧ ba < wr.heap.size ∧ Arr wr b4 8 (fun j => .int .u64 (lim F j)) ∧ Arr wr b6 4 (fun j => .int .u64 (lim (rem F D (8 - k)) j)) ∧ Arr wr ba 8 (fun j => .int .u64 (if 8 ≤ j + k then lim Q j else 0)) ∧
  Arr wr b3 4 (fun j => .int .u64 (lim D j)) ∧ Arr wr (w.heap.size + 1 + 1 + 1) 4 (fun _ => .int .u64 0) ∧ Arr wr (w.heap.size + 1 + 1 + 1 + 1) 4 (fun _ => .int .u64 0) ∧ Arr wr (w.heap.size + 1 + 1 + 1 + 1 + 1) 4 (fun _ => .int .u64 0)
theorem DR.step {w : World} {b4 b6 ba b3 : Nat} {F D Q : Int} {wr wc : World} {k j : Nat} (h : DR w b4 b6 ba b3 F D Q wr k) (hj : j + k = 7) (hbc : Below wr.drew.heap.size wr.drew wc)
    (n0 : w.heap.size + 1 + 1 + 1 + 1 + 1 < b3) (n1 : b3 < b4) (n2 : b4 < b6) (n3 : b6 < ba) :
    DR w b4 b6 ba b3 F D Q (((((wc.setCell ⟨ba, j, none⟩ (.int .u64 (lim Q j))).setCell ⟨b6, 0, none⟩ (.int .u64 (lim (rem F D j) 0))).setCell ⟨b6, 1, none⟩ (.int .u64 (lim (rem F D j) 1))).setCell ⟨b6, 2, none⟩ (.int .u64 (lim (rem F D j) 2))).setCell ⟨b6, 3, none⟩ (.int .u64 (lim (rem F D j) 3))) (k + 1) := by
  obtain ⟨hB, hz, C13, C15, C18, C11, C6, C7, C8⟩ := h
  have hz' : ba < wr.drew.heap.size := hz
  have hzc := hbc.size
  have hBc : Below w.heap.size w wc := hB.drew.trans (hbc.mono hB.size)
  have D15 := C15.drew.below hbc (by omega)
  have D18 := C18.drew.below hbc (by omega)
  refine ⟨?_, ?_, ?_, ?_, ?_, ?_, ?_, ?_, ?_⟩
  · exact ((((hBc.setCell (by show _ ≤ ba; omega) _).setCell (by show _ ≤ b6; omega) _).setCell (by show _ ≤ b6; omega) _).setCell (by show _ ≤ b6; omega) _).setCell (by show _ ≤ b6; omega) _
  · simp only [size_set]; omega
  · exact ((((((C13.drew.below hbc (by omega)).other (by omega) _).other (by omega) _).other (by omega) _).other (by omega) _).other (by omega) _)
  · have e7 : 8 - (k + 1) = j := by omega
    rw [e7]
    exact set4 (D15.other (by omega) _) _ _ _ _ _ rfl rfl rfl rfl
  · refine (((((D18.set j (by omega) _).other (by omega) _).other (by omega) _).other (by omega) _).other (by omega) _).congr ?_
    intro i hi
    by_cases e : i = j
    · subst e; rw [if_pos rfl, if_pos (by omega)]
    · rw [if_neg e]
      by_cases e2 : 8 ≤ i + k
      · rw [if_pos e2, if_pos (by omega)]
      · rw [if_neg e2, if_neg (by omega)]
  · exact ((((((C11.drew.below hbc (by omega)).other (by omega) _).other (by omega) _).other (by omega) _).other (by omega) _).other (by omega) _)
  · exact ((((((C6.drew.below hbc (by omega)).other (by omega) _).other (by omega) _).other (by omega) _).other (by omega) _).other (by omega) _)
  · exact ((((((C7.drew.below hbc (by omega)).other (by omega) _).other (by omega) _).other (by omega) _).other (by omega) _).other (by omega) _)
  · exact ((((((C8.drew.below hbc (by omega)).other (by omega) _).other (by omega) _).other (by omega) _).other (by omega) _).other (by omega) _)
attribute [local go_sem] eq24
set_option maxHeartbeats 8000000 in
theorem div_core (lo hi M D X H F Q RR ℓ : Int) (s : Nat) (w : World) (hl : 256 - ℓ = (s : Int)) (l0 : 0 ≤ ℓ) (l1 : ℓ ≤ 256)
    (L : ∀ W, Calls Try.prog 59 #[nv M] W fun e w' => e = .returned (.int .i64 ℓ) ∧ Below W.heap.size W w')
    (RM : ∀ W, Calls Try.prog 88 #[nv M, .int .i64 s] W fun e w' => e = .returned (wv D) ∧ Below W.heap.size W w')
    (RL : ∀ W, Calls Try.prog 88 #[nv lo, .int .i64 s] W fun e w' => e = .returned (wv X) ∧ Below W.heap.size W w')
    (RH : ∀ W, Calls Try.prog 88 #[nv hi, .int .i64 s] W fun e w' => e = .returned (wv H) ∧ Below W.heap.size W w')
    (hLo : Hid (∀ j, j < 4 → lim F j = lim X j)) (hOr : Hid (∀ k, k < 4 → bits .or .u64 (lim X (k + 4)) (lim H k) = lim F (k + 4)))
    (r4 : lim H 4 = lim (rem F D 8) 0) (r5 : lim H 5 = lim (rem F D 8) 1) (r6 : lim H 6 = lim (rem F D 8) 2) (r7 : lim H 7 = lim (rem F D 8) 3)
    (q4 : lim Q 4 = lim (Q / top256) 0) (q5 : lim Q 5 = lim (Q / top256) 1) (q6 : lim Q 6 = lim (Q / top256) 2) (q7 : lim Q 7 = lim (Q / top256) 3)
    (DG : ∀ j W, j < 8 → Calls Try.prog 89 #[nv (rem F D (j + 1)), .int .u64 (lim F j), nv D] W fun e w' => e = .returned (.tuple #[.int .u64 (lim Q j), nv (rem F D j)]) ∧ Below W.heap.size W w')
    (LW : ∀ W, Calls Try.prog 90 #[nv (rem F D 0), .int .i64 s] W fun e w' => e = .returned (nv RR) ∧ Below W.heap.size W w')
    (hM : (lim M 0 == 0 && (lim M 1 == 0 && (lim M 2 == 0 && lim M 3 == 0))) = false) :
    Calls Try.prog 58 #[nv lo, nv hi, nv M] w fun e w' => e = .returned (.tuple #[nv Q, nv (Q / top256), nv RR, .int .i64 0]) ∧ Below w.heap.size w w' := by
  go_enter Try.func58, Try.ntmps58
  go_wp2_with fail
  refine (L _).mono ?_
  rintro e w1 ⟨rfl, hb1⟩
  have A3 := (Arr.mk4 (f := fun j => .int .u64 (lim lo j)) (b := w.heap.size) (by simp [go_sem]) (by simp [go_sem]) (by simp [go_sem]) (by simp [go_sem]) (by simp [go_sem]) (by simp [go_sem]) (by simp [go_sem]) (by simp [go_sem]) ).below hb1 (by go_size)
  have A4 := (Arr.mk4 (f := fun j => .int .u64 (lim hi j)) (b := w.heap.size + 1) (by simp [go_sem]) (by simp [go_sem]) (by simp [go_sem]) (by simp [go_sem]) (by simp [go_sem]) (by simp [go_sem]) (by simp [go_sem]) (by simp [go_sem]) ).below hb1 (by go_size)
  have A5 := (Arr.mk4 (f := fun j => .int .u64 (lim M j)) (b := w.heap.size + 1 + 1) (by simp [go_sem]) (by simp [go_sem]) (by simp [go_sem]) (by simp [go_sem]) (by simp [go_sem]) (by simp [go_sem]) (by simp [go_sem]) (by simp [go_sem]) ).below hb1 (by go_size)
  have A6 := (Arr.mk4 (f := fun j => .int .u64 0) (b := w.heap.size + 1 + 1 + 1) (by simp [go_sem]) (by simp [go_sem]) (by simp [go_sem]) (by simp [go_sem]) (by simp [go_sem]) (by simp [go_sem]) (by simp [go_sem]) (by simp [go_sem]) ).below hb1 (by go_size)
  have A7 := (Arr.mk4 (f := fun j => .int .u64 0) (b := w.heap.size + 1 + 1 + 1 + 1) (by simp [go_sem]) (by simp [go_sem]) (by simp [go_sem]) (by simp [go_sem]) (by simp [go_sem]) (by simp [go_sem]) (by simp [go_sem]) (by simp [go_sem]) ).below hb1 (by go_size)
  have A8 := (Arr.mk4 (f := fun j => .int .u64 0) (b := w.heap.size + 1 + 1 + 1 + 1 + 1) (by simp [go_sem]) (by simp [go_sem]) (by simp [go_sem]) (by simp [go_sem]) (by simp [go_sem]) (by simp [go_sem]) (by simp [go_sem]) (by simp [go_sem]) ).below hb1 (by go_size)
  have hB1 : Below w.heap.size w w1 := Below.trans (by go_grown) (hb1.mono (by go_size))
  have z1 : w.heap.size + 1 + 1 + 1 + 1 + 1 < w1.heap.size := by have := hb1.size; simp at this; omega
  clear hb1
  have c5 := A5.c
  go_wp2_with fail
  refine (RM _).mono ?_
  rintro e w2 ⟨rfl, hb2⟩
  clear c5 A5 L RM hl
  go_wp2_with fail
  refine (halves_any _ _ _ _ _ _ _ _ _).mono ?_
  rintro e w3 ⟨rfl, hb3⟩
  have hb13 : Below w1.heap.size w1 w3 := hb2.trans (hb3.mono hb2.size)
  have z3 := hb13.size
  have c3 : ∀ o1 o2 j, j < 4 → ((w3.alloc o1).alloc o2).cell? ⟨w.heap.size, j, none⟩ = some (.int .u64 (lim lo j)) := fun o1 o2 j hj => (((A3.below hb13 (by go_size)).alloc (by go_size) o1).alloc (by go_size) o2).c j hj
  go_wp2_with fail
  refine (RL _).mono ?_
  rintro e w4 ⟨rfl, hb4⟩
  have z4 := hb4.size
  simp only [World.size_alloc] at z4
  have A4' := (((A4.below hb13 (by go_size)).alloc (by go_size) _).alloc (by go_size) _).below hb4 (by go_size)
  have c4 : ∀ o1 j, j < 4 → (w4.alloc o1).cell? ⟨w.heap.size + 1, j, none⟩ = some (.int .u64 (lim hi j)) := fun o1 j hj => (A4'.alloc (by go_size) o1).c j hj
  clear c3
  go_wp2_with fail
  refine (RH _).mono ?_
  rintro e w5 ⟨rfl, hb5⟩
  clear c4 A4'
  go_wp2_with fail
  refine (halves_any _ _ _ _ _ _ _ _ _).mono ?_
  rintro e w6 ⟨rfl, hb6⟩
  have z5 := hb5.size
  have z6 := hb6.size
  simp only [World.size_alloc] at z5
  have hb46 := hb5.trans (hb6.mono hb5.size)
  have A11 := ((((Arr.mk4 (w := (w3.alloc _).alloc _) (f := fun j => .int .u64 (lim D j)) (b := w3.heap.size) (by simp [go_sem]) (by simp [go_sem]) (by simp [go_sem]) (by simp [go_sem]) (by simp [go_sem]) (by simp [go_sem]) (by simp [go_sem]) (by simp [go_sem]) ).below hb4 (by go_size)).alloc (by go_size) _).below hb46 (by go_size))
  have A6' := (((((A6.below hb13 (by go_size)).alloc (by go_size) _).alloc (by go_size) _).below hb4 (by go_size)).alloc (by go_size) _).below hb46 (by go_size)
  have A7' := (((((A7.below hb13 (by go_size)).alloc (by go_size) _).alloc (by go_size) _).below hb4 (by go_size)).alloc (by go_size) _).below hb46 (by go_size)
  have A8' := (((((A8.below hb13 (by go_size)).alloc (by go_size) _).alloc (by go_size) _).below hb4 (by go_size)).alloc (by go_size) _).below hb46 (by go_size)
  have A13 := (Arr.mk8 (w := w4.alloc _) (f := fun j => .int .u64 (lim X j)) (b := w4.heap.size) (by simp [go_sem]) (by simp [go_sem]) (by simp [go_sem]) (by simp [go_sem]) (by simp [go_sem]) (by simp [go_sem]) (by simp [go_sem]) (by simp [go_sem]) (by simp [go_sem])).below hb46 (by go_size)
  have hB6 : Below w.heap.size w w6 := ((((hB1.trans (hb13.mono hB1.size)).alloc (by go_size) _).alloc (by go_size) _).trans (hb4.mono (by go_size))).alloc (by go_size) _ |>.trans (hb46.mono (by go_size))
  clear A3 A4 A6 A7 A8 hb2 hb3 hb13 hb4 hb5 hb6 hb46 RL RH hB1
  go_wp2_with fail
  clear r4 r5 r6 r7 hM
  go_loopw [50] (fun i wr => ∃ k : Nat, k ≤ 4 ∧ i = .int .i64 k ∧ Below w.heap.size w wr ∧ w6.heap.size + 1 < wr.heap.size ∧ Arr wr w4.heap.size 8 (fun j => .int .u64 (if j < k + 4 then lim F j else lim X j)) ∧
      Arr wr (w6.heap.size + 1) 4 (fun j => .int .u64 (lim (rem F D 8) j)) ∧ Arr wr w3.heap.size 4 (fun j => .int .u64 (lim D j)) ∧ Arr wr (w.heap.size + 1 + 1 + 1) 4 (fun _ => .int .u64 0) ∧ Arr wr (w.heap.size + 1 + 1 + 1 + 1) 4 (fun _ => .int .u64 0) ∧ Arr wr (w.heap.size + 1 + 1 + 1 + 1 + 1) 4 (fun _ => .int .u64 0))
    (fun i _ => 4 - (intOf i).toNat)
  case atStart =>
    refine ⟨0, by omega, rfl, (hB6.alloc (by go_size) _).alloc (by go_size) _, by go_size, ?_, Arr.mk4 (by simp [go_sem]) (by simp [go_sem]) (by simp [go_sem]) (by simp [go_sem]) (by simp [go_sem]) (by simp [go_sem]) (by simp [go_sem]) (by simp [go_sem]) , (A11.alloc (by go_size) _).alloc (by go_size) _, (A6'.alloc (by go_size) _).alloc (by go_size) _, (A7'.alloc (by go_size) _).alloc (by go_size) _, (A8'.alloc (by go_size) _).alloc (by go_size) _⟩
    refine ((A13.alloc (by go_size) _).alloc (by go_size) _).congr ?_
    intro j hj
    by_cases c : j < 0 + 4
    · rw [if_pos c, hLo.out j (by omega)]
    · rw [if_neg c]
  case round =>
    obtain ⟨k, hk, rfl, hB, hz, C13, C15, C11, C6, C7, C8⟩ := hrel
    clear A11 A6' A7' A8' A13 hB6
    by_cases hlt : k < 4
    · have k0 : (0 : Int) ≤ (k : Int) := by omega
      have k4 : (k : Int) < 4 := by omega
      have I : ∀ W, (Instr.index 24 (.agg #[.int .u64 (lim H 0), .int .u64 (lim H 1), .int .u64 (lim H 2), .int .u64 (lim H 3)]) (.int .i64 (k : Int))).run Try.prog W = .ok (.int .u64 (lim H k)) W := fun W => idxN H k hlt W
      have O := hOr.out k hlt
      have rd := C13.c (k + 4) (by omega)
      simp only [show ¬ (k + 4 < k + 4) by omega, if_false] at rd
      have zd := C13.z (k + 4) (by omega)
      have tn : ((k : Int) + 4).toNat = k + 4 := by omega
      go_wp2_with fail
      refine ⟨⟨k + 1, by omega, by go_num, hB.setCell (by show _ ≤ w4.heap.size; omega) _, by rw [size_set]; exact hz, ?_, C15.other (by omega) _, C11.other (by omega) _, C6.other (by omega) _, C7.other (by omega) _, C8.other (by omega) _⟩, by simp [intOf]; omega⟩
      refine (C13.set (k + 4) (by omega) _).congr ?_
      intro j hj
      by_cases e : j = k + 4
      · subst e; rw [if_pos rfl, if_pos (by omega)]
      · rw [if_neg e]
        by_cases e2 : j < k + 4
        · rw [if_pos e2, if_pos (by omega)]
        · rw [if_neg e2, if_neg (by omega)]
    · have k4 : k = 4 := by omega
      subst k4
      have C13' : Arr wr w4.heap.size 8 (fun j => .int .u64 (lim F j)) := C13.congr (by intro j hj; rw [if_pos (by omega)])
      clear C13
      obtain ⟨wa, ewa⟩ : ∃ wa, wa = wr := ⟨_, rfl⟩
      subst ewa
      go_wp2_with fail
      go_loopw [62] (fun i wr => ∃ k : Nat, k ≤ 8 ∧ i = .int .i64 k ∧ DR w w4.heap.size (w6.heap.size + 1) wa.heap.size w3.heap.size F D Q wr k)
        (fun i _ => 8 - (intOf i).toNat)
      case atStart =>
        exact ⟨0, by omega, rfl, hB.alloc (by go_size) _, by go_size, C13'.alloc (by go_size) _, C15.alloc (by go_size) _, Arr.mk8 (by simp [go_sem]) (by simp [go_sem]) (by simp [go_sem]) (by simp [go_sem]) (by simp [go_sem]) (by simp [go_sem]) (by simp [go_sem]) (by simp [go_sem]) (by simp [go_sem]), C11.alloc (by go_size) _, C6.alloc (by go_size) _, C7.alloc (by go_size) _, C8.alloc (by go_size) _⟩
      case round =>
        have hB0 := hB.size
        clear hB C13' C15 C11 C6 C7 C8 hlt
        obtain ⟨k, hk, rfl, HR⟩ := hrel
        obtain ⟨hB, hz2, C13, C15, C18, C11, C6, C7, C8⟩ := id HR
        by_cases hlt : k < 8
        · obtain ⟨j, hj⟩ : ∃ j : Nat, (7 : Int) - (k : Int) = (j : Int) := ⟨7 - k, by omega⟩
          have ek : k = 7 - j := by omega
          have ej : 8 - k = j + 1 := by omega
          have ejk : j + k = 7 := by omega
          rw [ej] at C15
          have j8 : j < 8 := by omega
          have k0 : (0 : Int) ≤ (j : Int) := by omega
          have k8 : (j : Int) < 8 := by omega
          have c15 := C15.c
          have rd := C13.c j j8
          have c11 := C11.c
          clear ek ej
          go_wp2_with fail
          go_region_with (go_at_call 89; refine (DG j _ j8).mono ?_; rintro e wc ⟨rfl, hbc⟩; have D18 := C18.drew.below hbc (by go_size); have D15 := C15.drew.below hbc (by go_size); have zq := D18.z j j8; have cq := D18.c j j8; have c15' := D15.c; have z15' := D15.z)
          all_goals
            have ST := HR.step ejk hbc (by omega) (by omega) (by omega) (by omega)
            clear zq cq c15' z15' D15 D18 hbc HR C13 C15 C18 C11 C6 C7 C8 c15 rd c11 DG LW
            go_wp2
            go_roundw
            case rel => exact ⟨_, _, _, _, _, _, _, _, _, _, _, _, _, _, _, _, _, _, _, ⟨k + 1, by omega, by go_num, ST⟩, rfl⟩
            case measure => simp [intOf]; omega
        · have k8 : k = 8 := by omega
          subst k8
          have c18 := (C18.congr (g := fun j => .int .u64 (lim Q j)) (by intro j hj; rw [if_pos (by omega)])).c
          go_wp2_with fail
          refine (halves_any _ _ _ _ _ _ _ _ _).mono ?_
          rintro e wh ⟨rfl, hbh⟩
          clear c18 DG C11 C13 C18
          have hzh := hbh.size
          have E15 := (C15.below hbh (by omega))
          have E6 := (C6.below hbh (by omega))
          have E7 := (C7.below hbh (by omega))
          have E8 := (C8.below hbh (by omega))
          have hBh : Below w.heap.size w wh := hB.trans (hbh.mono hB.size)
          have c15 : ∀ o1 o2 j, j < 4 → ((wh.alloc o1).alloc o2).cell? ⟨w6.heap.size + 1, j, none⟩ = some (.int .u64 (lim (rem F D 0) j)) := fun o1 o2 j hj => ((E15.alloc (by omega) o1).alloc (by go_size) o2).c j hj
          clear C15 C6 C7 C8 HR hbh
          go_wp2_with fail
          go_region_with (go_at_call 90; refine (LW _).mono ?_; rintro e wc ⟨rfl, hbc⟩; have D21 := (Arr.mk4 (w := (wh.alloc _).alloc _) (f := fun j => .int .u64 (lim Q j)) (b := wh.heap.size) (by simp [go_sem]) (by simp [go_sem]) (by simp [go_sem]) (by simp [go_sem]) (by simp [go_sem]) (by simp [go_sem]) (by simp [go_sem]) (by simp [go_sem]) ).drew.below hbc (by go_size); have D22 := (Arr.mk4 (w := (wh.alloc _).alloc _) (f := fun j => .int .u64 (lim (Q / top256) j)) (b := wh.heap.size + 1) (by simp [go_sem]) (by simp [go_sem]) (by simp [go_sem]) (by simp [go_sem]) (by simp [go_sem]) (by simp [go_sem]) (by simp [go_sem]) (by simp [go_sem]) ).drew.below hbc (by go_size); have D6 := ((E6.alloc (by omega) _).alloc (by go_size) _).drew.below hbc (by go_size); have D7 := ((E7.alloc (by omega) _).alloc (by go_size) _).drew.below hbc (by go_size); have D8 := ((E8.alloc (by omega) _).alloc (by go_size) _).drew.below hbc (by go_size); have c21 := D21.c; have c22 := D22.c; have c6 := D6.c; have z6 := D6.z; have c7 := D7.c; have z7 := D7.z; have c8 := D8.c; have z8 := D8.z)
          all_goals
            go_wp2
            refine bodyPost_ret (v := .tuple #[nv Q, nv (Q / top256), nv RR, .int .i64 0]) (by simp [results, Try.results58, go_sem, c6, c7, c8]) rfl ⟨rfl, ?_⟩
            have hBc : Below w.heap.size w wc := ((hBh.alloc (by go_size) _).alloc (by go_size) _).drew.trans (hbc.mono (by go_size))
            go_grown
end Go.Proofs.Ytpigofooblmdhaa
