/- Package hand: bodies as bytes. -/
import Derived.Test.YtjdpeedghpblgaaGreatDoorJ2
import Derived.Test.YtjdpeedghpblgaaGreatDoorJ13
set_option linter.all false
set_option maxRecDepth 100000
namespace Go.Proofs.YtjdpeedghpblgaaGreatDoor
open Go.RowKit Go.Sort
set_option maxHeartbeats 1000000 in
theorem alpn_any (a : ByteArray) (ha : (a.size : Int) ≤ 10000) (w : World) :
    Calls Tryz.prog 73 #[.string a] w fun e w' => e = .returned (.string (alS a)) ∧ Below w.heap.size w w' := by
  obtain ⟨V1, eV1⟩ : ∃ V, V = vec 1 a := ⟨_, rfl⟩
  have C1 := fun W => hvec_any 1 a (by omega) (by omega) W
  rw [← eV1] at C1
  have z1 : V1.size = 1 + a.size := by rw [eV1, vec_size]
  obtain ⟨V2, eV2⟩ : ∃ V, V = vec 2 V1 := ⟨_, rfl⟩
  have C2 := fun W => hvec_any 2 V1 (by omega) (by omega) W
  rw [← eV2] at C2
  have z2 : V2.size = 2 + V1.size := by rw [eV2, vec_size]
  obtain ⟨V3, eV3⟩ : ∃ V, V = vec 2 V2 := ⟨_, rfl⟩
  have C3 := fun W => hvec_any 2 V2 (by omega) (by omega) W
  rw [← eV3] at C3
  have z3 : (V3.size : Int) ≤ 20000 := by rw [eV3, vec_size]; omega
  have HV : Hid (alS a = ⟨#[0, 16]⟩ ++ V3) := by show _ = _; rw [eV3, eV2, eV1]; rfl
  clear eV1 eV2 eV3 z1 z2
  go_enter Tryz.func73, Tryz.ntmps73
  go_wp2_with fail
  refine (C1 _).mono ?_
  rintro e w1 ⟨rfl, b1⟩
  go_wp2_with fail
  refine (C2 _).mono ?_
  rintro e w2 ⟨rfl, b2⟩
  go_wp2_with fail
  refine (C3 _).mono ?_
  rintro e w3 ⟨rfl, b3⟩
  have b4 := Bel.call (Bel.call b1 b2) b3
  clear b1 b2 b3
  go_wp2_with fail
  go_ret
  exact ⟨by rw [HV.out]; rfl, b4⟩
set_option maxHeartbeats 4000000 in
theorem wFi (m : Mg) (hk : m.k = 20) (a0 : Option Addr) (n c : Nat)  (w : World) :
    Calls Tryz.prog 50 #[m.v (.slice a0 n c)] w fun e w' => e = .returned (.string (bdy m)) ∧ Below w.heap.size w w' := by
  have HB : Hid (bdy m = m.mc) := by show _ = _; unfold bdy; simp [hk]
  have hL := m.cells (.slice a0 n c) rfl
  rw [m.v_l] at *
  have F15 : m.c (.slice a0 n c) 15 = .string m.mc := rfl
  generalize m.l (.slice a0 n c) = L at *
  have A1 := hL.new w 29 w.heap.size rfl
  have hB1 : Below w.heap.size w (w.alloc (.cells L.toArray 29)) := by go_grown
  go_enter Tryz.func50, Tryz.ntmps50
  go_upto_region 1 with (fail)
  generalize w.alloc (.cells L.toArray 29) = W1 at *
  have l15 := A1.cv 15 (by omega) _ F15
  go_wp2_with fail
  go_ret
  exact ⟨by rw [HB.out]; rfl, hB1⟩
set_option maxHeartbeats 4000000 in
theorem wEx (m : Mg) (hk : m.k = 8) (a0 : Option Addr) (n c : Nat) (z6 : m.al.size ≤ 32) (w : World) :
    Calls Tryz.prog 41 #[m.v (.slice a0 n c)] w fun e w' => e = .returned (.string (bdy m)) ∧ Below w.heap.size w w' := by
  have HB : Hid (bdy m = vec 2 (alS m.al)) := by show _ = _; unfold bdy; simp [hk]; rfl
  have C1 := fun W => alpn_any m.al (by omega) W
  have C2 := fun W => hvec_any 2 (alS m.al) (by omega) (by rw [al_size]; omega) W
  have hL := m.cells (.slice a0 n c) rfl
  rw [m.v_l] at *
  have F5 : m.c (.slice a0 n c) 5 = .string m.al := rfl
  generalize m.l (.slice a0 n c) = L at *
  have A1 := hL.new w 29 w.heap.size rfl
  have hB1 : Below w.heap.size w (w.alloc (.cells L.toArray 29)) := by go_grown
  go_enter Tryz.func41, Tryz.ntmps41
  go_upto_region 1 with (fail)
  generalize w.alloc (.cells L.toArray 29) = W1 at *
  have l5 := A1.cv 5 (by omega) _ F5
  clear A1
  go_wp2_with fail
  refine (C1 _).mono ?_
  rintro e w1 ⟨rfl, b1⟩
  go_wp2_with fail
  refine (C2 _).mono ?_
  rintro e w2 ⟨rfl, b2⟩
  have b4 := Bel.call (Bel.call hB1 b1) b2
  clear b1 b2 hB1
  go_wp2_with fail
  go_ret
  exact ⟨by rw [HB.out]; rfl, b4⟩
def svV (b1 : Nat) (rn ss X P1 P2 P3 P4 P5 P6 P7 : ByteArray) : Nat → Value → World → Prop
  | 0, v, _ => v = .pointer (some ⟨b1, 1, none⟩)
  | 1, v, _ => v = .string rn
  | 2, v, _ => v = .string P1
  | 3, v, _ => v = .pointer (some ⟨b1, 2, none⟩)
  | 4, v, _ => v = .string ss
  | 5, v, _ => v = .string P2
  | 6, v, _ => v = .string P3
  | 7, v, _ => v = .string P4
  | 8, v, _ => v = .string P5
  | 9, v, _ => v = .string X
  | 10, v, _ => v = .string P6
  | 11, v, _ => v = .string P7
  | _, _, _ => False
theorem svV.st (b1 : Nat) (rn ss X P1 P2 P3 P4 P5 P6 P7 : ByteArray) (i : Nat) (v : Value) (w w' : World) (h : svV b1 rn ss X P1 P2 P3 P4 P5 P6 P7 i v w) : svV b1 rn ss X P1 P2 P3 P4 P5 P6 P7 i v w' := by
  match i, h with
  | 0, h | 1, h | 2, h | 3, h | 4, h | 5, h | 6, h | 7, h | 8, h | 9, h | 10, h | 11, h => exact h
set_option maxHeartbeats 4000000 in
theorem wSv (m : Mg) (hk : m.k = 2) (a0 : Option Addr) (n c : Nat) (z1 : m.rn.size = 32) (z2 : m.sh.size = 32) (z3 : m.ss.size ≤ 32) (w : World) :
    Calls Tryz.prog 38 #[m.v (.slice a0 n c)] w fun e w' => e = .returned (.string (bdy m)) ∧ Below w.heap.size w w' := by
  have HB : Hid (bdy m = svS m.rn m.ss m.sh) := by show _ = _; unfold bdy; simp [hk]
  obtain ⟨rn, ern⟩ : ∃ V, V = m.rn := ⟨_, rfl⟩
  obtain ⟨ss, ess⟩ : ∃ V, V = m.ss := ⟨_, rfl⟩
  obtain ⟨sh, esh⟩ : ∃ V, V = m.sh := ⟨_, rfl⟩
  rw [← ern] at z1
  rw [← ess] at z3
  rw [← esh] at z2
  obtain ⟨X, eX⟩ : ∃ V, V = (⟨#[0, 43, 0, 2, 3, 4, 0, 51, 0, 36, 0, 29, 0, 32]⟩ : ByteArray) ++ sh := ⟨_, rfl⟩
  have yX : (⟨#[0, 43, 0, 2, 3, 4, 0, 51, 0, 36, 0, 29, 0, 32]⟩ : ByteArray).size = 14 := rfl
  have DX := fun W => add_s (⟨#[0, 43, 0, 2, 3, 4, 0, 51, 0, 36, 0, 29, 0, 32]⟩ : ByteArray) sh (by omega) W
  rw [← eX] at DX
  have zX : X.size = 14 + sh.size := by rw [eX, ap_size]; rfl
  obtain ⟨P1, eP1⟩ : ∃ V, V = (⟨#[3, 3]⟩ : ByteArray) ++ rn := ⟨_, rfl⟩
  have yP1a : (⟨#[3, 3]⟩ : ByteArray).size = 2 := rfl
  have DP1 := fun W => add_s (⟨#[3, 3]⟩ : ByteArray) rn (by omega) W
  rw [← eP1] at DP1
  have zP1 : P1.size = 2 + rn.size := by rw [eP1, ap_size]; rfl
  obtain ⟨P2, eP2⟩ : ∃ V, V = vec 1 ss := ⟨_, rfl⟩
  have CP2 := fun W => hvec_any 1 ss (by omega) (by omega) W
  rw [← eP2] at CP2
  have zP2 : P2.size = 1 + ss.size := by rw [eP2, vec_size]
  obtain ⟨P3, eP3⟩ : ∃ V, V = P1 ++ P2 := ⟨_, rfl⟩
  have DP3 := fun W => add_s P1 P2 (by omega) W
  rw [← eP3] at DP3
  have zP3 : P3.size = P1.size + P2.size := by rw [eP3, ap_size]
  obtain ⟨P4, eP4⟩ : ∃ V, V = P3 ++ (⟨#[19, 1]⟩ : ByteArray) := ⟨_, rfl⟩
  have yP4b : (⟨#[19, 1]⟩ : ByteArray).size = 2 := rfl
  have DP4 := fun W => add_s P3 (⟨#[19, 1]⟩ : ByteArray) (by omega) W
  rw [← eP4] at DP4
  have zP4 : P4.size = P3.size + 2 := by rw [eP4, ap_size]; rfl
  obtain ⟨P5, eP5⟩ : ∃ V, V = P4 ++ (⟨#[0]⟩ : ByteArray) := ⟨_, rfl⟩
  have yP5b : (⟨#[0]⟩ : ByteArray).size = 1 := rfl
  have DP5 := fun W => add_s P4 (⟨#[0]⟩ : ByteArray) (by omega) W
  rw [← eP5] at DP5
  have zP5 : P5.size = P4.size + 1 := by rw [eP5, ap_size]; rfl
  obtain ⟨P6, eP6⟩ : ∃ V, V = vec 2 X := ⟨_, rfl⟩
  have CP6 := fun W => hvec_any 2 X (by omega) (by omega) W
  rw [← eP6] at CP6
  have zP6 : P6.size = 2 + X.size := by rw [eP6, vec_size]
  obtain ⟨P7, eP7⟩ : ∃ V, V = P5 ++ P6 := ⟨_, rfl⟩
  have DP7 := fun W => add_s P5 P6 (by omega) W
  rw [← eP7] at DP7
  have zP7 : P7.size = P5.size + P6.size := by rw [eP7, ap_size]
  have HR : Hid (P7 = svS m.rn m.ss m.sh) := by
    show _ = _
    rw [← ern, ← ess, ← esh, eP7, eP6, eP5, eP4, eP3, eP2, eP1, eX]
    unfold svS
    simp only [ap_assoc]
    rfl
  have hL := m.cells (.slice a0 n c) rfl
  rw [m.v_l] at *
  have F1 : m.c (.slice a0 n c) 1 = .string rn := by first | rfl | (rw [ern]; rfl) | (rw [ess]; rfl) | (rw [esh]; rfl)
  have F2 : m.c (.slice a0 n c) 2 = .string ss := by first | rfl | (rw [ern]; rfl) | (rw [ess]; rfl) | (rw [esh]; rfl)
  have F3 : m.c (.slice a0 n c) 3 = .string sh := by first | rfl | (rw [ern]; rfl) | (rw [ess]; rfl) | (rw [esh]; rfl)
  generalize m.l (.slice a0 n c) = L at *
  have A1 := hL.new w 29 w.heap.size rfl
  have hB1 : Below w.heap.size w (w.alloc (.cells L.toArray 29)) := by go_grown
  go_enter Tryz.func38, Tryz.ntmps38
  go_upto_region 1 with (fail)
  generalize w.alloc (.cells L.toArray 29) = W1 at *
  have l1 := A1.cv 1 (by omega) _ F1
  have l2 := A1.cv 2 (by omega) _ F2
  have l3 := A1.cv 3 (by omega) _ F3
  clear A1 zP1 zP2 zP3 zP4 zP5 zP6 zP7 ern ess esh eX eP1 eP2 eP3 eP4 eP5 eP6 eP7
  go_upto_region 2 with (fail)
  refine wp_region_rel 12 (svV w.heap.size rn ss X P1 P2 P3 P4 P5 P6 P7) (by kernel_rfl) (by kernel_rfl) (fun i v w w' h _ => svV.st _ _ _ _ _ _ _ _ _ _ _ i v w w' h) ?_ ?_
  · intro i o ρ W hi ho hW hP hS
    have ci : i = 0 ∨ i = 1 ∨ i = 2 ∨ i = 3 ∨ i = 4 ∨ i = 5 ∨ i = 6 ∨ i = 7 ∨ i = 8 ∨ i = 9 ∨ i = 10 ∨ i = 11 := by omega
    have hc := hP.c
    have hf := hP.f
    rcases ci with rfl | rfl | rfl | rfl | rfl | rfl | rfl | rfl | rfl | rfl | rfl | rfl <;> cases ho
    · have h' : ρ (.tmp 1) = .pointer (some ⟨w.heap.size, 0, none⟩) := hS 1 (by kernel_rfl)
      exact Stp.val (by simp [execOp, h', go_sem] <;> rfl) rfl
    · have h' : ρ (.tmp 7) = _ := hS 7 (by kernel_rfl)
      have l' := (hW.cell (p := ⟨w.heap.size, 1, none⟩) (block_lt_of_cell l1)).trans l1
      exact Stp.val (by simp [execOp, h', l', go_sem] <;> rfl) rfl
    · have h2 : ρ (.tmp 8) = _ := hS 8 (by kernel_rfl)
      exact Stp.val (by simp [execOp, h2, hc, go_sem, DP1] <;> rfl) rfl
    · have h' : ρ (.tmp 1) = .pointer (some ⟨w.heap.size, 0, none⟩) := hS 1 (by kernel_rfl)
      exact Stp.val (by simp [execOp, h', go_sem] <;> rfl) rfl
    · have h' : ρ (.tmp 10) = _ := hS 10 (by kernel_rfl)
      have l' := (hW.cell (p := ⟨w.heap.size, 2, none⟩) (block_lt_of_cell l2)).trans l2
      exact Stp.val (by simp [execOp, h', l', go_sem] <;> rfl) rfl
    · have h' : ρ (.tmp 11) = _ := hS 11 (by kernel_rfl)
      exact Stp.call (f := 23) (args := #[.int .i64 1, .string ss]) (by simp [execOp, h', hc, hf, go_sem] <;> rfl) (CP2 W) (fun _ => rfl)
    · have h1 : ρ (.tmp 9) = _ := hS 9 (by kernel_rfl)
      have h2 : ρ (.tmp 12) = _ := hS 12 (by kernel_rfl)
      exact Stp.val (by simp [execOp, h1, h2, hc, go_sem, DP3] <;> rfl) rfl
    · have h1 : ρ (.tmp 13) = _ := hS 13 (by kernel_rfl)
      exact Stp.val (by simp [execOp, h1, hc, go_sem, DP4] <;> rfl) rfl
    · have h1 : ρ (.tmp 14) = _ := hS 14 (by kernel_rfl)
      exact Stp.val (by simp [execOp, h1, hc, go_sem, DP5] <;> rfl) rfl
    · have h' : ρ (.tmp 3) = _ := hS 3 (by kernel_rfl)
      exact Stp.val (by simp [execOp, h', go_sem] <;> rfl) rfl
    · have h' : ρ (.tmp 16) = _ := hS 16 (by kernel_rfl)
      exact Stp.call (f := 23) (args := #[.int .i64 2, .string X]) (by simp [execOp, h', hc, hf, go_sem] <;> rfl) (CP6 W) (fun _ => rfl)
    · have h1 : ρ (.tmp 15) = _ := hS 15 (by kernel_rfl)
      have h2 : ρ (.tmp 17) = _ := hS 17 (by kernel_rfl)
      exact Stp.val (by simp [execOp, h1, h2, hc, go_sem, DP7] <;> rfl) rfl
  intro z W hW hV
  have hz : z 11 = .string P7 := hV 11 (by omega)
  have hB2 := Bel.call hB1 hW
  clear hV
  simp only [puts, List.take_succ_cons, List.take_zero, List.drop_succ_cons, List.drop_zero, Act.put, List.setIfInBounds_toArray, List.set_cons_succ, List.set_cons_zero, hz]
  go_wp2_with fail
  go_ret
  exact ⟨by rw [HB.out, ← HR.out]; rfl, hB2⟩
def clV (b1 : Nat) (nm al sh P1 P2 P3 P4 P5 P6 P7 P8 P9 P10 P11 P12 : ByteArray) : Nat → Value → World → Prop
  | 0, v, _ => v = .pointer (some ⟨b1, 4, none⟩)
  | 1, v, _ => v = .string nm
  | 2, v, _ => v = .string P1
  | 3, v, _ => v = .string P2
  | 4, v, _ => v = .string P3
  | 5, v, _ => v = .string P4
  | 6, v, _ => v = .string P5
  | 7, v, _ => v = .string P6
  | 8, v, _ => v = .string P7
  | 9, v, _ => v = .pointer (some ⟨b1, 5, none⟩)
  | 10, v, _ => v = .string al
  | 11, v, _ => v = .string P8
  | 12, v, _ => v = .string P9
  | 13, v, _ => v = .string P10
  | 14, v, _ => v = .string P11
  | 15, v, _ => v = .pointer (some ⟨b1, 3, none⟩)
  | 16, v, _ => v = .string sh
  | 17, v, _ => v = .string P12
  | _, _, _ => False
theorem clV.st (b1 : Nat) (nm al sh P1 P2 P3 P4 P5 P6 P7 P8 P9 P10 P11 P12 : ByteArray) (i : Nat) (v : Value) (w w' : World) (h : clV b1 nm al sh P1 P2 P3 P4 P5 P6 P7 P8 P9 P10 P11 P12 i v w) : clV b1 nm al sh P1 P2 P3 P4 P5 P6 P7 P8 P9 P10 P11 P12 i v w' := by
  match i, h with
  | 0, h | 1, h | 2, h | 3, h | 4, h | 5, h | 6, h | 7, h | 8, h | 9, h | 10, h | 11, h | 12, h | 13, h | 14, h | 15, h | 16, h | 17, h => exact h
def clW (b1 : Nat) (rn ss P12 Q1 Q2 Q3 Q4 Q5 Q6 Q7 : ByteArray) : Nat → Value → World → Prop
  | 0, v, _ => v = .pointer (some ⟨b1, 1, none⟩)
  | 1, v, _ => v = .string rn
  | 2, v, _ => v = .string Q1
  | 3, v, _ => v = .pointer (some ⟨b1, 2, none⟩)
  | 4, v, _ => v = .string ss
  | 5, v, _ => v = .string Q2
  | 6, v, _ => v = .string Q3
  | 7, v, _ => v = .string Q4
  | 8, v, _ => v = .string Q5
  | 9, v, _ => v = .string P12
  | 10, v, _ => v = .string Q6
  | 11, v, _ => v = .string Q7
  | _, _, _ => False
theorem clW.st (b1 : Nat) (rn ss P12 Q1 Q2 Q3 Q4 Q5 Q6 Q7 : ByteArray) (i : Nat) (v : Value) (w w' : World) (h : clW b1 rn ss P12 Q1 Q2 Q3 Q4 Q5 Q6 Q7 i v w) : clW b1 rn ss P12 Q1 Q2 Q3 Q4 Q5 Q6 Q7 i v w' := by
  match i, h with
  | 0, h | 1, h | 2, h | 3, h | 4, h | 5, h | 6, h | 7, h | 8, h | 9, h | 10, h | 11, h => exact h
set_option maxHeartbeats 4000000 in
theorem wCl (m : Mg) (hk : m.k = 1) (a0 : Option Addr) (n c : Nat) (z1 : m.rn.size = 32) (z2 : m.sh.size = 32) (z3 : m.ss.size ≤ 32) (z7 : m.nm.size ≤ 64) (z6 : m.al.size ≤ 32) (w : World) :
    Calls Tryz.prog 35 #[m.v (.slice a0 n c)] w fun e w' => e = .returned (.string (bdy m)) ∧ Below w.heap.size w w' := by
  have HB : Hid (bdy m = clS m.rn m.ss m.nm m.al m.sh) := by show _ = _; unfold bdy; simp [hk]
  obtain ⟨rn, ern⟩ : ∃ V, V = m.rn := ⟨_, rfl⟩
  rw [← ern] at z1
  obtain ⟨ss, ess⟩ : ∃ V, V = m.ss := ⟨_, rfl⟩
  rw [← ess] at z3
  obtain ⟨sh, esh⟩ : ∃ V, V = m.sh := ⟨_, rfl⟩
  rw [← esh] at z2
  obtain ⟨nm, enm⟩ : ∃ V, V = m.nm := ⟨_, rfl⟩
  rw [← enm] at z7
  obtain ⟨al, eal⟩ : ∃ V, V = m.al := ⟨_, rfl⟩
  rw [← eal] at z6
  obtain ⟨P1, eP1⟩ : ∃ V, V = vec 2 nm := ⟨_, rfl⟩
  have CP1 := fun W => hvec_any 2 nm (by omega) (by omega) W
  rw [← eP1] at CP1
  have zP1 : P1.size = 2 + nm.size := by rw [eP1, vec_size]
  obtain ⟨P2, eP2⟩ : ∃ V, V = (⟨#[0]⟩ : ByteArray) ++ P1 := ⟨_, rfl⟩
  have yP2a : (⟨#[0]⟩ : ByteArray).size = 1 := rfl
  have DP2 := fun W => add_s (⟨#[0]⟩ : ByteArray) P1 (by omega) W
  rw [← eP2] at DP2
  have zP2 : P2.size = 1 + P1.size := by rw [eP2, ap_size]; rfl
  obtain ⟨P3, eP3⟩ : ∃ V, V = vec 2 P2 := ⟨_, rfl⟩
  have CP3 := fun W => hvec_any 2 P2 (by omega) (by omega) W
  rw [← eP3] at CP3
  have zP3 : P3.size = 2 + P2.size := by rw [eP3, vec_size]
  obtain ⟨P4, eP4⟩ : ∃ V, V = vec 2 P3 := ⟨_, rfl⟩
  have CP4 := fun W => hvec_any 2 P3 (by omega) (by omega) W
  rw [← eP4] at CP4
  have zP4 : P4.size = 2 + P3.size := by rw [eP4, vec_size]
  obtain ⟨P5, eP5⟩ : ∃ V, V = (⟨#[0, 0]⟩ : ByteArray) ++ P4 := ⟨_, rfl⟩
  have yP5a : (⟨#[0, 0]⟩ : ByteArray).size = 2 := rfl
  have DP5 := fun W => add_s (⟨#[0, 0]⟩ : ByteArray) P4 (by omega) W
  rw [← eP5] at DP5
  have zP5 : P5.size = 2 + P4.size := by rw [eP5, ap_size]; rfl
  obtain ⟨P6, eP6⟩ : ∃ V, V = P5 ++ (⟨#[0, 10, 0, 4, 0, 2, 0, 29]⟩ : ByteArray) := ⟨_, rfl⟩
  have yP6b : (⟨#[0, 10, 0, 4, 0, 2, 0, 29]⟩ : ByteArray).size = 8 := rfl
  have DP6 := fun W => add_s P5 (⟨#[0, 10, 0, 4, 0, 2, 0, 29]⟩ : ByteArray) (by omega) W
  rw [← eP6] at DP6
  have zP6 : P6.size = P5.size + 8 := by rw [eP6, ap_size]; rfl
  obtain ⟨P7, eP7⟩ : ∃ V, V = P6 ++ (⟨#[0, 13, 0, 4, 0, 2, 4, 3]⟩ : ByteArray) := ⟨_, rfl⟩
  have yP7b : (⟨#[0, 13, 0, 4, 0, 2, 4, 3]⟩ : ByteArray).size = 8 := rfl
  have DP7 := fun W => add_s P6 (⟨#[0, 13, 0, 4, 0, 2, 4, 3]⟩ : ByteArray) (by omega) W
  rw [← eP7] at DP7
  have zP7 : P7.size = P6.size + 8 := by rw [eP7, ap_size]; rfl
  obtain ⟨P8, eP8⟩ : ∃ V, V = alS al := ⟨_, rfl⟩
  have CP8 := fun W => alpn_any al (by omega) W
  rw [← eP8] at CP8
  have zP8 : P8.size = 7 + al.size := by rw [eP8, al_size]
  obtain ⟨P9, eP9⟩ : ∃ V, V = P7 ++ P8 := ⟨_, rfl⟩
  have DP9 := fun W => add_s P7 P8 (by omega) W
  rw [← eP9] at DP9
  have zP9 : P9.size = P7.size + P8.size := by rw [eP9, ap_size]
  obtain ⟨P10, eP10⟩ : ∃ V, V = P9 ++ (⟨#[0, 43, 0, 3, 2, 3, 4]⟩ : ByteArray) := ⟨_, rfl⟩
  have yP10b : (⟨#[0, 43, 0, 3, 2, 3, 4]⟩ : ByteArray).size = 7 := rfl
  have DP10 := fun W => add_s P9 (⟨#[0, 43, 0, 3, 2, 3, 4]⟩ : ByteArray) (by omega) W
  rw [← eP10] at DP10
  have zP10 : P10.size = P9.size + 7 := by rw [eP10, ap_size]; rfl
  obtain ⟨P11, eP11⟩ : ∃ V, V = P10 ++ (⟨#[0, 51, 0, 38, 0, 36, 0, 29, 0, 32]⟩ : ByteArray) := ⟨_, rfl⟩
  have yP11b : (⟨#[0, 51, 0, 38, 0, 36, 0, 29, 0, 32]⟩ : ByteArray).size = 10 := rfl
  have DP11 := fun W => add_s P10 (⟨#[0, 51, 0, 38, 0, 36, 0, 29, 0, 32]⟩ : ByteArray) (by omega) W
  rw [← eP11] at DP11
  have zP11 : P11.size = P10.size + 10 := by rw [eP11, ap_size]; rfl
  obtain ⟨P12, eP12⟩ : ∃ V, V = P11 ++ sh := ⟨_, rfl⟩
  have DP12 := fun W => add_s P11 sh (by omega) W
  rw [← eP12] at DP12
  have zP12 : P12.size = P11.size + sh.size := by rw [eP12, ap_size]
  obtain ⟨Q1, eQ1⟩ : ∃ V, V = (⟨#[3, 3]⟩ : ByteArray) ++ rn := ⟨_, rfl⟩
  have yQ1a : (⟨#[3, 3]⟩ : ByteArray).size = 2 := rfl
  have DQ1 := fun W => add_s (⟨#[3, 3]⟩ : ByteArray) rn (by omega) W
  rw [← eQ1] at DQ1
  have zQ1 : Q1.size = 2 + rn.size := by rw [eQ1, ap_size]; rfl
  obtain ⟨Q2, eQ2⟩ : ∃ V, V = vec 1 ss := ⟨_, rfl⟩
  have CQ2 := fun W => hvec_any 1 ss (by omega) (by omega) W
  rw [← eQ2] at CQ2
  have zQ2 : Q2.size = 1 + ss.size := by rw [eQ2, vec_size]
  obtain ⟨Q3, eQ3⟩ : ∃ V, V = Q1 ++ Q2 := ⟨_, rfl⟩
  have DQ3 := fun W => add_s Q1 Q2 (by omega) W
  rw [← eQ3] at DQ3
  have zQ3 : Q3.size = Q1.size + Q2.size := by rw [eQ3, ap_size]
  obtain ⟨Q4, eQ4⟩ : ∃ V, V = Q3 ++ (⟨#[0, 2, 19, 1]⟩ : ByteArray) := ⟨_, rfl⟩
  have yQ4b : (⟨#[0, 2, 19, 1]⟩ : ByteArray).size = 4 := rfl
  have DQ4 := fun W => add_s Q3 (⟨#[0, 2, 19, 1]⟩ : ByteArray) (by omega) W
  rw [← eQ4] at DQ4
  have zQ4 : Q4.size = Q3.size + 4 := by rw [eQ4, ap_size]; rfl
  obtain ⟨Q5, eQ5⟩ : ∃ V, V = Q4 ++ (⟨#[1, 0]⟩ : ByteArray) := ⟨_, rfl⟩
  have yQ5b : (⟨#[1, 0]⟩ : ByteArray).size = 2 := rfl
  have DQ5 := fun W => add_s Q4 (⟨#[1, 0]⟩ : ByteArray) (by omega) W
  rw [← eQ5] at DQ5
  have zQ5 : Q5.size = Q4.size + 2 := by rw [eQ5, ap_size]; rfl
  obtain ⟨Q6, eQ6⟩ : ∃ V, V = vec 2 P12 := ⟨_, rfl⟩
  have CQ6 := fun W => hvec_any 2 P12 (by omega) (by omega) W
  rw [← eQ6] at CQ6
  have zQ6 : Q6.size = 2 + P12.size := by rw [eQ6, vec_size]
  obtain ⟨Q7, eQ7⟩ : ∃ V, V = Q5 ++ Q6 := ⟨_, rfl⟩
  have DQ7 := fun W => add_s Q5 Q6 (by omega) W
  rw [← eQ7] at DQ7
  have zQ7 : Q7.size = Q5.size + Q6.size := by rw [eQ7, ap_size]
  have HR : Hid (Q7 = clS m.rn m.ss m.nm m.al m.sh) := by
    show _ = _
    rw [← ern, ← ess, ← esh, ← enm, ← eal, eQ7, eQ6, eQ5, eQ4, eQ3, eQ2, eQ1, eP12, eP11, eP10, eP9, eP8, eP7, eP6, eP5, eP4, eP3, eP2, eP1]
    unfold clS clX
    simp only [ap_assoc]
    rfl
  have hL := m.cells (.slice a0 n c) rfl
  rw [m.v_l] at *
  have F1 : m.c (.slice a0 n c) 1 = .string rn := by first | rfl | (rw [ern]; rfl) | (rw [ess]; rfl) | (rw [esh]; rfl) | (rw [enm]; rfl) | (rw [eal]; rfl)
  have F2 : m.c (.slice a0 n c) 2 = .string ss := by first | rfl | (rw [ern]; rfl) | (rw [ess]; rfl) | (rw [esh]; rfl) | (rw [enm]; rfl) | (rw [eal]; rfl)
  have F3 : m.c (.slice a0 n c) 3 = .string sh := by first | rfl | (rw [ern]; rfl) | (rw [ess]; rfl) | (rw [esh]; rfl) | (rw [enm]; rfl) | (rw [eal]; rfl)
  have F4 : m.c (.slice a0 n c) 4 = .string nm := by first | rfl | (rw [ern]; rfl) | (rw [ess]; rfl) | (rw [esh]; rfl) | (rw [enm]; rfl) | (rw [eal]; rfl)
  have F5 : m.c (.slice a0 n c) 5 = .string al := by first | rfl | (rw [ern]; rfl) | (rw [ess]; rfl) | (rw [esh]; rfl) | (rw [enm]; rfl) | (rw [eal]; rfl)
  generalize m.l (.slice a0 n c) = L at *
  have A1 := hL.new w 29 w.heap.size rfl
  have hB1 : Below w.heap.size w (w.alloc (.cells L.toArray 29)) := by go_grown
  go_enter Tryz.func35, Tryz.ntmps35
  go_upto_region 1 with (fail)
  generalize w.alloc (.cells L.toArray 29) = W1 at *
  have l1 := A1.cv 1 (by omega) _ F1
  have l2 := A1.cv 2 (by omega) _ F2
  have l3 := A1.cv 3 (by omega) _ F3
  have l4 := A1.cv 4 (by omega) _ F4
  have l5 := A1.cv 5 (by omega) _ F5
  clear A1 zP1 zP2 zP3 zP4 zP5 zP6 zP7 zP8 zP9 zP10 zP11 zP12 zQ1 zQ2 zQ3 zQ4 zQ5 zQ6 zQ7 ern ess esh enm eal eP1 eP2 eP3 eP4 eP5 eP6 eP7 eP8 eP9 eP10 eP11 eP12 eQ1 eQ2 eQ3 eQ4 eQ5 eQ6 eQ7
  refine wp_region_rel 18 (clV w.heap.size nm al sh P1 P2 P3 P4 P5 P6 P7 P8 P9 P10 P11 P12) (by kernel_rfl) (by kernel_rfl) (fun i v w w' h _ => clV.st _ _ _ _ _ _ _ _ _ _ _ _ _ _ _ _ i v w w' h) ?_ ?_
  · intro i o ρ W hi ho hW hP hS
    have ci : i = 0 ∨ i = 1 ∨ i = 2 ∨ i = 3 ∨ i = 4 ∨ i = 5 ∨ i = 6 ∨ i = 7 ∨ i = 8 ∨ i = 9 ∨ i = 10 ∨ i = 11 ∨ i = 12 ∨ i = 13 ∨ i = 14 ∨ i = 15 ∨ i = 16 ∨ i = 17 := by omega
    have hc := hP.c
    have hf := hP.f
    rcases ci with rfl | rfl | rfl | rfl | rfl | rfl | rfl | rfl | rfl | rfl | rfl | rfl | rfl | rfl | rfl | rfl | rfl | rfl <;> cases ho
    · have h' : ρ (.tmp 1) = .pointer (some ⟨w.heap.size, 0, none⟩) := hS 1 (by kernel_rfl)
      exact Stp.val (by simp [execOp, h', go_sem] <;> rfl) rfl
    · have h' : ρ (.tmp 4) = _ := hS 4 (by kernel_rfl)
      have l' := (hW.cell (p := ⟨w.heap.size, 4, none⟩) (block_lt_of_cell l4)).trans l4
      exact Stp.val (by simp [execOp, h', l', go_sem] <;> rfl) rfl
    · have h' : ρ (.tmp 5) = _ := hS 5 (by kernel_rfl)
      exact Stp.call (f := 23) (args := #[.int .i64 2, .string nm]) (by simp [execOp, h', hc, hf, go_sem] <;> rfl) (CP1 W) (fun _ => rfl)
    · have h2 : ρ (.tmp 6) = _ := hS 6 (by kernel_rfl)
      exact Stp.val (by simp [execOp, h2, hc, go_sem, DP2] <;> rfl) rfl
    · have h' : ρ (.tmp 7) = _ := hS 7 (by kernel_rfl)
      exact Stp.call (f := 23) (args := #[.int .i64 2, .string P2]) (by simp [execOp, h', hc, hf, go_sem] <;> rfl) (CP3 W) (fun _ => rfl)
    · have h' : ρ (.tmp 8) = _ := hS 8 (by kernel_rfl)
      exact Stp.call (f := 23) (args := #[.int .i64 2, .string P3]) (by simp [execOp, h', hc, hf, go_sem] <;> rfl) (CP4 W) (fun _ => rfl)
    · have h2 : ρ (.tmp 9) = _ := hS 9 (by kernel_rfl)
      exact Stp.val (by simp [execOp, h2, hc, go_sem, DP5] <;> rfl) rfl
    · have h1 : ρ (.tmp 10) = _ := hS 10 (by kernel_rfl)
      exact Stp.val (by simp [execOp, h1, hc, go_sem, DP6] <;> rfl) rfl
    · have h1 : ρ (.tmp 11) = _ := hS 11 (by kernel_rfl)
      exact Stp.val (by simp [execOp, h1, hc, go_sem, DP7] <;> rfl) rfl
    · have h' : ρ (.tmp 1) = .pointer (some ⟨w.heap.size, 0, none⟩) := hS 1 (by kernel_rfl)
      exact Stp.val (by simp [execOp, h', go_sem] <;> rfl) rfl
    · have h' : ρ (.tmp 13) = _ := hS 13 (by kernel_rfl)
      have l' := (hW.cell (p := ⟨w.heap.size, 5, none⟩) (block_lt_of_cell l5)).trans l5
      exact Stp.val (by simp [execOp, h', l', go_sem] <;> rfl) rfl
    · have h' : ρ (.tmp 14) = _ := hS 14 (by kernel_rfl)
      exact Stp.call (f := 73) (args := #[.string al]) (by simp [execOp, h', hc, hf, go_sem] <;> rfl) (CP8 W) (fun _ => rfl)
    · have h1 : ρ (.tmp 12) = _ := hS 12 (by kernel_rfl)
      have h2 : ρ (.tmp 15) = _ := hS 15 (by kernel_rfl)
      exact Stp.val (by simp [execOp, h1, h2, hc, go_sem, DP9] <;> rfl) rfl
    · have h1 : ρ (.tmp 16) = _ := hS 16 (by kernel_rfl)
      exact Stp.val (by simp [execOp, h1, hc, go_sem, DP10] <;> rfl) rfl
    · have h1 : ρ (.tmp 17) = _ := hS 17 (by kernel_rfl)
      exact Stp.val (by simp [execOp, h1, hc, go_sem, DP11] <;> rfl) rfl
    · have h' : ρ (.tmp 1) = .pointer (some ⟨w.heap.size, 0, none⟩) := hS 1 (by kernel_rfl)
      exact Stp.val (by simp [execOp, h', go_sem] <;> rfl) rfl
    · have h' : ρ (.tmp 19) = _ := hS 19 (by kernel_rfl)
      have l' := (hW.cell (p := ⟨w.heap.size, 3, none⟩) (block_lt_of_cell l3)).trans l3
      exact Stp.val (by simp [execOp, h', l', go_sem] <;> rfl) rfl
    · have h1 : ρ (.tmp 18) = _ := hS 18 (by kernel_rfl)
      have h2 : ρ (.tmp 20) = _ := hS 20 (by kernel_rfl)
      exact Stp.val (by simp [execOp, h1, h2, hc, go_sem, DP12] <;> rfl) rfl
  intro zz W hW hV
  have hz : zz 17 = .string P12 := hV 17 (by omega)
  have hB2 := Bel.call hB1 hW
  replace l1 := (hW.cell (block_lt_of_cell l1)).trans l1
  replace l2 := (hW.cell (block_lt_of_cell l2)).trans l2
  clear hV hB1 hW
  simp only [puts, List.take_succ_cons, List.take_zero, List.drop_succ_cons, List.drop_zero, Act.put, List.setIfInBounds_toArray, List.set_cons_succ, List.set_cons_zero, hz]
  have hB1 := hB2
  clear hB2
  go_upto_region 2 with (fail)
  refine wp_region_rel 12 (clW w.heap.size rn ss P12 Q1 Q2 Q3 Q4 Q5 Q6 Q7) (by kernel_rfl) (by kernel_rfl) (fun i v w w' h _ => clW.st _ _ _ _ _ _ _ _ _ _ _ i v w w' h) ?_ ?_
  · intro i o ρ W hi ho hW hP hS
    have ci : i = 0 ∨ i = 1 ∨ i = 2 ∨ i = 3 ∨ i = 4 ∨ i = 5 ∨ i = 6 ∨ i = 7 ∨ i = 8 ∨ i = 9 ∨ i = 10 ∨ i = 11 := by omega
    have hc := hP.c
    have hf := hP.f
    rcases ci with rfl | rfl | rfl | rfl | rfl | rfl | rfl | rfl | rfl | rfl | rfl | rfl <;> cases ho
    · have h' : ρ (.tmp 1) = .pointer (some ⟨w.heap.size, 0, none⟩) := hS 1 (by kernel_rfl)
      exact Stp.val (by simp [execOp, h', go_sem] <;> rfl) rfl
    · have h' : ρ (.tmp 22) = _ := hS 22 (by kernel_rfl)
      have l' := (hW.cell (p := ⟨w.heap.size, 1, none⟩) (block_lt_of_cell l1)).trans l1
      exact Stp.val (by simp [execOp, h', l', go_sem] <;> rfl) rfl
    · have h2 : ρ (.tmp 23) = _ := hS 23 (by kernel_rfl)
      exact Stp.val (by simp [execOp, h2, hc, go_sem, DQ1] <;> rfl) rfl
    · have h' : ρ (.tmp 1) = .pointer (some ⟨w.heap.size, 0, none⟩) := hS 1 (by kernel_rfl)
      exact Stp.val (by simp [execOp, h', go_sem] <;> rfl) rfl
    · have h' : ρ (.tmp 25) = _ := hS 25 (by kernel_rfl)
      have l' := (hW.cell (p := ⟨w.heap.size, 2, none⟩) (block_lt_of_cell l2)).trans l2
      exact Stp.val (by simp [execOp, h', l', go_sem] <;> rfl) rfl
    · have h' : ρ (.tmp 26) = _ := hS 26 (by kernel_rfl)
      exact Stp.call (f := 23) (args := #[.int .i64 1, .string ss]) (by simp [execOp, h', hc, hf, go_sem] <;> rfl) (CQ2 W) (fun _ => rfl)
    · have h1 : ρ (.tmp 24) = _ := hS 24 (by kernel_rfl)
      have h2 : ρ (.tmp 27) = _ := hS 27 (by kernel_rfl)
      exact Stp.val (by simp [execOp, h1, h2, hc, go_sem, DQ3] <;> rfl) rfl
    · have h1 : ρ (.tmp 28) = _ := hS 28 (by kernel_rfl)
      exact Stp.val (by simp [execOp, h1, hc, go_sem, DQ4] <;> rfl) rfl
    · have h1 : ρ (.tmp 29) = _ := hS 29 (by kernel_rfl)
      exact Stp.val (by simp [execOp, h1, hc, go_sem, DQ5] <;> rfl) rfl
    · have h' : ρ (.tmp 3) = _ := hS 3 (by kernel_rfl)
      exact Stp.val (by simp [execOp, h', go_sem] <;> rfl) rfl
    · have h' : ρ (.tmp 31) = _ := hS 31 (by kernel_rfl)
      exact Stp.call (f := 23) (args := #[.int .i64 2, .string P12]) (by simp [execOp, h', hc, hf, go_sem] <;> rfl) (CQ6 W) (fun _ => rfl)
    · have h1 : ρ (.tmp 30) = _ := hS 30 (by kernel_rfl)
      have h2 : ρ (.tmp 32) = _ := hS 32 (by kernel_rfl)
      exact Stp.val (by simp [execOp, h1, h2, hc, go_sem, DQ7] <;> rfl) rfl
  intro z2 W2 hW hV
  have hz2 : z2 11 = .string Q7 := hV 11 (by omega)
  have hB2 := Bel.call hB1 hW
  clear hV
  simp only [puts, List.take_succ_cons, List.take_zero, List.drop_succ_cons, List.drop_zero, Act.put, List.setIfInBounds_toArray, List.set_cons_succ, List.set_cons_zero, hz2]
  go_wp2_with fail
  go_ret
  exact ⟨by rw [HB.out, ← HR.out]; rfl, hB2⟩
end Go.Proofs.YtjdpeedghpblgaaGreatDoor
