/- The reference's Fit. -/
import Derived.Test.YtjdpeedghpblgaaGreatDoorJ5
set_option linter.all false
set_option maxRecDepth 100000
namespace Go.Proofs.YtjdpeedghpblgaaGreatDoor
open Go.RowKit Go.Sort
/-- What is asked of a kind's fields. -/
def knB (m : Mg) : Bool :=
  if m.k = 1 then decide (m.rn.size = 32 ∧ m.sh.size = 32 ∧ m.ss.size ≤ 32 ∧ hoB m.nm = true ∧ m.al.size ≠ 0 ∧ m.al.size ≤ 32)
  else if m.k = 2 then decide (m.rn.size = 32 ∧ m.sh.size = 32 ∧ m.ss.size ≤ 32)
  else if m.k = 8 then decide (m.al.size ≠ 0 ∧ m.al.size ≤ 32)
  else if m.k = 11 then decide (m.cs.length ≠ 0 ∧ m.cs.length ≤ 4 ∧ ∀ c ∈ m.cs, c.size ≠ 0 ∧ c.size ≤ 2048)
  else if m.k = 20 then decide (m.mc.size = 32) else true
/-- A message that can be. -/
def ftB (m : Mg) : Bool := kdB m.k && smB m (onM m) && knB m
theorem known_b (k : Int) (b : Bool) (h : kdB k = b) (w : World) : Calls Tryz.prog 28 #[.int .i64 k] w fun e w' => e = .returned (.bool b) ∧ Below w.heap.size w w' := (rknown_any k w).mono fun e w' ⟨h1, h2⟩ => ⟨by rw [h1, h], by rw [h2]; exact Below.refl _ _⟩
set_option maxHeartbeats 2000000 in
theorem rFit_unk (m : Mg) (k : Int) (hk : m.k = k) (a0 : Option Addr) (n c : Nat) (w : World)
    (C23 : ∀ W, Calls Tryz.prog 28 #[.int .i64 k] W fun e w' => e = .returned (.bool false) ∧ Below W.heap.size W w') :
    Calls Tryz.prog 13 #[m.v (.slice a0 n c)] w fun e w' => e = .returned (.bool false) ∧ Below w.heap.size w w' := by
  have hL := m.cells (.slice a0 n c) rfl
  rw [m.v_l] at *
  have F0 : m.c (.slice a0 n c) 0 = .int .i64 k := by show Value.int .i64 m.k = _; rw [hk]
  generalize m.l (.slice a0 n c) = L at *
  go_enter Tryz.func13, Tryz.ntmps13
  go_upto_region 1 with (fail)
  have A1 : Arr _ _ 16 _ := hL.new w 29 _ rfl
  have hB : Below w.heap.size w (w.alloc (.cells L.toArray 29)) := by go_grown
  generalize w.alloc (.cells L.toArray 29) = W at *
  have l0 := A1.cv 0 (by omega) (.int .i64 k) F0
  have r0 := fun ds os => cell_regrown l0 ds os
  refine wp_region_quiet_below (by kernel_rfl) (by kernel_rfl) ?_
  go_big_quiet_step (fail)
  go_big_quiet_step (fail)
  go_big_quiet_step ((go_at_call 28; exact Calls.regrown_of (C23 _)))
  go_big_quiet_step (fail)
  go_big_quiet_step (fail)
  go_big_quiet_step (fail)
  go_big_quiet_step (fail)
  go_big_quiet_step (fail)
  go_big_quiet_step (fail)
  go_big_quiet_step (fail)
  go_big_quiet_step (fail)
  refine wpQuiet_nil ?_
  intro W1 hw'
  obtain ⟨⟨dq, osq⟩, hw''⟩ := hw'
  have hb := below_of hw''
  clear hw'' r0 l0 C23
  replace A1 : Arr _ _ 16 _ := A1.to' (n := 15) hb
  replace hB := Bel.call hB hb
  clear hb
  go_wp2_with fail
  go_ret
  exact ⟨rfl, hB⟩
set_option maxHeartbeats 2000000 in
theorem rFit_not (m : Mg) (k : Int) (hk : m.k = k) (a0 : Option Addr) (n c : Nat) (N : List Value) (w : World)
    (C23 : ∀ W, Calls Tryz.prog 28 #[.int .i64 k] W fun e w' => e = .returned (.bool true) ∧ Below W.heap.size W w')
    (C25 : ∀ W, Calls Tryz.prog 30 #[m.v (.slice a0 n c)] W fun e w' => e = .returned (.agg N.toArray) ∧ Below W.heap.size W w')
    (C14 : ∀ W, Below w.heap.size w W → Calls Tryz.prog 14 #[m.v (.slice a0 n c), .agg N.toArray] W fun e w' => e = .returned (.bool false) ∧ Below W.heap.size W w') :
    Calls Tryz.prog 13 #[m.v (.slice a0 n c)] w fun e w' => e = .returned (.bool false) ∧ Below w.heap.size w w' := by
  have hL := m.cells (.slice a0 n c) rfl
  rw [m.v_l] at *
  have F0 : m.c (.slice a0 n c) 0 = .int .i64 k := by show Value.int .i64 m.k = _; rw [hk]
  generalize m.l (.slice a0 n c) = L at *
  go_enter Tryz.func13, Tryz.ntmps13
  go_upto_region 1 with (fail)
  have A1 : Arr _ _ 16 _ := hL.new w 29 _ rfl
  have hB : Below w.heap.size w (w.alloc (.cells L.toArray 29)) := by go_grown
  generalize w.alloc (.cells L.toArray 29) = W at *
  have l0 := A1.cv 0 (by omega) (.int .i64 k) F0
  have r0 := fun ds os => cell_regrown l0 ds os
  refine wp_region_quiet_below (by kernel_rfl) (by kernel_rfl) ?_
  go_big_quiet_step (fail)
  go_big_quiet_step (fail)
  go_big_quiet_step ((go_at_call 28; exact Calls.regrown_of (C23 _)))
  go_big_quiet_step (fail)
  go_big_quiet_step (fail)
  refine hL.qld (N := 15) tM A1 0 (by omega) (fun j _ => by rw [Nat.zero_add]) (fun W hW => below_of hW.choose_spec) (by rfl) (.tmp 1) (by rfl) (by rfl) ?_
  simp only [Act.put, List.setIfInBounds_toArray, List.set_cons_succ, List.set_cons_zero]
  refine hL.qld (N := 15) tM A1 0 (by omega) (fun j _ => by rw [Nat.zero_add]) (fun W hW => below_of hW.choose_spec) (by rfl) (.tmp 1) (by rfl) (by rfl) ?_
  simp only [Act.put, List.setIfInBounds_toArray, List.set_cons_succ, List.set_cons_zero]
  go_big_quiet_step ((go_at_call 30; exact Calls.regrown_of (C25 _)))
  go_big_quiet_step ((go_at_call 14; exact Calls.regrown_of (C14 _ (Bel.call hB (below_regrown _ _ _)))))
  go_big_quiet_step (fail)
  go_big_quiet_step (fail)
  refine wpQuiet_nil ?_
  intro W1 hw'
  obtain ⟨⟨dq, osq⟩, hw''⟩ := hw'
  have hb := below_of hw''
  clear hw'' r0 l0 C23 C25 C14
  replace A1 : Arr _ _ 16 _ := A1.to' (n := 15) hb
  replace hB := Bel.call hB hb
  clear hb
  go_wp2_with fail
  go_ret
  exact ⟨rfl, hB⟩
set_option maxHeartbeats 2000000 in
theorem rFit_20 (m : Mg) (hk : m.k = 20) (a0 : Option Addr) (n c : Nat) (N : List Value) (w : World) (hn : n = 0)
    (C23 : ∀ W, Calls Tryz.prog 28 #[.int .i64 20] W fun e w' => e = .returned (.bool true) ∧ Below W.heap.size W w')
    (C25 : ∀ W, Calls Tryz.prog 30 #[m.v (.slice a0 n c)] W fun e w' => e = .returned (.agg N.toArray) ∧ Below W.heap.size W w')
    (C14 : ∀ W, Below w.heap.size w W → Calls Tryz.prog 14 #[m.v (.slice a0 n c), .agg N.toArray] W fun e w' => e = .returned (.bool true) ∧ Below W.heap.size W w') :
    Calls Tryz.prog 13 #[m.v (.slice a0 n c)] w fun e w' => e = .returned (.bool (knB m)) ∧ Below w.heap.size w w' := by
  have hL := m.cells (.slice a0 n c) rfl
  rw [m.v_l] at *
  have F0 : m.c (.slice a0 n c) 0 = .int .i64 20 := by show Value.int .i64 m.k = _; rw [hk]
  generalize m.l (.slice a0 n c) = L at *
  go_enter Tryz.func13, Tryz.ntmps13
  go_upto_region 1 with (fail)
  have A1 : Arr _ _ 16 _ := hL.new w 29 _ rfl
  have hB : Below w.heap.size w (w.alloc (.cells L.toArray 29)) := by go_grown
  generalize w.alloc (.cells L.toArray 29) = W at *
  have l0 := A1.cv 0 (by omega) (.int .i64 20) F0
  have r0 := fun ds os => cell_regrown l0 ds os
  refine wp_region_quiet_below (by kernel_rfl) (by kernel_rfl) ?_
  go_big_quiet_step (fail)
  go_big_quiet_step (fail)
  go_big_quiet_step ((go_at_call 28; exact Calls.regrown_of (C23 _)))
  go_big_quiet_step (fail)
  go_big_quiet_step (fail)
  refine hL.qld (N := 15) tM A1 0 (by omega) (fun j _ => by rw [Nat.zero_add]) (fun W hW => below_of hW.choose_spec) (by rfl) (.tmp 1) (by rfl) (by rfl) ?_
  simp only [Act.put, List.setIfInBounds_toArray, List.set_cons_succ, List.set_cons_zero]
  refine hL.qld (N := 15) tM A1 0 (by omega) (fun j _ => by rw [Nat.zero_add]) (fun W hW => below_of hW.choose_spec) (by rfl) (.tmp 1) (by rfl) (by rfl) ?_
  simp only [Act.put, List.setIfInBounds_toArray, List.set_cons_succ, List.set_cons_zero]
  go_big_quiet_step ((go_at_call 30; exact Calls.regrown_of (C25 _)))
  go_big_quiet_step ((go_at_call 14; exact Calls.regrown_of (C14 _ (Bel.call hB (below_regrown _ _ _)))))
  go_big_quiet_step (fail)
  go_big_quiet_step (fail)
  refine wpQuiet_nil ?_
  intro W1 hw'
  obtain ⟨⟨dq, osq⟩, hw''⟩ := hw'
  have hb := below_of hw''
  clear hw'' r0 l0 C23 C25 C14
  replace A1 : Arr _ _ 16 _ := A1.to' (n := 15) hb
  replace hB := Bel.call hB hb
  clear hb
  have l0 := A1.cv 0 (by omega) (.int .i64 20) F0
  have l6 := A1.cv 6 (by omega) (.slice a0 n c) rfl
  have l15 := A1.cv 15 (by omega) (.string m.mc) rfl
  clear A1
  subst hn
  by_cases h1 : m.mc.size = 32
  case neg =>
    have h1' : ¬ (m.mc.size : Int) = 32 := by omega
    have h1b : ((m.mc.size : Int) == 32) = false := by simpa using h1'
    have HR : Hid (knB m = false) := by
      show _ = _
      unfold knB
      rw [hk]
      exact decide_eq_false h1
    go_wp2_with fail
    go_rounds 1
    go_wp2_with fail
    go_ret
    exact ⟨by rw [HR.out]; rfl, hB⟩
  have h1' : (m.mc.size : Int) = 32 := by omega
  have h1b : ((m.mc.size : Int) == 32) = true := by simpa using h1'
  have HR : Hid (knB m = true) := by
    show _ = _
    unfold knB
    rw [hk]
    exact decide_eq_true h1
  go_wp2_with fail
  go_rounds 1
  go_ret
  exact ⟨by rw [HR.out]; rfl, hB⟩
set_option maxHeartbeats 2000000 in
theorem rFit_15 (m : Mg) (hk : m.k = 15) (a0 : Option Addr) (n c : Nat) (N : List Value) (w : World) (hn : n = 0)
    (C23 : ∀ W, Calls Tryz.prog 28 #[.int .i64 15] W fun e w' => e = .returned (.bool true) ∧ Below W.heap.size W w')
    (C25 : ∀ W, Calls Tryz.prog 30 #[m.v (.slice a0 n c)] W fun e w' => e = .returned (.agg N.toArray) ∧ Below W.heap.size W w')
    (C14 : ∀ W, Below w.heap.size w W → Calls Tryz.prog 14 #[m.v (.slice a0 n c), .agg N.toArray] W fun e w' => e = .returned (.bool true) ∧ Below W.heap.size W w') :
    Calls Tryz.prog 13 #[m.v (.slice a0 n c)] w fun e w' => e = .returned (.bool (knB m)) ∧ Below w.heap.size w w' := by
  have hL := m.cells (.slice a0 n c) rfl
  rw [m.v_l] at *
  have F0 : m.c (.slice a0 n c) 0 = .int .i64 15 := by show Value.int .i64 m.k = _; rw [hk]
  generalize m.l (.slice a0 n c) = L at *
  go_enter Tryz.func13, Tryz.ntmps13
  go_upto_region 1 with (fail)
  have A1 : Arr _ _ 16 _ := hL.new w 29 _ rfl
  have hB : Below w.heap.size w (w.alloc (.cells L.toArray 29)) := by go_grown
  generalize w.alloc (.cells L.toArray 29) = W at *
  have l0 := A1.cv 0 (by omega) (.int .i64 15) F0
  have r0 := fun ds os => cell_regrown l0 ds os
  refine wp_region_quiet_below (by kernel_rfl) (by kernel_rfl) ?_
  go_big_quiet_step (fail)
  go_big_quiet_step (fail)
  go_big_quiet_step ((go_at_call 28; exact Calls.regrown_of (C23 _)))
  go_big_quiet_step (fail)
  go_big_quiet_step (fail)
  refine hL.qld (N := 15) tM A1 0 (by omega) (fun j _ => by rw [Nat.zero_add]) (fun W hW => below_of hW.choose_spec) (by rfl) (.tmp 1) (by rfl) (by rfl) ?_
  simp only [Act.put, List.setIfInBounds_toArray, List.set_cons_succ, List.set_cons_zero]
  refine hL.qld (N := 15) tM A1 0 (by omega) (fun j _ => by rw [Nat.zero_add]) (fun W hW => below_of hW.choose_spec) (by rfl) (.tmp 1) (by rfl) (by rfl) ?_
  simp only [Act.put, List.setIfInBounds_toArray, List.set_cons_succ, List.set_cons_zero]
  go_big_quiet_step ((go_at_call 30; exact Calls.regrown_of (C25 _)))
  go_big_quiet_step ((go_at_call 14; exact Calls.regrown_of (C14 _ (Bel.call hB (below_regrown _ _ _)))))
  go_big_quiet_step (fail)
  go_big_quiet_step (fail)
  refine wpQuiet_nil ?_
  intro W1 hw'
  obtain ⟨⟨dq, osq⟩, hw''⟩ := hw'
  have hb := below_of hw''
  clear hw'' r0 l0 C23 C25 C14
  replace A1 : Arr _ _ 16 _ := A1.to' (n := 15) hb
  replace hB := Bel.call hB hb
  clear hb
  have l0 := A1.cv 0 (by omega) (.int .i64 15) F0
  have l6 := A1.cv 6 (by omega) (.slice a0 n c) rfl
  clear A1
  subst hn
  have HR : Hid (knB m = true) := by
    show _ = _
    unfold knB
    rw [hk]
    exact rfl
  go_wp2_with fail
  go_rounds 1
  go_ret
  exact ⟨by rw [HR.out]; rfl, hB⟩
set_option maxHeartbeats 2000000 in
theorem rFit_8 (m : Mg) (hk : m.k = 8) (a0 : Option Addr) (n c : Nat) (N : List Value) (w : World) (hn : n = 0)
    (C23 : ∀ W, Calls Tryz.prog 28 #[.int .i64 8] W fun e w' => e = .returned (.bool true) ∧ Below W.heap.size W w')
    (C25 : ∀ W, Calls Tryz.prog 30 #[m.v (.slice a0 n c)] W fun e w' => e = .returned (.agg N.toArray) ∧ Below W.heap.size W w')
    (C14 : ∀ W, Below w.heap.size w W → Calls Tryz.prog 14 #[m.v (.slice a0 n c), .agg N.toArray] W fun e w' => e = .returned (.bool true) ∧ Below W.heap.size W w') :
    Calls Tryz.prog 13 #[m.v (.slice a0 n c)] w fun e w' => e = .returned (.bool (knB m)) ∧ Below w.heap.size w w' := by
  have hL := m.cells (.slice a0 n c) rfl
  rw [m.v_l] at *
  have F0 : m.c (.slice a0 n c) 0 = .int .i64 8 := by show Value.int .i64 m.k = _; rw [hk]
  generalize m.l (.slice a0 n c) = L at *
  go_enter Tryz.func13, Tryz.ntmps13
  go_upto_region 1 with (fail)
  have A1 : Arr _ _ 16 _ := hL.new w 29 _ rfl
  have hB : Below w.heap.size w (w.alloc (.cells L.toArray 29)) := by go_grown
  generalize w.alloc (.cells L.toArray 29) = W at *
  have l0 := A1.cv 0 (by omega) (.int .i64 8) F0
  have r0 := fun ds os => cell_regrown l0 ds os
  refine wp_region_quiet_below (by kernel_rfl) (by kernel_rfl) ?_
  go_big_quiet_step (fail)
  go_big_quiet_step (fail)
  go_big_quiet_step ((go_at_call 28; exact Calls.regrown_of (C23 _)))
  go_big_quiet_step (fail)
  go_big_quiet_step (fail)
  refine hL.qld (N := 15) tM A1 0 (by omega) (fun j _ => by rw [Nat.zero_add]) (fun W hW => below_of hW.choose_spec) (by rfl) (.tmp 1) (by rfl) (by rfl) ?_
  simp only [Act.put, List.setIfInBounds_toArray, List.set_cons_succ, List.set_cons_zero]
  refine hL.qld (N := 15) tM A1 0 (by omega) (fun j _ => by rw [Nat.zero_add]) (fun W hW => below_of hW.choose_spec) (by rfl) (.tmp 1) (by rfl) (by rfl) ?_
  simp only [Act.put, List.setIfInBounds_toArray, List.set_cons_succ, List.set_cons_zero]
  go_big_quiet_step ((go_at_call 30; exact Calls.regrown_of (C25 _)))
  go_big_quiet_step ((go_at_call 14; exact Calls.regrown_of (C14 _ (Bel.call hB (below_regrown _ _ _)))))
  go_big_quiet_step (fail)
  go_big_quiet_step (fail)
  refine wpQuiet_nil ?_
  intro W1 hw'
  obtain ⟨⟨dq, osq⟩, hw''⟩ := hw'
  have hb := below_of hw''
  clear hw'' r0 l0 C23 C25 C14
  replace A1 : Arr _ _ 16 _ := A1.to' (n := 15) hb
  replace hB := Bel.call hB hb
  clear hb
  have l0 := A1.cv 0 (by omega) (.int .i64 8) F0
  have l5 := A1.cv 5 (by omega) (.string m.al) rfl
  have l6 := A1.cv 6 (by omega) (.slice a0 n c) rfl
  clear A1
  subst hn
  by_cases h1 : m.al.size ≠ 0
  case neg =>
    have h1' : m.al = nS := nS_size (by omega)
    rw [h1'] at l5
    have HR : Hid (knB m = false) := by
      show _ = _
      unfold knB
      rw [hk]
      exact decide_eq_false (fun h => h1 h.1)
    go_wp2_with fail
    go_ret
    exact ⟨by rw [HR.out]; rfl, hB⟩
  have h1' : (m.al.toList == []) = false := by simpa using txt_ne (s := m.al) (t := nS) (fun e => h1 (by rw [e]; rfl))
  by_cases h2 : m.al.size ≤ 32
  case neg =>
    have h2' : (32 : Int) < (m.al.size : Int) := by omega
    have HR : Hid (knB m = false) := by
      show _ = _
      unfold knB
      rw [hk]
      exact decide_eq_false (fun h => h2 h.2)
    go_wp2_with fail
    go_ret
    exact ⟨by rw [HR.out]; rfl, hB⟩
  have h2' : ¬ (32 : Int) < (m.al.size : Int) := by omega
  have HR : Hid (knB m = true) := by
    show _ = _
    unfold knB
    rw [hk]
    exact decide_eq_true ⟨h1, h2⟩
  go_wp2_with fail
  go_rounds 1
  go_ret
  exact ⟨by rw [HR.out]; rfl, hB⟩
set_option maxHeartbeats 2000000 in
theorem rFit_2 (m : Mg) (hk : m.k = 2) (a0 : Option Addr) (n c : Nat) (N : List Value) (w : World) (hn : n = 0)
    (C23 : ∀ W, Calls Tryz.prog 28 #[.int .i64 2] W fun e w' => e = .returned (.bool true) ∧ Below W.heap.size W w')
    (C25 : ∀ W, Calls Tryz.prog 30 #[m.v (.slice a0 n c)] W fun e w' => e = .returned (.agg N.toArray) ∧ Below W.heap.size W w')
    (C14 : ∀ W, Below w.heap.size w W → Calls Tryz.prog 14 #[m.v (.slice a0 n c), .agg N.toArray] W fun e w' => e = .returned (.bool true) ∧ Below W.heap.size W w') :
    Calls Tryz.prog 13 #[m.v (.slice a0 n c)] w fun e w' => e = .returned (.bool (knB m)) ∧ Below w.heap.size w w' := by
  have hL := m.cells (.slice a0 n c) rfl
  rw [m.v_l] at *
  have F0 : m.c (.slice a0 n c) 0 = .int .i64 2 := by show Value.int .i64 m.k = _; rw [hk]
  generalize m.l (.slice a0 n c) = L at *
  go_enter Tryz.func13, Tryz.ntmps13
  go_upto_region 1 with (fail)
  have A1 : Arr _ _ 16 _ := hL.new w 29 _ rfl
  have hB : Below w.heap.size w (w.alloc (.cells L.toArray 29)) := by go_grown
  generalize w.alloc (.cells L.toArray 29) = W at *
  have l0 := A1.cv 0 (by omega) (.int .i64 2) F0
  have r0 := fun ds os => cell_regrown l0 ds os
  refine wp_region_quiet_below (by kernel_rfl) (by kernel_rfl) ?_
  go_big_quiet_step (fail)
  go_big_quiet_step (fail)
  go_big_quiet_step ((go_at_call 28; exact Calls.regrown_of (C23 _)))
  go_big_quiet_step (fail)
  go_big_quiet_step (fail)
  refine hL.qld (N := 15) tM A1 0 (by omega) (fun j _ => by rw [Nat.zero_add]) (fun W hW => below_of hW.choose_spec) (by rfl) (.tmp 1) (by rfl) (by rfl) ?_
  simp only [Act.put, List.setIfInBounds_toArray, List.set_cons_succ, List.set_cons_zero]
  refine hL.qld (N := 15) tM A1 0 (by omega) (fun j _ => by rw [Nat.zero_add]) (fun W hW => below_of hW.choose_spec) (by rfl) (.tmp 1) (by rfl) (by rfl) ?_
  simp only [Act.put, List.setIfInBounds_toArray, List.set_cons_succ, List.set_cons_zero]
  go_big_quiet_step ((go_at_call 30; exact Calls.regrown_of (C25 _)))
  go_big_quiet_step ((go_at_call 14; exact Calls.regrown_of (C14 _ (Bel.call hB (below_regrown _ _ _)))))
  go_big_quiet_step (fail)
  go_big_quiet_step (fail)
  refine wpQuiet_nil ?_
  intro W1 hw'
  obtain ⟨⟨dq, osq⟩, hw''⟩ := hw'
  have hb := below_of hw''
  clear hw'' r0 l0 C23 C25 C14
  replace A1 : Arr _ _ 16 _ := A1.to' (n := 15) hb
  replace hB := Bel.call hB hb
  clear hb
  have l0 := A1.cv 0 (by omega) (.int .i64 2) F0
  have l1 := A1.cv 1 (by omega) (.string m.rn) rfl
  have l2 := A1.cv 2 (by omega) (.string m.ss) rfl
  have l3 := A1.cv 3 (by omega) (.string m.sh) rfl
  have l6 := A1.cv 6 (by omega) (.slice a0 n c) rfl
  clear A1
  subst hn
  by_cases h1 : m.rn.size = 32
  case neg =>
    have h1' : ¬ (m.rn.size : Int) = 32 := by omega
    have h1b : ((m.rn.size : Int) == 32) = false := by simpa using h1'
    have HR : Hid (knB m = false) := by
      show _ = _
      unfold knB
      rw [hk]
      exact decide_eq_false (fun h => h1 h.1)
    go_wp2_with fail
    go_ret
    exact ⟨by rw [HR.out]; rfl, hB⟩
  have h1' : (m.rn.size : Int) = 32 := by omega
  have h1b : ((m.rn.size : Int) == 32) = true := by simpa using h1'
  by_cases h2 : m.sh.size = 32
  case neg =>
    have h2' : ¬ (m.sh.size : Int) = 32 := by omega
    have h2b : ((m.sh.size : Int) == 32) = false := by simpa using h2'
    have HR : Hid (knB m = false) := by
      show _ = _
      unfold knB
      rw [hk]
      exact decide_eq_false (fun h => h2 h.2.1)
    go_wp2_with fail
    go_ret
    exact ⟨by rw [HR.out]; rfl, hB⟩
  have h2' : (m.sh.size : Int) = 32 := by omega
  have h2b : ((m.sh.size : Int) == 32) = true := by simpa using h2'
  by_cases h3 : m.ss.size ≤ 32
  case neg =>
    have h3' : (32 : Int) < (m.ss.size : Int) := by omega
    have HR : Hid (knB m = false) := by
      show _ = _
      unfold knB
      rw [hk]
      exact decide_eq_false (fun h => h3 h.2.2)
    go_wp2_with fail
    go_ret
    exact ⟨by rw [HR.out]; rfl, hB⟩
  have h3' : ¬ (32 : Int) < (m.ss.size : Int) := by omega
  have HR : Hid (knB m = true) := by
    show _ = _
    unfold knB
    rw [hk]
    exact decide_eq_true ⟨h1, h2, h3⟩
  go_wp2_with fail
  go_rounds 1
  go_ret
  exact ⟨by rw [HR.out]; rfl, hB⟩
set_option maxHeartbeats 2000000 in
theorem rFit_1 (m : Mg) (hk : m.k = 1) (a0 : Option Addr) (n c : Nat) (N : List Value) (w : World) (hn : n = 0) (hz : m.nm.size ≤ maxLen)
    (C23 : ∀ W, Calls Tryz.prog 28 #[.int .i64 1] W fun e w' => e = .returned (.bool true) ∧ Below W.heap.size W w')
    (C25 : ∀ W, Calls Tryz.prog 30 #[m.v (.slice a0 n c)] W fun e w' => e = .returned (.agg N.toArray) ∧ Below W.heap.size W w')
    (C14 : ∀ W, Below w.heap.size w W → Calls Tryz.prog 14 #[m.v (.slice a0 n c), .agg N.toArray] W fun e w' => e = .returned (.bool true) ∧ Below W.heap.size W w') :
    Calls Tryz.prog 13 #[m.v (.slice a0 n c)] w fun e w' => e = .returned (.bool (knB m)) ∧ Below w.heap.size w w' := by
  have hL := m.cells (.slice a0 n c) rfl
  rw [m.v_l] at *
  have F0 : m.c (.slice a0 n c) 0 = .int .i64 1 := by show Value.int .i64 m.k = _; rw [hk]
  generalize m.l (.slice a0 n c) = L at *
  go_enter Tryz.func13, Tryz.ntmps13
  go_upto_region 1 with (fail)
  have A1 : Arr _ _ 16 _ := hL.new w 29 _ rfl
  have hB : Below w.heap.size w (w.alloc (.cells L.toArray 29)) := by go_grown
  generalize w.alloc (.cells L.toArray 29) = W at *
  have l0 := A1.cv 0 (by omega) (.int .i64 1) F0
  have r0 := fun ds os => cell_regrown l0 ds os
  refine wp_region_quiet_below (by kernel_rfl) (by kernel_rfl) ?_
  go_big_quiet_step (fail)
  go_big_quiet_step (fail)
  go_big_quiet_step ((go_at_call 28; exact Calls.regrown_of (C23 _)))
  go_big_quiet_step (fail)
  go_big_quiet_step (fail)
  refine hL.qld (N := 15) tM A1 0 (by omega) (fun j _ => by rw [Nat.zero_add]) (fun W hW => below_of hW.choose_spec) (by rfl) (.tmp 1) (by rfl) (by rfl) ?_
  simp only [Act.put, List.setIfInBounds_toArray, List.set_cons_succ, List.set_cons_zero]
  refine hL.qld (N := 15) tM A1 0 (by omega) (fun j _ => by rw [Nat.zero_add]) (fun W hW => below_of hW.choose_spec) (by rfl) (.tmp 1) (by rfl) (by rfl) ?_
  simp only [Act.put, List.setIfInBounds_toArray, List.set_cons_succ, List.set_cons_zero]
  go_big_quiet_step ((go_at_call 30; exact Calls.regrown_of (C25 _)))
  go_big_quiet_step ((go_at_call 14; exact Calls.regrown_of (C14 _ (Bel.call hB (below_regrown _ _ _)))))
  go_big_quiet_step (fail)
  go_big_quiet_step (fail)
  refine wpQuiet_nil ?_
  intro W1 hw'
  obtain ⟨⟨dq, osq⟩, hw''⟩ := hw'
  have hb := below_of hw''
  clear hw'' r0 l0 C23 C25 C14
  replace A1 : Arr _ _ 16 _ := A1.to' (n := 15) hb
  replace hB := Bel.call hB hb
  clear hb
  have l0 := A1.cv 0 (by omega) (.int .i64 1) F0
  have l1 := A1.cv 1 (by omega) (.string m.rn) rfl
  have l2 := A1.cv 2 (by omega) (.string m.ss) rfl
  have l3 := A1.cv 3 (by omega) (.string m.sh) rfl
  have l4 := A1.cv 4 (by omega) (.string m.nm) rfl
  have l5 := A1.cv 5 (by omega) (.string m.al) rfl
  have l6 := A1.cv 6 (by omega) (.slice a0 n c) rfl
  clear A1
  subst hn
  by_cases h1 : m.rn.size = 32
  case neg =>
    have h1' : ¬ (m.rn.size : Int) = 32 := by omega
    have h1b : ((m.rn.size : Int) == 32) = false := by simpa using h1'
    have HR : Hid (knB m = false) := by
      show _ = _
      unfold knB
      rw [hk]
      exact decide_eq_false (fun h => h1 h.1)
    go_wp2_with fail
    go_ret
    exact ⟨by rw [HR.out]; rfl, hB⟩
  have h1' : (m.rn.size : Int) = 32 := by omega
  have h1b : ((m.rn.size : Int) == 32) = true := by simpa using h1'
  by_cases h2 : m.sh.size = 32
  case neg =>
    have h2' : ¬ (m.sh.size : Int) = 32 := by omega
    have h2b : ((m.sh.size : Int) == 32) = false := by simpa using h2'
    have HR : Hid (knB m = false) := by
      show _ = _
      unfold knB
      rw [hk]
      exact decide_eq_false (fun h => h2 h.2.1)
    go_wp2_with fail
    go_ret
    exact ⟨by rw [HR.out]; rfl, hB⟩
  have h2' : (m.sh.size : Int) = 32 := by omega
  have h2b : ((m.sh.size : Int) == 32) = true := by simpa using h2'
  by_cases h3 : m.ss.size ≤ 32
  case neg =>
    have h3' : (32 : Int) < (m.ss.size : Int) := by omega
    have HR : Hid (knB m = false) := by
      show _ = _
      unfold knB
      rw [hk]
      exact decide_eq_false (fun h => h3 h.2.2.1)
    go_wp2_with fail
    go_ret
    exact ⟨by rw [HR.out]; rfl, hB⟩
  have h3' : ¬ (32 : Int) < (m.ss.size : Int) := by omega
  cases h4 : hoB m.nm
  case false =>
    have CH : ∀ W, Calls Tryz.prog 31 #[.string m.nm] W fun e w' => e = .returned (.bool false) ∧ w' = W := fun W => (rhost_any m.nm hz W).mono fun e w' ⟨a, b⟩ => ⟨by rw [a, h4], b⟩
    have HR : Hid (knB m = false) := by
      show _ = _
      unfold knB
      rw [hk]
      exact decide_eq_false (fun h => by rw [h4] at h; exact absurd h.2.2.2.1 (by decide))
    go_wp2_with (go_at_call 31; refine (CH _).mono ?_; rintro e w' ⟨rfl, rfl⟩)
    go_ret
    exact ⟨by rw [HR.out]; rfl, hB⟩
  have CH : ∀ W, Calls Tryz.prog 31 #[.string m.nm] W fun e w' => e = .returned (.bool true) ∧ w' = W := fun W => (rhost_any m.nm hz W).mono fun e w' ⟨a, b⟩ => ⟨by rw [a, h4], b⟩
  by_cases h5 : m.al.size ≠ 0
  case neg =>
    have h5' : m.al = nS := nS_size (by omega)
    rw [h5'] at l5
    have HR : Hid (knB m = false) := by
      show _ = _
      unfold knB
      rw [hk]
      exact decide_eq_false (fun h => h5 h.2.2.2.2.1)
    go_wp2_with (go_at_call 31; refine (CH _).mono ?_; rintro e w' ⟨rfl, rfl⟩)
    go_ret
    exact ⟨by rw [HR.out]; rfl, hB⟩
  have h5' : (m.al.toList == []) = false := by simpa using txt_ne (s := m.al) (t := nS) (fun e => h5 (by rw [e]; rfl))
  by_cases h6 : m.al.size ≤ 32
  case neg =>
    have h6' : (32 : Int) < (m.al.size : Int) := by omega
    have HR : Hid (knB m = false) := by
      show _ = _
      unfold knB
      rw [hk]
      exact decide_eq_false (fun h => h6 h.2.2.2.2.2)
    go_wp2_with (go_at_call 31; refine (CH _).mono ?_; rintro e w' ⟨rfl, rfl⟩)
    go_ret
    exact ⟨by rw [HR.out]; rfl, hB⟩
  have h6' : ¬ (32 : Int) < (m.al.size : Int) := by omega
  have HR : Hid (knB m = true) := by
    show _ = _
    unfold knB
    rw [hk]
    exact decide_eq_true ⟨h1, h2, h3, h4, h5, h6⟩
  go_wp2_with (go_at_call 31; refine (CH _).mono ?_; rintro e w' ⟨rfl, rfl⟩)
  go_rounds 1
  go_ret
  exact ⟨by rw [HR.out]; rfl, hB⟩
set_option maxHeartbeats 2000000 in
theorem rFit_11 (m : Mg) (hk : m.k = 11) (a0 : Option Addr) (n c : Nat) (N : List Value) (w : World) (hn : m.cs.length = n) (hC : ∀ (i : Nat) (s : ByteArray), m.cs[i]? = some s → ∃ b, a0 = some b ∧ (b.add i).block < w.heap.size ∧ w.cell? (b.add i) = some (.string s))
    (C23 : ∀ W, Calls Tryz.prog 28 #[.int .i64 11] W fun e w' => e = .returned (.bool true) ∧ Below W.heap.size W w')
    (C25 : ∀ W, Calls Tryz.prog 30 #[m.v (.slice a0 n c)] W fun e w' => e = .returned (.agg N.toArray) ∧ Below W.heap.size W w')
    (C14 : ∀ W, Below w.heap.size w W → Calls Tryz.prog 14 #[m.v (.slice a0 n c), .agg N.toArray] W fun e w' => e = .returned (.bool true) ∧ Below W.heap.size W w') :
    Calls Tryz.prog 13 #[m.v (.slice a0 n c)] w fun e w' => e = .returned (.bool (knB m)) ∧ Below w.heap.size w w' := by
  have hL := m.cells (.slice a0 n c) rfl
  rw [m.v_l] at *
  have F0 : m.c (.slice a0 n c) 0 = .int .i64 11 := by show Value.int .i64 m.k = _; rw [hk]
  generalize m.l (.slice a0 n c) = L at *
  go_enter Tryz.func13, Tryz.ntmps13
  go_upto_region 1 with (fail)
  have A1 : Arr _ _ 16 _ := hL.new w 29 _ rfl
  have hB : Below w.heap.size w (w.alloc (.cells L.toArray 29)) := by go_grown
  generalize w.alloc (.cells L.toArray 29) = W at *
  have l0 := A1.cv 0 (by omega) (.int .i64 11) F0
  have r0 := fun ds os => cell_regrown l0 ds os
  refine wp_region_quiet_below (by kernel_rfl) (by kernel_rfl) ?_
  go_big_quiet_step (fail)
  go_big_quiet_step (fail)
  go_big_quiet_step ((go_at_call 28; exact Calls.regrown_of (C23 _)))
  go_big_quiet_step (fail)
  go_big_quiet_step (fail)
  refine hL.qld (N := 15) tM A1 0 (by omega) (fun j _ => by rw [Nat.zero_add]) (fun W hW => below_of hW.choose_spec) (by rfl) (.tmp 1) (by rfl) (by rfl) ?_
  simp only [Act.put, List.setIfInBounds_toArray, List.set_cons_succ, List.set_cons_zero]
  refine hL.qld (N := 15) tM A1 0 (by omega) (fun j _ => by rw [Nat.zero_add]) (fun W hW => below_of hW.choose_spec) (by rfl) (.tmp 1) (by rfl) (by rfl) ?_
  simp only [Act.put, List.setIfInBounds_toArray, List.set_cons_succ, List.set_cons_zero]
  go_big_quiet_step ((go_at_call 30; exact Calls.regrown_of (C25 _)))
  go_big_quiet_step ((go_at_call 14; exact Calls.regrown_of (C14 _ (Bel.call hB (below_regrown _ _ _)))))
  go_big_quiet_step (fail)
  go_big_quiet_step (fail)
  refine wpQuiet_nil ?_
  intro W1 hw'
  obtain ⟨⟨dq, osq⟩, hw''⟩ := hw'
  have hb := below_of hw''
  clear hw'' r0 l0 C23 C25 C14
  replace A1 : Arr _ _ 16 _ := A1.to' (n := 15) hb
  replace hB := Bel.call hB hb
  clear hb
  have l0 := A1.cv 0 (by omega) (.int .i64 11) F0
  have l6 := A1.cv 6 (by omega) (.slice a0 n c) rfl
  clear A1
  have HN : Hid (m.cs.length = n) := hn
  have HC : Hid (∀ (i : Nat) (s : ByteArray), m.cs[i]? = some s → ∃ b, a0 = some b ∧ W1.cell? (b.add i) = some (.string s)) := fun i s hi => by
    obtain ⟨b, e, lt, cc⟩ := hC i s hi
    exact ⟨b, e, (hB.cell lt).trans cc⟩
  clear hC hn
  by_cases h1 : n ≠ 0
  case neg =>
    have h1' : n = 0 := by omega
    subst h1'
    have HR : Hid (knB m = false) := by
      show _ = _
      unfold knB
      rw [hk]
      exact decide_eq_false (fun h => h.1 HN.out)
    go_wp2_with fail
    go_ret
    exact ⟨by rw [HR.out]; rfl, hB⟩
  have h1' : ¬ (n : Int) = 0 := by omega
  have h1b : ((n : Int) == 0) = false := by simpa using h1'
  by_cases h2 : n ≤ 4
  case neg =>
    have h2' : (4 : Int) < (n : Int) := by omega
    have HR : Hid (knB m = false) := by
      show _ = _
      unfold knB
      rw [hk]
      exact decide_eq_false (fun h => h2 (by rw [← HN.out]; exact h.2.1))
    go_wp2_with fail
    go_ret
    exact ⟨by rw [HR.out]; rfl, hB⟩
  have h2' : ¬ (4 : Int) < (n : Int) := by omega
  go_wp2_with fail
  go_loop [4] (fun i => ∃ j : Nat, j ≤ n ∧ i = .int .i64 (j : Int) ∧ Hid (∀ q t, q < j → m.cs[q]? = some t → t.size ≠ 0 ∧ t.size ≤ 2048)) (fun i => n - (intOf i).toNat)
  case atStart => exact ⟨0, by omega, rfl, fun q t hq => absurd hq (Nat.not_lt_zero _)⟩
  case round =>
    obtain ⟨j, hj, rfl, ht⟩ := hrel
    have j0 : (0 : Int) ≤ (j : Int) := by omega
    by_cases hlt : j < n
    · have j1 : (j : Int) < (n : Int) := by omega
      obtain ⟨t, hs⟩ : ∃ t, m.cs[j]? = some t := ⟨_, List.getElem?_eq_getElem (by rw [HN.out]; exact hlt)⟩
      obtain ⟨b, hb, g1⟩ := HC.out j t hs
      subst hb
      by_cases h5 : t.size ≠ 0
      · have h5' : (t.toList == []) = false := by simpa using txt_ne (s := t) (t := nS) (fun e => h5 (by rw [e]; rfl))
        by_cases h6 : t.size ≤ 2048
        · have h6' : ¬ (2048 : Int) < (t.size : Int) := by omega
          have HT : Hid (∀ q t, q < j + 1 → m.cs[q]? = some t → t.size ≠ 0 ∧ t.size ≤ 2048) := fun q u hq hu => by
            by_cases e : q = j
            · subst e
              rw [hs] at hu
              cases hu
              exact ⟨h5, h6⟩
            · exact ht.out q u (by omega) hu
          clear ht hs
          go_wp2_with fail
          go_round
          case rel => exact ⟨j + 1, by omega, by go_num, HT⟩
          case measure => simp [intOf]; omega
        · have h6' : (2048 : Int) < (t.size : Int) := by omega
          have HR : Hid (knB m = false) := by
            show _ = _
            unfold knB
            rw [hk]
            exact decide_eq_false (fun h => h6 (h.2.2 t (List.mem_of_getElem? hs)).2)
          clear ht hs
          go_wp2_with fail
          go_ret
          exact ⟨by rw [HR.out]; rfl, hB⟩
      · have h5' : t = nS := nS_size (by omega)
        have HR : Hid (knB m = false) := by
          show _ = _
          unfold knB
          rw [hk]
          exact decide_eq_false (fun h => h5 (h.2.2 t (List.mem_of_getElem? hs)).1)
        subst h5'
        clear ht hs
        go_wp2_with fail
        go_ret
        exact ⟨by rw [HR.out]; rfl, hB⟩
    · have j1 : ¬ (j : Int) < (n : Int) := by omega
      have HR : Hid (knB m = true) := by
        show _ = _
        unfold knB
        rw [hk]
        refine decide_eq_true ⟨by rw [HN.out]; exact h1, by rw [HN.out]; exact h2, fun t ht' => ?_⟩
        obtain ⟨q, hq, rfl⟩ := List.getElem_of_mem ht'
        exact ht.out q _ (by rw [HN.out] at hq; omega) (List.getElem?_eq_getElem hq)
      clear ht
      go_wp2_with fail
      go_ret
      exact ⟨by rw [HR.out]; rfl, hB⟩
end Go.Proofs.YtjdpeedghpblgaaGreatDoor
