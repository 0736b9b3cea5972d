/- The reference's ToInt. -/
import Derived.Deep.Cut
import Derived.Test.YtjdpeedghpblgaaGreatDoorJ10
import Derived.Test.YtjdpeedghpblgaaGreatDoorJ11
set_option linter.all false
set_option maxRecDepth 100000
namespace Go.Proofs.YtjdpeedghpblgaaGreatDoor
open Go.RowKit Go.Sort
theorem sL_inj' {a b : ByteArray} (h : sL a = sL b) : a = b := by rw [← mkS_sL a, ← mkS_sL b, h]
theorem sL_ext' (s : ByteArray) (a b : Nat) : sL (s.extract a b) = ((sL s).drop a).take (b - a) := by unfold sL; rw [ext_list, List.map_take, List.map_drop]
theorem sL_drop (s : ByteArray) (k : Nat) (h : k < s.size) : (sL s).drop k = bt s k :: (sL s).drop (k + 1) := by
  rw [List.drop_eq_getElem_cons (by rw [sL_len]; exact h)]
  congr 1
  rw [bt_sL, List.getD_eq_getElem?_getD, List.getElem?_eq_getElem (by rw [sL_len]; exact h)]; rfl
theorem rti_0 (w : World) : Calls Tryz.prog 93 #[.string ⟨#[]⟩] w fun e w' => e = .returned (.tuple #[nz, .int .i64 11]) ∧ Below w.heap.size w w' := by
  go_enter Tryz.func93, Tryz.ntmps93
  go_wp2_with fail
  exact bodyPost_ret (v := .tuple #[nz, .int .i64 11]) (by simp [results, Tryz.results93, go_sem]) rfl ⟨rfl, by go_grown⟩
theorem rti_f (s : ByteArray) (hs : 0 < s.size) (hm : s.size ≤ maxLen) (h : ¬ tiOk s) (w : World) : Calls Tryz.prog 93 #[.string s] w fun e w' => e = .returned (.tuple #[nz, .int .i64 10]) ∧ Below w.heap.size w w' := by
  have em := emp_no s hs
  have I := idx0 s hs
  have b0 := bt_bd s 0
  unfold tiOk at h
  by_cases c : 128 ≤ bt s 0
  · clear h
    generalize bt s 0 = x at *
    go_enter Tryz.func93, Tryz.ntmps93
    go_wp2_with fail
    exact bodyPost_ret (v := .tuple #[nz, .int .i64 10]) (by simp [results, Tryz.results93, go_sem]) rfl ⟨rfl, by go_grown⟩
  · have h1 : 1 < s.size := by omega
    have h2 : bt s 0 = 0 := by omega
    have h3 : bt s 1 < 128 := by omega
    have I1 := idx1 s h1
    have b1 := bt_bd s 1
    have hz : (1 : Int) < (s.size : Int) := by omega
    rw [h2] at I
    clear h c b0 h2
    generalize bt s 1 = y at *
    go_enter Tryz.func93, Tryz.ntmps93
    go_wp2_with fail
    exact bodyPost_ret (v := .tuple #[nz, .int .i64 10]) (by simp [results, Tryz.results93, go_sem]) rfl ⟨rfl, by go_grown⟩
set_option maxHeartbeats 1000000 in
theorem rti_n (s B : ByteArray) (hs : 0 < s.size) (hm : s.size ≤ maxLen) (h : tiOk s) (hB : 32 < B.size) (eB : Hid ((bt s 0 = 0 → B = s.extract 1 s.size) ∧ (bt s 0 ≠ 0 → B = s))) (w : World) :
    Calls Tryz.prog 93 #[.string s] w fun e w' => e = .returned (.tuple #[nz, .int .i64 13]) ∧ Below w.heap.size w w' := by
  have em := emp_no s hs
  have I := idx0 s hs
  have K := cut1 s hs hm
  have b0 := bt_bd s 0
  have hB' : (32 : Int) < (B.size : Int) := by omega
  obtain ⟨h0, h1 | ⟨h1, h2⟩ | ⟨h1, h2, h3⟩⟩ := h
  · have hz : decide ((1 : Int) < (s.size : Int)) = false := decide_eq_false (by omega)
    clear h1
    by_cases g : bt s 0 = 0
    · have e := eB.out.1 g
      subst e
      rw [g] at I
      clear g b0 h0
      generalize s.extract 1 s.size = B at *
      go_enter Tryz.func93, Tryz.ntmps93
      go_wp2_with fail
      all_goals exact bodyPost_ret (v := .tuple #[nz, .int .i64 13]) (by simp [results, Tryz.results93, go_sem]) rfl ⟨rfl, by go_grown⟩
    · have e := eB.out.2 g
      subst e
      have g' : (bt B 0 == 0) = false := by simp [g]
      generalize bt B 0 = x at *
      go_enter Tryz.func93, Tryz.ntmps93
      go_wp2_with fail
      all_goals exact bodyPost_ret (v := .tuple #[nz, .int .i64 13]) (by simp [results, Tryz.results93, go_sem]) rfl ⟨rfl, by go_grown⟩
  · have hz : (1 : Int) < (s.size : Int) := by omega
    have e := eB.out.2 h2
    subst e
    have g' : (bt B 0 == 0) = false := by simp [h2]
    generalize bt B 0 = x at *
    go_enter Tryz.func93, Tryz.ntmps93
    go_wp2_with fail
    all_goals exact bodyPost_ret (v := .tuple #[nz, .int .i64 13]) (by simp [results, Tryz.results93, go_sem]) rfl ⟨rfl, by go_grown⟩
  · have hz : (1 : Int) < (s.size : Int) := by omega
    have I1 := idx1 s h1
    have b1 := bt_bd s 1
    have e := eB.out.1 h2
    subst e
    rw [h2] at I
    clear h2 h0 b0
    generalize s.extract 1 s.size = B at *
    generalize bt s 1 = y at *
    go_enter Tryz.func93, Tryz.ntmps93
    go_wp2_with fail
    all_goals exact bodyPost_ret (v := .tuple #[nz, .int .i64 13]) (by simp [results, Tryz.results93, go_sem]) rfl ⟨rfl, by go_grown⟩
theorem below_al (w : World) (o : Obj) : Below w.heap.size w (w.alloc o) := by go_grown
theorem zero4 (w : World) : Arr (w.alloc (.cells #[.int .u64 0, .int .u64 0, .int .u64 0, .int .u64 0] 25)) w.heap.size 4 (fun _ => .int .u64 0) := Arr.new w _ 25 _ rfl _ 4 (fun j hj => by
  match j, hj with
  | 0, _ => rfl
  | 1, _ => rfl
  | 2, _ => rfl
  | 3, _ => rfl)
theorem four4 (w : World) (a b c d : Int) : Arr (w.alloc (.cells #[.int .u64 a, .int .u64 b, .int .u64 c, .int .u64 d] 25)) w.heap.size 4 (fun j => if j = 0 then .int .u64 a else if j = 1 then .int .u64 b else if j = 2 then .int .u64 c else .int .u64 d) := Arr.new w _ 25 _ rfl _ 4 (fun j hj => by
  match j, hj with
  | 0, _ => rfl
  | 1, _ => rfl
  | 2, _ => rfl
  | 3, _ => rfl)
set_option maxHeartbeats 4000000 in
theorem rti_y (s B Z ZB : ByteArray) (C : Array Value) (v0 v1 v2 v3 : Int) (hs : 0 < s.size) (hm : s.size ≤ maxLen) (h : tiOk s) (hB : B.size ≤ 32) (n : Nat) (hn : 32 - (B.size : Int) = (n : Int)) (hZ : Z.size = n) (eB : Hid ((bt s 0 = 0 → B = s.extract 1 s.size) ∧ (bt s 0 ≠ 0 → B = s)))
    (MK : ∀ W : World, (Instr.makeSlice 61 (.int .i64 (n : Int)) (.int .i64 (n : Int))).run Tryz.prog W = .ok (.slice (some ⟨W.heap.size, 0, none⟩) n n) (W.alloc (.cells C 5)))
    (CV : ∀ W : World, (convert 61 9 (.slice (some ⟨W.heap.size, 0, none⟩) n n)).run Tryz.prog (W.alloc (.cells C 5)) = .ok (.string Z) (W.alloc (.cells C 5)))
    (AD : ∀ W, (Op.stringOp .add Z B).run Tryz.prog W = .ok (.string ZB) W)
    (C21 : ∀ W, Calls Tryz.prog 114 #[.string ZB] W fun e w' => e = .returned (.tuple #[.agg #[.int .u64 v0, .int .u64 v1, .int .u64 v2, .int .u64 v3], .int .i64 0]) ∧ Below W.heap.size W w') (w : World) :
    Calls Tryz.prog 93 #[.string s] w fun e w' => e = .returned (.tuple #[.agg #[.int .u64 v0, .int .u64 v1, .int .u64 v2, .int .u64 v3], .int .i64 0]) ∧ Below w.heap.size w w' := by
  have em := emp_no s hs
  have I := idx0 s hs
  have K := cut1 s hs hm
  have b0 := bt_bd s 0
  have hB' : (B.size : Int) ≤ 32 := by omega
  obtain ⟨h0, h1 | ⟨h1, h2⟩ | ⟨h1, h2, h3⟩⟩ := h
  · have hz : decide ((1 : Int) < (s.size : Int)) = false := decide_eq_false (by omega)
    clear h1
    by_cases g : bt s 0 = 0
    · have e := eB.out.1 g
      subst e
      rw [g] at I
      clear g b0 h0
      generalize s.extract 1 s.size = B at *
      have CV1 : (convert 61 9 (.slice (some ⟨w.heap.size + 1, 0, none⟩) n n)).run Tryz.prog ((w.alloc (.cells #[.int .u64 0, .int .u64 0, .int .u64 0, .int .u64 0] 25)).alloc (.cells C 5)) = .ok (.string Z) ((w.alloc (.cells #[.int .u64 0, .int .u64 0, .int .u64 0, .int .u64 0] 25)).alloc (.cells C 5)) := by
        have := CV (w.alloc (.cells #[.int .u64 0, .int .u64 0, .int .u64 0, .int .u64 0] 25))
        simpa using this
      clear CV
      go_enter Tryz.func93, Tryz.ntmps93
      go_wp2_with fail
      refine (C21 _).mono ?_
      rintro e w2 ⟨rfl, hb⟩
      have hB : Below w.heap.size w w2 := Bel.call (Bel.al (below_al w _) _) hb
      have A2 : Arr w2 w.heap.size 4 (fun _ => .int .u64 0) := (((zero4 w).al' (n := 3) (.cells C 5)).to' (n := 3) hb)
      clear hb MK CV1 AD C21
      go_upto_region 10 with (fail)
      have A3 := A2.al' (n := 3) (.cells #[.int .u64 v0, .int .u64 v1, .int .u64 v2, .int .u64 v3] 25)
      have A4 := four4 w2 v0 v1 v2 v3
      have hB3 := Bel.al hB (.cells #[.int .u64 v0, .int .u64 v1, .int .u64 v2, .int .u64 v3] 25)
      generalize hq : w2.heap.size = q2 at *
      generalize w2.alloc (.cells #[.int .u64 v0, .int .u64 v1, .int .u64 v2, .int .u64 v3] 25) = w3 at *
      clear hq A2 hB
      have x0 := A3.c 0 (by omega)
      have x1 := A3.c 1 (by omega)
      have x2 := A3.c 2 (by omega)
      have x3 := A3.c 3 (by omega)
      have f0 := A3.z 0 (by omega)
      have f1 := A3.z 1 (by omega)
      have f2 := A3.z 2 (by omega)
      have f3 := A3.z 3 (by omega)
      have y0 : w3.cell? ⟨q2, 0, none⟩ = some (.int .u64 v0) := A4.c 0 (by omega)
      have y1 : w3.cell? ⟨q2, 1, none⟩ = some (.int .u64 v1) := A4.c 1 (by omega)
      have y2 : w3.cell? ⟨q2, 2, none⟩ = some (.int .u64 v2) := A4.c 2 (by omega)
      have y3 : w3.cell? ⟨q2, 3, none⟩ = some (.int .u64 v3) := A4.c 3 (by omega)
      go_wp2_with fail
      exact bodyPost_ret (v := .tuple #[.agg #[.int .u64 v0, .int .u64 v1, .int .u64 v2, .int .u64 v3], .int .i64 0]) (by simp [results, Tryz.results93, go_sem, *]) rfl ⟨rfl, Bel.st (Bel.st (Bel.st (Bel.st hB3 (Nat.le_refl _) _) (Nat.le_refl _) _) (Nat.le_refl _) _) (Nat.le_refl _) _⟩
    · have e := eB.out.2 g
      subst e
      have g' : (bt B 0 == 0) = false := by simp [g]
      generalize bt B 0 = x at *
      have CV1 : (convert 61 9 (.slice (some ⟨w.heap.size + 1, 0, none⟩) n n)).run Tryz.prog ((w.alloc (.cells #[.int .u64 0, .int .u64 0, .int .u64 0, .int .u64 0] 25)).alloc (.cells C 5)) = .ok (.string Z) ((w.alloc (.cells #[.int .u64 0, .int .u64 0, .int .u64 0, .int .u64 0] 25)).alloc (.cells C 5)) := by
        have := CV (w.alloc (.cells #[.int .u64 0, .int .u64 0, .int .u64 0, .int .u64 0] 25))
        simpa using this
      clear CV
      go_enter Tryz.func93, Tryz.ntmps93
      go_wp2_with fail
      refine (C21 _).mono ?_
      rintro e w2 ⟨rfl, hb⟩
      have hB : Below w.heap.size w w2 := Bel.call (Bel.al (below_al w _) _) hb
      have A2 : Arr w2 w.heap.size 4 (fun _ => .int .u64 0) := (((zero4 w).al' (n := 3) (.cells C 5)).to' (n := 3) hb)
      clear hb MK CV1 AD C21
      go_upto_region 10 with (fail)
      have A3 := A2.al' (n := 3) (.cells #[.int .u64 v0, .int .u64 v1, .int .u64 v2, .int .u64 v3] 25)
      have A4 := four4 w2 v0 v1 v2 v3
      have hB3 := Bel.al hB (.cells #[.int .u64 v0, .int .u64 v1, .int .u64 v2, .int .u64 v3] 25)
      generalize hq : w2.heap.size = q2 at *
      generalize w2.alloc (.cells #[.int .u64 v0, .int .u64 v1, .int .u64 v2, .int .u64 v3] 25) = w3 at *
      clear hq A2 hB
      have x0 := A3.c 0 (by omega)
      have x1 := A3.c 1 (by omega)
      have x2 := A3.c 2 (by omega)
      have x3 := A3.c 3 (by omega)
      have f0 := A3.z 0 (by omega)
      have f1 := A3.z 1 (by omega)
      have f2 := A3.z 2 (by omega)
      have f3 := A3.z 3 (by omega)
      have y0 : w3.cell? ⟨q2, 0, none⟩ = some (.int .u64 v0) := A4.c 0 (by omega)
      have y1 : w3.cell? ⟨q2, 1, none⟩ = some (.int .u64 v1) := A4.c 1 (by omega)
      have y2 : w3.cell? ⟨q2, 2, none⟩ = some (.int .u64 v2) := A4.c 2 (by omega)
      have y3 : w3.cell? ⟨q2, 3, none⟩ = some (.int .u64 v3) := A4.c 3 (by omega)
      go_wp2_with fail
      exact bodyPost_ret (v := .tuple #[.agg #[.int .u64 v0, .int .u64 v1, .int .u64 v2, .int .u64 v3], .int .i64 0]) (by simp [results, Tryz.results93, go_sem, *]) rfl ⟨rfl, Bel.st (Bel.st (Bel.st (Bel.st hB3 (Nat.le_refl _) _) (Nat.le_refl _) _) (Nat.le_refl _) _) (Nat.le_refl _) _⟩
  · have hz : (1 : Int) < (s.size : Int) := by omega
    have e := eB.out.2 h2
    subst e
    have g' : (bt B 0 == 0) = false := by simp [h2]
    generalize bt B 0 = x at *
    have CV1 : (convert 61 9 (.slice (some ⟨w.heap.size + 1, 0, none⟩) n n)).run Tryz.prog ((w.alloc (.cells #[.int .u64 0, .int .u64 0, .int .u64 0, .int .u64 0] 25)).alloc (.cells C 5)) = .ok (.string Z) ((w.alloc (.cells #[.int .u64 0, .int .u64 0, .int .u64 0, .int .u64 0] 25)).alloc (.cells C 5)) := by
      have := CV (w.alloc (.cells #[.int .u64 0, .int .u64 0, .int .u64 0, .int .u64 0] 25))
      simpa using this
    clear CV
    go_enter Tryz.func93, Tryz.ntmps93
    go_wp2_with fail
    refine (C21 _).mono ?_
    rintro e w2 ⟨rfl, hb⟩
    have hB : Below w.heap.size w w2 := Bel.call (Bel.al (below_al w _) _) hb
    have A2 : Arr w2 w.heap.size 4 (fun _ => .int .u64 0) := (((zero4 w).al' (n := 3) (.cells C 5)).to' (n := 3) hb)
    clear hb MK CV1 AD C21
    go_upto_region 10 with (fail)
    have A3 := A2.al' (n := 3) (.cells #[.int .u64 v0, .int .u64 v1, .int .u64 v2, .int .u64 v3] 25)
    have A4 := four4 w2 v0 v1 v2 v3
    have hB3 := Bel.al hB (.cells #[.int .u64 v0, .int .u64 v1, .int .u64 v2, .int .u64 v3] 25)
    generalize hq : w2.heap.size = q2 at *
    generalize w2.alloc (.cells #[.int .u64 v0, .int .u64 v1, .int .u64 v2, .int .u64 v3] 25) = w3 at *
    clear hq A2 hB
    have x0 := A3.c 0 (by omega)
    have x1 := A3.c 1 (by omega)
    have x2 := A3.c 2 (by omega)
    have x3 := A3.c 3 (by omega)
    have f0 := A3.z 0 (by omega)
    have f1 := A3.z 1 (by omega)
    have f2 := A3.z 2 (by omega)
    have f3 := A3.z 3 (by omega)
    have y0 : w3.cell? ⟨q2, 0, none⟩ = some (.int .u64 v0) := A4.c 0 (by omega)
    have y1 : w3.cell? ⟨q2, 1, none⟩ = some (.int .u64 v1) := A4.c 1 (by omega)
    have y2 : w3.cell? ⟨q2, 2, none⟩ = some (.int .u64 v2) := A4.c 2 (by omega)
    have y3 : w3.cell? ⟨q2, 3, none⟩ = some (.int .u64 v3) := A4.c 3 (by omega)
    go_wp2_with fail
    exact bodyPost_ret (v := .tuple #[.agg #[.int .u64 v0, .int .u64 v1, .int .u64 v2, .int .u64 v3], .int .i64 0]) (by simp [results, Tryz.results93, go_sem, *]) rfl ⟨rfl, Bel.st (Bel.st (Bel.st (Bel.st hB3 (Nat.le_refl _) _) (Nat.le_refl _) _) (Nat.le_refl _) _) (Nat.le_refl _) _⟩
  · have hz : (1 : Int) < (s.size : Int) := by omega
    have I1 := idx1 s h1
    have b1 := bt_bd s 1
    have e := eB.out.1 h2
    subst e
    rw [h2] at I
    clear h2 h0 b0
    generalize s.extract 1 s.size = B at *
    generalize bt s 1 = y at *
    have CV1 : (convert 61 9 (.slice (some ⟨w.heap.size + 1, 0, none⟩) n n)).run Tryz.prog ((w.alloc (.cells #[.int .u64 0, .int .u64 0, .int .u64 0, .int .u64 0] 25)).alloc (.cells C 5)) = .ok (.string Z) ((w.alloc (.cells #[.int .u64 0, .int .u64 0, .int .u64 0, .int .u64 0] 25)).alloc (.cells C 5)) := by
      have := CV (w.alloc (.cells #[.int .u64 0, .int .u64 0, .int .u64 0, .int .u64 0] 25))
      simpa using this
    clear CV
    go_enter Tryz.func93, Tryz.ntmps93
    go_wp2_with fail
    refine (C21 _).mono ?_
    rintro e w2 ⟨rfl, hb⟩
    have hB : Below w.heap.size w w2 := Bel.call (Bel.al (below_al w _) _) hb
    have A2 : Arr w2 w.heap.size 4 (fun _ => .int .u64 0) := (((zero4 w).al' (n := 3) (.cells C 5)).to' (n := 3) hb)
    clear hb MK CV1 AD C21
    go_upto_region 10 with (fail)
    have A3 := A2.al' (n := 3) (.cells #[.int .u64 v0, .int .u64 v1, .int .u64 v2, .int .u64 v3] 25)
    have A4 := four4 w2 v0 v1 v2 v3
    have hB3 := Bel.al hB (.cells #[.int .u64 v0, .int .u64 v1, .int .u64 v2, .int .u64 v3] 25)
    generalize hq : w2.heap.size = q2 at *
    generalize w2.alloc (.cells #[.int .u64 v0, .int .u64 v1, .int .u64 v2, .int .u64 v3] 25) = w3 at *
    clear hq A2 hB
    have x0 := A3.c 0 (by omega)
    have x1 := A3.c 1 (by omega)
    have x2 := A3.c 2 (by omega)
    have x3 := A3.c 3 (by omega)
    have f0 := A3.z 0 (by omega)
    have f1 := A3.z 1 (by omega)
    have f2 := A3.z 2 (by omega)
    have f3 := A3.z 3 (by omega)
    have y0 : w3.cell? ⟨q2, 0, none⟩ = some (.int .u64 v0) := A4.c 0 (by omega)
    have y1 : w3.cell? ⟨q2, 1, none⟩ = some (.int .u64 v1) := A4.c 1 (by omega)
    have y2 : w3.cell? ⟨q2, 2, none⟩ = some (.int .u64 v2) := A4.c 2 (by omega)
    have y3 : w3.cell? ⟨q2, 3, none⟩ = some (.int .u64 v3) := A4.c 3 (by omega)
    go_wp2_with fail
    exact bodyPost_ret (v := .tuple #[.agg #[.int .u64 v0, .int .u64 v1, .int .u64 v2, .int .u64 v3], .int .i64 0]) (by simp [results, Tryz.results93, go_sem, *]) rfl ⟨rfl, Bel.st (Bel.st (Bel.st (Bel.st hB3 (Nat.le_refl _) _) (Nat.le_refl _) _) (Nat.le_refl _) _) (Nat.le_refl _) _⟩
theorem cutB (s : ByteArray) (hs : 0 < s.size) : (bt s 0 = 0 → mkS (cut0 (sL s)) = s.extract 1 s.size) ∧ (bt s 0 ≠ 0 → mkS (cut0 (sL s)) = s) := by
  have ec : sL s = bt s 0 :: (sL s).drop 1 := by
    have := sL_drop s 0 hs
    simpa using this
  constructor
  · intro h
    apply sL_inj'
    rw [sL_mkS _ (cut0_bys _ (sL_bys s)), sL_ext']
    unfold cut0
    rw [ec]
    rw [if_pos (by simpa using h)]
    simp only [List.tail_cons, List.drop_succ_cons, List.drop_zero]
    symm
    apply List.take_of_length_le
    rw [List.length_drop, sL_len]
    omega
  · intro h
    have : cut0 (sL s) = sL s := by
      unfold cut0
      rw [if_neg (by rw [ec]; simpa using h)]
    rw [this, mkS_sL]
theorem rToInt_no (s : ByteArray) (hm : s.size ≤ maxLen) (h : tiE (sL s) ≠ 0) (w : World) : Calls Tryz.prog 93 #[.string s] w fun e w' => e = .returned (.tuple #[nz, .int .i64 (tiE (sL s))]) ∧ Below w.heap.size w w' := by
  by_cases h0 : s.size = 0
  · have e : s = ⟨#[]⟩ := by
      apply ba_ext
      have := len_list s
      rw [h0] at this
      rw [List.eq_nil_of_length_eq_zero this]
    subst e
    exact rti_0 w
  have hs : 0 < s.size := by omega
  have hn : sL s ≠ [] := fun c => by have := sL_len s; rw [c] at this; simp at this; omega
  by_cases h1 : tiOk s
  · have h2 := (tiOk_is s hs).1 h1
    have h3 : 32 < (cut0 (sL s)).length := by
      unfold tiE at h
      rw [if_neg hn, if_neg h2] at h
      split at h
      · assumption
      · exact absurd rfl h
    have e : tiE (sL s) = 13 := by unfold tiE; rw [if_neg hn, if_neg h2, if_pos h3]
    rw [e]
    exact rti_n s (mkS (cut0 (sL s))) hs hm h1 (by rw [mkS_size]; exact h3) (cutB s hs) w
  · have h2 : ¬ ¬ _ := fun c => h1 ((tiOk_is s hs).2 c)
    have e : tiE (sL s) = 10 := by unfold tiE; rw [if_neg hn, if_pos (Classical.not_not.1 h2)]
    rw [e]
    exact rti_f s hs hm h1 w
theorem rToInt_yes (s : ByteArray) (hm : s.size ≤ maxLen) (h : tiE (sL s) = 0) (w : World) : Calls Tryz.prog 93 #[.string s] w fun e w' => e = .returned (.tuple #[nv (beV (cut0 (sL s))), .int .i64 0]) ∧ Below w.heap.size w w' := by
  have hn : sL s ≠ [] := fun c => by rw [c] at h; exact absurd h (by decide)
  have hs : 0 < s.size := by
    rcases Nat.eq_zero_or_pos s.size with c | c
    · exact absurd (List.eq_nil_of_length_eq_zero (by rw [sL_len]; exact c)) hn
    · exact c
  have h2 : ¬ (128 ≤ (sL s).headD 0 ∨ (1 < (sL s).length ∧ (sL s).headD 0 = 0 ∧ (sL s).tail.headD 0 < 128)) := fun c => by
    unfold tiE at h; rw [if_neg hn, if_pos c] at h; exact absurd h (by decide)
  have h3 : (cut0 (sL s)).length ≤ 32 := by
    unfold tiE at h
    rw [if_neg hn, if_neg h2] at h
    split at h
    · exact absurd h (by decide)
    · omega
  have hb := cut0_bys (sL s) (sL_bys s)
  have eB := cutB s hs
  generalize cut0 (sL s) = d at *
  have zb : (mkS d).size = d.length := mkS_size d
  have bz : Bys (List.replicate (32 - d.length) 0 ++ d) := by
    refine Bys.app (fun x hx => ?_) hb
    have := List.eq_of_mem_replicate hx
    omega
  have lz : (List.replicate (32 - d.length) 0 ++ d).length = 32 := by simp; omega
  have ez : mkS (List.replicate (32 - d.length) 0) ++ mkS d = mkS (List.replicate (32 - d.length) 0 ++ d) := mkS_app _ _
  have pv : pn 8 (bt (mkS (List.replicate (32 - d.length) 0 ++ d))) 32 = beV d := by
    have := pn_beV (bt (mkS (List.replicate (32 - d.length) 0 ++ d))) (List.replicate (32 - d.length) 0 ++ d) (fun i hi => by rw [bt_sL, sL_mkS _ bz])
    rw [lz, beV_zeros] at this
    exact this
  obtain ⟨C, hC, MK⟩ := madeN (32 - d.length) (by omega)
  refine rti_y s (mkS d) (mkS (List.replicate (32 - d.length) 0)) (mkS (List.replicate (32 - d.length) 0 ++ d)) C (lim (beV d) 0) (lim (beV d) 1) (lim (beV d) 2) (lim (beV d) 3) hs hm ((tiOk_is s hs).2 h2) (by rw [zb]; exact h3) (32 - d.length) (by rw [zb]; omega) (by rw [mkS_size]; simp) eB MK (fun W => ?_) (fun W => by rw [← ez]; exact add_s _ _ (by rw [mkS_size, mkS_size]; simp; omega) W) (fun W => ?_) w
  · refine convG (W.alloc (.cells C 5)) W.heap.size (32 - d.length) (List.replicate (32 - d.length) 0) (by simp) (fun j hj => ?_)
    have e := hC j hj
    rw [World.cell?_alloc_at (w := W) C 5 _ j rfl, e, List.getD_eq_getElem?_getD, List.getElem?_replicate, if_pos hj]; rfl
  · have := refFromBig_yes (mkS (List.replicate (32 - d.length) 0 ++ d)) (by rw [mkS_size]; exact lz) W
    rw [pv] at this
    exact this
end Go.Proofs.YtjdpeedghpblgaaGreatDoor
