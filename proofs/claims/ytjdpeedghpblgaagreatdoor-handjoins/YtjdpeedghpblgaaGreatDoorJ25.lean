/- Package hand: slices.Equal, Same. -/
import Derived.Test.YtjdpeedghpblgaaGreatDoorJ23
import Derived.Test.YtjdpeedghpblgaaGreatDoorJ7
set_option linter.all false
set_option maxRecDepth 100000
namespace Go.Proofs.YtjdpeedghpblgaaGreatDoor
open Go.RowKit Go.Sort Go.Shelf
set_option maxHeartbeats 4000000 in
theorem equal_any (u v : Value) (l1 l2 : List ByteArray) (n9 : l1.length ≤ 9223372036854775807) (w : World) (hu : Txs w u l1) (hv : Txs w v l2) :
    Calls Tryz.prog 32 #[u, v] w fun e w' => e = .returned (.bool (decide (l1 = l2))) ∧ Below w.heap.size w w' := by
  obtain ⟨a0, c, rfl, f1⟩ := hu.form
  obtain ⟨b0, c', rfl, f2⟩ := hv.form
  clear hu hv
  by_cases hl : l1.length = l2.length
  · obtain ⟨r, hr⟩ : ∃ r : Bool, r = decide (l1 = l2) := ⟨_, rfl⟩
    rw [← hr]
    have HD : Hid (r = decide (l1 = l2)) := hr
    have HD1 : Hid _ := f1
    have HD2 : Hid _ := f2
    rw [← hl]
    have HL2 : Hid (l2.length = l1.length) := hl.symm
    have HL1 : Hid (l1.length = l1.length) := rfl
    clear hr f1 f2 hl
    generalize hn : l1.length = n at *
    have HN : Hid (l1.length = n) := hn
    clear hn HL1
    go_enter Tryz.func32, Tryz.ntmps32
    go_wp2_with fail
    go_loopw [13] (fun i wr => ∃ j : Nat, j ≤ n ∧ i = .int .i64 (j : Int) ∧ Below w.heap.size w wr ∧ Hid (l1.take j = l2.take j)) (fun i _ => n - (Go.RowKit.intOf i).toNat)
    case atStart => exact ⟨0, by omega, rfl, Below.refl _ _, by show _ = _; rw [List.take_zero, List.take_zero]⟩
    case round =>
      obtain ⟨j, hj, rfl, hB, ht⟩ := hrel
      have j0 : (0 : Int) ≤ (j : Int) := by omega
      by_cases hlt : j < n
      · have j1 : (j : Int) < (n : Int) := by omega
        obtain ⟨s, hs⟩ : ∃ s, l1[j]? = some s := ⟨_, List.getElem?_eq_getElem (by rw [HN.out]; exact hlt)⟩
        obtain ⟨t, hu⟩ : ∃ t, l2[j]? = some t := ⟨_, List.getElem?_eq_getElem (by rw [HL2.out]; exact hlt)⟩
        obtain ⟨b, hb, _, g1⟩ := HD1.out j s hs
        obtain ⟨b', hb', _, g2⟩ := HD2.out j t hu
        replace g1 := (hB.cell (block_lt_of_cell g1)).trans g1
        replace g2 := (hB.cell (block_lt_of_cell g2)).trans g2
        subst hb hb'
        have r2 := fun ds os => cell_regrown g1 ds os
        have r3 := fun ds os => cell_regrown g2 ds os
        by_cases hst : s = t
        · subst hst
          have HT : Hid (l1.take (j + 1) = l2.take (j + 1)) := by
            show _ = _
            rw [List.take_add_one, List.take_add_one, ht.out, hs, hu]
          clear hs hu ht
          go_wp2_with fail
          refine wp_region_quiet_below (by kernel_rfl) (by kernel_rfl) ?_
          repeat (go_big_quiet_step (fail))
          refine wpQuiet_nil ?_
          intro w3 hw'
          obtain ⟨⟨dq, osq⟩, hw''⟩ := hw'
          have hb3 := below_of hw''
          clear hw''
          go_wp2_with fail
          exact ⟨⟨j + 1, by omega, by go_num, Bel.call hB hb3, HT⟩, by simp [Go.RowKit.intOf]; omega⟩
        · have h2 := txt_ne hst
          have er : r = false := by
            rw [HD.out]
            refine decide_eq_false fun e => hst ?_
            rw [e, hu] at hs
            exact (Option.some.inj hs).symm
          subst er
          clear hs hu ht hst
          go_wp2_with fail
          refine wp_region_quiet_below (by kernel_rfl) (by kernel_rfl) ?_
          repeat (go_big_quiet_step (fail))
          refine wpQuiet_nil ?_
          intro w3 hw'
          obtain ⟨⟨dq, osq⟩, hw''⟩ := hw'
          have hb3 := below_of hw''
          clear hw''
          go_wp2_with fail
          go_ret
          exact ⟨rfl, Bel.call hB hb3⟩
      · have j1 : ¬ (j : Int) < (n : Int) := by omega
        have er : r = true := by
          rw [HD.out]
          refine decide_eq_true ?_
          have := ht.out
          rwa [List.take_of_length_le (by rw [HN.out]; omega), List.take_of_length_le (by rw [HL2.out]; omega)] at this
        subst er
        clear ht
        go_wp2_with fail
        go_ret
        exact ⟨rfl, hB⟩
  · have hl2 : ¬ ((l1.length : Nat) : Int) = ((l2.length : Nat) : Int) := by omega
    have hl3 : (((l1.length : Nat) : Int) == ((l2.length : Nat) : Int)) = false := by simpa using hl2
    rw [decide_eq_false (fun e => hl (by rw [e]))]
    clear f1 f2
    go_enter Tryz.func32, Tryz.ntmps32
    go_wp2_with fail
    go_ret
    exact ⟨rfl, Below.refl _ _⟩
set_option maxHeartbeats 4000000 in
theorem hSame_0 (k l : Int) (a1 a2 a3 a4 a5 b1 b2 b3 b4 b5 am bm : ByteArray) (a0 b0 : Option Addr) (n c n' c' : Nat) (x0 x1 x2 x3 x4 x5 x6 x7 y0 y1 y2 y3 y4 y5 y6 y7 : Int) (h : ¬ k = l) (w : World)  :
    Calls Tryz.prog 15 #[.agg #[.int .i64 k, .string a1, .string a2, .string a3, .string a4, .string a5, .slice a0 n c, .int .u64 x0, .int .u64 x1, .int .u64 x2, .int .u64 x3, .int .u64 x4, .int .u64 x5, .int .u64 x6, .int .u64 x7, .string am], .agg #[.int .i64 l, .string b1, .string b2, .string b3, .string b4, .string b5, .slice b0 n' c', .int .u64 y0, .int .u64 y1, .int .u64 y2, .int .u64 y3, .int .u64 y4, .int .u64 y5, .int .u64 y6, .int .u64 y7, .string bm]] w fun e w' => e = .returned (.bool false) ∧ Below w.heap.size w w' := by
  have h2 : (k == l) = false := by simpa using h
  go_enter Tryz.func15, Tryz.ntmps15
  go_wp2
  go_ret
  refine ⟨rfl, by go_grown⟩
set_option maxHeartbeats 4000000 in
theorem hSame_1 (k l : Int) (a1 a2 a3 a4 a5 b1 b2 b3 b4 b5 am bm : ByteArray) (a0 b0 : Option Addr) (n c n' c' : Nat) (x0 x1 x2 x3 x4 x5 x6 x7 y0 y1 y2 y3 y4 y5 y6 y7 : Int) (h : a1 ≠ b1) (w : World)  :
    Calls Tryz.prog 15 #[.agg #[.int .i64 k, .string a1, .string a2, .string a3, .string a4, .string a5, .slice a0 n c, .int .u64 x0, .int .u64 x1, .int .u64 x2, .int .u64 x3, .int .u64 x4, .int .u64 x5, .int .u64 x6, .int .u64 x7, .string am], .agg #[.int .i64 k, .string b1, .string b2, .string b3, .string b4, .string b5, .slice b0 n' c', .int .u64 y0, .int .u64 y1, .int .u64 y2, .int .u64 y3, .int .u64 y4, .int .u64 y5, .int .u64 y6, .int .u64 y7, .string bm]] w fun e w' => e = .returned (.bool false) ∧ Below w.heap.size w w' := by
  have h2 := txt_ne h
  clear h
  go_enter Tryz.func15, Tryz.ntmps15
  go_wp2
  go_ret
  refine ⟨rfl, by go_grown⟩
set_option maxHeartbeats 4000000 in
theorem hSame_2 (k l : Int) (a1 a2 a3 a4 a5 b1 b2 b3 b4 b5 am bm : ByteArray) (a0 b0 : Option Addr) (n c n' c' : Nat) (x0 x1 x2 x3 x4 x5 x6 x7 y0 y1 y2 y3 y4 y5 y6 y7 : Int) (h : a2 ≠ b2) (w : World)  :
    Calls Tryz.prog 15 #[.agg #[.int .i64 k, .string a1, .string a2, .string a3, .string a4, .string a5, .slice a0 n c, .int .u64 x0, .int .u64 x1, .int .u64 x2, .int .u64 x3, .int .u64 x4, .int .u64 x5, .int .u64 x6, .int .u64 x7, .string am], .agg #[.int .i64 k, .string a1, .string b2, .string b3, .string b4, .string b5, .slice b0 n' c', .int .u64 y0, .int .u64 y1, .int .u64 y2, .int .u64 y3, .int .u64 y4, .int .u64 y5, .int .u64 y6, .int .u64 y7, .string bm]] w fun e w' => e = .returned (.bool false) ∧ Below w.heap.size w w' := by
  have h2 := txt_ne h
  clear h
  go_enter Tryz.func15, Tryz.ntmps15
  go_wp2
  go_ret
  refine ⟨rfl, by go_grown⟩
set_option maxHeartbeats 4000000 in
theorem hSame_3 (k l : Int) (a1 a2 a3 a4 a5 b1 b2 b3 b4 b5 am bm : ByteArray) (a0 b0 : Option Addr) (n c n' c' : Nat) (x0 x1 x2 x3 x4 x5 x6 x7 y0 y1 y2 y3 y4 y5 y6 y7 : Int) (h : a3 ≠ b3) (w : World)  :
    Calls Tryz.prog 15 #[.agg #[.int .i64 k, .string a1, .string a2, .string a3, .string a4, .string a5, .slice a0 n c, .int .u64 x0, .int .u64 x1, .int .u64 x2, .int .u64 x3, .int .u64 x4, .int .u64 x5, .int .u64 x6, .int .u64 x7, .string am], .agg #[.int .i64 k, .string a1, .string a2, .string b3, .string b4, .string b5, .slice b0 n' c', .int .u64 y0, .int .u64 y1, .int .u64 y2, .int .u64 y3, .int .u64 y4, .int .u64 y5, .int .u64 y6, .int .u64 y7, .string bm]] w fun e w' => e = .returned (.bool false) ∧ Below w.heap.size w w' := by
  have h2 := txt_ne h
  clear h
  go_enter Tryz.func15, Tryz.ntmps15
  go_wp2
  go_ret
  refine ⟨rfl, by go_grown⟩
set_option maxHeartbeats 4000000 in
theorem hSame_4 (k l : Int) (a1 a2 a3 a4 a5 b1 b2 b3 b4 b5 am bm : ByteArray) (a0 b0 : Option Addr) (n c n' c' : Nat) (x0 x1 x2 x3 x4 x5 x6 x7 y0 y1 y2 y3 y4 y5 y6 y7 : Int) (h : a4 ≠ b4) (w : World)  :
    Calls Tryz.prog 15 #[.agg #[.int .i64 k, .string a1, .string a2, .string a3, .string a4, .string a5, .slice a0 n c, .int .u64 x0, .int .u64 x1, .int .u64 x2, .int .u64 x3, .int .u64 x4, .int .u64 x5, .int .u64 x6, .int .u64 x7, .string am], .agg #[.int .i64 k, .string a1, .string a2, .string a3, .string b4, .string b5, .slice b0 n' c', .int .u64 y0, .int .u64 y1, .int .u64 y2, .int .u64 y3, .int .u64 y4, .int .u64 y5, .int .u64 y6, .int .u64 y7, .string bm]] w fun e w' => e = .returned (.bool false) ∧ Below w.heap.size w w' := by
  have h2 := txt_ne h
  clear h
  go_enter Tryz.func15, Tryz.ntmps15
  go_wp2
  go_ret
  refine ⟨rfl, by go_grown⟩
set_option maxHeartbeats 4000000 in
theorem hSame_5 (k l : Int) (a1 a2 a3 a4 a5 b1 b2 b3 b4 b5 am bm : ByteArray) (a0 b0 : Option Addr) (n c n' c' : Nat) (x0 x1 x2 x3 x4 x5 x6 x7 y0 y1 y2 y3 y4 y5 y6 y7 : Int) (h : a5 ≠ b5) (w : World)  :
    Calls Tryz.prog 15 #[.agg #[.int .i64 k, .string a1, .string a2, .string a3, .string a4, .string a5, .slice a0 n c, .int .u64 x0, .int .u64 x1, .int .u64 x2, .int .u64 x3, .int .u64 x4, .int .u64 x5, .int .u64 x6, .int .u64 x7, .string am], .agg #[.int .i64 k, .string a1, .string a2, .string a3, .string a4, .string b5, .slice b0 n' c', .int .u64 y0, .int .u64 y1, .int .u64 y2, .int .u64 y3, .int .u64 y4, .int .u64 y5, .int .u64 y6, .int .u64 y7, .string bm]] w fun e w' => e = .returned (.bool false) ∧ Below w.heap.size w w' := by
  have h2 := txt_ne h
  clear h
  go_enter Tryz.func15, Tryz.ntmps15
  go_wp2
  go_ret
  refine ⟨rfl, by go_grown⟩
set_option maxHeartbeats 4000000 in
theorem hSame_6 (k l : Int) (a1 a2 a3 a4 a5 b1 b2 b3 b4 b5 am bm : ByteArray) (a0 b0 : Option Addr) (n c n' c' : Nat) (x0 x1 x2 x3 x4 x5 x6 x7 y0 y1 y2 y3 y4 y5 y6 y7 : Int)  (w : World) (C : ∀ W, Below w.heap.size w W → Calls Tryz.prog 32 #[.slice a0 n c, .slice b0 n' c'] W fun e w' => e = .returned (.bool false) ∧ Below W.heap.size W w') :
    Calls Tryz.prog 15 #[.agg #[.int .i64 k, .string a1, .string a2, .string a3, .string a4, .string a5, .slice a0 n c, .int .u64 x0, .int .u64 x1, .int .u64 x2, .int .u64 x3, .int .u64 x4, .int .u64 x5, .int .u64 x6, .int .u64 x7, .string am], .agg #[.int .i64 k, .string a1, .string a2, .string a3, .string a4, .string a5, .slice b0 n' c', .int .u64 y0, .int .u64 y1, .int .u64 y2, .int .u64 y3, .int .u64 y4, .int .u64 y5, .int .u64 y6, .int .u64 y7, .string bm]] w fun e w' => e = .returned (.bool false) ∧ Below w.heap.size w w' := by
  go_enter Tryz.func15, Tryz.ntmps15
  have hB : ∀ o1 o2 : Obj, Below w.heap.size w ((w.alloc o1).alloc o2) := fun o1 o2 => by go_grown
  go_wp2_with fail
  refine (C _ (hB _ _)).mono ?_
  rintro e w' ⟨rfl, hb⟩
  replace hb := Bel.call (hB _ _) hb
  clear hB C
  go_wp2
  go_ret
  exact ⟨rfl, hb⟩
set_option maxHeartbeats 4000000 in
theorem hSame_7 (k l : Int) (a1 a2 a3 a4 a5 b1 b2 b3 b4 b5 am bm : ByteArray) (a0 b0 : Option Addr) (n c n' c' : Nat) (x0 x1 x2 x3 x4 x5 x6 x7 y0 y1 y2 y3 y4 y5 y6 y7 : Int) (Q : ∀ W : World, (Op.equalIn 10000 27 (.agg #[.int .u64 x0, .int .u64 x1, .int .u64 x2, .int .u64 x3, .int .u64 x4, .int .u64 x5, .int .u64 x6, .int .u64 x7]) (.agg #[.int .u64 y0, .int .u64 y1, .int .u64 y2, .int .u64 y3, .int .u64 y4, .int .u64 y5, .int .u64 y6, .int .u64 y7])).run Tryz.prog W = .ok false W) (w : World) (C : ∀ W, Below w.heap.size w W → Calls Tryz.prog 32 #[.slice a0 n c, .slice b0 n' c'] W fun e w' => e = .returned (.bool true) ∧ Below W.heap.size W w') :
    Calls Tryz.prog 15 #[.agg #[.int .i64 k, .string a1, .string a2, .string a3, .string a4, .string a5, .slice a0 n c, .int .u64 x0, .int .u64 x1, .int .u64 x2, .int .u64 x3, .int .u64 x4, .int .u64 x5, .int .u64 x6, .int .u64 x7, .string am], .agg #[.int .i64 k, .string a1, .string a2, .string a3, .string a4, .string a5, .slice b0 n' c', .int .u64 y0, .int .u64 y1, .int .u64 y2, .int .u64 y3, .int .u64 y4, .int .u64 y5, .int .u64 y6, .int .u64 y7, .string bm]] w fun e w' => e = .returned (.bool false) ∧ Below w.heap.size w w' := by
  go_enter Tryz.func15, Tryz.ntmps15
  have hB : ∀ o1 o2 : Obj, Below w.heap.size w ((w.alloc o1).alloc o2) := fun o1 o2 => by go_grown
  go_wp2_with fail
  refine (C _ (hB _ _)).mono ?_
  rintro e w' ⟨rfl, hb⟩
  have c7 : w'.cell? ⟨w.heap.size, 7, none⟩ = some (.int .u64 x0) := (hb.cell (p := ⟨w.heap.size, 7, none⟩) (by simp only [World.size_alloc]; omega)).trans (by simp [go_sem])
  have d7 : w'.cell? ⟨w.heap.size + 1, 7, none⟩ = some (.int .u64 y0) := (hb.cell (p := ⟨w.heap.size + 1, 7, none⟩) (by simp only [World.size_alloc]; omega)).trans (by simp [go_sem])
  have c8 : w'.cell? ⟨w.heap.size, 8, none⟩ = some (.int .u64 x1) := (hb.cell (p := ⟨w.heap.size, 8, none⟩) (by simp only [World.size_alloc]; omega)).trans (by simp [go_sem])
  have d8 : w'.cell? ⟨w.heap.size + 1, 8, none⟩ = some (.int .u64 y1) := (hb.cell (p := ⟨w.heap.size + 1, 8, none⟩) (by simp only [World.size_alloc]; omega)).trans (by simp [go_sem])
  have c9 : w'.cell? ⟨w.heap.size, 9, none⟩ = some (.int .u64 x2) := (hb.cell (p := ⟨w.heap.size, 9, none⟩) (by simp only [World.size_alloc]; omega)).trans (by simp [go_sem])
  have d9 : w'.cell? ⟨w.heap.size + 1, 9, none⟩ = some (.int .u64 y2) := (hb.cell (p := ⟨w.heap.size + 1, 9, none⟩) (by simp only [World.size_alloc]; omega)).trans (by simp [go_sem])
  have c10 : w'.cell? ⟨w.heap.size, 10, none⟩ = some (.int .u64 x3) := (hb.cell (p := ⟨w.heap.size, 10, none⟩) (by simp only [World.size_alloc]; omega)).trans (by simp [go_sem])
  have d10 : w'.cell? ⟨w.heap.size + 1, 10, none⟩ = some (.int .u64 y3) := (hb.cell (p := ⟨w.heap.size + 1, 10, none⟩) (by simp only [World.size_alloc]; omega)).trans (by simp [go_sem])
  have c11 : w'.cell? ⟨w.heap.size, 11, none⟩ = some (.int .u64 x4) := (hb.cell (p := ⟨w.heap.size, 11, none⟩) (by simp only [World.size_alloc]; omega)).trans (by simp [go_sem])
  have d11 : w'.cell? ⟨w.heap.size + 1, 11, none⟩ = some (.int .u64 y4) := (hb.cell (p := ⟨w.heap.size + 1, 11, none⟩) (by simp only [World.size_alloc]; omega)).trans (by simp [go_sem])
  have c12 : w'.cell? ⟨w.heap.size, 12, none⟩ = some (.int .u64 x5) := (hb.cell (p := ⟨w.heap.size, 12, none⟩) (by simp only [World.size_alloc]; omega)).trans (by simp [go_sem])
  have d12 : w'.cell? ⟨w.heap.size + 1, 12, none⟩ = some (.int .u64 y5) := (hb.cell (p := ⟨w.heap.size + 1, 12, none⟩) (by simp only [World.size_alloc]; omega)).trans (by simp [go_sem])
  have c13 : w'.cell? ⟨w.heap.size, 13, none⟩ = some (.int .u64 x6) := (hb.cell (p := ⟨w.heap.size, 13, none⟩) (by simp only [World.size_alloc]; omega)).trans (by simp [go_sem])
  have d13 : w'.cell? ⟨w.heap.size + 1, 13, none⟩ = some (.int .u64 y6) := (hb.cell (p := ⟨w.heap.size + 1, 13, none⟩) (by simp only [World.size_alloc]; omega)).trans (by simp [go_sem])
  have c14 : w'.cell? ⟨w.heap.size, 14, none⟩ = some (.int .u64 x7) := (hb.cell (p := ⟨w.heap.size, 14, none⟩) (by simp only [World.size_alloc]; omega)).trans (by simp [go_sem])
  have d14 : w'.cell? ⟨w.heap.size + 1, 14, none⟩ = some (.int .u64 y7) := (hb.cell (p := ⟨w.heap.size + 1, 14, none⟩) (by simp only [World.size_alloc]; omega)).trans (by simp [go_sem])
  have c15 : w'.cell? ⟨w.heap.size, 15, none⟩ = some (.string am) := (hb.cell (p := ⟨w.heap.size, 15, none⟩) (by simp only [World.size_alloc]; omega)).trans (by simp [go_sem])
  have d15 : w'.cell? ⟨w.heap.size + 1, 15, none⟩ = some (.string bm) := (hb.cell (p := ⟨w.heap.size + 1, 15, none⟩) (by simp only [World.size_alloc]; omega)).trans (by simp [go_sem])
  replace hb := Bel.call (hB _ _) hb
  clear hB C
  go_wp2
  go_ret
  exact ⟨rfl, hb⟩
set_option maxHeartbeats 4000000 in
theorem hSame_8 (k l : Int) (a1 a2 a3 a4 a5 b1 b2 b3 b4 b5 am bm : ByteArray) (a0 b0 : Option Addr) (n c n' c' : Nat) (x0 x1 x2 x3 x4 x5 x6 x7 y0 y1 y2 y3 y4 y5 y6 y7 : Int) (h : am ≠ bm) (w : World) (C : ∀ W, Below w.heap.size w W → Calls Tryz.prog 32 #[.slice a0 n c, .slice b0 n' c'] W fun e w' => e = .returned (.bool true) ∧ Below W.heap.size W w') :
    Calls Tryz.prog 15 #[.agg #[.int .i64 k, .string a1, .string a2, .string a3, .string a4, .string a5, .slice a0 n c, .int .u64 x0, .int .u64 x1, .int .u64 x2, .int .u64 x3, .int .u64 x4, .int .u64 x5, .int .u64 x6, .int .u64 x7, .string am], .agg #[.int .i64 k, .string a1, .string a2, .string a3, .string a4, .string a5, .slice b0 n' c', .int .u64 x0, .int .u64 x1, .int .u64 x2, .int .u64 x3, .int .u64 x4, .int .u64 x5, .int .u64 x6, .int .u64 x7, .string bm]] w fun e w' => e = .returned (.bool false) ∧ Below w.heap.size w w' := by
  have h2 := txt_ne h
  clear h
  have Q := fun W => eqSg x0 x1 x2 x3 x4 x5 x6 x7 x0 x1 x2 x3 x4 x5 x6 x7 W
  simp only [beq_self_eq_true, Bool.and_self] at Q
  go_enter Tryz.func15, Tryz.ntmps15
  have hB : ∀ o1 o2 : Obj, Below w.heap.size w ((w.alloc o1).alloc o2) := fun o1 o2 => by go_grown
  go_wp2_with fail
  refine (C _ (hB _ _)).mono ?_
  rintro e w' ⟨rfl, hb⟩
  have c7 : w'.cell? ⟨w.heap.size, 7, none⟩ = some (.int .u64 x0) := (hb.cell (p := ⟨w.heap.size, 7, none⟩) (by simp only [World.size_alloc]; omega)).trans (by simp [go_sem])
  have d7 : w'.cell? ⟨w.heap.size + 1, 7, none⟩ = some (.int .u64 x0) := (hb.cell (p := ⟨w.heap.size + 1, 7, none⟩) (by simp only [World.size_alloc]; omega)).trans (by simp [go_sem])
  have c8 : w'.cell? ⟨w.heap.size, 8, none⟩ = some (.int .u64 x1) := (hb.cell (p := ⟨w.heap.size, 8, none⟩) (by simp only [World.size_alloc]; omega)).trans (by simp [go_sem])
  have d8 : w'.cell? ⟨w.heap.size + 1, 8, none⟩ = some (.int .u64 x1) := (hb.cell (p := ⟨w.heap.size + 1, 8, none⟩) (by simp only [World.size_alloc]; omega)).trans (by simp [go_sem])
  have c9 : w'.cell? ⟨w.heap.size, 9, none⟩ = some (.int .u64 x2) := (hb.cell (p := ⟨w.heap.size, 9, none⟩) (by simp only [World.size_alloc]; omega)).trans (by simp [go_sem])
  have d9 : w'.cell? ⟨w.heap.size + 1, 9, none⟩ = some (.int .u64 x2) := (hb.cell (p := ⟨w.heap.size + 1, 9, none⟩) (by simp only [World.size_alloc]; omega)).trans (by simp [go_sem])
  have c10 : w'.cell? ⟨w.heap.size, 10, none⟩ = some (.int .u64 x3) := (hb.cell (p := ⟨w.heap.size, 10, none⟩) (by simp only [World.size_alloc]; omega)).trans (by simp [go_sem])
  have d10 : w'.cell? ⟨w.heap.size + 1, 10, none⟩ = some (.int .u64 x3) := (hb.cell (p := ⟨w.heap.size + 1, 10, none⟩) (by simp only [World.size_alloc]; omega)).trans (by simp [go_sem])
  have c11 : w'.cell? ⟨w.heap.size, 11, none⟩ = some (.int .u64 x4) := (hb.cell (p := ⟨w.heap.size, 11, none⟩) (by simp only [World.size_alloc]; omega)).trans (by simp [go_sem])
  have d11 : w'.cell? ⟨w.heap.size + 1, 11, none⟩ = some (.int .u64 x4) := (hb.cell (p := ⟨w.heap.size + 1, 11, none⟩) (by simp only [World.size_alloc]; omega)).trans (by simp [go_sem])
  have c12 : w'.cell? ⟨w.heap.size, 12, none⟩ = some (.int .u64 x5) := (hb.cell (p := ⟨w.heap.size, 12, none⟩) (by simp only [World.size_alloc]; omega)).trans (by simp [go_sem])
  have d12 : w'.cell? ⟨w.heap.size + 1, 12, none⟩ = some (.int .u64 x5) := (hb.cell (p := ⟨w.heap.size + 1, 12, none⟩) (by simp only [World.size_alloc]; omega)).trans (by simp [go_sem])
  have c13 : w'.cell? ⟨w.heap.size, 13, none⟩ = some (.int .u64 x6) := (hb.cell (p := ⟨w.heap.size, 13, none⟩) (by simp only [World.size_alloc]; omega)).trans (by simp [go_sem])
  have d13 : w'.cell? ⟨w.heap.size + 1, 13, none⟩ = some (.int .u64 x6) := (hb.cell (p := ⟨w.heap.size + 1, 13, none⟩) (by simp only [World.size_alloc]; omega)).trans (by simp [go_sem])
  have c14 : w'.cell? ⟨w.heap.size, 14, none⟩ = some (.int .u64 x7) := (hb.cell (p := ⟨w.heap.size, 14, none⟩) (by simp only [World.size_alloc]; omega)).trans (by simp [go_sem])
  have d14 : w'.cell? ⟨w.heap.size + 1, 14, none⟩ = some (.int .u64 x7) := (hb.cell (p := ⟨w.heap.size + 1, 14, none⟩) (by simp only [World.size_alloc]; omega)).trans (by simp [go_sem])
  have c15 : w'.cell? ⟨w.heap.size, 15, none⟩ = some (.string am) := (hb.cell (p := ⟨w.heap.size, 15, none⟩) (by simp only [World.size_alloc]; omega)).trans (by simp [go_sem])
  have d15 : w'.cell? ⟨w.heap.size + 1, 15, none⟩ = some (.string bm) := (hb.cell (p := ⟨w.heap.size + 1, 15, none⟩) (by simp only [World.size_alloc]; omega)).trans (by simp [go_sem])
  replace hb := Bel.call (hB _ _) hb
  clear hB C
  go_wp2
  go_ret
  exact ⟨rfl, hb⟩
set_option maxHeartbeats 4000000 in
theorem hSame_9 (k l : Int) (a1 a2 a3 a4 a5 b1 b2 b3 b4 b5 am bm : ByteArray) (a0 b0 : Option Addr) (n c n' c' : Nat) (x0 x1 x2 x3 x4 x5 x6 x7 y0 y1 y2 y3 y4 y5 y6 y7 : Int)  (w : World) (C : ∀ W, Below w.heap.size w W → Calls Tryz.prog 32 #[.slice a0 n c, .slice b0 n' c'] W fun e w' => e = .returned (.bool true) ∧ Below W.heap.size W w') :
    Calls Tryz.prog 15 #[.agg #[.int .i64 k, .string a1, .string a2, .string a3, .string a4, .string a5, .slice a0 n c, .int .u64 x0, .int .u64 x1, .int .u64 x2, .int .u64 x3, .int .u64 x4, .int .u64 x5, .int .u64 x6, .int .u64 x7, .string am], .agg #[.int .i64 k, .string a1, .string a2, .string a3, .string a4, .string a5, .slice b0 n' c', .int .u64 x0, .int .u64 x1, .int .u64 x2, .int .u64 x3, .int .u64 x4, .int .u64 x5, .int .u64 x6, .int .u64 x7, .string am]] w fun e w' => e = .returned (.bool true) ∧ Below w.heap.size w w' := by
  have Q := fun W => eqSg x0 x1 x2 x3 x4 x5 x6 x7 x0 x1 x2 x3 x4 x5 x6 x7 W
  simp only [beq_self_eq_true, Bool.and_self] at Q
  go_enter Tryz.func15, Tryz.ntmps15
  have hB : ∀ o1 o2 : Obj, Below w.heap.size w ((w.alloc o1).alloc o2) := fun o1 o2 => by go_grown
  go_wp2_with fail
  refine (C _ (hB _ _)).mono ?_
  rintro e w' ⟨rfl, hb⟩
  have c7 : w'.cell? ⟨w.heap.size, 7, none⟩ = some (.int .u64 x0) := (hb.cell (p := ⟨w.heap.size, 7, none⟩) (by simp only [World.size_alloc]; omega)).trans (by simp [go_sem])
  have d7 : w'.cell? ⟨w.heap.size + 1, 7, none⟩ = some (.int .u64 x0) := (hb.cell (p := ⟨w.heap.size + 1, 7, none⟩) (by simp only [World.size_alloc]; omega)).trans (by simp [go_sem])
  have c8 : w'.cell? ⟨w.heap.size, 8, none⟩ = some (.int .u64 x1) := (hb.cell (p := ⟨w.heap.size, 8, none⟩) (by simp only [World.size_alloc]; omega)).trans (by simp [go_sem])
  have d8 : w'.cell? ⟨w.heap.size + 1, 8, none⟩ = some (.int .u64 x1) := (hb.cell (p := ⟨w.heap.size + 1, 8, none⟩) (by simp only [World.size_alloc]; omega)).trans (by simp [go_sem])
  have c9 : w'.cell? ⟨w.heap.size, 9, none⟩ = some (.int .u64 x2) := (hb.cell (p := ⟨w.heap.size, 9, none⟩) (by simp only [World.size_alloc]; omega)).trans (by simp [go_sem])
  have d9 : w'.cell? ⟨w.heap.size + 1, 9, none⟩ = some (.int .u64 x2) := (hb.cell (p := ⟨w.heap.size + 1, 9, none⟩) (by simp only [World.size_alloc]; omega)).trans (by simp [go_sem])
  have c10 : w'.cell? ⟨w.heap.size, 10, none⟩ = some (.int .u64 x3) := (hb.cell (p := ⟨w.heap.size, 10, none⟩) (by simp only [World.size_alloc]; omega)).trans (by simp [go_sem])
  have d10 : w'.cell? ⟨w.heap.size + 1, 10, none⟩ = some (.int .u64 x3) := (hb.cell (p := ⟨w.heap.size + 1, 10, none⟩) (by simp only [World.size_alloc]; omega)).trans (by simp [go_sem])
  have c11 : w'.cell? ⟨w.heap.size, 11, none⟩ = some (.int .u64 x4) := (hb.cell (p := ⟨w.heap.size, 11, none⟩) (by simp only [World.size_alloc]; omega)).trans (by simp [go_sem])
  have d11 : w'.cell? ⟨w.heap.size + 1, 11, none⟩ = some (.int .u64 x4) := (hb.cell (p := ⟨w.heap.size + 1, 11, none⟩) (by simp only [World.size_alloc]; omega)).trans (by simp [go_sem])
  have c12 : w'.cell? ⟨w.heap.size, 12, none⟩ = some (.int .u64 x5) := (hb.cell (p := ⟨w.heap.size, 12, none⟩) (by simp only [World.size_alloc]; omega)).trans (by simp [go_sem])
  have d12 : w'.cell? ⟨w.heap.size + 1, 12, none⟩ = some (.int .u64 x5) := (hb.cell (p := ⟨w.heap.size + 1, 12, none⟩) (by simp only [World.size_alloc]; omega)).trans (by simp [go_sem])
  have c13 : w'.cell? ⟨w.heap.size, 13, none⟩ = some (.int .u64 x6) := (hb.cell (p := ⟨w.heap.size, 13, none⟩) (by simp only [World.size_alloc]; omega)).trans (by simp [go_sem])
  have d13 : w'.cell? ⟨w.heap.size + 1, 13, none⟩ = some (.int .u64 x6) := (hb.cell (p := ⟨w.heap.size + 1, 13, none⟩) (by simp only [World.size_alloc]; omega)).trans (by simp [go_sem])
  have c14 : w'.cell? ⟨w.heap.size, 14, none⟩ = some (.int .u64 x7) := (hb.cell (p := ⟨w.heap.size, 14, none⟩) (by simp only [World.size_alloc]; omega)).trans (by simp [go_sem])
  have d14 : w'.cell? ⟨w.heap.size + 1, 14, none⟩ = some (.int .u64 x7) := (hb.cell (p := ⟨w.heap.size + 1, 14, none⟩) (by simp only [World.size_alloc]; omega)).trans (by simp [go_sem])
  have c15 : w'.cell? ⟨w.heap.size, 15, none⟩ = some (.string am) := (hb.cell (p := ⟨w.heap.size, 15, none⟩) (by simp only [World.size_alloc]; omega)).trans (by simp [go_sem])
  have d15 : w'.cell? ⟨w.heap.size + 1, 15, none⟩ = some (.string am) := (hb.cell (p := ⟨w.heap.size + 1, 15, none⟩) (by simp only [World.size_alloc]; omega)).trans (by simp [go_sem])
  replace hb := Bel.call (hB _ _) hb
  clear hB C
  go_wp2
  go_ret
  exact ⟨rfl, hb⟩
theorem hSame_any (m o : Mg) (hm : m.ok) (ho : o.ok) (u v : Value) (z1 : m.cs.length ≤ 9223372036854775807) (w : World) (hu : Txs w u m.cs) (hv : Txs w v o.cs) :
    Calls Tryz.prog 15 #[m.v u, o.v v] w fun e w' => e = .returned (.bool (smB m o)) ∧ Below w.heap.size w w' := by
  obtain ⟨k, rn, ss, sh, nm, al, cs, x, y, mc⟩ := m
  obtain ⟨k', rn', ss', sh', nm', al', cs', x', y', mc'⟩ := o
  obtain ⟨m0, m1, m2, m3⟩ := hm
  obtain ⟨o0, o1, o2, o3⟩ := ho
  unfold smB Mg.v
  simp only at *
  have C0 := fun W (hB : Below w.heap.size w W) => equal_any u v cs cs' z1 W (hu.to hB) (hv.to hB)
  obtain ⟨a0, c, rfl, f1⟩ := hu.form
  obtain ⟨b0, c', rfl, f2⟩ := hv.form
  have neg : ∀ {p : Prop} [Decidable p], ¬ p → decide p = false := fun h => decide_eq_false h
  by_cases h1 : k = k'
  case neg => rw [neg (fun h => h1 h.1)]; exact hSame_0 _ _ _ _ _ _ _ _ _ _ _ _ _ _ _ _ _ _ _ _ _ _ _ _ _ _ _ _ _ _ _ _ _ _ _ _ h1 w
  subst h1
  by_cases h2 : rn = rn'
  case neg => rw [neg (fun h => h2 h.2.1)]; exact hSame_1 _ 0 _ _ _ _ _ _ _ _ _ _ _ _ _ _ _ _ _ _ _ _ _ _ _ _ _ _ _ _ _ _ _ _ _ _ h2 w
  subst h2
  by_cases h3 : ss = ss'
  case neg => rw [neg (fun h => h3 h.2.2.1)]; exact hSame_2 _ 0 _ _ _ _ _ nS _ _ _ _ _ _ _ _ _ _ _ _ _ _ _ _ _ _ _ _ _ _ _ _ _ _ _ _ h3 w
  subst h3
  by_cases h4 : sh = sh'
  case neg => rw [neg (fun h => h4 h.2.2.2.1)]; exact hSame_3 _ 0 _ _ _ _ _ nS nS _ _ _ _ _ _ _ _ _ _ _ _ _ _ _ _ _ _ _ _ _ _ _ _ _ _ _ h4 w
  subst h4
  by_cases h5 : nm = nm'
  case neg => rw [neg (fun h => h5 h.2.2.2.2.1)]; exact hSame_4 _ 0 _ _ _ _ _ nS nS nS _ _ _ _ _ _ _ _ _ _ _ _ _ _ _ _ _ _ _ _ _ _ _ _ _ _ h5 w
  subst h5
  by_cases h6 : al = al'
  case neg => rw [neg (fun h => h6 h.2.2.2.2.2.1)]; exact hSame_5 _ 0 _ _ _ _ _ nS nS nS nS _ _ _ _ _ _ _ _ _ _ _ _ _ _ _ _ _ _ _ _ _ _ _ _ _ h6 w
  subst h6
  by_cases h10 : cs = cs'
  case neg =>
    rw [neg (fun h => h10 h.2.2.2.2.2.2.2.2.2)]
    rw [decide_eq_false h10] at C0
    exact hSame_6 _ 0 _ _ _ _ _ nS nS nS nS nS _ _ _ _ _ _ _ _ _ _ _ _ _ _ _ _ _ _ _ _ _ _ _ _ w C0
  rw [decide_eq_true h10] at C0
  by_cases h7 : x = x' ∧ y = y'
  case neg =>
    rw [neg (fun h => h7 ⟨h.2.2.2.2.2.2.1, h.2.2.2.2.2.2.2.1⟩)]
    refine hSame_7 _ 0 _ _ _ _ _ nS nS nS nS nS _ _ _ _ _ _ _ _ _ _ _ _ _ _ _ _ _ _ _ _ _ _ _ _ ?_ w C0
    cases hq : ((lim x 0 == lim x' 0 && (lim x 1 == lim x' 1 && (lim x 2 == lim x' 2 && lim x 3 == lim x' 3))) && (lim y 0 == lim y' 0 && (lim y 1 == lim y' 1 && (lim y 2 == lim y' 2 && lim y 3 == lim y' 3))))
    · intro W; rw [eqSg, hq]
    · simp only [Bool.and_eq_true, beq_iff_eq] at hq
      obtain ⟨⟨a0, a1, a2, a3⟩, b0, b1, b2, b3⟩ := hq
      exact absurd ⟨lim_all m0 m1 o0 o1 a0 a1 a2 a3, lim_all m2 m3 o2 o3 b0 b1 b2 b3⟩ h7
  obtain ⟨h7, h8⟩ := h7
  subst h7 h8
  by_cases h9 : mc = mc'
  case neg => rw [neg (fun h => h9 h.2.2.2.2.2.2.2.2.1)]; exact hSame_8 _ 0 _ _ _ _ _ nS nS nS nS nS _ _ _ _ _ _ _ _ _ _ _ _ _ _ _ _ 0 0 0 0 0 0 0 0 h9 w C0
  subst h9
  rw [decide_eq_true ⟨rfl, rfl, rfl, rfl, rfl, rfl, rfl, rfl, rfl, h10⟩]
  exact hSame_9 _ 0 _ _ _ _ _ nS nS nS nS nS _ nS _ _ _ _ _ _ _ _ _ _ _ _ _ _ 0 0 0 0 0 0 0 0 w C0
end Go.Proofs.YtjdpeedghpblgaaGreatDoor
