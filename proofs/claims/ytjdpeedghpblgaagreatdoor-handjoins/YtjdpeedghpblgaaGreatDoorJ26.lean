/- Package hand: which messages can be. -/
import Derived.Test.YtjdpeedghpblgaaGreatDoorJ25
import Derived.Test.YtjdpeedghpblgaaGreatDoorJ24
set_option linter.all false
set_option maxRecDepth 100000
namespace Go.Proofs.YtjdpeedghpblgaaGreatDoor
open Go.RowKit Go.Sort Go.Shelf
theorem isWord_b (s : ByteArray) (b : Bool) (h : decide (s.size = 32) = b) (w : World) : Calls Tryz.prog 69 #[.string s] w fun e w' => e = .returned (.bool b) ∧ w' = w := by
  have e : (((s.size : Nat) : Int) == 32) = b := by
    rw [← h]
    by_cases c : s.size = 32
    · rw [decide_eq_true c, c]; rfl
    · have : ¬ ((s.size : Nat) : Int) = 32 := by omega
      rw [decide_eq_false c]; simpa using this
  go_enter Tryz.func69, Tryz.ntmps69
  go_wp2
  go_ret
  refine ⟨?_, rfl⟩
  first | (rw [← e]; rfl) | (simp [← e])
theorem isSession_b (s : ByteArray) (b : Bool) (h : decide (s.size ≤ 32) = b) (w : World) : Calls Tryz.prog 70 #[.string s] w fun e w' => e = .returned (.bool b) ∧ w' = w := by
  have e : decide (((s.size : Nat) : Int) ≤ 32) = b := by
    rw [← h]
    by_cases c : s.size ≤ 32
    · rw [decide_eq_true c]; exact decide_eq_true (by omega)
    · rw [decide_eq_false c]; exact decide_eq_false (by omega)
  go_enter Tryz.func70, Tryz.ntmps70
  go_wp2
  go_ret
  refine ⟨?_, rfl⟩
  first | (rw [← e]; rfl) | (simp [← e])
theorem isAlpn_b (s : ByteArray) (b : Bool) (h : decide (s.size ≠ 0 ∧ s.size ≤ 32) = b) (w : World) : Calls Tryz.prog 72 #[.string s] w fun e w' => e = .returned (.bool b) ∧ w' = w := by
  by_cases c : s.size = 0
  · have e := nS_size c
    subst e
    rw [← h]
    go_enter Tryz.func72, Tryz.ntmps72
    go_wp2
    go_ret
    exact ⟨rfl, rfl⟩
  · have d := no_mt c
    have e : decide (((s.size : Nat) : Int) ≤ 32) = b := by
      rw [← h]
      by_cases c2 : s.size ≤ 32
      · rw [decide_eq_true (show s.size ≠ 0 ∧ s.size ≤ 32 from ⟨c, c2⟩)]; exact decide_eq_true (by omega)
      · rw [decide_eq_false (fun q : s.size ≠ 0 ∧ s.size ≤ 32 => c2 q.2)]; exact decide_eq_false (by omega)
    go_enter Tryz.func72, Tryz.ntmps72
    go_wp2
    go_ret
    refine ⟨?_, rfl⟩
    first | (rw [← e]; rfl) | (simp [← e])
set_option maxHeartbeats 1000000 in
theorem isName_b (s : ByteArray) (hz : s.size ≤ maxLen) (b : Bool) (h : hoB s = b) (w : World) : Calls Tryz.prog 71 #[.string s] w fun e w' => e = .returned (.bool b) ∧ w' = w := by
  have HB : Hid (hoB s = b) := h
  clear h
  have zz : (s.size : Int) ≤ 9223372036854775807 := by unfold maxLen at hz; omega
  go_enter Tryz.func71, Tryz.ntmps71
  go_wp2_with fail
  go_loop [6] (fun i => ∃ j : Nat, j ≤ s.size ∧ i = .int .i64 (j : Int) ∧ Hid (∀ q, q < j → 33 ≤ bt s q ∧ bt s q ≤ 126)) (fun i => s.size - (Go.RowKit.intOf i).toNat)
  case atStart => exact ⟨0, by omega, rfl, fun q hq => absurd hq (Nat.not_lt_zero _)⟩
  case round =>
    obtain ⟨j, hj, rfl, hH⟩ := hrel
    have j0 : (0 : Int) ≤ (j : Int) := by omega
    by_cases hlt : j < s.size
    · have j1 : (j : Int) < (s.size : Int) := by omega
      have I := fun W => idxS s j hlt W
      have bb := bt_bd s j
      by_cases g1 : bt s j < 33
      · have eb : b = false := by rw [← HB.out]; unfold hoB; exact decide_eq_false (fun q => by have := q.2.2 j hlt; omega)
        subst eb
        generalize bt s j = y at *
        go_wp2_with fail
        go_ret
        exact ⟨rfl, rfl⟩
      · by_cases g2 : 126 < bt s j
        · have eb : b = false := by rw [← HB.out]; unfold hoB; exact decide_eq_false (fun q => by have := q.2.2 j hlt; omega)
          subst eb
          generalize bt s j = y at *
          go_wp2_with fail
          go_ret
          exact ⟨rfl, rfl⟩
        · have HH : Hid (∀ q, q < j + 1 → 33 ≤ bt s q ∧ bt s q ≤ 126) := fun q hq => by
            by_cases e : q = j
            · subst e; omega
            · exact hH.out q (by omega)
          have g3 : ¬ bt s j > 126 := by omega
          generalize hy : bt s j = y at *
          clear hy hH
          go_wp2_with fail
          go_round
          case rel => exact ⟨j + 1, by omega, by go_num, HH⟩
          case measure => simp [Go.RowKit.intOf]; omega
    · have j1 : ¬ (j : Int) < (s.size : Int) := by omega
      have ej : j = s.size := by omega
      by_cases c : s.size = 0
      · have e := nS_size c
        subst e
        have eb : b = false := by rw [← HB.out]; rfl
        subst eb
        subst ej
        go_wp2_with fail
        go_ret
        exact ⟨rfl, rfl⟩
      · have d := no_mt c
        have eb : b = decide (((s.size : Nat) : Int) ≤ 64) := by
          rw [← HB.out]
          unfold hoB
          by_cases c2 : s.size ≤ 64
          · rw [decide_eq_true ⟨c, c2, fun q hq => hH.out q (by omega)⟩]; exact (decide_eq_true (by omega)).symm
          · rw [decide_eq_false (fun q => c2 q.2.1)]; exact (decide_eq_false (by omega)).symm
        have HEB : Hid _ := eb
        subst ej
        clear eb hH
        go_wp2_with fail
        go_ret
        refine ⟨?_, rfl⟩
        rw [HEB.out]; first | rfl | simp
def ceB (l : List ByteArray) : Bool := decide (l.length ≠ 0 ∧ l.length ≤ 4 ∧ ∀ c ∈ l, c.size ≠ 0 ∧ c.size ≤ 2048)
set_option maxHeartbeats 2000000 in
theorem areCerts_b (u : Value) (l : List ByteArray) (n9 : l.length ≤ 9223372036854775807) (z9 : ∀ t ∈ l, t.size ≤ 9223372036854775807) (b : Bool) (h : ceB l = b) (w : World) (hu : Txs w u l) :
    Calls Tryz.prog 80 #[u] w fun e w' => e = .returned (.bool b) ∧ w' = w := by
  obtain ⟨a0, c, rfl, f1⟩ := hu.form
  clear hu
  have HB : Hid (ceB l = b) := h
  have HF : Hid _ := f1
  have HZ : Hid _ := z9
  generalize hn : l.length = n at *
  have HN : Hid (l.length = n) := hn
  clear h f1 z9 hn
  go_enter Tryz.func80, Tryz.ntmps80
  go_wp2_with fail
  go_loop [7] (fun i => ∃ j : Nat, j ≤ n ∧ i = .int .i64 (j : Int) ∧ Hid (∀ q t, q < j → l[q]? = some t → t.size ≠ 0 ∧ t.size ≤ 2048)) (fun i => n - (Go.RowKit.intOf i).toNat)
  case atStart => exact ⟨0, by omega, rfl, fun q t hq => absurd hq (Nat.not_lt_zero _)⟩
  case round =>
    obtain ⟨j, hj, rfl, hH⟩ := hrel
    have j0 : (0 : Int) ≤ (j : Int) := by omega
    by_cases hlt : j < n
    · have j1 : (j : Int) < (n : Int) := by omega
      obtain ⟨s, hs⟩ : ∃ s, l[j]? = some s := ⟨_, List.getElem?_eq_getElem (by rw [HN.out]; exact hlt)⟩
      obtain ⟨bb, hb, _, g1⟩ := HF.out j s hs
      subst hb
      have zs := HZ.out s (List.mem_of_getElem? hs)
      have zi : (s.size : Int) ≤ 9223372036854775807 := by omega
      by_cases c0 : s.size = 0
      · have eb : b = false := by rw [← HB.out]; unfold ceB; exact decide_eq_false (fun q => (q.2.2 s (List.mem_of_getElem? hs)).1 c0)
        subst eb
        have e := nS_size c0
        subst e
        clear hs hH HZ HF HN
        go_wp2_with fail
        go_ret
        exact ⟨rfl, rfl⟩
      · have d := no_mt c0
        by_cases c2 : s.size ≤ 2048
        · have HH : Hid (∀ q t, q < j + 1 → l[q]? = some t → t.size ≠ 0 ∧ t.size ≤ 2048) := fun q t hq ht => by
            by_cases e : q = j
            · subst e; rw [hs] at ht; cases ht; exact ⟨c0, c2⟩
            · exact hH.out q t (by omega) ht
          have i2 : ¬ (2048 : Int) < (s.size : Int) := by omega
          clear hs hH HZ HF HN
          go_wp2_with fail
          go_round
          case rel => exact ⟨j + 1, by omega, by go_num, HH⟩
          case measure => simp [Go.RowKit.intOf]; omega
        · have eb : b = false := by rw [← HB.out]; unfold ceB; exact decide_eq_false (fun q => c2 (q.2.2 s (List.mem_of_getElem? hs)).2)
          subst eb
          have i2 : (2048 : Int) < (s.size : Int) := by omega
          clear hs hH HZ HF HN
          go_wp2_with fail
          go_ret
          exact ⟨rfl, rfl⟩
    · have j1 : ¬ (j : Int) < (n : Int) := by omega
      have ej : j = n := by omega
      have all : ∀ c ∈ l, c.size ≠ 0 ∧ c.size ≤ 2048 := fun c hc => by
        obtain ⟨q, hq⟩ := List.getElem?_of_mem hc
        exact hH.out q c (by have := (List.getElem?_eq_some_iff.1 hq).1; have := HN.out; omega) hq
      have eb : b = decide (n ≠ 0 ∧ n ≤ 4) := by
        rw [← HB.out]
        unfold ceB
        rw [HN.out]
        by_cases c : n ≠ 0 ∧ n ≤ 4
        · rw [decide_eq_true c, decide_eq_true ⟨c.1, c.2, all⟩]
        · rw [decide_eq_false c, decide_eq_false (fun q => c ⟨q.1, q.2.1⟩)]
      have HEB : Hid _ := eb
      subst ej
      clear eb hH HZ HF HN all HB
      by_cases c1 : j = 0
      · subst c1
        go_wp2_with fail
        go_ret
        exact ⟨by rw [HEB.out]; rfl, rfl⟩
      · have i1 : (1 : Int) ≤ (j : Int) := by omega
        by_cases c2 : j ≤ 4
        · have i2 : (j : Int) ≤ 4 := by omega
          have e : b = true := by rw [HEB.out]; exact decide_eq_true ⟨c1, c2⟩
          subst e
          clear HEB
          go_wp2_with fail
          go_ret
          exact ⟨rfl, rfl⟩
        · have i2 : ¬ (j : Int) ≤ 4 := by omega
          have e : b = false := by rw [HEB.out]; exact decide_eq_false (fun q => c2 q.2)
          subst e
          clear HEB
          go_wp2_with fail
          go_ret
          exact ⟨rfl, rfl⟩
end Go.Proofs.YtjdpeedghpblgaaGreatDoor
