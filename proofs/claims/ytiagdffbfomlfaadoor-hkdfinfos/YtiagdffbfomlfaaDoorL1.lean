/- What the laws' own helpers answer: short, run. -/
import Derived.Test.YtiagdffbfomlfaaDoorH8
set_option linter.all false
set_option maxRecDepth 100000
namespace Go.Proofs.YtiagdffbfomlfaaDoor
open Go.RowKit Go.Sort
/-- Are the first n texts all short? -/
def allB (g : Nat → ByteArray) (n : Nat) : Bool := (List.range n).all fun j => decide ((g j).size ≤ 5000)
theorem allB_yes {g : Nat → ByteArray} {n : Nat} (h : ∀ j, j < n → (g j).size ≤ 5000) : allB g n = true := by
  unfold allB
  rw [List.all_eq_true]
  intro j hj
  simpa using h j (List.mem_range.1 hj)
theorem allB_no {g : Nat → ByteArray} {n k : Nat} (hk : k < n) (h : ¬ (g k).size ≤ 5000) : allB g n = false := by
  unfold allB
  rw [List.all_eq_false]
  exact ⟨k, List.mem_range.2 hk, by simpa using h⟩
set_option maxHeartbeats 1000000 in
theorem short_core (g : Nat → ByteArray) (n b : Nat) (hn : n ≤ 100) (r : Bool) (hr : r = allB g n) (hg : ∀ j, j < n → (g j).size ≤ maxLen) (w : World) (hA : Arr w b n (fun j => .string (g j))) :
    Calls Tryd.prog 7 #[.slice (some ⟨b, 0, none⟩) n n] w fun e w' => e = .returned (.bool r) ∧ w' = w := by
  go_enter Tryd.func7, Tryd.ntmps7
  go_wp2_with fail
  go_loopw [7] (fun i wr => ∃ k : Nat, k ≤ n ∧ i = .int .i64 k ∧ wr = w ∧ ∀ j, j < k → (g j).size ≤ 5000) (fun i _ => n - (intOf i).toNat)
  case atStart => exact ⟨0, by omega, rfl, rfl, fun j hj => absurd hj (by omega)⟩
  case round =>
    obtain ⟨k, hk, rfl, rfl, hs⟩ := hrel
    have k0 : (0 : Int) ≤ (k : Int) := by omega
    have n100 : (n : Int) ≤ 100 := by omega
    by_cases hlt : k < n
    · have k1 : (k : Int) < (n : Int) := by omega
      have c := hA.c k hlt
      have m := hg k hlt
      unfold maxLen at m
      by_cases h5 : (g k).size ≤ 5000
      · have s5 : ¬ (5000 : Int) < ((g k).size : Int) := by omega
        have HS : Hid (∀ j, j < k + 1 → (g j).size ≤ 5000) := fun j hj => by
          by_cases e : j = k
          · rw [e]; exact h5
          · exact hs j (by omega)
        clear hs hg hA hr h5
        go_wp2_with fail
        exact ⟨⟨k + 1, by omega, by go_num, trivial, HS.out⟩, by simp [intOf]; omega⟩
      · have s5 : (5000 : Int) < ((g k).size : Int) := by omega
        have e := allB_no hlt h5
        rw [e] at hr
        subst hr
        clear hs hg hA h5
        go_wp2_with fail
        go_ret
        exact ⟨rfl, rfl⟩
    · have k1 : ¬ (k : Int) < (n : Int) := by omega
      have e := allB_yes (g := g) (n := n) (fun j hj => hs j (by omega))
      rw [e] at hr
      subst hr
      clear hs hg hA
      go_wp2_with fail
      go_ret
      exact ⟨rfl, rfl⟩
/-- Bytes, one after the other. -/
def runL (a k : Nat) : List Int := (List.range k).map fun j => ((a + j : Nat) : Int)
theorem runL_succ (a k : Nat) : runL a (k + 1) = runL a k ++ [((a + k : Nat) : Int)] := by simp [runL, List.range_succ]
set_option maxHeartbeats 1000000 in
theorem run_core (a n : Nat) (S : ByteArray) (hn : a + n < 255) (hS : S = mkS (runL a (n + 1))) (w : World) :
    Calls Tryd.prog 19 #[.int .u8 (a : Int), .int .u8 ((a + n : Nat) : Int)] w fun e w' => e = .returned (.string S) ∧ Below w.heap.size w w' := by
  go_enter Tryd.func19, Tryd.ntmps19
  go_wp2_with fail
  go_loopw [5, 6] (fun s i wr => ∃ k q : Nat, k ≤ n + 1 ∧ q = a + k ∧ s = .string (mkS (runL a k)) ∧ i = .int .u8 (q : Int) ∧ Below w.heap.size w wr) (fun _ i _ => a + n + 1 - (intOf i).toNat)
  case atStart => exact ⟨0, a, by omega, rfl, rfl, rfl, Below.refl _ _⟩
  case round =>
    obtain ⟨k, q, hk, hq, rfl, rfl, hB⟩ := hrel
    have q0 : (0 : Int) ≤ (q : Int) := by omega
    have q1 : (q : Int) ≤ 255 := by omega
    have z : (mkS (runL a k)).size = k := by rw [mkS_size]; simp [runL]
    by_cases hlt : k ≤ n
    · have l1 : (q : Int) ≤ ((a + n : Nat) : Int) := by omega
      have l2 : (q : Int) ≤ 254 := by omega
      have cv := convC (wr.alloc (.cells #[.int .u8 (q : Int)] 5)) wr.heap.size 1 1 [(q : Int)] rfl (news_new wr [.int .u8 (q : Int)] 5)
      have e1 : mkS (runL a (k + 1)) = mkS (runL a k) ++ mkS [(q : Int)] := by rw [runL_succ, mkS_app, hq]
      have HE : Hid (mkS (runL a (k + 1)) = mkS (runL a k) ++ mkS [(q : Int)]) := e1
      have HQ : Hid (q = a + k) := hq
      have z1 : (mkS [(q : Int)]).size = 1 := mkS_size _
      clear e1 hq hS
      generalize mkS [(q : Int)] = bn at *
      generalize mkS (runL a k) = U at *
      generalize ((a + n : Nat) : Int) = E at *
      go_wp2_with fail
      have o := HQ.out
      exact ⟨⟨k + 1, q + 1, by omega, by omega, by rw [HE.out], by go_num, Bel.al hB _⟩, by simp [intOf]; omega⟩
    · have l1 : ¬ (q : Int) ≤ ((a + n : Nat) : Int) := by omega
      have e : k = n + 1 := by omega
      subst e
      rw [← hS]
      clear hq hS z
      go_wp2_with fail
      go_ret
      exact ⟨rfl, hB⟩
end Go.Proofs.YtiagdffbfomlfaaDoor
