/- Two rows of numbers, one by one. -/
import Derived.Test.YtajdfjpcobaioaaGreatDoorD12
set_option linter.all false
set_option maxRecDepth 100000
namespace Go.Proofs.YtajdfjpcobaioaaGreatDoor
open Go.RowKit Go.Sort
theorem Wds.get {w : World} {v : Value} {l : List Int} (h : Wds w v l) (i : Nat) (hi : i < l.length) : ∃ (a : Addr) (cap : Nat), v = .slice (some a) l.length cap ∧ l.length ≤ cap ∧ ∀ (j : Nat) (x : Int), l[j]? = some x → w.cell? (a.add j) = some (.int .u32 x) := by
  rcases h with ⟨rfl, rfl⟩ | h
  · simp at hi
  · exact h
theorem Wds.form {w : World} {v : Value} {l : List Int} (h : Wds w v l) : ∃ ao cap, v = .slice ao l.length cap := by
  rcases h with ⟨rfl, rfl⟩ | ⟨a, cap, h, _⟩
  · exact ⟨none, 0, rfl⟩
  · exact ⟨_, _, h⟩
set_option maxHeartbeats 1000000 in
theorem words_same (v u : Value) (l : List Int) (hl : l.length ≤ maxLen) (w : World) (hv : Wds w v l) (hu : Wds w u l) : Calls Tryz.prog 16 #[v, u] w fun e w' => e = .returned (.bool true) ∧ Below w.heap.size w w' := by
  have HV : Hid (∀ i, i < l.length → ∃ (a : Addr) (cap : Nat), v = .slice (some a) l.length cap ∧ l.length ≤ cap ∧ ∀ (j : Nat) (x : Int), l[j]? = some x → w.cell? (a.add j) = some (.int .u32 x)) := fun i hi => hv.get i hi
  have HU : Hid (∀ i, i < l.length → ∃ (a : Addr) (cap : Nat), u = .slice (some a) l.length cap ∧ l.length ≤ cap ∧ ∀ (j : Nat) (x : Int), l[j]? = some x → w.cell? (a.add j) = some (.int .u32 x)) := fun i hi => hu.get i hi
  obtain ⟨av, cv, rfl⟩ := hv.form
  obtain ⟨au, cu, rfl⟩ := hu.form
  clear hv hu
  generalize hn : l.length = n at *
  have HN : Hid (l.length = n) := hn
  clear hn
  have n0 : (n : Int) ≤ 9223372036854775807 := by unfold maxLen at hl; omega
  go_enter Tryz.func16, Tryz.ntmps16
  go_wp2_with fail
  go_loopw [13] (fun i wr => ∃ k : Nat, k ≤ n ∧ i = .int .i64 (k : Int) ∧ Below w.heap.size w wr) (fun i _ => n - (intOf i).toNat)
  case atStart => exact ⟨0, by omega, rfl, Below.refl _ _⟩
  case round =>
    obtain ⟨k, hk, rfl, hB⟩ := hrel
    by_cases hlt : k < n
    · obtain ⟨a, c1, e1, c1', g1⟩ := HV.out k hlt
      obtain ⟨b, c2, e2, c2', g2⟩ := HU.out k hlt
      cases e1
      cases e2
      obtain ⟨x, hx⟩ : ∃ x, l[k]? = some x := ⟨_, List.getElem?_eq_getElem (by rw [HN.out]; exact hlt)⟩
      have k0 : (0 : Int) ≤ (k : Int) := by omega
      have k1 : (k : Int) < (n : Int) := by omega
      have p1 : wr.cell? (a.add k) = some (.int .u32 x) := (hB.cell (block_lt_of_cell (g1 k x hx))).trans (g1 k x hx)
      have p2 : wr.cell? (b.add k) = some (.int .u32 x) := (hB.cell (block_lt_of_cell (g2 k x hx))).trans (g2 k x hx)
      have r1 := fun ds os => cell_regrown p1 ds os
      have r2 := fun ds os => cell_regrown p2 ds os
      clear g1 g2 hx p1 p2 HV HU
      go_wp2_with fail
      refine wp_region_quiet_below (by kernel_rfl) (by kernel_rfl) ?_
      repeat (go_big_quiet_step (fail))
      refine wpQuiet_nil ?_
      intro w2 hw'
      obtain ⟨⟨dq, osq⟩, hw''⟩ := hw'
      have hb := below_of hw''
      clear hw'' r1 r2
      replace hB := Bel.call hB hb
      clear hb
      go_wp2_with fail
      exact ⟨⟨k + 1, by omega, by go_num, hB⟩, by simp [intOf]; omega⟩
    · obtain rfl : k = n := by omega
      go_wp2_with fail
      go_ret
      exact ⟨rfl, hB⟩
end Go.Proofs.YtajdfjpcobaioaaGreatDoor
