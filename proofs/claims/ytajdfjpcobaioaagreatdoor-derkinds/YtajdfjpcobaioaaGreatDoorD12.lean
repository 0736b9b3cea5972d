/- Rows of numbers as they stand within a tag. -/
import Derived.Test.YtajdfjpcobaioaaGreatDoorD11
import Derived.Lib.QuietBelow
set_option linter.all false
set_option maxRecDepth 100000
namespace Go.Proofs.YtajdfjpcobaioaaGreatDoor
open Go.RowKit Go.Sort
/-- A row of numbers. -/
def Wds (w : World) (v : Value) (l : List Int) : Prop := (v = .slice none 0 0 ∧ l = []) ∨ ∃ (a : Addr) (cap : Nat), v = .slice (some a) l.length cap ∧ l.length ≤ cap ∧ ∀ (i : Nat) (x : Int), l[i]? = some x → w.cell? (a.add i) = some (.int .u32 x)
theorem Wds.to {w w' : World} {v : Value} {l : List Int} (h : Wds w v l) (hb : Below w.heap.size w w') : Wds w' v l := by
  rcases h with h | ⟨a, cap, h1, h0, h2⟩
  · exact .inl h
  · exact .inr ⟨a, cap, h1, h0, fun i s hi => (hb.cell (block_lt_of_cell (h2 i s hi))).trans (h2 i s hi)⟩
def oidE (l : List Int) : Int := if l.length < 2 then 11 else if 16 < l.length then 18 else if 2 < l.getD 0 0 ∨ msF (l.getD 0 0) < l.getD 1 0 then 13 else 0
def oidL (l : List Int) : List Int := (40 * l.getD 0 0 + l.getD 1 0) :: (l.drop 2).flatMap svL
theorem oid_s (v : Value) (l : List Int) (w : World) (h : Wds w v l) (hl : l.length < 2) : Calls Tryz.prog 6 #[v] w fun e w' => e = .returned (.tuple #[.string ⟨#[]⟩, .int .i64 11]) ∧ Below w.heap.size w w' := by
  rcases h with ⟨rfl, rfl⟩ | ⟨a, cap, rfl, h0, h2⟩
  · go_enter Tryz.func6, Tryz.ntmps6
    go_wp2_with fail
    exact bodyPost_ret (v := .tuple #[.string ⟨#[]⟩, .int .i64 11]) (by simp [results, Tryz.results6, go_sem]) rfl ⟨rfl, by go_grown⟩
  · generalize l.length = n at *
    clear h2
    have hl' : (n : Int) < 2 := by omega
    go_enter Tryz.func6, Tryz.ntmps6
    go_wp2_with fail
    exact bodyPost_ret (v := .tuple #[.string ⟨#[]⟩, .int .i64 11]) (by simp [results, Tryz.results6, go_sem]) rfl ⟨rfl, by go_grown⟩
theorem oid_m (v : Value) (l : List Int) (w : World) (h : Wds w v l) (hl : 16 < l.length) : Calls Tryz.prog 6 #[v] w fun e w' => e = .returned (.tuple #[.string ⟨#[]⟩, .int .i64 18]) ∧ Below w.heap.size w w' := by
  rcases h with ⟨rfl, rfl⟩ | ⟨a, cap, rfl, h0, h2⟩
  · simp at hl
  · generalize l.length = n at *
    clear h2
    have hl' : (16 : Int) < (n : Int) := by omega
    go_enter Tryz.func6, Tryz.ntmps6
    go_wp2_with fail
    exact bodyPost_ret (v := .tuple #[.string ⟨#[]⟩, .int .i64 18]) (by simp [results, Tryz.results6, go_sem]) rfl ⟨rfl, by go_grown⟩
theorem oid_n (a : Addr) (n cap : Nat) (x y m : Int) (w : World) (h2 : 2 ≤ n) (h16 : n ≤ 16) (c0 : w.cell? a = some (.int .u32 x)) (c1 : w.cell? ⟨a.block, a.off + 1, none⟩ = some (.int .u32 y)) (h : 2 < x ∨ m < y)
    (C38 : ∀ W, Calls Tryz.prog 22 #[.int .u32 x] W fun e w' => e = .returned (.int .u32 m) ∧ Below W.heap.size W w') : Calls Tryz.prog 6 #[.slice (some a) n cap] w fun e w' => e = .returned (.tuple #[.string ⟨#[]⟩, .int .i64 13]) ∧ Below w.heap.size w w' := by
  have n2 : (2 : Int) ≤ (n : Int) := by omega
  have n16 : (n : Int) ≤ 16 := by omega
  have r0 := fun ds os => cell_regrown c0 ds os
  have r1 := fun ds os => cell_regrown c1 ds os
  by_cases hx : 2 < x
  · clear h
    go_enter Tryz.func6, Tryz.ntmps6
    go_wp2_with fail
    refine wp_region_quiet_below (by kernel_rfl) (by kernel_rfl) ?_
    repeat (go_big_quiet_step (first | (go_at_call 22; exact Calls.regrown_of (C38 _))))
    refine wpQuiet_nil ?_
    intro w1 hw'
    obtain ⟨⟨dq, osq⟩, hw''⟩ := hw'
    have hb := below_of hw''
    clear hw''
    go_wp2_with fail
    exact bodyPost_ret (v := .tuple #[.string ⟨#[]⟩, .int .i64 13]) (by simp [results, Tryz.results6, go_sem]) rfl ⟨rfl, hb⟩
  · have hm : m < y := by omega
    have hd : decide (2 < x) = false := decide_eq_false hx
    go_enter Tryz.func6, Tryz.ntmps6
    go_wp2_with fail
    refine wp_region_quiet_below (by kernel_rfl) (by kernel_rfl) ?_
    repeat (go_big_quiet_step (first | (go_at_call 22; exact Calls.regrown_of (C38 _))))
    refine wpQuiet_nil ?_
    intro w1 hw'
    obtain ⟨⟨dq, osq⟩, hw''⟩ := hw'
    have hb := below_of hw''
    clear hw''
    go_wp2_with fail
    exact bodyPost_ret (v := .tuple #[.string ⟨#[]⟩, .int .i64 13]) (by simp [results, Tryz.results6, go_sem]) rfl ⟨rfl, hb⟩
theorem cut2 (a : Addr) (n cap : Nat) (h : 2 ≤ n) (hc : n ≤ cap) (hm : cap ≤ maxLen) : ∃ a2 : Addr, (∀ W : World, (Instr.slice 25 (.slice (some a) n cap) (some (.int .i64 2)) none none).run Tryz.prog W = .ok (.slice (some a2) (n - 2) (cap - 2)) W) ∧ (2 < n → a2 = a.add 2) := by
  unfold maxLen at hm
  have h2 : (2 : Int) ≤ (n : Int) := by omega
  have h3 : (n : Int) ≤ (cap : Int) := by omega
  by_cases e : cap = 2
  · subst e
    obtain rfl : n = 2 := by omega
    refine ⟨a, fun W => ?_, fun h => by omega⟩
    simp [go_sem, Instr.slice]
  · refine ⟨a.add 2, fun W => ?_, fun _ => rfl⟩
    simp [go_sem, Instr.slice]
    rw [if_pos h2, if_neg e]
end Go.Proofs.YtajdfjpcobaioaaGreatDoor
