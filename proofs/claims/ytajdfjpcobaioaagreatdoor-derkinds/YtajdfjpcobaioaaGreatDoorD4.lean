/- Read. -/
import Derived.Test.YtajdfjpcobaioaaGreatDoorD3
set_option linter.all false
set_option maxRecDepth 100000
namespace Go.Proofs.YtajdfjpcobaioaaGreatDoor
open Go.RowKit Go.Sort
abbrev tlv (t : Int) (b : ByteArray) : Value := .agg #[.int .i64 t, .string b]
theorem cut1 (s : ByteArray) (hs : 0 < s.size) (hm : s.size ≤ maxLen) (W : World) : (Instr.slice 9 (.string s) (some (.int .i64 1)) none none).run Tryz.prog W = .ok (.string (s.extract 1 s.size)) W := by
  unfold maxLen at hm
  have z0 : (1 : Int) ≤ (s.size : Int) := by omega
  go_simp
theorem two_cells {w w1 : World} {a b : Value} {T : TypeId} (h : Below (w.alloc (.cells #[a, b] T)).heap.size (w.alloc (.cells #[a, b] T)) w1) : w1.cell? ⟨w.heap.size, 0, none⟩ = some a ∧ w1.cell? ⟨w.heap.size, 1, none⟩ = some b ∧ w1.frozen? ⟨w.heap.size, 0, none⟩ = false ∧ w1.frozen? ⟨w.heap.size, 1, none⟩ = false := by
  have A : Arr (w.alloc (.cells #[a, b] T)) w.heap.size 2 (fun j => if j = 0 then a else b) := Arr.new w #[a, b] T _ rfl _ 2 (fun j hj => by
    match j, hj with
    | 0, _ => rfl
    | 1, _ => rfl)
  have A1 := A.below h (by simp)
  exact ⟨A1.c 0 (by omega), A1.c 1 (by omega), A1.z 0 (by omega), A1.z 1 (by omega)⟩
end Go.Proofs.YtajdfjpcobaioaaGreatDoor
