/- What num.Mul answers, for any two numbers. -/
import Derived.Deep.RegionHeld3
import Derived.Test.YtgekafmojedlkaaJ2
set_option linter.all false
namespace Go.Proofs.Ytgekafmojedlkaa
open Go.RowKit
attribute [local go_sem] idx24_0 idx24_1 idx24_2 idx24_3
set_option maxHeartbeats 4000000 in
theorem halves_any (v0 v1 v2 v3 v4 v5 v6 v7 : Int) (w : World) :
    Calls Try.prog 94 #[.agg #[.int .u64 v0, .int .u64 v1, .int .u64 v2, .int .u64 v3, .int .u64 v4, .int .u64 v5, .int .u64 v6, .int .u64 v7]] w fun e w' => e = .returned (.tuple #[.agg #[.int .u64 v0, .int .u64 v1, .int .u64 v2, .int .u64 v3], .agg #[.int .u64 v4, .int .u64 v5, .int .u64 v6, .int .u64 v7]]) ∧ Below w.heap.size w w' := by
  go_enter Try.func94, Try.ntmps94
  go_wp2
  go_region_held3 (fun w' => w'.cell? ⟨w.heap.size, 0, none⟩ = some (.int .u64 v0) ∧ w'.cell? ⟨w.heap.size, 1, none⟩ = some (.int .u64 v1) ∧ w'.cell? ⟨w.heap.size, 2, none⟩ = some (.int .u64 v2) ∧ w'.cell? ⟨w.heap.size, 3, none⟩ = some (.int .u64 v3) ∧ w'.cell? ⟨w.heap.size, 4, none⟩ = some (.int .u64 v4) ∧ w'.cell? ⟨w.heap.size, 5, none⟩ = some (.int .u64 v5) ∧ w'.cell? ⟨w.heap.size, 6, none⟩ = some (.int .u64 v6) ∧ w'.cell? ⟨w.heap.size, 7, none⟩ = some (.int .u64 v7)) (go_keep) (fail)
  go_wp2
  go_returns
  exact ⟨rfl, by go_grown⟩
end Go.Proofs.Ytgekafmojedlkaa
