/- Two numbers of four parts held against each other. -/
import Derived.Test.YtpigofooblmdhaaB0
set_option linter.all false
namespace Go.Proofs.Ytpigofooblmdhaa
open Go.RowKit
theorem eq24g (d : Nat) (he : ∀ (a b : Int) (w : World), (Op.equalIn d 22 (.int .u64 a) (.int .u64 b)).run Try.prog w = .ok (a == b) w) (a0 a1 a2 a3 b0 b1 b2 b3 : Int) (w : World) : (Op.equalIn (d + 1) 24 (.agg #[.int .u64 a0, .int .u64 a1, .int .u64 a2, .int .u64 a3]) (.agg #[.int .u64 b0, .int .u64 b1, .int .u64 b2, .int .u64 b3])).run Try.prog w = .ok (a0 == b0 && (a1 == b1 && (a2 == b2 && a3 == b3))) w := by
  have p0 : ∀ (v0 v1 v2 v3 : Int) (w : World), (part 22 #[.int .u64 v0, .int .u64 v1, .int .u64 v2, .int .u64 v3] 0).run Try.prog w = .ok (.int .u64 v0) w := fun _ _ _ _ _ => by kernel_rfl
  have p1 : ∀ (v0 v1 v2 v3 : Int) (w : World), (part 22 #[.int .u64 v0, .int .u64 v1, .int .u64 v2, .int .u64 v3] 1).run Try.prog w = .ok (.int .u64 v1) w := fun _ _ _ _ _ => by kernel_rfl
  have p2 : ∀ (v0 v1 v2 v3 : Int) (w : World), (part 22 #[.int .u64 v0, .int .u64 v1, .int .u64 v2, .int .u64 v3] 2).run Try.prog w = .ok (.int .u64 v2) w := fun _ _ _ _ _ => by kernel_rfl
  have p3 : ∀ (v0 v1 v2 v3 : Int) (w : World), (part 22 #[.int .u64 v0, .int .u64 v1, .int .u64 v2, .int .u64 v3] 3).run Try.prog w = .ok (.int .u64 v3) w := fun _ _ _ _ _ => by kernel_rfl
  have hs : ∀ w, (Go.sizeOf 22).run Try.prog w = .ok 1 w := fun _ => by kernel_rfl
  simp only [Op.equalIn, Sem.run_bind, run_underlying Try.underlying24, Result.andThen_ok, hs]
  cases h0 : (a0 == b0) <;> cases h1 : (a1 == b1) <;> cases h2 : (a2 == b2) <;> cases h3 : (a3 == b3) <;> simp [Std.Legacy.Range.forIn_eq_forIn_range', List.range', he, p0, p1, p2, p3, h0, h1, h2, h3, Sem.run_bind, Sem.run_ite]
theorem eq24 (a0 a1 a2 a3 b0 b1 b2 b3 : Int) (w : World) : (Op.equalIn 10000 24 (.agg #[.int .u64 a0, .int .u64 a1, .int .u64 a2, .int .u64 a3]) (.agg #[.int .u64 b0, .int .u64 b1, .int .u64 b2, .int .u64 b3])).run Try.prog w = .ok (a0 == b0 && (a1 == b1 && (a2 == b2 && a3 == b3))) w :=
  eq24g 9999 (fun a b w => run_equalIn_int w 9998 22 .u64 .u64 a b Try.underlying22) a0 a1 a2 a3 b0 b1 b2 b3 w
end Go.Proofs.Ytpigofooblmdhaa
