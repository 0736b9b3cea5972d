/- Eight words, and hashes, held against themselves. -/
import Derived.Test.YtbmnmmdkpemknaaDoorC8
set_option linter.all false
set_option maxRecDepth 100000
namespace Go.Proofs.YtbmnmmdkpemknaaDoor
open Go.RowKit
set_option maxHeartbeats 2000000 in
theorem eq23g (d : Nat) (he : ∀ (a b : Int) (w : World), (Op.equalIn d 22 (.int .u32 a) (.int .u32 b)).run Tryd.prog w = .ok (a == b) w) (a0 a1 a2 a3 a4 a5 a6 a7 : Int) (w : World) : (Op.equalIn (d + 1) 23 (.agg #[.int .u32 a0, .int .u32 a1, .int .u32 a2, .int .u32 a3, .int .u32 a4, .int .u32 a5, .int .u32 a6, .int .u32 a7]) (.agg #[.int .u32 a0, .int .u32 a1, .int .u32 a2, .int .u32 a3, .int .u32 a4, .int .u32 a5, .int .u32 a6, .int .u32 a7])).run Tryd.prog w = .ok true w := by
  have p0 : ∀ (w : World), (part 22 #[.int .u32 a0, .int .u32 a1, .int .u32 a2, .int .u32 a3, .int .u32 a4, .int .u32 a5, .int .u32 a6, .int .u32 a7] 0).run Tryd.prog w = .ok (.int .u32 a0) w := fun _ => by kernel_rfl
  have p1 : ∀ (w : World), (part 22 #[.int .u32 a0, .int .u32 a1, .int .u32 a2, .int .u32 a3, .int .u32 a4, .int .u32 a5, .int .u32 a6, .int .u32 a7] 1).run Tryd.prog w = .ok (.int .u32 a1) w := fun _ => by kernel_rfl
  have p2 : ∀ (w : World), (part 22 #[.int .u32 a0, .int .u32 a1, .int .u32 a2, .int .u32 a3, .int .u32 a4, .int .u32 a5, .int .u32 a6, .int .u32 a7] 2).run Tryd.prog w = .ok (.int .u32 a2) w := fun _ => by kernel_rfl
  have p3 : ∀ (w : World), (part 22 #[.int .u32 a0, .int .u32 a1, .int .u32 a2, .int .u32 a3, .int .u32 a4, .int .u32 a5, .int .u32 a6, .int .u32 a7] 3).run Tryd.prog w = .ok (.int .u32 a3) w := fun _ => by kernel_rfl
  have p4 : ∀ (w : World), (part 22 #[.int .u32 a0, .int .u32 a1, .int .u32 a2, .int .u32 a3, .int .u32 a4, .int .u32 a5, .int .u32 a6, .int .u32 a7] 4).run Tryd.prog w = .ok (.int .u32 a4) w := fun _ => by kernel_rfl
  have p5 : ∀ (w : World), (part 22 #[.int .u32 a0, .int .u32 a1, .int .u32 a2, .int .u32 a3, .int .u32 a4, .int .u32 a5, .int .u32 a6, .int .u32 a7] 5).run Tryd.prog w = .ok (.int .u32 a5) w := fun _ => by kernel_rfl
  have p6 : ∀ (w : World), (part 22 #[.int .u32 a0, .int .u32 a1, .int .u32 a2, .int .u32 a3, .int .u32 a4, .int .u32 a5, .int .u32 a6, .int .u32 a7] 6).run Tryd.prog w = .ok (.int .u32 a6) w := fun _ => by kernel_rfl
  have p7 : ∀ (w : World), (part 22 #[.int .u32 a0, .int .u32 a1, .int .u32 a2, .int .u32 a3, .int .u32 a4, .int .u32 a5, .int .u32 a6, .int .u32 a7] 7).run Tryd.prog w = .ok (.int .u32 a7) w := fun _ => by kernel_rfl
  have hs : ∀ w, (Go.sizeOf 22).run Tryd.prog w = .ok 1 w := fun _ => by kernel_rfl
  simp only [Op.equalIn, Sem.run_bind, run_underlying Tryd.underlying23, Result.andThen_ok, hs]
  simp [Std.Legacy.Range.forIn_eq_forIn_range', List.range', he, p0, p1, p2, p3, p4, p5, p6, p7, Sem.run_bind, Sem.run_ite]
theorem eq23 (a0 a1 a2 a3 a4 a5 a6 a7 : Int) (w : World) : (Op.equalIn 10000 23 (.agg #[.int .u32 a0, .int .u32 a1, .int .u32 a2, .int .u32 a3, .int .u32 a4, .int .u32 a5, .int .u32 a6, .int .u32 a7]) (.agg #[.int .u32 a0, .int .u32 a1, .int .u32 a2, .int .u32 a3, .int .u32 a4, .int .u32 a5, .int .u32 a6, .int .u32 a7])).run Tryd.prog w = .ok true w :=
  eq23g 9999 (fun a b w => run_equalIn_int w 9998 22 .u32 .u32 a b Tryd.underlying22) a0 a1 a2 a3 a4 a5 a6 a7 w
theorem eq23' (a0 a1 a2 a3 a4 a5 a6 a7 : Int) (w : World) : (Op.equalIn 9999 23 (.agg #[.int .u32 a0, .int .u32 a1, .int .u32 a2, .int .u32 a3, .int .u32 a4, .int .u32 a5, .int .u32 a6, .int .u32 a7]) (.agg #[.int .u32 a0, .int .u32 a1, .int .u32 a2, .int .u32 a3, .int .u32 a4, .int .u32 a5, .int .u32 a6, .int .u32 a7])).run Tryd.prog w = .ok true w :=
  eq23g 9998 (fun a b w => run_equalIn_int w 9997 22 .u32 .u32 a b Tryd.underlying22) a0 a1 a2 a3 a4 a5 a6 a7 w
theorem fields37 : Tryd.prog.underlying 37 = some (.struct (Tryd.prog.fieldsOf 37)) := by kernel_rfl
set_option maxHeartbeats 2000000 in
theorem eq37 (a0 a1 a2 a3 a4 a5 a6 a7 n : Int) (L : ByteArray) (w : World) : (Op.equalIn 10000 37 (.agg #[.int .u32 a0, .int .u32 a1, .int .u32 a2, .int .u32 a3, .int .u32 a4, .int .u32 a5, .int .u32 a6, .int .u32 a7, .string L, .int .u64 n]) (.agg #[.int .u32 a0, .int .u32 a1, .int .u32 a2, .int .u32 a3, .int .u32 a4, .int .u32 a5, .int .u32 a6, .int .u32 a7, .string L, .int .u64 n])).run Tryd.prog w = .ok true w := by
  rw [run_equalIn_agg (w := w) 9999 37 _ _ fields37 (by kernel_rfl)]
  simp [go_sem, eq23']
end Go.Proofs.YtbmnmmdkpemknaaDoor
