/- What bytes become: the program's table, and the reference's. -/
import Derived.Test.YtjaljnfijhfkcaaGreatDoorJ5
import Derived.Test.YtjaljnfijhfkcaaGreatDoorJ4
set_option linter.all false
set_option maxRecDepth 100000
namespace Go.Proofs.YtjaljnfijhfkcaaGreatDoor
open Go.RowKit Go.Sort Lin
set_option maxHeartbeats 1000000 in
theorem rot8_any (x s k : Int) (hs : 0 ≤ s) (hs2 : s < 8) (hk : bits .and .u64 (IntKind.u64.wrap k) 7 = s) (w : World) : Calls Tryz.prog 146 #[.int .u8 x, .int .i64 k] w fun e w' => e = .returned (.int .u8 (bits .or .u8 (x * 2 ^ s.toNat % 256) (x / 2 ^ (8 - s).toNat))) ∧ w' = w := by
  go_enter Tryz.func146, Tryz.ntmps146
  go_wp2
  go_ret
  exact ⟨rfl, rfl⟩
theorem rl_is (b : By) (s : Nat) (hs : s < 8) : bits .or .u8 ((b.val : Int) * 2 ^ s % 256) ((b.val : Int) / 2 ^ (8 - s)) = ((rl b s).val : Int) := by
  have := (bits_ao8 (b.val * 2 ^ s % 256) (b.val / 2 ^ (8 - s)) (Nat.mod_lt _ (by decide)) (Nat.lt_of_le_of_lt (Nat.div_le_self _ _) b.2)).2
  rw [show (((b.val * 2 ^ s % 256 : Nat)) : Int) = (b.val : Int) * 2 ^ s % 256 by simp, show ((b.val / 2 ^ (8 - s) : Nat) : Int) = (b.val : Int) / 2 ^ (8 - s) by simp] at this
  exact this
theorem rot8_b (b : By) (s : Nat) (k : Int) (hs : s < 8) (hk : bits .and .u64 (IntKind.u64.wrap k) 7 = (s : Int)) (w : World) : Calls Tryz.prog 146 #[.int .u8 (b.val : Int), .int .i64 k] w fun e w' => e = .returned (.int .u8 ((rl b s).val : Int)) ∧ w' = w := by
  have := rot8_any (b.val : Int) s k (by omega) (by omega) hk w
  rw [show ((s : Int)).toNat = s by omega, show ((8 : Int) - (s : Int)).toNat = 8 - s by omega, rl_is b s hs] at this
  exact this
set_option maxHeartbeats 1000000 in
theorem spread_any (b : By) (w : World) : Calls Tryz.prog 141 #[.int .u8 (b.val : Int)] w fun e w' => e = .returned (.int .u8 ((spF b).val : Int)) ∧ w' = w := by
  have c4 := fun W => rot8_b b 4 (-4) (by decide) (by decide) W
  have c3 := fun W => rot8_b b 3 (-5) (by decide) (by decide) W
  have c2 := fun W => rot8_b b 2 (-6) (by decide) (by decide) W
  have c1 := fun W => rot8_b b 1 (-7) (by decide) (by decide) W
  have x0 : bits .xor .u8 99 (b.val : Int) = ((xr 99 b).val : Int) := xr8 99 b
  have x1 := xr8 (xr 99 b) (rl b 4)
  have x2 := xr8 (xr (xr 99 b) (rl b 4)) (rl b 3)
  have x3 := xr8 (xr (xr (xr 99 b) (rl b 4)) (rl b 3)) (rl b 2)
  have x4 := xr8 (xr (xr (xr (xr 99 b) (rl b 4)) (rl b 3)) (rl b 2)) (rl b 1)
  unfold spF
  generalize rl b 4 = r4 at *
  generalize rl b 3 = r3 at *
  generalize rl b 2 = r2 at *
  generalize rl b 1 = r1 at *
  go_enter Tryz.func141, Tryz.ntmps141
  go_wp2_with fail
  refine (c4 _).mono ?_
  rintro e w1 ⟨rfl, rfl⟩
  go_wp2_with fail
  refine (c3 _).mono ?_
  rintro e w1 ⟨rfl, rfl⟩
  go_wp2_with fail
  refine (c2 _).mono ?_
  rintro e w1 ⟨rfl, rfl⟩
  go_wp2_with fail
  refine (c1 _).mono ?_
  rintro e w1 ⟨rfl, rfl⟩
  go_wp2_with fail
  go_ret
  exact ⟨rfl, rfl⟩
end Go.Proofs.YtjaljnfijhfkcaaGreatDoor
