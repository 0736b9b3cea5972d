/- Products of texts; whether two blocks are one. -/
import Derived.Test.YtjaljnfijhfkcaaGreatDoorJ15
set_option linter.all false
set_option maxRecDepth 100000
namespace Go.Proofs.YtjaljnfijhfkcaaGreatDoor
open Go.RowKit Go.Sort Lin
/-- What Times tells. -/
def tmS (a b : ByteArray) : ByteArray := if a.size = 16 ∧ b.size = 16 then tN (tB (bN a) (bN b)) else ⟨#[]⟩
def tmE (a b : ByteArray) : Int := if a.size = 16 ∧ b.size = 16 then 0 else 10
set_option maxHeartbeats 1000000 in
theorem is_core (x y u v p q : Int) (r : Bool) (w : World)
    (C35 : ∀ W, Calls Tryz.prog 79 #[gk x y, gk u v] W fun e w' => e = .returned (gk p q) ∧ Below W.heap.size W w') (hr : (bits .or .u64 p q == 0) = r) :
    Calls Tryz.prog 71 #[gk x y, gk u v] w fun e w' => e = .returned (.bool r) ∧ Below w.heap.size w w' := by
  unfold gk at *
  go_enter Tryz.func71, Tryz.ntmps71
  go_wp2_with fail
  refine (C35 _).mono ?_
  rintro e w1 ⟨rfl, B1⟩
  have B2 : Below w.heap.size w w1 := Bel.call (by go_grown) B1
  clear B1 C35
  go_wp2_with fail
  go_ret
  exact ⟨by rw [← hr]; rfl, Bel.al B2 _⟩
theorem or_zero (a b : Nat) (ha : a < 2 ^ 64) (hb : b < 2 ^ 64) : (bits .or .u64 (a : Int) (b : Int) == 0) = decide (a = 0 ∧ b = 0) := by
  rw [(bits_ao64 a b ha hb).2]
  have : a ||| b = 0 ↔ a = 0 ∧ b = 0 := Nat.or_eq_zero_iff
  by_cases h : a = 0 ∧ b = 0
  · rw [decide_eq_true h, this.2 h]; rfl
  · have n : ¬ (a ||| b) = 0 := fun e => h (this.1 e)
    rw [decide_eq_false h]
    simp [n]
theorem is_any {a b : Nat} (ha : a < 2 ^ 128) (hb : b < 2 ^ 128) (w : World) : Calls Tryz.prog 71 #[gB a, gB b] w fun e w' => e = .returned (.bool (decide (a = b))) ∧ Below w.heap.size w w' := by
  refine is_core _ _ _ _ _ _ _ w (fun W => gplus_any ha hb W) ?_
  have hx := x128 ha hb
  unfold hi lo
  rw [or_zero _ _ (hi_lt hx) (lo_lt _)]
  congr 1
  refine propext ⟨fun h => ?_, fun h => ?_⟩
  · have e : a ^^^ b = 0 := by omega
    have t : a ^^^ b ^^^ b = b := by rw [e, Nat.zero_xor]
    rwa [Nat.xor_assoc, Nat.xor_self, Nat.xor_zero] at t
  · subst h
    rw [Nat.xor_self]
    exact ⟨rfl, rfl⟩
end Go.Proofs.YtjaljnfijhfkcaaGreatDoor
