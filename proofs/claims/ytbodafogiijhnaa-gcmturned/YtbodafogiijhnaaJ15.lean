/- Products of texts; whether two blocks are one. -/
import Derived.Test.YtbodafogiijhnaaJ14
set_option linter.all false
set_option maxRecDepth 100000
namespace Go.Proofs.Ytbodafogiijhnaa
open Go.RowKit Go.Sort Lin
set_option maxHeartbeats 1000000 in
theorem gTimes_yes (a b T : ByteArray) (ha : a.size = 16) (hb : b.size = 16) (x y z : Value) (w : World)
    (C20a : ∀ W, Calls Try.prog 20 #[.string a] W fun e w' => e = .returned x ∧ Below W.heap.size W w')
    (C20b : ∀ W, Calls Try.prog 20 #[.string b] W fun e w' => e = .returned y ∧ Below W.heap.size W w')
    (C21 : ∀ W, Calls Try.prog 21 #[x, y] W fun e w' => e = .returned z ∧ Below W.heap.size W w')
    (C22 : ∀ W, Calls Try.prog 22 #[z] W fun e w' => e = .returned (.string T) ∧ Below W.heap.size W w') :
    Calls Try.prog 10 #[.string a, .string b] w fun e w' => e = .returned (.tuple #[.string T, .int .i64 0]) ∧ Below w.heap.size w w' := by
  have i1 : (a.size : Int) = 16 := by omega
  have i2 : (b.size : Int) = 16 := by omega
  clear ha hb
  go_enter Try.func10, Try.ntmps10
  go_wp2_with fail
  refine (C20a _).mono ?_
  rintro e w1 ⟨rfl, B1⟩
  go_wp2_with fail
  refine (C20b _).mono ?_
  rintro e w2 ⟨rfl, B2⟩
  replace B2 := Bel.call B1 B2
  go_wp2_with fail
  refine (C21 _).mono ?_
  rintro e w3 ⟨rfl, B3⟩
  replace B3 := Bel.call B2 B3
  go_wp2_with fail
  refine (C22 _).mono ?_
  rintro e w4 ⟨rfl, B4⟩
  replace B4 := Bel.call B3 B4
  clear C20a C20b C21 C22
  go_wp2_with fail
  refine bodyPost_ret (v := .tuple #[.string T, .int .i64 0]) (by simp [results, Try.results10, go_sem]) rfl ⟨rfl, B4⟩
set_option maxHeartbeats 1000000 in
theorem gTimes_no (a b : ByteArray) (h : ¬ (a.size = 16 ∧ b.size = 16)) (w : World) :
    Calls Try.prog 10 #[.string a, .string b] w fun e w' => e = .returned (.tuple #[.string ⟨#[]⟩, .int .i64 10]) ∧ Below w.heap.size w w' := by
  by_cases ha : a.size = 16
  · have i1 : (a.size : Int) = 16 := by omega
    have i2 : ¬ (b.size : Int) = 16 := by omega
    clear h ha
    go_enter Try.func10, Try.ntmps10
    go_wp2_with fail
    refine bodyPost_ret (v := .tuple #[.string ⟨#[]⟩, .int .i64 10]) (by simp [results, Try.results10, go_sem]) rfl ⟨rfl, Below.refl _ _⟩
  · have i1 : ¬ (a.size : Int) = 16 := by omega
    clear h ha
    go_enter Try.func10, Try.ntmps10
    go_wp2_with fail
    refine bodyPost_ret (v := .tuple #[.string ⟨#[]⟩, .int .i64 10]) (by simp [results, Try.results10, go_sem]) rfl ⟨rfl, Below.refl _ _⟩
/-- What Times tells. -/
def tmS (a b : ByteArray) : ByteArray := if a.size = 16 ∧ b.size = 16 then tN (tB (bN a) (bN b)) else ⟨#[]⟩
def tmE (a b : ByteArray) : Int := if a.size = 16 ∧ b.size = 16 then 0 else 10
theorem gTimes_any (a b : ByteArray) (w : World) : Calls Try.prog 10 #[.string a, .string b] w fun e w' => e = .returned (.tuple #[.string (tmS a b), .int .i64 (tmE a b)]) ∧ Below w.heap.size w w' := by
  unfold tmS tmE
  by_cases h : a.size = 16 ∧ b.size = 16
  · rw [if_pos h, if_pos h]
    exact gTimes_yes a b _ h.1 h.2 _ _ _ w (fun W => gblockOf_any a W) (fun W => gblockOf_any b W) (fun W => btimes_any (bN_lt a) (bN_lt b) W) (fun W => gtext_any _ W)
  · rw [if_neg h, if_neg h]
    exact gTimes_no a b h w
set_option maxHeartbeats 1000000 in
theorem is_core (x y u v p q : Int) (r : Bool) (w : World)
    (C35 : ∀ W, Calls Try.prog 35 #[gk x y, gk u v] W fun e w' => e = .returned (gk p q) ∧ Below W.heap.size W w') (hr : (bits .or .u64 p q == 0) = r) :
    Calls Try.prog 33 #[gk x y, gk u v] w fun e w' => e = .returned (.bool r) ∧ Below w.heap.size w w' := by
  unfold gk at *
  go_enter Try.func33, Try.ntmps33
  go_wp2_with fail
  refine (C35 _).mono ?_
  rintro e w1 ⟨rfl, B1⟩
  have B2 : Below w.heap.size w w1 := Bel.call (by go_grown) B1
  clear B1 C35
  go_wp2_with fail
  go_ret
  exact ⟨by rw [← hr]; rfl, Bel.al B2 _⟩
theorem or_zero (a b : Nat) (ha : a < 2 ^ 64) (hb : b < 2 ^ 64) : (bits .or .u64 (a : Int) (b : Int) == 0) = decide (a = 0 ∧ b = 0) := by
  rw [(bits_ao64 a b ha hb).2]
  have : a ||| b = 0 ↔ a = 0 ∧ b = 0 := Nat.or_eq_zero_iff
  by_cases h : a = 0 ∧ b = 0
  · rw [decide_eq_true h, this.2 h]; rfl
  · have n : ¬ (a ||| b) = 0 := fun e => h (this.1 e)
    rw [decide_eq_false h]
    simp [n]
theorem is_any {a b : Nat} (ha : a < 2 ^ 128) (hb : b < 2 ^ 128) (w : World) : Calls Try.prog 33 #[gB a, gB b] w fun e w' => e = .returned (.bool (decide (a = b))) ∧ Below w.heap.size w w' := by
  refine is_core _ _ _ _ _ _ _ w (fun W => gplus_any ha hb W) ?_
  have hx := x128 ha hb
  unfold hi lo
  rw [or_zero _ _ (hi_lt hx) (lo_lt _)]
  congr 1
  refine propext ⟨fun h => ?_, fun h => ?_⟩
  · have e : a ^^^ b = 0 := by omega
    have t : a ^^^ b ^^^ b = b := by rw [e, Nat.zero_xor]
    rwa [Nat.xor_assoc, Nat.xor_self, Nat.xor_zero] at t
  · subst h
    rw [Nat.xor_self]
    exact ⟨rfl, rfl⟩
end Go.Proofs.Ytbodafogiijhnaa
