/- Blocks: columns mixed. -/
import Derived.Test.YtnmikancbfaejaaA6
set_option linter.all false
set_option maxRecDepth 100000
namespace Go.Proofs.Ytnmikancbfaejaa
open Go.RowKit Go.Sort Lin
set_option maxHeartbeats 2000000 in
theorem rotl_any (x s k : Int) (hs : 0 ≤ s) (hs2 : s < 32) (hk : bits .and .u64 (IntKind.u64.wrap k) 31 = s) (w : World) : Calls Try.prog 58 #[.int .u32 x, .int .i64 k] w fun e w' => e = .returned (.int .u32 (bits .or .u32 (x * 2 ^ s.toNat % 4294967296) (x / 2 ^ (32 - s).toNat))) ∧ w' = w := by
  go_enter Try.func58, Try.ntmps58
  go_wp2
  go_ret
  exact ⟨rfl, rfl⟩
set_option maxHeartbeats 2000000 in
theorem mixed_core (x p q r s g : Nat → Int)
    (C8 : ∀ k, k < 4 → ∀ W, Calls Try.prog 58 #[.int .u32 (x k), .int .i64 8] W fun e w' => e = .returned (.int .u32 (p k)) ∧ w' = W)
    (C16 : ∀ k, k < 4 → ∀ W, Calls Try.prog 58 #[.int .u32 (x k), .int .i64 16] W fun e w' => e = .returned (.int .u32 (q k)) ∧ w' = W)
    (C24 : ∀ k, k < 4 → ∀ W, Calls Try.prog 58 #[.int .u32 (x k), .int .i64 24] W fun e w' => e = .returned (.int .u32 (r k)) ∧ w' = W)
    (CD : ∀ k, k < 4 → ∀ W, Calls Try.prog 21 #[.int .u32 (bits .xor .u32 (x k) (p k))] W fun e w' => e = .returned (.int .u32 (s k)) ∧ w' = W)
    (hg : ∀ k, k < 4 → bits .xor .u32 (bits .xor .u32 (bits .xor .u32 (s k) (p k)) (q k)) (r k) = g k) (w : World) :
    Calls Try.prog 45 #[bv x] w fun e w' => e = .returned (bv g) ∧ Below w.heap.size w w' := by
  unfold bv
  go_enter Try.func45, Try.ntmps45
  go_wp2_with fail
  go_loopw [7] (fun i wr => ∃ k : Nat, k ≤ 4 ∧ i = .int .i64 k ∧ Below w.heap.size w wr ∧ Arr wr w.heap.size 4 (mid g x k) ∧ Arr wr (w.heap.size + 1) 4 (fun _ => .int .u32 0)) (fun i _ => 4 - (intOf i).toNat)
  case atStart =>
    refine ⟨0, by omega, rfl, by go_grown, ?_, ?_⟩
    · exact ((Arr.new w _ _ _ rfl _ 4 (h4_at x)).al' _).congr fun j _ => (mid_0 _ _ j).symm
    · exact Arr.new _ _ _ _ (by simp) _ 4 z4_at
  case round =>
    obtain ⟨k, hk, rfl, hB, A0, A2⟩ := hrel
    by_cases hlt : k < 4
    · have k0 : (0 : Int) ≤ (k : Int) := by omega
      have k4 : (k : Int) < 4 := by omega
      have I := fun W => idx68 _ k _ hlt (h4_at x k hlt) W
      have hgk := hg k hlt
      have c8 := C8 k hlt wr
      have c16 := C16 k hlt wr
      have c24 := C24 k hlt wr
      have cd := CD k hlt wr
      have c := A0.c k hlt
      have z := A0.z k hlt
      clear C8 C16 C24 CD hg
      go_wp2_with fail
      refine c8.mono ?_
      rintro e w1 ⟨rfl, rfl⟩
      go_wp2_with fail
      refine cd.mono ?_
      rintro e w2 ⟨rfl, rfl⟩
      go_wp2_with fail
      refine c16.mono ?_
      rintro e w3 ⟨rfl, rfl⟩
      go_wp2_with fail
      refine c24.mono ?_
      rintro e w4 ⟨rfl, rfl⟩
      clear c8 c16 c24 cd
      go_wp2_with fail
      refine ⟨⟨k + 1, by omega, by go_num, Bel.st hB (by omega) _, mid_at A0 hlt, A2.other (by omega) _⟩, by simp [intOf]; omega⟩
    · have e : k = 4 := by omega
      rw [show ((k : Nat) : Int) = 4 by omega]
      subst e
      have A := mid_end A0
      have c0 := A.c 0 (by omega)
      have c1 := A.c 1 (by omega)
      have c2 := A.c 2 (by omega)
      have c3 := A.c 3 (by omega)
      have d := A2.c
      have z := A2.z
      have E := (A2.st4 g).c
      clear A0 hk hlt hg C8 C16 C24 CD
      go_wp2_with fail
      refine bodyPost_ret (v := bv g) ?_ rfl ⟨rfl, Bel.st4 hB (by omega) g⟩
      simp only [Go.Proofs.Ytnmikancbfaejaa.st4] at E
      simp [bv, results, Try.results45, go_sem, E]
end Go.Proofs.Ytnmikancbfaejaa
