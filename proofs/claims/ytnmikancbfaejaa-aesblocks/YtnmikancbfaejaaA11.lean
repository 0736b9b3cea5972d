/- Blocks of texts. -/
import Derived.Test.YtnmikancbfaejaaA10
set_option linter.all false
set_option maxRecDepth 100000
namespace Go.Proofs.Ytnmikancbfaejaa
open Go.RowKit Go.Sort Lin
set_option maxHeartbeats 1000000 in
theorem blockOf_core (s : ByteArray) (hs : s.size = 16) (g : Nat → Int) (C : ∀ k, k < 4 → ∀ W, Calls Try.prog 47 #[.string (s.extract (4 * k) 16)] W fun e w' => e = .returned (.int .u32 (g k)) ∧ Below W.heap.size W w') (w : World) :
    Calls Try.prog 30 #[.string s] w fun e w' => e = .returned (bv g) ∧ Below w.heap.size w w' := by
  unfold bv
  have hg := C
  have s16 : (s.size : Int) = 16 := by omega
  go_enter Try.func30, Try.ntmps30
  go_wp2_with fail
  go_loopw [5] (fun i wr => ∃ k : Nat, k ≤ 4 ∧ i = .int .i64 k ∧ Below w.heap.size w wr ∧ Arr wr w.heap.size 4 (fun _ => .int .u32 0) ∧ Arr wr (w.heap.size + 1) 4 (mid g (fun _ => 0) k)) (fun i _ => 4 - (intOf i).toNat)
  case atStart =>
    refine ⟨0, by omega, rfl, by go_grown, ?_, ?_⟩
    · exact (Arr.new _ _ _ _ (by simp) _ 4 z4_at).al' _
    · exact (Arr.new _ _ _ _ (by simp) _ 4 z4_at).congr fun j _ => (mid_0 (fun _ => 0) g j).symm
  case round =>
    obtain ⟨k, hk, rfl, hB, A1, A2⟩ := hrel
    by_cases hlt : k < 4
    · have k0 : (0 : Int) ≤ (k : Int) := by omega
      have k4 : (k : Int) < 4 := by omega
      have c47 := C k hlt wr
      clear C hg
      go_wp2_with fail
      refine c47.mono ?_
      rintro e w1 ⟨rfl, hb⟩
      have hB1 := Bel.call hB hb
      have B1 := A1.to' hb
      have B2 := A2.to' hb
      clear A1 A2 hB hb c47
      have c := B2.c k hlt
      have z := B2.z k hlt
      go_wp2_with fail
      refine ⟨⟨k + 1, by omega, by go_num, Bel.st hB1 (by omega) _, B1.other (by omega) _, mid_at B2 hlt⟩, by simp [intOf]; omega⟩
    · have e : k = 4 := by omega
      rw [show ((k : Nat) : Int) = 4 by omega]
      subst e
      have A := mid_end A2
      have c0 := A.c 0 (by omega)
      have c1 := A.c 1 (by omega)
      have c2 := A.c 2 (by omega)
      have c3 := A.c 3 (by omega)
      have d := A1.c
      have z := A1.z
      have E := (A1.st4 g).c
      clear A2 hk hlt hg C
      go_wp2_with fail
      refine bodyPost_ret (v := bv g) ?_ rfl ⟨rfl, Bel.st4 hB (by omega) g⟩
      simp only [Go.Proofs.Ytnmikancbfaejaa.st4] at E
      simp [bv, results, Try.results30, go_sem, E]
theorem blockOf_any (s : ByteArray) (hs : s.size = 16) (w : World) : Calls Try.prog 30 #[.string s] w fun e w' => e = .returned (bv (col (bF s))) ∧ Below w.heap.size w w' :=
  blockOf_core s hs (col (bF s)) (fun k hk W => by
    have := wordOf_any (s.extract (4 * k) s.size) (by rw [ByteArray.size_extract]; omega) W
    rw [bF_ext s _ 0 (by omega), bF_ext s _ 1 (by omega), bF_ext s _ 2 (by omega), bF_ext s _ 3 (by omega), hs] at this
    exact this) w
end Go.Proofs.Ytnmikancbfaejaa
