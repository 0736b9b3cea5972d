/- Blocks: bytes become. -/
import Derived.Test.YtnmikancbfaejaaA6
set_option linter.all false
set_option maxRecDepth 100000
namespace Go.Proofs.Ytnmikancbfaejaa
open Go.RowKit Go.Sort Lin
/-- A table lies in a block. -/
def TabAt (w : World) (b o : Nat) (f : By → By) : Prop := ∀ a : By, w.cell? ⟨b, o + a.val, none⟩ = some (.int .u8 ((f a).val : Int))
theorem TabAt.to {w w' : World} {b o : Nat} {f : By → By} (h : TabAt w b o f) (hb : Below w.heap.size w w') : TabAt w' b o f := fun a => (hb.cell (p := ⟨b, o + a.val, none⟩) (block_lt_of_cell (h a))).trans (h a)
theorem TabAt.lt {w : World} {b o : Nat} {f : By → By} (h : TabAt w b o f) : b < w.heap.size := block_lt_of_cell (h 0)
set_option maxHeartbeats 2000000 in
theorem become_core (x g : Nat → Int) (b o : Nat) (f : By → By) (C57 : ∀ k, k < 4 → ∀ W, TabAt W b o f → Calls Try.prog 57 #[.pointer (some ⟨b, o, none⟩), .int .u32 (x k)] W fun e w' => e = .returned (.int .u32 (g k)) ∧ Below W.heap.size W w') (w : World) (hT : TabAt w b o f) :
    Calls Try.prog 43 #[bv x, .pointer (some ⟨b, o, none⟩)] w fun e w' => e = .returned (bv g) ∧ Below w.heap.size w w' := by
  unfold bv
  go_enter Try.func43, Try.ntmps43
  go_wp2_with fail
  go_loopw [8] (fun i wr => ∃ k : Nat, k ≤ 4 ∧ i = .int .i64 k ∧ Below w.heap.size w wr ∧ Arr wr w.heap.size 4 (mid g x k) ∧ Arr wr (w.heap.size + 1) 4 (fun _ => .int .u32 0)) (fun i _ => 4 - (intOf i).toNat)
  case atStart =>
    refine ⟨0, by omega, rfl, by go_grown, ?_, ?_⟩
    · exact ((Arr.new w _ _ _ rfl _ 4 (h4_at x)).al' _).congr fun j _ => (mid_0 _ _ j).symm
    · exact Arr.new _ _ _ _ (by simp) _ 4 z4_at
  case round =>
    obtain ⟨k, hk, rfl, hB, A0, A2⟩ := hrel
    by_cases hlt : k < 4
    · have k0 : (0 : Int) ≤ (k : Int) := by omega
      have k4 : (k : Int) < 4 := by omega
      have I := fun W => idx68 _ k _ hlt (h4_at x k hlt) W
      have hc := C57 k hlt wr (hT.to hB)
      clear C57
      go_wp2_with fail
      refine hc.mono ?_
      rintro e w1 ⟨rfl, hb⟩
      have hB1 := Bel.call hB hb
      have B0 := A0.to' hb
      have B2 := A2.to' hb
      have c := B0.c k hlt
      have z := B0.z k hlt
      clear A0 A2 hc hB hb
      go_wp2_with fail
      refine ⟨⟨k + 1, by omega, by go_num, Bel.st hB1 (by omega) _, mid_at B0 hlt, B2.other (by omega) _⟩, by simp [intOf]; omega⟩
    · have e : k = 4 := by omega
      rw [show ((k : Nat) : Int) = 4 by omega]
      subst e
      have A := mid_end A0
      have c0 := A.c 0 (by omega)
      have c1 := A.c 1 (by omega)
      have c2 := A.c 2 (by omega)
      have c3 := A.c 3 (by omega)
      have d := A2.c
      have z := A2.z
      have E := (A2.st4 g).c
      clear A0 hk hlt C57
      go_wp2_with fail
      refine bodyPost_ret (v := bv g) ?_ rfl ⟨rfl, Bel.st4 hB (by omega) g⟩
      simp only [Go.Proofs.Ytnmikancbfaejaa.st4] at E
      simp [bv, results, Try.results43, go_sem, E]
end Go.Proofs.Ytnmikancbfaejaa
