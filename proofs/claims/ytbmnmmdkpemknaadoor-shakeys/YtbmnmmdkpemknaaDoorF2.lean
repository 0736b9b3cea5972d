/- Bytes and rows of texts that came in as arguments, opened. -/
import Derived.Test.YtbmnmmdkpemknaaDoorF1
set_option linter.all false
namespace Go.Proofs.YtbmnmmdkpemknaaDoor
open Go.ChangeShapes Go.WideShapes Go.ChangeAt Go.RowKit
theorem bounds8 {n : Int} (h : (Lit.int .u8 n).wf = true) : 0 ≤ n ∧ n < 256 := by
  simp only [Lit.wf, IntKind.min, IntKind.max, IntKind.signed, IntKind.bits, Bool.and_eq_true, decide_eq_true_eq] at h
  simp at h
  omega
theorem open43 {H : Type} {enc : TypeId × Value → H} {W : World} {base : Nat} {v : Value} {d : DataW H} {p : List MemPlace}
    (hv : Value.okWide Tryd.prog W .any base 43 v) (h : DataW.Trod enc Tryd.prog W 0 (fun _ => true) true 43 v d p) :
    ∃ (ao : Option Addr) (len cap : Nat) (S : Nat → ByteArray), v = .slice ao len cap ∧ len ≤ maxLen ∧ (∀ k, k < len → (S k).size ≤ maxLen) ∧ ∀ k, k < len → ∃ a, ao = some a ∧ W.cell? (a.add k) = some (.string (S k)) := by
  obtain ⟨a0, len, cap, rfl⟩ := okWide_slice Tryd.underlying43 hv
  obtain ⟨fuel, hf⟩ := h
  rcases open_strings Tryd.underlying43 Tryd.underlying9 cells9 hf with ⟨hcs, _⟩ | ⟨a, len', cap', ss, hcs, _, hl, hm, hz, _, hcell, hsz⟩
  · have e : Value.slice a0 len cap = .slice none 0 0 := by
      have e' : [Value.slice a0 len cap] = [.slice none 0 0] := hcs
      injection e'
    injection e with e1 e2 e3
    subst e1 e2 e3
    exact ⟨none, 0, 0, fun _ => ByteArray.empty, rfl, by unfold maxLen; omega, fun k hk => by omega, fun k hk => by omega⟩
  · have e : Value.slice a0 len cap = .slice (some a) len' cap' := by
      have e' : [Value.slice a0 len cap] = [.slice (some a) len' cap'] := hcs
      injection e'
    injection e with e1 e2 e3
    subst e1 e2 e3
    have hz' : ss.length = cap := hz
    refine ⟨some a, len, cap, fun k => ss.getD k ByteArray.empty, rfl, by omega, fun k hk => ?_, fun k hk => ⟨a, rfl, hcell k (by omega)⟩⟩
    show (ss.getD k ByteArray.empty).size ≤ maxLen
    rw [List.getD_eq_getElem?_getD, List.getElem?_eq_getElem (by omega)]
    exact hsz _ (List.getElem_mem _)
end Go.Proofs.YtbmnmmdkpemknaaDoor
