/- A record among the arguments opened (small seat). -/
import Derived.Test.YtjaljnfijhfkcaaF0
import Derived.Test.YtjaljnfijhfkcaaE1
import Derived.Laws.IdiomArrays
import Derived.ChangeSlices
set_option linter.all false
namespace Go.Proofs.Ytjaljnfijhfkcaa
open Go.ChangeShapes Go.WideShapes Go.ChangeAt Go.RowKit
open Go.ChangeMaps (open_string shut_string)
theorem clR : Try.prog.cellsOf 23 = 2 := by kernel_rfl
theorem cl3 : Try.prog.cellsOf 3 = 1 := by kernel_rfl
theorem cl9 : Try.prog.cellsOf 9 = 1 := by kernel_rfl
theorem list2 {α : Type} (l : List α) (h : (⟨l⟩ : Array α).size = 2) : ∃ a b, l = [a, b] := by
  match l, h with
  | [a, b], _ => exact ⟨a, b, rfl⟩
set_option maxRecDepth 100000 in
theorem open_rec {H : Type} {enc : TypeId × Value → H} {W : World} {base : Nat} {v : Value} {d : DataW H} {p : List MemPlace}
    (hv : Value.okWide Try.prog W .any base 23 v) (h : DataW.Trod enc Try.prog W 0 (fun _ => true) true 23 v d p) : ∃ (t : Int) (b : ByteArray), b.size ≤ maxLen ∧ v = rcV t b := by
  obtain ⟨cs, rfl, hsz, _⟩ : ∃ cs, v = .agg cs ∧ cs.size = Try.prog.cellsOf 23 ∧ Row.okWide Try.prog W .any base 23 cs := by
    simpa [Value.okWide, Try.underlying23] using hv
  rw [clR] at hsz
  obtain ⟨l⟩ := cs
  obtain ⟨c0, c1, rfl⟩ := list2 l hsz
  obtain ⟨fuel, hf⟩ := h
  obtain ⟨y0, y1, m, hx, hlen, h0, h1⟩ := Go.ChangeShapes.trod_struct2 Try.underlying23 hf
  simp only [cl3, cl9, List.drop_zero, List.drop_succ_cons, List.take_succ_cons, List.take_zero] at h0 h1
  obtain ⟨n, e0, _, hw⟩ := DataW.trod_int Try.underlying3 h0
  obtain ⟨s, e1, _, hs⟩ := DataW.trod_string Try.underlying9 h1
  have e0' : [c0] = [Value.int .i64 n] := e0
  have e1' : [c1] = [Value.string s] := e1
  injection e0' with f0 _
  injection e1' with f1 _
  subst f0 f1
  exact ⟨n, s, hs, rfl⟩
end Go.Proofs.Ytjaljnfijhfkcaa
