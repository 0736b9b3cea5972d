/- Secrets that came in as an argument, opened. -/
import Derived.Test.YtfglpcfacjedmaaDoorF2
import Derived.Test.YtfglpcfacjedmaaDoorSC
set_option linter.all false
namespace Go.Proofs.YtfglpcfacjedmaaDoor
open Go.ChangeShapes Go.WideShapes Go.ChangeAt Go.RowKit
open Go.ChangeMaps (open_string shut_string)
theorem clX : Tryd.prog.cellsOf 23 = 4 := by kernel_rfl
theorem clT : Tryd.prog.cellsOf 9 = 1 := by kernel_rfl
theorem list4 {α : Type} (l : List α) (h : (⟨l⟩ : Array α).size = 4) : ∃ a b c d, l = [a, b, c, d] := by
  match l, h with
  | [a, b, c, d], _ => exact ⟨a, b, c, d, rfl⟩
set_option maxRecDepth 100000 in
theorem open_sec {H : Type} {enc : TypeId × Value → H} {W : World} {base : Nat} {v : Value} {d : DataW H} {p : List MemPlace}
    (hv : Value.okWide Tryd.prog W .any base 23 v) (h : DataW.Trod enc Tryd.prog W 0 (fun _ => true) true 23 v d p) : ∃ (a b c e : ByteArray), a.size ≤ maxLen ∧ e.size ≤ maxLen ∧ v = sec a b c e := by
  obtain ⟨cs, rfl, hsz, _⟩ : ∃ cs, v = .agg cs ∧ cs.size = Tryd.prog.cellsOf 23 ∧ Row.okWide Tryd.prog W .any base 23 cs := by
    simpa [Value.okWide, Tryd.underlying23] using hv
  rw [clX] at hsz
  obtain ⟨l⟩ := cs
  obtain ⟨c0, c1, c2, c3, rfl⟩ := list4 l hsz
  obtain ⟨fuel, hf⟩ := h
  obtain ⟨xs, n, _, _, hl, hlen, hx⟩ := DataW.trod_struct Tryd.underlying23 hf
  match xs, hlen with
  | [y0, y1, y2, y3], _ =>
    have h0 := hx 0 _ rfl
    have h1 := hx 1 _ rfl
    have h2 := hx 2 _ rfl
    have h3 := hx 3 _ rfl
    simp [clT] at h0 h1 h2 h3
    obtain ⟨s0, e0, _, z0⟩ := DataW.trod_string Tryd.underlying9 h0
    obtain ⟨s1, e1, _, z1⟩ := DataW.trod_string Tryd.underlying9 h1
    obtain ⟨s2, e2, _, z2⟩ := DataW.trod_string Tryd.underlying9 h2
    obtain ⟨s3, e3, _, z3⟩ := DataW.trod_string Tryd.underlying9 h3
    injection e0 with f0 _
    injection e1 with f1 _
    injection e2 with f2 _
    injection e3 with f3 _
    subst f0 f1 f2 f3
    exact ⟨s0, s1, s2, s3, z0, z3, rfl⟩
end Go.Proofs.YtfglpcfacjedmaaDoor
