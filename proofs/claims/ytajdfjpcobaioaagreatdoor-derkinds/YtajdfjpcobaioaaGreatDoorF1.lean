/- Arguments and the package-level variables, opened. -/
import Derived.Test.YtajdfjpcobaioaaGreatDoorD9
import Derived.Test.YtajdfjpcobaioaaGreatDoorD13
import Derived.ProofKit
import Derived.OpenShut
import Derived.ShutString
import Derived.ChangeOld
import Derived.Below
import Derived.Laws.IdiomArrays
import Derived.Deep.Strs
import Derived.LaidMore
import Derived.Lay
import Derived.SevenTiedAt
import Derived.Stop.Joined
import Derived.SliceStrings
import Derived.ChangeSlices
set_option linter.all false
namespace Go.Proofs.YtajdfjpcobaioaaGreatDoor
open Go.ChangeShapes Go.WideShapes Go.ChangeAt Go.RowKit
open Go.ChangeMaps (open_string shut_string)
theorem cl23 : Tryz.prog.cellsOf 73 = 2 := by kernel_rfl
theorem cl3 : Tryz.prog.cellsOf 3 = 1 := by kernel_rfl
theorem cl9 : Tryz.prog.cellsOf 9 = 1 := by kernel_rfl
theorem cl63 : Tryz.prog.cellsOf 52 = 1 := by kernel_rfl
theorem list2 {α : Type} (l : List α) (h : (⟨l⟩ : Array α).size = 2) : ∃ a b, l = [a, b] := by
  match l, h with
  | [a, b], _ => exact ⟨a, b, rfl⟩
set_option maxRecDepth 100000 in
theorem open_tlv {H : Type} {enc : TypeId × Value → H} {W : World} {base : Nat} {v : Value} {d : DataW H} {p : List MemPlace}
    (hv : Value.okWide Tryz.prog W .any base 73 v) (h : DataW.Trod enc Tryz.prog W 0 (fun _ => true) true 73 v d p) : ∃ (t : Int) (b : ByteArray), b.size ≤ maxLen ∧ v = .agg #[.int .i64 t, .string b] := by
  obtain ⟨cs, rfl, hsz, _⟩ : ∃ cs, v = .agg cs ∧ cs.size = Tryz.prog.cellsOf 73 ∧ Row.okWide Tryz.prog W .any base 73 cs := by
    simpa [Value.okWide, Tryz.underlying73] using hv
  rw [cl23] at hsz
  obtain ⟨l⟩ := cs
  obtain ⟨c0, c1, rfl⟩ := list2 l hsz
  obtain ⟨fuel, hf⟩ := h
  obtain ⟨y0, y1, m, hx, hlen, h0, h1⟩ := Go.ChangeShapes.trod_struct2 Tryz.underlying73 hf
  simp only [cl3, cl9, List.drop_zero, List.drop_succ_cons, List.take_succ_cons, List.take_zero] at h0 h1
  obtain ⟨n, e0, _, hw⟩ := DataW.trod_int Tryz.underlying3 h0
  obtain ⟨s, e1, _, hs⟩ := DataW.trod_string Tryz.underlying9 h1
  have e0' : [c0] = [Value.int .i64 n] := e0
  have e1' : [c1] = [Value.string s] := e1
  injection e0' with f0 _
  injection e1' with f1 _
  subst f0 f1
  exact ⟨n, s, hs, rfl⟩
theorem bounds32 {n : Int} (h : (Lit.int .u32 n).wf = true) : 0 ≤ n ∧ n < 4294967296 := by
  simp only [Lit.wf, IntKind.min, IntKind.max, IntKind.signed, IntKind.bits, Bool.and_eq_true, decide_eq_true_eq] at h
  simp at h
  omega
set_option maxRecDepth 100000 in
theorem open_wds {H : Type} {enc : TypeId × Value → H} {W : World} {base : Nat} {v : Value} {d : DataW H} {ps : List MemPlace} (hval : Value.okWide Tryz.prog W .any base 25 v) (hd : DataW.Trod enc Tryz.prog W 0 (fun _ => true) true 25 v d ps) :
    ∃ l : List Int, Wds W v l ∧ l.length ≤ maxLen ∧ (∀ x ∈ l, 0 ≤ x ∧ x < 4294967296) ∧ ∀ a n c, v = .slice (some a) n c → c ≤ maxLen := by
  obtain ⟨a0, len, cap, rfl⟩ := okWide_slice Tryz.underlying25 hval
  obtain ⟨fuel, hf⟩ := hd
  rcases open_ints Tryz.underlying25 Tryz.underlying52 cl63 hf with ⟨hcs, hx⟩ | ⟨a, len', cap', zs, hcs, _, hl, hm, hz, hx, hcell, hws⟩
  · simp [Value.cells] at hcs
    obtain ⟨rfl, rfl, rfl⟩ := hcs
    exact ⟨[], .inl ⟨rfl, rfl⟩, Nat.zero_le _, (fun s hs => by cases hs), fun a n c h => by cases h⟩
  · simp [Value.cells] at hcs
    obtain ⟨rfl, rfl, rfl⟩ := hcs
    simp only [if_true] at hz
    have hlen : (zs.take len).length = len := by rw [List.length_take]; omega
    refine ⟨zs.take len, .inr ⟨a, cap, by rw [hlen], by rw [hlen]; exact hl, fun i s hi => ?_⟩, by rw [hlen]; omega, fun s hs => bounds32 (hws s (List.mem_of_mem_take hs)), fun a' n c h => by cases h; exact hm⟩
    have hlt : i < len := by have := (List.getElem?_eq_some_iff.1 hi).1; omega
    rw [hcell i (by omega), List.getD_eq_getElem?_getD]
    rw [List.getElem?_take_of_lt hlt] at hi
    rw [hi]; rfl
/-- The five variables, as the rows list them. -/
abbrev laid5 : List (String × DataW Unit) := Rows.derKindsRow.laid
theorem gP : Tryz.prog.globalNamed pwN = some 3 := by kernel_rfl
theorem tyP : (Tryz.prog.globals[3]?).map (·.type) = some 135 := by kernel_rfl
theorem cl46 : Tryz.prog.cellsOf 22 = 1 := by kernel_rfl
theorem cl144 : Tryz.prog.cellsOf 135 = 20 := by kernel_rfl
theorem pow_list : (Rows.laid_internal_strconv_uint64pow10 : DataW Unit) = Lib.tabData .u64 Lib.pow10Tab := by kernel_rfl
theorem of_laid {W : World} (h : laidMetH Tryz.prog laid5 W) : Tab W := by
  rw [MakeChecks.laidMetH_plain _ _ _ (by kernel_rfl)] at h
  obtain ⟨ps, ⟨g0, t0, cs0, f0, p0, q0, hg0, ht0, hv0, hd0, ⟨g1, t1, cs1, f1, p1, q1, hg1, ht1, hv1, hd1, ⟨g2, t2, cs2, f2, p2, q2, hg2, ht2, hv2, hd2, _, _⟩, _⟩, _⟩, _, _⟩ := h
  obtain rfl := Option.some.inj (gP.symm.trans hg2)
  obtain rfl := Option.some.inj (tyP.symm.trans ht2)
  rw [pow_list] at hd2
  unfold Tab Lib.TabIs
  have e := Lib.cells_of_tab Tryz.underlying135 Tryz.underlying22 cl46 cl144 hd2
  have hv : W.var? Tryz.prog pwN = some cs2 := hv2
  refine hv.trans ?_
  rw [← e]
end Go.Proofs.YtajdfjpcobaioaaGreatDoor
