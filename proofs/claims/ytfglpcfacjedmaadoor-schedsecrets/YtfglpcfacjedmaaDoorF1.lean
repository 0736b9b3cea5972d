/- Arguments and the package-level variables, opened. -/
import Derived.Test.YtfglpcfacjedmaaDoorRows
import Derived.Test.YtfglpcfacjedmaaDoorC7
import Derived.ProofKit
import Derived.OpenShut
import Derived.ShutString
import Derived.ChangeOld
import Derived.Below
import Derived.Laws.IdiomArrays
import Derived.Deep.Strs
import Derived.LaidMore
import Derived.Stop.Joined
import Derived.SliceStrings
set_option linter.all false
namespace Go.Proofs.YtfglpcfacjedmaaDoor
open Go.ChangeShapes Go.WideShapes Go.ChangeAt Go.RowKit
open Go.ChangeMaps (open_string shut_string)
theorem own : ownKnob Tryd.prog.godebug = none := by kernel_rfl
theorem laidOut : laidOutB Tryd.prog = true := by kernel_rfl
theorem cells22 : Tryd.prog.cellsOf 67 = 1 := by kernel_rfl
theorem cells23 : Tryd.prog.cellsOf 68 = 8 := by kernel_rfl
theorem cells37 : Tryd.prog.cellsOf 70 = 10 := by kernel_rfl
theorem cells9 : Tryd.prog.cellsOf 9 = 1 := by kernel_rfl
theorem cells35 : Tryd.prog.cellsOf 33 = 1 := by kernel_rfl
/-- The number in a cell. -/
def numOf : Option Value → Int
  | some (.int _ k) => k
  | _ => 0
theorem take_one {α : Type} {l : List α} {i : Nat} {v : α} (h : (l.drop i).take 1 = [v]) : l[i]? = some v := by
  have e : ((l.drop i).take 1)[0]? = some v := by rw [h]; rfl
  rw [List.getElem?_take] at e
  simpa using e
/-- An array of words. -/
theorem trod_words {H : Type} {enc : TypeId × Value → H} {W : World} {base : Nat} {sp : Nat → Bool} {held : Bool} {fuel n : Nat} {T : TypeId} {cs : List Value} {x : DataW H × List MemPlace} (ht : Tryd.prog.underlying T = some (.array n 67))
    (h : DataW.trod enc Tryd.prog W base sp held fuel T cs = some x) : cs.length = Tryd.prog.cellsOf T ∧ (∀ i, i < n → cs[i]? = some (.int .u32 (numOf cs[i]?))) ∧ ∃ ds, x.1 = .agg ds ∧ ∀ i, i < n → ds[i]? = some (.lit (.int .u32 (numOf cs[i]?))) := by
  obtain ⟨xs, m, rfl, hx, hl, hn, hel⟩ := DataW.trod_array ht h
  have each : ∀ i, i < n → ∃ k, cs[i]? = some (.int .u32 k) ∧ ∃ p, xs[i]? = some (.lit (.int .u32 k), p) := by
    intro i hi
    have e := hel i hi
    rw [cells22, Nat.mul_one] at e
    obtain ⟨y, hy⟩ : ∃ y, xs[i]? = some y := ⟨_, List.getElem?_eq_getElem (by omega)⟩
    rw [hy] at e
    obtain ⟨k, e1, e2, _⟩ := DataW.trod_int Tryd.underlying67 e
    exact ⟨k, take_one e1, [], by rw [hy, e2]⟩
  refine ⟨hl, fun i hi => ?_, xs.map (·.1), by rw [hx], fun i hi => ?_⟩
  · obtain ⟨k, e, _⟩ := each i hi
    rw [e]; rfl
  · obtain ⟨k, e, p, e2⟩ := each i hi
    rw [List.getElem?_map, e2, e]; rfl
theorem list8 {α : Type} (l : List α) (h : l.length = 8) : ∃ a0 a1 a2 a3 a4 a5 a6 a7, l = [a0, a1, a2, a3, a4, a5, a6, a7] := by
  match l, h with
  | [a0, a1, a2, a3, a4, a5, a6, a7], _ => exact ⟨a0, a1, a2, a3, a4, a5, a6, a7, rfl⟩
theorem list10 {α : Type} (l : List α) (h : l.length = 10) : ∃ a0 a1 a2 a3 a4 a5 a6 a7 a8 a9, l = [a0, a1, a2, a3, a4, a5, a6, a7, a8, a9] := by
  match l, h with
  | [a0, a1, a2, a3, a4, a5, a6, a7, a8, a9], _ => exact ⟨a0, a1, a2, a3, a4, a5, a6, a7, a8, a9, rfl⟩
theorem eight {H : Type} {enc : TypeId × Value → H} {W : World} {base : Nat} {sp : Nat → Bool} {held : Bool} {fuel : Nat} {c0 c1 c2 c3 c4 c5 c6 c7 : Value} {x : DataW H × List MemPlace}
    (h : DataW.trod enc Tryd.prog W base sp held fuel 68 [c0, c1, c2, c3, c4, c5, c6, c7] = some x) : ∃ f : Nat → Int, c0 = .int .u32 (f 0) ∧ c1 = .int .u32 (f 1) ∧ c2 = .int .u32 (f 2) ∧ c3 = .int .u32 (f 3) ∧ c4 = .int .u32 (f 4) ∧ c5 = .int .u32 (f 5) ∧ c6 = .int .u32 (f 6) ∧ c7 = .int .u32 (f 7) := by
  obtain ⟨_, hc, _⟩ := trod_words Tryd.underlying68 h
  exact ⟨fun i => numOf [c0, c1, c2, c3, c4, c5, c6, c7][i]?, Option.some.inj (hc 0 (by omega)), Option.some.inj (hc 1 (by omega)), Option.some.inj (hc 2 (by omega)), Option.some.inj (hc 3 (by omega)), Option.some.inj (hc 4 (by omega)), Option.some.inj (hc 5 (by omega)), Option.some.inj (hc 6 (by omega)), Option.some.inj (hc 7 (by omega))⟩
set_option maxRecDepth 100000 in
theorem open23 {H : Type} {enc : TypeId × Value → H} {W : World} {base : Nat} {v : Value} {d : DataW H} {p : List MemPlace}
    (hv : Value.okWide Tryd.prog W .any base 68 v) (h : DataW.Trod enc Tryd.prog W 0 (fun _ => true) true 68 v d p) : ∃ f : Nat → Int, v = w8 f := by
  obtain ⟨cs, rfl, hsz, _⟩ : ∃ cs, v = .agg cs ∧ cs.size = Tryd.prog.cellsOf 68 ∧ Row.okWide Tryd.prog W .any base 68 cs := by
    simpa [Value.okWide, Tryd.underlying68] using hv
  rw [cells23] at hsz
  obtain ⟨l⟩ := cs
  obtain ⟨c0, c1, c2, c3, c4, c5, c6, c7, rfl⟩ := list8 l hsz
  obtain ⟨fuel, hf⟩ := h
  obtain ⟨f, rfl, rfl, rfl, rfl, rfl, rfl, rfl, rfl⟩ := eight hf
  exact ⟨f, rfl⟩
theorem bounds64 {n : Int} (h : (Lit.int .u64 n).wf = true) : 0 ≤ n ∧ n < 18446744073709551616 := by
  simp only [Lit.wf, IntKind.min, IntKind.max, IntKind.signed, IntKind.bits, Bool.and_eq_true, decide_eq_true_eq] at h
  simp at h
  omega
set_option maxRecDepth 100000 in
theorem open37 {H : Type} {enc : TypeId × Value → H} {W : World} {base : Nat} {v : Value} {d : DataW H} {p : List MemPlace}
    (hv : Value.okWide Tryd.prog W .any base 70 v) (h : DataW.Trod enc Tryd.prog W 0 (fun _ => true) true 70 v d p) : ∃ (f : Nat → Int) (L : ByteArray) (n : Int), L.size ≤ maxLen ∧ 0 ≤ n ∧ n < 18446744073709551616 ∧ v = Go.Proofs.YtfglpcfacjedmaaDoor.hv f L n := by
  obtain ⟨cs, rfl, hsz, _⟩ : ∃ cs, v = .agg cs ∧ cs.size = Tryd.prog.cellsOf 70 ∧ Row.okWide Tryd.prog W .any base 70 cs := by
    simpa [Value.okWide, Tryd.underlying70] using hv
  rw [cells37] at hsz
  obtain ⟨l⟩ := cs
  obtain ⟨c0, c1, c2, c3, c4, c5, c6, c7, c8, c9, rfl⟩ := list10 l hsz
  obtain ⟨fuel, hf⟩ := h
  obtain ⟨y0, y1, y2, m, hx, hlen, h0, h1, h2⟩ := Go.Deep.trod_struct3 Tryd.underlying70 hf
  simp only [cells23, cells9, cells35, List.drop_zero, List.drop_succ_cons, List.take_succ_cons, List.take_zero] at h0 h1 h2
  obtain ⟨f, rfl, rfl, rfl, rfl, rfl, rfl, rfl, rfl⟩ := eight h0
  obtain ⟨s, e, _, hs⟩ := DataW.trod_string Tryd.underlying9 h1
  obtain ⟨n, e2, _, hw⟩ := DataW.trod_int Tryd.underlying33 h2
  have e' : [c8] = [Value.string s] := e
  have e2' : [c9] = [Value.int .u64 n] := e2
  injection e' with e1 _
  injection e2' with e3 _
  subst e1 e3
  have b := bounds64 hw
  exact ⟨f, s, n, hs, b.1, b.2, rfl⟩
/-- The two variables, as the rows list them. -/
abbrev laid2 : List (String × DataW Unit) := Rows.schedSecretsRow.laid
def nameAt (k : Nat) : String := match laid2[k]? with
  | some x => x.1
  | _ => ""
theorem gB : Tryd.prog.globalNamed (nameAt 0) = some 0 := by kernel_rfl
theorem gK : Tryd.prog.globalNamed (nameAt 1) = some 1 := by kernel_rfl
theorem tyB : (Tryd.prog.globals[0]?).map (·.type) = some 68 := by kernel_rfl
theorem tyK : (Tryd.prog.globals[1]?).map (·.type) = some 108 := by kernel_rfl
theorem beg_list : (Rows.laid_pendulum_sha_beginning : DataW Unit) = .agg ([1779033703, 3144134277, 1013904242, 2773480762, 1359893119, 2600822924, 528734635, 1541459225].map fun k => .lit (.int .u32 k)) := rfl
theorem con_list : (Rows.laid_pendulum_sha_constants : DataW Unit) = .agg (kL.map fun k => .lit (.int .u32 k)) := rfl
theorem of_laid {W : World} (h : laidMetH Tryd.prog laid2 W) : Tab W := by
  rw [MakeChecks.laidMetH_plain _ _ _ (by kernel_rfl)] at h
  obtain ⟨ps, ⟨g0, t0, cs0, f0, p0, q0, hg0, ht0, hv0, hd0, ⟨g1, t1, cs1, f1, p1, q1, hg1, ht1, hv1, hd1, _, _⟩, _⟩, _, _⟩ := h
  obtain rfl := Option.some.inj (gB.symm.trans hg0)
  obtain rfl := Option.some.inj (gK.symm.trans hg1)
  obtain rfl := Option.some.inj (tyB.symm.trans ht0)
  obtain rfl := Option.some.inj (tyK.symm.trans ht1)
  obtain ⟨_, b1, ds, b2, b3⟩ := trod_words Tryd.underlying68 hd0
  obtain ⟨_, k1, dk, k2, k3⟩ := trod_words Tryd.underlying108 hd1
  simp only [beg_list, DataW.agg.injEq] at b2
  simp only [con_list, DataW.agg.injEq] at k2
  subst b2
  subst k2
  have hb : ∀ j, j < 8 → W.cell? ⟨0, j, none⟩ = some (.int .u32 (bgn j)) := by
    intro j hj
    rw [World.var?_cell hg0 hv0 j, ← Array.getElem?_toList, b1 j hj]
    have e := b3 j hj
    generalize numOf cs0.toList[j]? = z at *
    have : j = 0 ∨ j = 1 ∨ j = 2 ∨ j = 3 ∨ j = 4 ∨ j = 5 ∨ j = 6 ∨ j = 7 := by omega
    rcases this with rfl | rfl | rfl | rfl | rfl | rfl | rfl | rfl <;> (simp at e; subst e; rfl)
  have hk : ∀ j, j < 64 → W.cell? ⟨1, j, none⟩ = some (.int .u32 (kk j)) := by
    intro j hj
    rw [World.var?_cell hg1 hv1 j, ← Array.getElem?_toList, k1 j hj]
    have e := k3 j hj
    rw [List.getElem?_map] at e
    obtain ⟨z, hz, e2⟩ := Option.map_eq_some_iff.1 e
    have e3 : z = numOf cs1.toList[j]? := by injection e2 with e2; injection e2
    have e4 : kk j = z := by unfold kk; rw [List.getD, hz]; rfl
    rw [e4, e3]
  exact ⟨hb, hk, block_lt_of_cell (hk 0 (by omega))⟩
/-- The door's own heap meets the condition. -/
theorem door_met (os : Os) (args : Array Value) : laidMetH Tryd.prog laid2 ((World.doorLaid Tryd.prog 400 os).forCall (fun _ _ => 0) ⟨#[], args, []⟩).memory :=
  laidMetH_of_parts3 (fuel := 8) (laidMet_of_run' 8 (by kernel_rfl) (by kernel_rfl)) (by kernel_rfl) (by kernel_rfl)
end Go.Proofs.YtfglpcfacjedmaaDoor
