/- Arguments opened: rows of records and of numbers. -/
import Derived.Test.YtndfcecimckioaaK1
import Derived.ProofKit
import Derived.OpenShut
import Derived.ShutString
import Derived.ChangeOld
import Derived.ChangeSlices
import Derived.Below
set_option linter.all false
set_option maxRecDepth 100000
namespace Go.Proofs.Ytndfcecimckioaa
open Go.ChangeShapes Go.WideShapes Go.ChangeAt Go.RowKit
theorem own : ownKnob Try.prog.godebug = none := by kernel_rfl
theorem laidOut : laidOutB Try.prog = true := by kernel_rfl
theorem wf64 {n : Int} (h : (Lit.int .i64 n).wf = true) : -9223372036854775808 ≤ n ∧ n ≤ 9223372036854775807 := by
  have a : IntKind.i64.min = -9223372036854775808 := by decide
  have b : IntKind.i64.max = 9223372036854775807 := by decide
  simp [Lit.wf, a, b] at h
  omega
theorem cK3 : Try.prog.cellsOf 47 = 3 := by kernel_rfl
theorem cI1 : Try.prog.cellsOf 3 = 1 := by kernel_rfl
theorem cS1 : Try.prog.cellsOf 9 = 1 := by kernel_rfl
theorem cB1 : Try.prog.cellsOf 4 = 1 := by kernel_rfl
theorem list3 {α : Type} (l : List α) (h : l.length = 3) : ∃ a b c, l = [a, b, c] := by
  match l, h with
  | [a, b, c], _ => exact ⟨a, b, c, rfl⟩
theorem open_keC {H : Type} {enc : TypeId × Value → H} {W : World} {fuel : Nat} {cs : List Value} {x : DataW H × List MemPlace} (h : DataW.trod enc Try.prog W 0 (fun _ => true) true fuel 47 cs = some x) :
    ∃ r : Ke, cs = [.bool r.c, .int .i64 r.k, .string r.s] ∧ r.s.size ≤ maxLen := by
  obtain ⟨xs, n, _, _, hl, hlen, hf⟩ := DataW.trod_struct Try.underlying47 h
  rw [cK3] at hl
  obtain ⟨a0, a1, a2, rfl⟩ := list3 cs hl
  match xs, hlen, hf with
  | [y0, y1, y2], _, hf =>
    have f0 := hf 0 _ rfl
    have f1 := hf 1 _ rfl
    have f2 := hf 2 _ rfl
    simp only [cI1, cS1, cB1, List.drop_zero, List.drop_succ_cons, List.take_succ_cons, List.take_zero, List.getElem?_cons_zero, List.getElem?_cons_succ] at f0 f1 f2
    obtain ⟨b, e0, _⟩ := DataW.trod_bool Try.underlying4 f0
    obtain ⟨k, e1, _, _⟩ := DataW.trod_int Try.underlying3 f1
    obtain ⟨s, e2, _, z2⟩ := DataW.trod_string Try.underlying9 f2
    refine ⟨⟨b, k, s⟩, ?_, z2⟩
    simp [cI1, cS1, cB1] at e0 e1 e2
    rw [e0, e1, e2]
theorem collect {W : World} (a : Addr) (len : Nat) (h : ∀ i, i < len → ∃ r : Ke, (∀ j v, [Value.bool r.c, .int .i64 r.k, .string r.s][j]? = some v → W.cell? (a.add (i * 3 + j)) = some v) ∧ r.s.size ≤ maxLen) :
    ∃ l : List Ke, l.length = len ∧ (∀ r ∈ l, r.s.size ≤ maxLen) ∧ ∀ i r, l[i]? = some r → ∀ j v, [Value.bool r.c, .int .i64 r.k, .string r.s][j]? = some v → W.cell? (a.add (i * 3 + j)) = some v := by
  induction len with
  | zero => exact ⟨[], rfl, (fun m hm => by cases hm), (fun i m hm => by cases hm)⟩
  | succ n ih =>
    obtain ⟨l, hl, hc, hi⟩ := ih (fun i hi => h i (by omega))
    obtain ⟨m, h1, h3⟩ := h n (by omega)
    refine ⟨l ++ [m], by rw [List.length_append, hl]; rfl, fun x hx => ?_, fun i x hx => ?_⟩
    · rcases List.mem_append.1 hx with hx | hx
      · exact hc x hx
      · simp at hx; subst hx; exact h3
    · by_cases hin : i < l.length
      · rw [List.getElem?_append_left hin] at hx
        exact hi i x hx
      · rw [List.getElem?_append_right (by omega)] at hx
        have : i - l.length = 0 := by
          cases hq : i - l.length with
          | zero => rfl
          | succ q => rw [hq] at hx; simp at hx
        rw [this] at hx
        simp at hx
        subst hx
        have : i = n := by omega
        subst this
        exact h1
theorem open_recs {H : Type} {enc : TypeId × Value → H} {W : World} {base : Nat} {v : Value} {d : DataW H} {ps : List MemPlace} (hval : Value.okWide Try.prog W .any base 22 v) (hd : DataW.Trod enc Try.prog W 0 (fun _ => true) true 22 v d ps) :
    ∃ l : List Ke, Kls W v l ∧ l.length ≤ maxLen ∧ ∀ r ∈ l, r.s.size ≤ maxLen := by
  obtain ⟨a0, len, cap, rfl⟩ := okWide_slice Try.underlying22 hval
  obtain ⟨fuel, hf⟩ := hd
  rcases DataW.trod_slice Try.underlying22 hf with ⟨hcs, _⟩ | ⟨a, len', cap', elems, rest, n, _, hcs, _, _, hle, hm, hlen, hel, _, _⟩
  · simp [Value.cells] at hcs
    obtain ⟨rfl, rfl, rfl⟩ := hcs
    exact ⟨[], Kls.nil W, Nat.zero_le _, fun m hm => by cases hm⟩
  · simp [Value.cells] at hcs
    obtain ⟨rfl, rfl, rfl⟩ := hcs
    have each : ∀ i, i < len → ∃ r : Ke, (∀ j v, [Value.bool r.c, .int .i64 r.k, .string r.s][j]? = some v → W.cell? (a.add (i * 3 + j)) = some v) ∧ r.s.size ≤ maxLen := fun i hi => by
      have h1 := hel i hi
      rw [List.getElem?_eq_getElem (by omega), cK3, Option.bind_eq_some_iff] at h1
      obtain ⟨cs, hcs, ht⟩ := h1
      obtain ⟨r, e, z⟩ := open_keC ht
      obtain ⟨_, hl, hc⟩ := World.cells?_some hcs
      refine ⟨r, fun j v hv => ?_, z⟩
      subst e
      have hj : j < 3 := by rw [← hl]; exact (List.getElem?_eq_some_iff.1 hv).1
      have := hc j hj
      rw [hv, Addr.add_add] at this
      exact this
    obtain ⟨l, hl, hc, hi⟩ := collect a len each
    refine ⟨l, ⟨some a, cap, by rw [hl], fun i r him => ?_⟩, by rw [hl]; omega, hc⟩
    have h0 := hi i r him 0 _ rfl
    have h1 := hi i r him 1 _ rfl
    have h2 := hi i r him 2 _ rfl
    obtain ⟨g, o, spot⟩ := a
    have sp' : spot = none := by
      have hl0 := (List.getElem?_eq_some_iff.1 him).1
      have := World.cell?_spot (hi 0 _ (List.getElem?_eq_getElem (by omega)) 0 _ rfl)
      simpa [Addr.add] using this
    subst sp'
    rw [Addr.add_mid] at h0 h1 h2
    exact ⟨g, o, rfl, block_lt_of_cell h0, h0, h1, h2⟩
theorem collectN {W : World} (a : Addr) (len : Nat) (h : ∀ i, i < len → ∃ n : Int, W.cell? (a.add i) = some (.int .i64 n)) :
    ∃ l : List Int, l.length = len ∧ ∀ i n, l[i]? = some n → W.cell? (a.add i) = some (.int .i64 n) := by
  induction len with
  | zero => exact ⟨[], rfl, (fun i m hm => by cases hm)⟩
  | succ n ih =>
    obtain ⟨l, hl, hi⟩ := ih (fun i hi => h i (by omega))
    obtain ⟨m, h1⟩ := h n (by omega)
    refine ⟨l ++ [m], by rw [List.length_append, hl]; rfl, fun i x hx => ?_⟩
    by_cases hin : i < l.length
    · rw [List.getElem?_append_left hin] at hx
      exact hi i x hx
    · rw [List.getElem?_append_right (by omega)] at hx
      have : i - l.length = 0 := by
        cases hq : i - l.length with
        | zero => rfl
        | succ q => rw [hq] at hx; simp at hx
      rw [this] at hx
      simp at hx
      subst hx
      have : i = n := by omega
      subst this
      exact h1
theorem open_ints {H : Type} {enc : TypeId × Value → H} {W : World} {base : Nat} {v : Value} {d : DataW H} {ps : List MemPlace} (hval : Value.okWide Try.prog W .any base 35 v) (hd : DataW.Trod enc Try.prog W 0 (fun _ => true) true 35 v d ps) :
    ∃ l : List Int, Nls W v l ∧ l.length ≤ maxLen := by
  obtain ⟨a0, len, cap, rfl⟩ := okWide_slice Try.underlying35 hval
  obtain ⟨fuel, hf⟩ := hd
  rcases DataW.trod_slice Try.underlying35 hf with ⟨hcs, _⟩ | ⟨a, len', cap', elems, rest, n, _, hcs, _, _, hle, hm, hlen, hel, _, _⟩
  · simp [Value.cells] at hcs
    obtain ⟨rfl, rfl, rfl⟩ := hcs
    exact ⟨[], Nls.nil W, Nat.zero_le _⟩
  · simp [Value.cells] at hcs
    obtain ⟨rfl, rfl, rfl⟩ := hcs
    have each : ∀ i, i < len → ∃ n : Int, W.cell? (a.add i) = some (.int .i64 n) := fun i hi => by
      have h1 := hel i hi
      rw [List.getElem?_eq_getElem (by omega), cI1, Option.bind_eq_some_iff] at h1
      obtain ⟨cs, hcs, ht⟩ := h1
      obtain ⟨k, e, _, _⟩ := DataW.trod_int Try.underlying3 ht
      obtain ⟨_, hl, hc⟩ := World.cells?_some hcs
      have := hc 0 (by omega)
      rw [e] at this
      refine ⟨k, ?_⟩
      simpa [Addr.add_add] using this
    obtain ⟨l, hl, hi⟩ := collectN a len each
    refine ⟨l, ⟨some a, cap, by rw [hl], fun i r him => ?_⟩, by rw [hl]; omega⟩
    have h0 := hi i r him
    obtain ⟨g, o, spot⟩ := a
    have sp' : spot = none := by
      have hl0 := (List.getElem?_eq_some_iff.1 him).1
      have := World.cell?_spot (hi 0 _ (List.getElem?_eq_getElem (by omega)))
      simpa [Addr.add] using this
    subst sp'
    rw [Addr.add_mid] at h0
    exact ⟨g, o, rfl, block_lt_of_cell h0, h0⟩
end Go.Proofs.Ytndfcecimckioaa
