/- Rows of bytes that grow. -/
import Derived.Test.YtnmikancbfaejaaR2
import Derived.ArgAppend
import Derived.Laws.IdiomStrings
set_option linter.all false
set_option maxRecDepth 100000
namespace Go.Proofs.Ytnmikancbfaejaa
open Go.RowKit Go.Sort
/-- A row of n bytes, with room for more. -/
def Rw (w : World) (g n cap : Nat) (f : Nat → By) : Prop := n ≤ cap ∧ ∃ F, Arr w g cap F ∧ ∀ j, j < n → F j = bc f j
theorem Rw.c {w : World} {g n cap : Nat} {f : Nat → By} (h : Rw w g n cap f) (j : Nat) (hj : j < n) : w.cell? ⟨g, j, none⟩ = some (bc f j) := by
  obtain ⟨hl, F, hA, hF⟩ := h
  rw [hA.c j (by omega), hF j hj]
theorem Rw.lt {w : World} {g n cap : Nat} {f : Nat → By} (h : Rw w g (n + 1) cap f) : g < w.heap.size := block_lt_of_cell (h.c 0 (by omega))
theorem Rw.to {w w' : World} {g n cap : Nat} {f : Nat → By} (h : Rw w g (n + 1) cap f) (hb : Below w.heap.size w w') : Rw w' g (n + 1) cap f := by
  have hl := h.lt
  obtain ⟨h1, F, hA, hF⟩ := h
  exact ⟨h1, F, hA.below hb hl, hF⟩
theorem Rw.al {w : World} {g n cap : Nat} {f : Nat → By} (h : Rw w g (n + 1) cap f) (o : Obj) : Rw (w.alloc o) g (n + 1) cap f := h.to (Bel.al (Below.refl _ w) o)
theorem Rw.other {w w' : World} {g x n cap : Nat} {f : Nat → By} (h : Rw w g (n + 1) cap f) (hg : w.grownBy w' (some x)) (hne : g ≠ x) : Rw w' g (n + 1) cap f := by
  obtain ⟨h1, F, hA, hF⟩ := h
  obtain ⟨c, rfl⟩ : ∃ c, cap = c + 1 := ⟨cap - 1, by omega⟩
  exact ⟨h1, F, gb_arr hg hne hA, hF⟩
theorem Rw.arr {w : World} {g cap : Nat} {f : Nat → By} (h : Rw w g 16 cap f) : Arr w g 16 (bc f) := by
  obtain ⟨h1, F, hA, hF⟩ := h
  intro j hj
  rw [← hF j hj]
  exact hA j (by omega)
theorem Rw.congr {w : World} {g n cap : Nat} {f h : Nat → By} (hR : Rw w g n cap f) (e : ∀ j, j < n → f j = h j) : Rw w g n cap h := by
  obtain ⟨h1, F, hA, hF⟩ := hR
  exact ⟨h1, F, hA, fun j hj => by rw [hF j hj]; unfold bc; rw [e j hj]⟩
theorem Rw.of_owns {w : World} {base n : Nat} {v : Value} {f : Nat → By} (h : w.ownsRow base 5 1 v (n + 1) ((List.range (n + 1)).map (bc f))) : ∃ g cap, v = .slice (some ⟨g, 0, none⟩) (n + 1) cap ∧ base ≤ g ∧ Rw w g (n + 1) cap f := by
  rcases h.2 with ⟨_, h0⟩ | ⟨g, cap, cur, hv, hb, hh, hc, hm, hs, ht⟩
  · omega
  · refine ⟨g, cap, hv, hb, hc, fun j => cur.getD j undef, ?_, ?_⟩
    · intro j hj
      have hjs : j < cur.size := by omega
      constructor
      · rw [cell_of_row w g j cur 5 (0, 0) hh]
        simp [hjs]
      · simp [World.frozen?, hh]
    · intro j hj
      have hjs : j < cur.size := by omega
      have e : (cur.toList.take ((n + 1) * 1))[j]? = some (bc f j) := by rw [ht]; simp [hj]
      rw [List.getElem?_take, if_pos (by omega), Array.getElem?_toList] at e
      simp only [Array.getD_eq_getD_getElem?]
      rw [e]
      rfl
theorem wpList_app1 (w : World) {ops : Array Oper} {rest : List Oper} {o : Oper} {a : Act} {Q : Exit → Act → World → Prop} (hgd : o.guard = none) (s x : Operand)
    (hop : o.op = Op.call { callee := Callee.builtin Builtin.append, args := #[s, x], argTypes := #[48, 48] }) (g n cap : Nat) (f : Nat → By) (hs : a.eval s = .slice (some ⟨g, 0, none⟩) n cap) (hR : Rw w g n cap f)
    (q c : Nat) (hx : a.eval x = .slice (some ⟨q, 0, none⟩) 1 c) (hc : w.cell? ⟨q, 0, none⟩ = some (bc f n)) (hn : n ≤ 1000000)
    (h : ∀ g' cap' w', Rw w' g' (n + 1) cap' f → (g' = g ∨ w.heap.size ≤ g') → w.grownBy w' (some g) → wpList Try.prog ops Q rest (a.put o.dst (.slice (some ⟨g', 0, none⟩) (n + 1) cap')) w') : wpList Try.prog ops Q (o :: rest) a w := by
  obtain ⟨i0, hi, hz0, hz1, hz2⟩ := info_parts Try.info5
  have hap : (List.range n).map (bc f) ++ [bc f n] = (List.range (n + 1)).map (bc f) := by rw [List.range_succ, List.map_append]; rfl
  refine wpList_append_arg w hgd s x 48 hop 5 i0 (.int .u8 0) 1 1 Try.underlying48 hi hz0 hz1 hz2 rfl (by decide) g 0 n cap ((List.range n).map (bc f)) hs (by simp) ?_ ⟨q, 0, none⟩ 1 c [bc f n] hx rfl ?_ ?_ ?_ ?_ ?_ ?_ ?_
  · intro j u hu
    have hj : j < n := by have := (List.getElem?_eq_some_iff.1 hu).1; simpa using this
    rw [Nat.zero_add, hR.c j hj, ← hu]
    simp [hj]
  · intro j u hu
    obtain rfl : j = 0 := by have := (List.getElem?_eq_some_iff.1 hu).1; simpa using this
    rw [Addr.add_mid, hc]
    exact hu
  · intro u hu
    rw [List.mem_singleton.1 hu]; rfl
  · intro hroom j hj
    obtain rfl : j = 0 := by simpa using hj
    obtain ⟨h1, F, hA, hF⟩ := hR
    rw [Nat.zero_add, Nat.mul_one, Nat.add_zero]
    exact ⟨by rw [hA.c n (by omega)]; rfl, hA.z n (by omega)⟩
  · unfold maxLen; omega
  · omega
  · intro hroom
    rw [Nat.zero_add, Nat.mul_one]
    refine h g cap _ ?_ (.inl rfl) (gb_sets _ _ _ _)
    obtain ⟨h1, F, hA, hF⟩ := hR
    refine ⟨by omega, _, hA.set n (by omega) (bc f n), fun j hj => ?_⟩
    by_cases e : j = n
    · subst e; rw [if_pos rfl]
    · rw [if_neg e, hF j (by omega)]
  · intro hgr v' w' hown hg
    rw [hap] at hown
    obtain ⟨g', cap', rfl, hb, hR'⟩ := Rw.of_owns hown
    exact h g' cap' w' hR' (.inr hb) ⟨hg.os, hg.tape, hg.output, hg.size, fun k hk _ => hg.block k hk (by intro e; cases e)⟩
/-- A text's bytes as a new row. -/
theorem conv_rw (W : World) (s : ByteArray) (hs : 0 < s.size) : ∃ cap W', (convert 9 48 (.string s)).run Try.prog W = .ok (.slice (some ⟨W.heap.size, 0, none⟩) s.size cap) W' ∧ Rw W' W.heap.size s.size cap (bF s) ∧ Below W.heap.size W W' := by
  have h := run_bytes_of_string (P := Try.prog) W 9 48 5 s Try.underlying9 Try.underlying48 Try.underlying5
  have hge := grownCap_ge W s.size 0 5
  generalize grownCap W s.size 0 5 = cap at *
  have hsz : (bytesRow s cap).size = cap := by
    unfold bytesRow
    simp
    have : s.data.size = s.size := rfl
    omega
  refine ⟨cap, _, h, ⟨hge, fun j => (bytesRow s cap).getD j undef, ?_, ?_⟩, ?_⟩
  · intro j hj
    have hh : (W.drew.alloc (.cells (bytesRow s cap) 5 ((bytesRow s cap).size, (bytesRow s cap).size + 1))).heap[W.heap.size]? = some (.cells (bytesRow s cap) 5 ((bytesRow s cap).size, (bytesRow s cap).size + 1)) := World.alloc_heap_new W.drew _
    constructor
    · rw [cell_of_row _ W.heap.size j _ 5 _ hh]
      simp [hsz, hj]
    · simp only [World.frozen?, hh]
      simp [hsz]
      omega
  · intro j hj
    have hd : s.data.size = s.size := rfl
    have e : (bytesRow s cap)[j]? = some (bc (bF s) j) := by
      unfold bytesRow
      rw [Array.getElem?_append_left (by simp; omega), Array.getElem?_map, Array.getElem?_eq_getElem (by omega)]
      unfold bc
      rw [← bF_bt]
      unfold bt
      rw [Array.getElem?_eq_getElem (by omega)]
      rfl
    simp only [Array.getD_eq_getD_getElem?]
    rw [e]
    rfl
  · exact ((Below.refl _ W).drew).alloc (Nat.le_refl _) _
end Go.Proofs.Ytnmikancbfaejaa
