/- The reference: Pairs, ToPairs, Ints. -/
import Derived.Test.YtcicjjenkebnfaaK1
set_option linter.all false
set_option maxRecDepth 100000
namespace Go.Proofs.Ytcicjjenkebnfaa
open Go.RowKit Go.Shelf Go.Sort Go.Lib
theorem take_snoc' {α : Type} (l : List α) (k : Nat) (x : α) (h : l[k]? = some x) : l.take (k + 1) = l.take k ++ [x] := by
  obtain ⟨hk, e⟩ := List.getElem?_eq_some_iff.1 h
  rw [List.take_succ_eq_append_getElem hk, e]
theorem split_at' {α : Type} (l : List α) (k : Nat) (x : α) (h : l[k]? = some x) : l = l.take k ++ x :: l.drop (k + 1) := by
  obtain ⟨hk, e⟩ := List.getElem?_eq_some_iff.1 h
  rw [← e, List.getElem_cons_drop, List.take_append_drop]
theorem prE_bad (l : List Int) (h : ¬ 512 < l.length) (x : Int) (hx : x ∈ l) (hw : inW x = false) : prE l = 13 := by
  unfold prE
  rw [if_neg h, if_neg]
  intro ha
  have := List.all_eq_true.1 ha x hx
  rw [hw] at this
  cases this
theorem tpL_at (t : List UInt8) : ∀ (j : Nat), 2 * j + 1 < t.length → tpL (t.take (2 * (j + 1))) = tpL (t.take (2 * j)) ++ [(((t[2 * j]?.getD 0).toNat * 256 + (t[2 * j + 1]?.getD 0).toNat : Nat) : Int)] := by
  induction t using tpL.induct with
  | case1 a b t ih =>
    intro j hj
    cases j with
    | zero => rfl
    | succ j =>
      have := ih j (by simp at hj; omega)
      rw [show 2 * (j + 1 + 1) = (2 * (j + 1)) + 2 by omega, show 2 * (j + 1) = 2 * j + 2 by omega, show 2 * j + 2 + 1 = (2 * j + 1) + 2 by omega]
      simp only [List.take_succ_cons, List.getElem?_cons_succ]
      rw [tpL, tpL, List.cons_append]
      congr 1
  | case2 t h =>
    intro j hj
    match t, h with
    | [], _ => simp at hj
    | [a], _ => simp at hj
    | a :: b :: t, h => exact absurd rfl (h a b t)
theorem tpL_len (t : List UInt8) : (tpL t).length = t.length / 2 := by
  induction t using tpL.induct with
  | case1 a b t ih => rw [tpL, List.length_cons, ih, List.length_cons, List.length_cons]; omega
  | case2 t h =>
    match t, h with
    | [], _ => rfl
    | [a], _ => simp [tpL]
    | a :: b :: t, h => exact absurd rfl (h a b t)
/-- The first numbers of a text. -/
def tpU (s : ByteArray) (j : Nat) : List Int := tpL (s.data.toList.take (2 * j))
theorem tpU_succ (s : ByteArray) (j : Nat) (h : 2 * j + 1 < s.size) : tpU s (j + 1) = tpU s j ++ [bt s (2 * j) * 256 + bt s (2 * j + 1)] := by
  unfold tpU
  rw [tpL_at s.data.toList j (by rw [len_list]; exact h)]
  unfold bt
  rw [Array.getElem?_toList, Array.getElem?_toList]
  rfl
theorem tpU_len (s : ByteArray) (j : Nat) (h : 2 * j ≤ s.size) : (tpU s j).length = j := by
  unfold tpU; rw [tpL_len, List.length_take, len_list]; omega
theorem Try.info3 : (Try.prog.info? 3).map (fun i => (i.zero, i.size, i.bytes)) = some (some (.int .i64 0), 1, 8) := by kernel_rfl
end Go.Proofs.Ytcicjjenkebnfaa
