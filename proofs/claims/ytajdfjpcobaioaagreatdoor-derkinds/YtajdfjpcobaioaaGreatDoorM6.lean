/- Rows of numbers: there and back. -/
import Derived.Test.YtajdfjpcobaioaaGreatDoorD19
set_option linter.all false
set_option maxRecDepth 100000
namespace Go.Proofs.YtajdfjpcobaioaaGreatDoor
open Go.RowKit Go.Sort
theorem svT_rev (f : Nat) (m : Int) (h : m ≠ 0) : (svT (f + 1) m).reverse = (svT f (m / 128)).reverse ++ [128 + m % 128] := by
  rw [svT, if_neg h, List.reverse_cons]
theorem pr_high (rest acc : List Int) (f : Nat) : ∀ m, 0 ≤ m → m < 128 ^ f → m ≤ 4294967295 → ∀ rest, pr ((svT f m).reverse ++ rest) acc 0 false = if m = 0 then pr rest acc 0 false else pr rest acc m true := by
  induction f with
  | zero => intro m m0 m1 _ rest; have : m = 0 := by simp at m1; omega
            subst this; rfl
  | succ f ih =>
    intro m m0 m1 m2 rest
    by_cases h : m = 0
    · subst h; rw [svT_0]; rfl
    · rw [if_neg h, svT_rev f m h, List.append_assoc, ih (m / 128) (by omega) (by rw [Int.pow_succ] at m1; omega) (by omega)]
      by_cases h2 : m / 128 = 0
      · rw [if_pos h2, List.singleton_append, pr, if_neg (by omega), if_neg (by omega), if_neg (by omega)]
        congr 1
        omega
      · rw [if_neg h2, List.singleton_append, pr, if_neg (by intro h; cases h.1), if_neg (by omega), if_neg (by omega)]
        congr 1
        omega
theorem pr_svL (n : Int) (n0 : 0 ≤ n) (n1 : n < 4294967296) (rest acc : List Int) : pr (svL n ++ rest) acc 0 false = if acc.length = 16 then ([], 18) else pr rest (acc ++ [n]) 0 false := by
  have e : svL n = (svT 4 (n / 128)).reverse ++ [n % 128] := by unfold svL; rw [List.reverse_cons]
  rw [e, List.append_assoc, pr_high rest acc 4 (n / 128) (by omega) (by rw [show (128 : Int) ^ 4 = 268435456 by decide]; omega) (by omega), List.singleton_append]
  by_cases h : n / 128 = 0
  · rw [if_pos h, pr, if_neg (by omega), if_neg (by omega), if_pos (by omega), show 0 * 128 + n % 128 % 128 = n by omega]
  · rw [if_neg h, pr, if_neg (by intro h; cases h.1), if_neg (by omega), if_pos (by omega), show n / 128 * 128 + n % 128 % 128 = n by omega]
theorem pr_all (ls : List Int) (hb : ∀ x ∈ ls, 0 ≤ x ∧ x < 4294967296) : ∀ acc, acc.length + ls.length ≤ 16 → pr (ls.flatMap svL) acc 0 false = (acc ++ ls, 0) := by
  induction ls with
  | nil => intro acc _; simp [pr]
  | cons x ls ih =>
    intro acc hl
    have hx := hb x (List.mem_cons_self ..)
    simp only [List.length_cons] at hl
    rw [List.flatMap_cons, pr_svL x hx.1 hx.2, if_neg (by omega), ih (fun y hy => hb y (List.mem_cons_of_mem _ hy)) _ (by simp; omega)]
    simp
theorem oid_to (l : List Int) (hb : ∀ x ∈ l, 0 ≤ x ∧ x < 4294967296) (h : oidE l = 0) : Bys (oidL l) ∧ toO (oidL l) = (l, 0) := by
  unfold oidE at h
  split at h
  · exact absurd h (by decide)
  split at h
  · exact absurd h (by decide)
  split at h
  · exact absurd h (by decide)
  rename_i c1 c2 c3
  match l, c1 with
  | [], c1 => simp at c1
  | [_], c1 => simp at c1
  | x :: y :: ls, _ =>
    have hx := hb x (by simp)
    have hy := hb y (by simp)
    simp at c2 c3
    have hm : msF x = if x = 2 then 47 else 39 := rfl
    have e : oidL (x :: y :: ls) = (40 * x + y) :: ls.flatMap svL := rfl
    have cb : 0 ≤ 40 * x + y ∧ 40 * x + y < 128 := by split at hm <;> omega
    refine ⟨?_, ?_⟩
    · rw [e]
      refine Bys.cons (by omega) (fun z hz => ?_)
      obtain ⟨n, _, hn⟩ := List.mem_flatMap.1 hz
      exact svL_bys n z hn
    · unfold toO
      rw [e, if_neg (by simp), if_neg (by simp; omega)]
      have eo : o1 (40 * x + y) = x := by unfold o1; split <;> (split at hm <;> omega)
      simp only [List.headD_cons, List.tail_cons]
      rw [eo, show 40 * x + y - 40 * x = y by omega, pr_all ls (fun z hz => hb z (by simp [hz])) _ (by simp; omega)]
      rfl
theorem svT_more (f : Nat) : ∀ m, 0 ≤ m → m < 128 ^ f → svT (f + 1) m = svT f m := by
  induction f with
  | zero => intro m m0 m1; have : m = 0 := by simp at m1; omega
            subst this; rfl
  | succ f ih =>
    intro m m0 m1
    have a1 : svT (f + 1 + 1) m = if m = 0 then [] else (128 + m % 128) :: svT (f + 1) (m / 128) := rfl
    have a2 : svT (f + 1) m = if m = 0 then [] else (128 + m % 128) :: svT f (m / 128) := rfl
    rw [a1, a2]
    by_cases h : m = 0
    · rw [if_pos h, if_pos h]
    · rw [if_neg h, if_neg h, ih (m / 128) (by omega) (by rw [Int.pow_succ] at m1; omega)]
theorem pr_back (ls : List Int) (hb : Bys ls) : ∀ acc n b O, acc.length ≤ 16 → (b = false → n = 0) → (b = true → 0 < n ∧ n ≤ 4294967295) → pr ls acc n b = (O, 0) → ∃ ms, O = acc ++ ms ∧ O.length ≤ 16 ∧ (if b then (svT 5 n).reverse else []) ++ ls = ms.flatMap svL ∧ ∀ x ∈ ms, 0 ≤ x ∧ x < 4294967296 := by
  induction ls with
  | nil =>
    intro acc n b O ha _ _ h
    rw [pr] at h
    cases b with
    | true => simp at h
    | false =>
      simp at h
      exact ⟨[], by simp [h], by rw [← h]; exact ha, rfl, fun x hx => by cases hx⟩
  | cons c cs ih =>
    intro acc n b O ha h0 h1 h
    have hc := hb.hd
    rw [pr] at h
    split at h
    · simp at h
    rename_i g0
    split at h
    · simp at h
    rename_i g1
    have p4 : (128 : Int) ^ 4 = 268435456 := by decide
    have hn : 0 ≤ n := by cases b with
      | true => have := h1 rfl; omega
      | false => have := h0 rfl; omega
    have e5 : svT 5 n = svT 4 n := svT_more 4 n hn (by rw [p4]; omega)
    split at h
    · rename_i g2
      split at h
      · simp at h
      rename_i g3
      obtain ⟨ms, e1, e2, e3, e4⟩ := ih hb.tl _ 0 false O (by simp; omega) (fun _ => rfl) (fun h => by cases h) h
      refine ⟨(n * 128 + c % 128) :: ms, by rw [e1]; simp, e2, ?_, ?_⟩
      · have ev : svL (n * 128 + c % 128) = (svT 4 n).reverse ++ [c] := by
          unfold svL
          rw [show (n * 128 + c % 128) / 128 = n by omega, show (n * 128 + c % 128) % 128 = c by omega, List.reverse_cons]
        simp at e3
        rw [List.flatMap_cons, ev, ← e3]
        cases b with
        | true => simp [e5]
        | false => have := h0 rfl
                   subst this
                   simp [svT_0]
      · intro x hx
        rcases List.mem_cons.1 hx with rfl | hx
        · omega
        · exact e4 x hx
    · rename_i g2
      have n' : 0 < n * 128 + c % 128 := by
        cases b with
        | true => have := h1 rfl; omega
        | false => have := h0 rfl; simp at g0; omega
      obtain ⟨ms, e1, e2, e3, e4⟩ := ih hb.tl acc (n * 128 + c % 128) true O ha (fun h => by cases h) (fun _ => ⟨n', by omega⟩) h
      refine ⟨ms, e1, e2, ?_, e4⟩
      have r := svT_rev 4 (n * 128 + c % 128) (by omega)
      rw [← e3, if_pos rfl, r, show (n * 128 + c % 128) / 128 = n by omega, show 128 + (n * 128 + c % 128) % 128 = c by omega]
      cases b with
      | true => simp [e5]
      | false => have := h0 rfl
                 subst this
                 simp [svT_0]
theorem to_oid (l O : List Int) (hb : Bys l) (h : toO l = (O, 0)) : oidE O = 0 ∧ oidL O = l ∧ O.length ≤ 16 ∧ ∀ x ∈ O, 0 ≤ x ∧ x < 4294967296 := by
  unfold toO at h
  split at h
  · simp at h
  rename_i h0
  cases l with
  | nil => exact absurd rfl h0
  | cons c cs =>
    have hc := hb.hd
    have h1 : ¬ 128 ≤ c := by
      intro hc1
      rw [if_pos (by simpa using hc1)] at h
      simp at h
    rw [if_neg (by simpa using h1)] at h
    simp only [List.headD_cons, List.tail_cons] at h
    obtain ⟨ms, e1, e2, e3, e4⟩ := pr_back cs hb.tl _ 0 false O (by simp) (fun _ => rfl) (fun h => by cases h) h
    simp at e3
    subst e1
    have ho : o1 c = if c / 40 < 2 then c / 40 else 2 := rfl
    have hm : msF (o1 c) = if o1 c = 2 then 47 else 39 := rfl
    have ob : 0 ≤ o1 c ∧ o1 c ≤ 2 ∧ 0 ≤ c - 40 * o1 c ∧ c - 40 * o1 c ≤ msF (o1 c) := by
      split at ho <;> (split at hm <;> omega)
    refine ⟨?_, ?_, e2, ?_⟩
    · unfold oidE
      rw [if_neg (by simp), if_neg (by omega), if_neg (by simp; omega)]
    · show (40 * o1 c + (c - 40 * o1 c)) :: ms.flatMap svL = c :: cs
      rw [← e3, show 40 * o1 c + (c - 40 * o1 c) = c by omega]
    · intro x hx
      simp only [List.mem_append, List.mem_cons, List.not_mem_nil, or_false] at hx
      rcases hx with (rfl | rfl) | hx
      · omega
      · omega
      · exact e4 x hx
end Go.Proofs.YtajdfjpcobaioaaGreatDoor
