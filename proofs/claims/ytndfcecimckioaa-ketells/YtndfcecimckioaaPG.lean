/- The program: what the iterator hands out is what is read. -/
import Derived.Test.YtndfcecimckioaaPF
set_option linter.all false
set_option maxRecDepth 100000
namespace Go.Proofs.Ytndfcecimckioaa
open Go.RowKit Go.Shelf Go.Sort
theorem nx_rd (s : ByteArray) (q f : Nat) :
    (nxE s q ≠ 0 → rdG (f + 1) (s.data.toList.drop q) q = ([], [], nxE s q)) ∧
    (nxE s q = 0 → (nxR s q).k = 0 → rdG (f + 1) (s.data.toList.drop q) q = ([nxR s q], s.data.toList.drop (q + 4 + (nxR s q).s.size), 0)) ∧
    (nxE s q = 0 → (nxR s q).k ≠ 0 → rdG (f + 1) (s.data.toList.drop q) q = pre [nxR s q] (rdG f (s.data.toList.drop (q + 4 + (nxR s q).s.size)) (q + 4 + (nxR s q).s.size))) := by
  by_cases h4 : q + 4 ≤ s.size
  case neg =>
    have e : nxE s q = 11 := by unfold nxE; rw [if_pos h4]
    rw [e]
    exact ⟨fun _ => rd_end s q f h4, fun h => absurd h (by decide), fun h => absurd h (by decide)⟩
  obtain ⟨k, n, hk, hn, k9, n9, s1, s2, s3, s4, s5⟩ := rd_step s q f h4
  by_cases a : 1024 < n ∨ 2048 < q + 4 + n
  · have e : nxE s q = 12 := by unfold nxE; rw [if_neg (by omega), hk, hn, if_pos (by omega)]
    rw [e]
    exact ⟨fun _ => s1 a, fun h => absurd h (by decide), fun h => absurd h (by decide)⟩
  by_cases b : k % 32768 = 0 ∧ (k < 32768 ∨ 0 < n)
  · have e : nxE s q = 10 := by unfold nxE; rw [if_neg (by omega), hk, hn, if_neg (by omega), if_pos (by omega)]
    rw [e]
    exact ⟨fun _ => s2 a b, fun h => absurd h (by decide), fun h => absurd h (by decide)⟩
  by_cases c : s.size < q + 4 + n
  · have e : nxE s q = 11 := by unfold nxE; rw [if_neg (by omega), hk, hn, if_neg (by omega), if_neg (by omega), if_pos (by omega)]
    rw [e]
    exact ⟨fun _ => s3 a b c, fun h => absurd h (by decide), fun h => absurd h (by decide)⟩
  have e : nxE s q = 0 := by unfold nxE; rw [if_neg (by omega), hk, hn, if_neg (by omega), if_neg (by omega), if_neg (by omega)]
  have er : nxR s q = ⟨decide (32768 ≤ k), ((k % 32768 : Nat) : Int), s.extract (q + 4) (q + 4 + n)⟩ := by
    unfold nxR
    rw [if_pos e, hk, hn]
    refine Ke.ext' ?_ ?_ ?_
    · show decide (32768 ≤ (k : Int)) = decide (32768 ≤ k)
      by_cases h : 32768 ≤ k
      · rw [decide_eq_true h, decide_eq_true (by omega)]
      · rw [decide_eq_false h, decide_eq_false (by omega)]
    · show (k : Int) % 32768 = ((k % 32768 : Nat) : Int)
      omega
    · show s.extract _ (_ + (n : Int).toNat) = _
      rw [show (n : Int).toNat = n by omega]
  have ez : (nxR s q).s.size = n := by rw [er]; show (s.extract _ _).size = n; rw [ByteArray.size_extract]; omega
  have ek : (nxR s q).k = ((k % 32768 : Nat) : Int) := by rw [er]
  refine ⟨fun h => absurd e h, fun _ h0 => ?_, fun _ h0 => ?_⟩
  · rw [s4 a b c (by omega), ez, er]
  · rw [s5 a b c (by omega), ez, er]
/-- What is known behind some records. -/
def Good (s : ByteArray) (L : List Ke) : Prop := tot L ≤ s.size ∧ tot L ≤ 2048 ∧ rdT s = pre L (rdG (513 - L.length) (s.data.toList.drop (tot L)) (tot L))
theorem good_0 (s : ByteArray) : Good s [] := ⟨Nat.zero_le _, by decide, by rw [pre_nil]; rfl⟩
theorem good_len {s : ByteArray} {L : List Ke} (h : Good s L) : L.length ≤ 512 := by have := tot_len L; have := h.2.1; omega
theorem good_bad {s : ByteArray} {L : List Ke} (h : Good s L) (hE : nxE s (tot L) ≠ 0) : rdE s = nxE s (tot L) ∧ rdR s = ⟨#[]⟩ ∧ rdL s = [] := by
  have hl := good_len h
  obtain ⟨h1, h2, h3⟩ := h
  rw [show 513 - L.length = (512 - L.length) + 1 by omega, (nx_rd s (tot L) (512 - L.length)).1 hE, pre_err L _ hE] at h3
  unfold rdE rdR rdL
  rw [h3]
  exact ⟨rfl, rfl, rfl⟩
theorem good_end {s : ByteArray} {L : List Ke} (h : Good s L) (hE : nxE s (tot L) = 0) (hk : (nxR s (tot L)).k = 0) :
    rdE s = 0 ∧ rdR s = s.extract (tot L + 4 + (nxR s (tot L)).s.size) s.size ∧ rdL s = L ++ [nxR s (tot L)] := by
  have hl := good_len h
  obtain ⟨h1, h2, h3⟩ := h
  rw [show 513 - L.length = (512 - L.length) + 1 by omega, (nx_rd s (tot L) (512 - L.length)).2.1 hE hk] at h3
  unfold rdE rdR rdL
  rw [h3]
  refine ⟨rfl, ?_, rfl⟩
  show baL (s.data.toList.drop _) = _
  apply ba_ext
  rw [baL_list, ext_list, List.take_of_length_le (by rw [List.length_drop, len_list]; omega)]
theorem good_on {s : ByteArray} {L : List Ke} (h : Good s L) (hE : nxE s (tot L) = 0) (hk : (nxR s (tot L)).k ≠ 0) : Good s (L ++ [nxR s (tot L)]) := by
  have hl := good_len h
  obtain ⟨h1, h2, h3⟩ := h
  obtain ⟨z1, z2, z3⟩ := nx_sz s (tot L) hE
  rw [show 513 - L.length = (512 - L.length) + 1 by omega, (nx_rd s (tot L) (512 - L.length)).2.2 hE hk, pre_pre] at h3
  refine ⟨by rw [tot_snoc]; exact z1, by rw [tot_snoc]; exact z2, ?_⟩
  rw [tot_snoc, List.length_append, List.length_singleton, show 513 - (L.length + 1) = 512 - L.length by omega]
  exact h3
end Go.Proofs.Ytndfcecimckioaa
