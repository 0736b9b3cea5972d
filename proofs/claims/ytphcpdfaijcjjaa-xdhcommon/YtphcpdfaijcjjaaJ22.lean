/- What the reference's Add, Sub and Pow of layer 2 answer, for any numbers. -/
import Derived.Test.YtphcpdfaijcjjaaJ19
import Derived.Test.YtphcpdfaijcjjaaJ8
import Derived.Test.YtphcpdfaijcjjaaJ21
set_option linter.all false
set_option maxRecDepth 100000
namespace Go.Proofs.Ytphcpdfaijcjjaa
open Go.RowKit Go.Sort
theorem Arr.to' {w w' : World} {b n : Nat} {f : Nat → Value} (h : Arr w b (n + 1) f) (hb : Below w.heap.size w w') : Arr w' b (n + 1) f := h.below hb h.lt
theorem Arr.al' {w : World} {b n : Nat} {f : Nat → Value} (h : Arr w b (n + 1) f) (o : Obj) : Arr (w.alloc o) b (n + 1) f := h.alloc h.lt o
theorem nv_low (c : Int) (h0 : 0 ≤ c) (h1 : c < 18446744073709551616) : nv c = .agg #[.int .u64 c, .int .u64 0, .int .u64 0, .int .u64 0] := by
  have a0 : lim c 0 = c := by rw [lim0]; omega
  have a1 : lim c 1 = 0 := by rw [lim1]; omega
  have a2 : lim c 2 = 0 := by rw [lim2]; omega
  have a3 : lim c 3 = 0 := by rw [lim3]; omega
  simp only [nv, a0, a1, a2, a3]
/-- What holds of memory in the reference's Pow. -/
def PW (w w1 wr : World) (A E M X : Int) : Prop :=
  Below w.heap.size w wr ∧ w1.heap.size < wr.heap.size ∧ w.heap.size + 1 + 1 + 1 < w1.heap.size ∧ Arr wr w.heap.size 4 (fun j => .int .u64 (lim A j)) ∧ Arr wr (w.heap.size + 1) 4 (fun j => .int .u64 (lim E j)) ∧ Arr wr (w.heap.size + 1 + 1) 4 (fun j => .int .u64 (lim M j)) ∧ Arr wr (w.heap.size + 1 + 1 + 1) 4 (fun _ => .int .u64 0) ∧ Arr wr w1.heap.size 4 (fun j => .int .u64 (lim X j))
theorem PW.call {w w1 wr wn : World} {A E M X : Int} (h : PW w w1 wr A E M X) (hb : Below wr.heap.size wr wn) : PW w w1 wn A E M X := by
  obtain ⟨a, b, b', c1, c2, c3, c4, c5⟩ := h
  exact ⟨a.trans (hb.mono a.size), Nat.lt_of_lt_of_le b hb.size, b', c1.below hb (by omega), c2.below hb (by omega), c3.below hb (by omega), c4.below hb (by omega), c5.below hb b⟩
/-- Four stores: a whole number is put into block b. -/
abbrev st4 (w : World) (b : Nat) (X : Int) : World := (((w.setCell ⟨b, 0, none⟩ (.int .u64 (lim X 0))).setCell ⟨b, 1, none⟩ (.int .u64 (lim X 1))).setCell ⟨b, 2, none⟩ (.int .u64 (lim X 2))).setCell ⟨b, 3, none⟩ (.int .u64 (lim X 3))
theorem Arr.st4 {w : World} {b : Nat} {f : Nat → Value} (h : Arr w b 4 f) (X : Int) : Arr (st4 w b X) b 4 (fun j => .int .u64 (lim X j)) :=
  ((((h.set 0 (by omega) _).set 1 (by omega) _).set 2 (by omega) _).set 3 (by omega) _).congr (by
    intro j hj
    have h : j = 0 ∨ j = 1 ∨ j = 2 ∨ j = 3 := by omega
    rcases h with rfl | rfl | rfl | rfl <;> simp)
theorem Arr.st4o {w : World} {b b' n : Nat} {f : Nat → Value} (h : Arr w b n f) (hne : b' ≠ b) (X : Int) : Arr (Go.Proofs.Ytphcpdfaijcjjaa.st4 w b' X) b n f := (((h.other hne _).other hne _).other hne _).other hne _
theorem PW.put {w w1 wr : World} {A E M X : Int} (h : PW w w1 wr A E M X) (Y : Int) : PW w w1 (st4 wr w1.heap.size Y) A E M Y := by
  obtain ⟨a, b, b', c1, c2, c3, c4, c5⟩ := h
  have z : ∀ (W : World) k v, Below w.heap.size w W → Below w.heap.size w (W.setCell ⟨w1.heap.size, k, none⟩ v) := fun W k v hh => hh.setCell (by show _ ≤ w1.heap.size; omega) _
  exact ⟨z _ _ _ (z _ _ _ (z _ _ _ (z _ _ _ a))), by simp only [st4, size_set]; exact b, b', c1.st4o (by omega) _, c2.st4o (by omega) _, c3.st4o (by omega) _, c4.st4o (by omega) _, c5.st4 Y⟩
theorem bitLen_256 (E : Int) (hE : 0 ≤ E) (hE' : E < top256) : bitLen E.toNat ≤ 256 := by
  have sp := bitLen_spec E.toNat
  by_cases c : bitLen E.toNat ≤ 256
  · exact c
  · have ne : E.toNat ≠ 0 := by
      intro h
      have : bitLen E.toNat = 0 := by rw [h]; decide
      omega
    have lo := sp.2 ne
    have hp : (2 : Nat) ^ 256 ≤ 2 ^ (bitLen E.toNat - 1) := Nat.pow_le_pow_right (by omega) (by omega)
    have ht : E.toNat < 2 ^ 256 := by
      have e : (2 : Nat) ^ 256 = 115792089237316195423570985008687907853269984665640564039457584007913129639936 := by decide
      unfold top256 at hE'; omega
    omega
end Go.Proofs.Ytphcpdfaijcjjaa
