/- Messages as values; the reference's Same. -/
import Derived.Test.YtjdpeedghpblgaaGreatDoorJ2
set_option linter.all false
set_option maxRecDepth 100000
namespace Go.Proofs.YtjdpeedghpblgaaGreatDoor
open Go.RowKit Go.Sort
theorem txt_ne {s t : ByteArray} (h : s ≠ t) : (s.toList == t.toList) = false := beq_eq_false_iff_ne.2 (fun e => h (ba_ext (by rw [← ByteArray.toList_eq, ← ByteArray.toList_eq]; exact e)))
theorem eqSg (a0 a1 a2 a3 a4 a5 a6 a7 b0 b1 b2 b3 b4 b5 b6 b7 : Int) (w : World) :
    (Op.equalIn 10000 27 (.agg #[.int .u64 a0, .int .u64 a1, .int .u64 a2, .int .u64 a3, .int .u64 a4, .int .u64 a5, .int .u64 a6, .int .u64 a7]) (.agg #[.int .u64 b0, .int .u64 b1, .int .u64 b2, .int .u64 b3, .int .u64 b4, .int .u64 b5, .int .u64 b6, .int .u64 b7])).run Tryz.prog w =
      .ok ((a0 == b0 && (a1 == b1 && (a2 == b2 && a3 == b3))) && (a4 == b4 && (a5 == b5 && (a6 == b6 && a7 == b7)))) w := by
  have e4 : ∀ (d : Nat) (a0 a1 a2 a3 b0 b1 b2 b3 : Int) (w : World), (Op.equalIn (d + 2) 25 (.agg #[.int .u64 a0, .int .u64 a1, .int .u64 a2, .int .u64 a3]) (.agg #[.int .u64 b0, .int .u64 b1, .int .u64 b2, .int .u64 b3])).run Tryz.prog w = .ok (a0 == b0 && (a1 == b1 && (a2 == b2 && a3 == b3))) w := fun d a0 a1 a2 a3 b0 b1 b2 b3 w =>
    eq24g (d + 1) (fun a b w => run_equalIn_int w d 23 .u64 .u64 a b Tryz.underlying23) a0 a1 a2 a3 b0 b1 b2 b3 w
  rw [run_equalIn_agg (w := w) 9999 27 _ _ (by kernel_rfl) (by kernel_rfl)]
  cases h1 : (a0 == b0 && (a1 == b1 && (a2 == b2 && a3 == b3))) <;> cases h2 : (a4 == b4 && (a5 == b5 && (a6 == b6 && a7 == b7))) <;> simp [go_sem, e4, h1, h2]
/-- Rows of texts. -/
def Txs (w : World) (v : Value) (l : List ByteArray) : Prop := (v = .slice none 0 0 ∧ l = []) ∨ ∃ (a : Addr) (cap : Nat), v = .slice (some a) l.length cap ∧ l.length ≤ cap ∧ ∀ (i : Nat) (s : ByteArray), l[i]? = some s → w.cell? (a.add i) = some (.string s)
theorem Txs.to {w w' : World} {v : Value} {l : List ByteArray} (h : Txs w v l) (hb : Below w.heap.size w w') : Txs w' v l := by
  rcases h with h | ⟨a, cap, h1, h0, h2⟩
  · exact .inl h
  · exact .inr ⟨a, cap, h1, h0, fun i s hi => (hb.cell (block_lt_of_cell (h2 i s hi))).trans (h2 i s hi)⟩
theorem Txs.form {w : World} {v : Value} {l : List ByteArray} (h : Txs w v l) : ∃ (a : Option Addr) (cap : Nat), v = .slice a l.length cap ∧ ∀ (i : Nat) (s : ByteArray), l[i]? = some s → ∃ b, a = some b ∧ (b.add i).block < w.heap.size ∧ w.cell? (b.add i) = some (.string s) := by
  rcases h with ⟨rfl, rfl⟩ | ⟨a, cap, rfl, _, hc⟩
  · exact ⟨none, 0, rfl, fun i s hi => by cases hi⟩
  · exact ⟨some a, cap, rfl, fun i s hi => ⟨a, rfl, block_lt_of_cell (hc i s hi), hc i s hi⟩⟩

set_option maxHeartbeats 2000000 in
theorem rSame_0 (k l : Int) (a1 a2 a3 a4 a5 b1 b2 b3 b4 b5 am bm : ByteArray) (ac bc : Value) (x0 x1 x2 x3 x4 x5 x6 x7 y0 y1 y2 y3 y4 y5 y6 y7 : Int) (h : ¬ k = l) (w : World) :
    Calls Tryz.prog 14 #[.agg #[.int .i64 k, .string a1, .string a2, .string a3, .string a4, .string a5, ac, .int .u64 x0, .int .u64 x1, .int .u64 x2, .int .u64 x3, .int .u64 x4, .int .u64 x5, .int .u64 x6, .int .u64 x7, .string am], .agg #[.int .i64 l, .string b1, .string b2, .string b3, .string b4, .string b5, bc, .int .u64 y0, .int .u64 y1, .int .u64 y2, .int .u64 y3, .int .u64 y4, .int .u64 y5, .int .u64 y6, .int .u64 y7, .string bm]] w fun e w' => e = .returned (.bool false) ∧ Below w.heap.size w w' := by
  have h2 : (k == l) = false := by simpa using h
  go_enter Tryz.func14, Tryz.ntmps14
  go_wp2
  go_ret
  refine ⟨rfl, by go_grown⟩

set_option maxHeartbeats 2000000 in
theorem rSame_1 (k l : Int) (a1 a2 a3 a4 a5 b1 b2 b3 b4 b5 am bm : ByteArray) (ac bc : Value) (x0 x1 x2 x3 x4 x5 x6 x7 y0 y1 y2 y3 y4 y5 y6 y7 : Int) (h : a1 ≠ b1) (w : World) :
    Calls Tryz.prog 14 #[.agg #[.int .i64 k, .string a1, .string a2, .string a3, .string a4, .string a5, ac, .int .u64 x0, .int .u64 x1, .int .u64 x2, .int .u64 x3, .int .u64 x4, .int .u64 x5, .int .u64 x6, .int .u64 x7, .string am], .agg #[.int .i64 k, .string b1, .string b2, .string b3, .string b4, .string b5, bc, .int .u64 y0, .int .u64 y1, .int .u64 y2, .int .u64 y3, .int .u64 y4, .int .u64 y5, .int .u64 y6, .int .u64 y7, .string bm]] w fun e w' => e = .returned (.bool false) ∧ Below w.heap.size w w' := by
  have h2 := txt_ne h
  clear h
  go_enter Tryz.func14, Tryz.ntmps14
  go_wp2
  go_ret
  refine ⟨rfl, by go_grown⟩

set_option maxHeartbeats 2000000 in
theorem rSame_2 (k l : Int) (a1 a2 a3 a4 a5 b1 b2 b3 b4 b5 am bm : ByteArray) (ac bc : Value) (x0 x1 x2 x3 x4 x5 x6 x7 y0 y1 y2 y3 y4 y5 y6 y7 : Int) (h : a2 ≠ b2) (w : World) :
    Calls Tryz.prog 14 #[.agg #[.int .i64 k, .string a1, .string a2, .string a3, .string a4, .string a5, ac, .int .u64 x0, .int .u64 x1, .int .u64 x2, .int .u64 x3, .int .u64 x4, .int .u64 x5, .int .u64 x6, .int .u64 x7, .string am], .agg #[.int .i64 k, .string a1, .string b2, .string b3, .string b4, .string b5, bc, .int .u64 y0, .int .u64 y1, .int .u64 y2, .int .u64 y3, .int .u64 y4, .int .u64 y5, .int .u64 y6, .int .u64 y7, .string bm]] w fun e w' => e = .returned (.bool false) ∧ Below w.heap.size w w' := by
  have h2 := txt_ne h
  clear h
  go_enter Tryz.func14, Tryz.ntmps14
  go_wp2
  go_ret
  refine ⟨rfl, by go_grown⟩

set_option maxHeartbeats 2000000 in
theorem rSame_3 (k l : Int) (a1 a2 a3 a4 a5 b1 b2 b3 b4 b5 am bm : ByteArray) (ac bc : Value) (x0 x1 x2 x3 x4 x5 x6 x7 y0 y1 y2 y3 y4 y5 y6 y7 : Int) (h : a3 ≠ b3) (w : World) :
    Calls Tryz.prog 14 #[.agg #[.int .i64 k, .string a1, .string a2, .string a3, .string a4, .string a5, ac, .int .u64 x0, .int .u64 x1, .int .u64 x2, .int .u64 x3, .int .u64 x4, .int .u64 x5, .int .u64 x6, .int .u64 x7, .string am], .agg #[.int .i64 k, .string a1, .string a2, .string b3, .string b4, .string b5, bc, .int .u64 y0, .int .u64 y1, .int .u64 y2, .int .u64 y3, .int .u64 y4, .int .u64 y5, .int .u64 y6, .int .u64 y7, .string bm]] w fun e w' => e = .returned (.bool false) ∧ Below w.heap.size w w' := by
  have h2 := txt_ne h
  clear h
  go_enter Tryz.func14, Tryz.ntmps14
  go_wp2
  go_ret
  refine ⟨rfl, by go_grown⟩

set_option maxHeartbeats 2000000 in
theorem rSame_4 (k l : Int) (a1 a2 a3 a4 a5 b1 b2 b3 b4 b5 am bm : ByteArray) (ac bc : Value) (x0 x1 x2 x3 x4 x5 x6 x7 y0 y1 y2 y3 y4 y5 y6 y7 : Int) (h : a4 ≠ b4) (w : World) :
    Calls Tryz.prog 14 #[.agg #[.int .i64 k, .string a1, .string a2, .string a3, .string a4, .string a5, ac, .int .u64 x0, .int .u64 x1, .int .u64 x2, .int .u64 x3, .int .u64 x4, .int .u64 x5, .int .u64 x6, .int .u64 x7, .string am], .agg #[.int .i64 k, .string a1, .string a2, .string a3, .string b4, .string b5, bc, .int .u64 y0, .int .u64 y1, .int .u64 y2, .int .u64 y3, .int .u64 y4, .int .u64 y5, .int .u64 y6, .int .u64 y7, .string bm]] w fun e w' => e = .returned (.bool false) ∧ Below w.heap.size w w' := by
  have h2 := txt_ne h
  clear h
  go_enter Tryz.func14, Tryz.ntmps14
  go_wp2
  go_ret
  refine ⟨rfl, by go_grown⟩

set_option maxHeartbeats 2000000 in
theorem rSame_5 (k l : Int) (a1 a2 a3 a4 a5 b1 b2 b3 b4 b5 am bm : ByteArray) (ac bc : Value) (x0 x1 x2 x3 x4 x5 x6 x7 y0 y1 y2 y3 y4 y5 y6 y7 : Int) (h : a5 ≠ b5) (w : World) :
    Calls Tryz.prog 14 #[.agg #[.int .i64 k, .string a1, .string a2, .string a3, .string a4, .string a5, ac, .int .u64 x0, .int .u64 x1, .int .u64 x2, .int .u64 x3, .int .u64 x4, .int .u64 x5, .int .u64 x6, .int .u64 x7, .string am], .agg #[.int .i64 k, .string a1, .string a2, .string a3, .string a4, .string b5, bc, .int .u64 y0, .int .u64 y1, .int .u64 y2, .int .u64 y3, .int .u64 y4, .int .u64 y5, .int .u64 y6, .int .u64 y7, .string bm]] w fun e w' => e = .returned (.bool false) ∧ Below w.heap.size w w' := by
  have h2 := txt_ne h
  clear h
  go_enter Tryz.func14, Tryz.ntmps14
  go_wp2
  go_ret
  refine ⟨rfl, by go_grown⟩

set_option maxHeartbeats 2000000 in
theorem rSame_6 (k l : Int) (a1 a2 a3 a4 a5 b1 b2 b3 b4 b5 am bm : ByteArray) (ac bc : Value) (x0 x1 x2 x3 x4 x5 x6 x7 y0 y1 y2 y3 y4 y5 y6 y7 : Int) (Q : ∀ W, (Op.equalIn 10000 27 (.agg #[.int .u64 x0, .int .u64 x1, .int .u64 x2, .int .u64 x3, .int .u64 x4, .int .u64 x5, .int .u64 x6, .int .u64 x7]) (.agg #[.int .u64 y0, .int .u64 y1, .int .u64 y2, .int .u64 y3, .int .u64 y4, .int .u64 y5, .int .u64 y6, .int .u64 y7])).run Tryz.prog W = .ok false W) (w : World) :
    Calls Tryz.prog 14 #[.agg #[.int .i64 k, .string a1, .string a2, .string a3, .string a4, .string a5, ac, .int .u64 x0, .int .u64 x1, .int .u64 x2, .int .u64 x3, .int .u64 x4, .int .u64 x5, .int .u64 x6, .int .u64 x7, .string am], .agg #[.int .i64 k, .string a1, .string a2, .string a3, .string a4, .string a5, bc, .int .u64 y0, .int .u64 y1, .int .u64 y2, .int .u64 y3, .int .u64 y4, .int .u64 y5, .int .u64 y6, .int .u64 y7, .string bm]] w fun e w' => e = .returned (.bool false) ∧ Below w.heap.size w w' := by
  go_enter Tryz.func14, Tryz.ntmps14
  go_wp2
  go_ret
  refine ⟨rfl, by go_grown⟩

set_option maxHeartbeats 2000000 in
theorem rSame_7 (k l : Int) (a1 a2 a3 a4 a5 b1 b2 b3 b4 b5 am bm : ByteArray) (ac bc : Value) (x0 x1 x2 x3 x4 x5 x6 x7 y0 y1 y2 y3 y4 y5 y6 y7 : Int) (h : am ≠ bm) (w : World) :
    Calls Tryz.prog 14 #[.agg #[.int .i64 k, .string a1, .string a2, .string a3, .string a4, .string a5, ac, .int .u64 x0, .int .u64 x1, .int .u64 x2, .int .u64 x3, .int .u64 x4, .int .u64 x5, .int .u64 x6, .int .u64 x7, .string am], .agg #[.int .i64 k, .string a1, .string a2, .string a3, .string a4, .string a5, bc, .int .u64 x0, .int .u64 x1, .int .u64 x2, .int .u64 x3, .int .u64 x4, .int .u64 x5, .int .u64 x6, .int .u64 x7, .string bm]] w fun e w' => e = .returned (.bool false) ∧ Below w.heap.size w w' := by
  have Q := fun W => eqSg x0 x1 x2 x3 x4 x5 x6 x7 x0 x1 x2 x3 x4 x5 x6 x7 W
  simp only [beq_self_eq_true, Bool.and_self] at Q
  have h2 := txt_ne h
  clear h
  go_enter Tryz.func14, Tryz.ntmps14
  go_wp2
  go_ret
  refine ⟨rfl, by go_grown⟩

set_option maxHeartbeats 2000000 in
theorem rSame_8 (k l : Int) (a1 a2 a3 a4 a5 b1 b2 b3 b4 b5 am bm : ByteArray) (ac bc : Value) (x0 x1 x2 x3 x4 x5 x6 x7 y0 y1 y2 y3 y4 y5 y6 y7 : Int) (n n' c c' : Nat) (a0 b0 : Option Addr) (ha : ac = .slice a0 n c) (hb : bc = .slice b0 n' c') (h : n ≠ n') (w : World) :
    Calls Tryz.prog 14 #[.agg #[.int .i64 k, .string a1, .string a2, .string a3, .string a4, .string a5, ac, .int .u64 x0, .int .u64 x1, .int .u64 x2, .int .u64 x3, .int .u64 x4, .int .u64 x5, .int .u64 x6, .int .u64 x7, .string am], .agg #[.int .i64 k, .string a1, .string a2, .string a3, .string a4, .string a5, bc, .int .u64 x0, .int .u64 x1, .int .u64 x2, .int .u64 x3, .int .u64 x4, .int .u64 x5, .int .u64 x6, .int .u64 x7, .string am]] w fun e w' => e = .returned (.bool false) ∧ Below w.heap.size w w' := by
  have Q := fun W => eqSg x0 x1 x2 x3 x4 x5 x6 x7 x0 x1 x2 x3 x4 x5 x6 x7 W
  simp only [beq_self_eq_true, Bool.and_self] at Q
  subst ha hb
  have h2 : ((n : Int) == (n' : Int)) = false := by simpa using (by omega : ¬ (n : Int) = (n' : Int))
  have h3 : ¬ (n : Int) = (n' : Int) := by omega
  go_enter Tryz.func14, Tryz.ntmps14
  go_wp2
  go_ret
  refine ⟨rfl, by go_grown⟩

theorem ne_tx {s t : ByteArray} (h : (s.toList == t.toList) = false) : s ≠ t := fun e => by rw [e] at h; simp at h
set_option maxHeartbeats 4000000 in
theorem rSame_9 (k : Int) (a1 a2 a3 a4 a5 am : ByteArray) (x0 x1 x2 x3 x4 x5 x6 x7 : Int) (n c c' : Nat) (a0 b0 : Option Addr) (l1 l2 : List ByteArray) (h1 : l1.length = n) (h2 : l2.length = n) (n9 : n ≤ 9223372036854775807) (w : World)
    (z1 : ∀ t ∈ l1, t.size ≤ maxLen) (z2 : ∀ t ∈ l2, t.size ≤ maxLen)
    (C1 : ∀ (i : Nat) (s : ByteArray), l1[i]? = some s → ∃ b, a0 = some b ∧ (b.add i).block < w.heap.size ∧ w.cell? (b.add i) = some (.string s)) (C2 : ∀ (i : Nat) (s : ByteArray), l2[i]? = some s → ∃ b, b0 = some b ∧ (b.add i).block < w.heap.size ∧ w.cell? (b.add i) = some (.string s)) :
    Calls Tryz.prog 14 #[.agg #[.int .i64 k, .string a1, .string a2, .string a3, .string a4, .string a5, .slice a0 n c, .int .u64 x0, .int .u64 x1, .int .u64 x2, .int .u64 x3, .int .u64 x4, .int .u64 x5, .int .u64 x6, .int .u64 x7, .string am], .agg #[.int .i64 k, .string a1, .string a2, .string a3, .string a4, .string a5, .slice b0 n c', .int .u64 x0, .int .u64 x1, .int .u64 x2, .int .u64 x3, .int .u64 x4, .int .u64 x5, .int .u64 x6, .int .u64 x7, .string am]] w fun e w' => e = .returned (.bool (decide (l1 = l2))) ∧ Below w.heap.size w w' := by
  have Q := fun W => eqSg x0 x1 x2 x3 x4 x5 x6 x7 x0 x1 x2 x3 x4 x5 x6 x7 W
  simp only [beq_self_eq_true, Bool.and_self] at Q
  have HR : ∀ r : Bool, r = decide (l1 = l2) → Hid (r = decide (l1 = l2)) := fun r h => h
  obtain ⟨r, hr⟩ : ∃ r : Bool, r = decide (l1 = l2) := ⟨_, rfl⟩
  rw [← hr]
  have HD : Hid (r = decide (l1 = l2)) := hr
  have HL1 : Hid (l1.length = n) := h1
  have HL2 : Hid (l2.length = n) := h2
  have n0 : (n : Int) ≤ 9223372036854775807 := by omega
  clear hr HR h1 h2
  go_enter Tryz.func14, Tryz.ntmps14
  go_wp2
  have Q1 : Below w.heap.size w ((w.alloc (.cells #[.int .i64 k, .string a1, .string a2, .string a3, .string a4, .string a5, .slice a0 n c, .int .u64 x0, .int .u64 x1, .int .u64 x2, .int .u64 x3, .int .u64 x4, .int .u64 x5, .int .u64 x6, .int .u64 x7, .string am] 29)).alloc (.cells #[.int .i64 k, .string a1, .string a2, .string a3, .string a4, .string a5, .slice b0 n c', .int .u64 x0, .int .u64 x1, .int .u64 x2, .int .u64 x3, .int .u64 x4, .int .u64 x5, .int .u64 x6, .int .u64 x7, .string am] 29)) := by go_grown
  have e1 : ((w.alloc (.cells #[.int .i64 k, .string a1, .string a2, .string a3, .string a4, .string a5, .slice a0 n c, .int .u64 x0, .int .u64 x1, .int .u64 x2, .int .u64 x3, .int .u64 x4, .int .u64 x5, .int .u64 x6, .int .u64 x7, .string am] 29)).alloc (.cells #[.int .i64 k, .string a1, .string a2, .string a3, .string a4, .string a5, .slice b0 n c', .int .u64 x0, .int .u64 x1, .int .u64 x2, .int .u64 x3, .int .u64 x4, .int .u64 x5, .int .u64 x6, .int .u64 x7, .string am] 29)).cell? ⟨w.heap.size, 6, none⟩ = some (.slice a0 n c) := by simp [go_sem]
  have e2 : ((w.alloc (.cells #[.int .i64 k, .string a1, .string a2, .string a3, .string a4, .string a5, .slice a0 n c, .int .u64 x0, .int .u64 x1, .int .u64 x2, .int .u64 x3, .int .u64 x4, .int .u64 x5, .int .u64 x6, .int .u64 x7, .string am] 29)).alloc (.cells #[.int .i64 k, .string a1, .string a2, .string a3, .string a4, .string a5, .slice b0 n c', .int .u64 x0, .int .u64 x1, .int .u64 x2, .int .u64 x3, .int .u64 x4, .int .u64 x5, .int .u64 x6, .int .u64 x7, .string am] 29)).cell? ⟨w.heap.size + 1, 6, none⟩ = some (.slice b0 n c') := by simp [go_sem]
  have D1 : ∀ (i : Nat) (s : ByteArray), l1[i]? = some s → ∃ b, a0 = some b ∧ ((w.alloc (.cells #[.int .i64 k, .string a1, .string a2, .string a3, .string a4, .string a5, .slice a0 n c, .int .u64 x0, .int .u64 x1, .int .u64 x2, .int .u64 x3, .int .u64 x4, .int .u64 x5, .int .u64 x6, .int .u64 x7, .string am] 29)).alloc (.cells #[.int .i64 k, .string a1, .string a2, .string a3, .string a4, .string a5, .slice b0 n c', .int .u64 x0, .int .u64 x1, .int .u64 x2, .int .u64 x3, .int .u64 x4, .int .u64 x5, .int .u64 x6, .int .u64 x7, .string am] 29)).cell? (b.add i) = some (.string s) := fun i s hi => by
    obtain ⟨b, hb, lt, cc⟩ := C1 i s hi
    exact ⟨b, hb, (Q1.cell lt).trans cc⟩
  have D2 : ∀ (i : Nat) (s : ByteArray), l2[i]? = some s → ∃ b, b0 = some b ∧ ((w.alloc (.cells #[.int .i64 k, .string a1, .string a2, .string a3, .string a4, .string a5, .slice a0 n c, .int .u64 x0, .int .u64 x1, .int .u64 x2, .int .u64 x3, .int .u64 x4, .int .u64 x5, .int .u64 x6, .int .u64 x7, .string am] 29)).alloc (.cells #[.int .i64 k, .string a1, .string a2, .string a3, .string a4, .string a5, .slice b0 n c', .int .u64 x0, .int .u64 x1, .int .u64 x2, .int .u64 x3, .int .u64 x4, .int .u64 x5, .int .u64 x6, .int .u64 x7, .string am] 29)).cell? (b.add i) = some (.string s) := fun i s hi => by
    obtain ⟨b, hb, lt, cc⟩ := C2 i s hi
    exact ⟨b, hb, (Q1.cell lt).trans cc⟩
  generalize ((w.alloc (.cells #[.int .i64 k, .string a1, .string a2, .string a3, .string a4, .string a5, .slice a0 n c, .int .u64 x0, .int .u64 x1, .int .u64 x2, .int .u64 x3, .int .u64 x4, .int .u64 x5, .int .u64 x6, .int .u64 x7, .string am] 29)).alloc (.cells #[.int .i64 k, .string a1, .string a2, .string a3, .string a4, .string a5, .slice b0 n c', .int .u64 x0, .int .u64 x1, .int .u64 x2, .int .u64 x3, .int .u64 x4, .int .u64 x5, .int .u64 x6, .int .u64 x7, .string am] 29)) = W0 at *
  clear C1 C2
  have HD1 : Hid _ := D1
  have HD2 : Hid _ := D2
  clear D1 D2
  go_loopw [5] (fun i wr => ∃ j : Nat, j ≤ n ∧ i = .int .i64 (j : Int) ∧ Below W0.heap.size W0 wr ∧ Hid (l1.take j = l2.take j)) (fun i _ => n - (intOf i).toNat)
  case atStart => exact ⟨0, by omega, rfl, Below.refl _ _, by show _ = _; rw [List.take_zero, List.take_zero]⟩
  case round =>
    obtain ⟨j, hj, rfl, hB, ht⟩ := hrel
    have j0 : (0 : Int) ≤ (j : Int) := by omega
    have f1 := (hB.cell (block_lt_of_cell e1)).trans e1
    have f2 := (hB.cell (block_lt_of_cell e2)).trans e2
    by_cases hlt : j < n
    · have j1 : (j : Int) < (n : Int) := by omega
      obtain ⟨s, hs⟩ : ∃ s, l1[j]? = some s := ⟨_, List.getElem?_eq_getElem (by rw [HL1.out]; exact hlt)⟩
      obtain ⟨t, hu⟩ : ∃ t, l2[j]? = some t := ⟨_, List.getElem?_eq_getElem (by rw [HL2.out]; exact hlt)⟩
      obtain ⟨b, hb, g1⟩ := HD1.out j s hs
      obtain ⟨b', hb', g2⟩ := HD2.out j t hu
      replace g1 := (hB.cell (block_lt_of_cell g1)).trans g1
      replace g2 := (hB.cell (block_lt_of_cell g2)).trans g2
      subst hb hb'
      have r0 := fun ds os => cell_regrown f1 ds os
      have r1 := fun ds os => cell_regrown f2 ds os
      have r2 := fun ds os => cell_regrown g1 ds os
      have r3 := fun ds os => cell_regrown g2 ds os
      by_cases hst : s = t
      · subst hst
        have HT : Hid (l1.take (j + 1) = l2.take (j + 1)) := by
          show _ = _
          rw [List.take_succ, List.take_succ, ht.out, hs, hu]
        clear hs hu ht z1 z2
        go_wp2_with fail
        refine wp_region_quiet_below (by kernel_rfl) (by kernel_rfl) ?_
        repeat (go_big_quiet_step (fail))
        refine wpQuiet_nil ?_
        intro w3 hw'
        obtain ⟨⟨dq, osq⟩, hw''⟩ := hw'
        have hb3 := below_of hw''
        clear hw''
        go_wp2_with fail
        exact ⟨⟨j + 1, by omega, by go_num, Bel.call hB hb3, HT⟩, by simp [intOf]; omega⟩
      · have h2 := txt_ne hst
        have er : r = false := by
          rw [HD.out]
          refine decide_eq_false fun e => hst ?_
          rw [e, hu] at hs
          exact (Option.some.inj hs).symm
        subst er
        clear hs hu ht z1 z2 hst
        go_wp2_with fail
        refine wp_region_quiet_below (by kernel_rfl) (by kernel_rfl) ?_
        repeat (go_big_quiet_step (fail))
        refine wpQuiet_nil ?_
        intro w3 hw'
        obtain ⟨⟨dq, osq⟩, hw''⟩ := hw'
        have hb3 := below_of hw''
        clear hw''
        go_wp2_with fail
        go_ret
        exact ⟨rfl, Bel.call Q1 (Bel.call hB hb3)⟩
    · have j1 : ¬ (j : Int) < (n : Int) := by omega
      have er : r = true := by
        rw [HD.out]
        refine decide_eq_true ?_
        have := ht.out
        rwa [List.take_of_length_le (by rw [HL1.out]; omega), List.take_of_length_le (by rw [HL2.out]; omega)] at this
      subst er
      clear ht z1 z2
      go_wp2_with fail
      go_ret
      exact ⟨rfl, Bel.call Q1 hB⟩

end Go.Proofs.YtjdpeedghpblgaaGreatDoor
