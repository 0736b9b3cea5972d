/- Rows of records and of numbers in memory; equality of records; two bytes of a number. -/
import Derived.Test.YtndfcecimckioaaKP
import Derived.WalkMore
set_option linter.all false
set_option maxRecDepth 100000
namespace Go.Proofs.Ytndfcecimckioaa
open Go.RowKit Go.Shelf Go.Sort Go.Lib
/-- Records, cell by cell. -/
def flK : List Ke → List Value
  | [] => []
  | r :: l => .bool r.c :: .int .i64 r.k :: .string r.s :: flK l
theorem flK_app (a b : List Ke) : flK (a ++ b) = flK a ++ flK b := by
  induction a with
  | nil => rfl
  | cons p a ih => show _ :: _ :: _ :: flK (a ++ b) = _; rw [ih]; rfl
theorem flK_at (l : List Ke) : ∀ (i : Nat) (r : Ke), l[i]? = some r → (flK l)[3 * i]? = some (.bool r.c) ∧ (flK l)[3 * i + 1]? = some (.int .i64 r.k) ∧ (flK l)[3 * i + 2]? = some (.string r.s) := by
  induction l with
  | nil => intro i p h; cases h
  | cons q l ih =>
    intro i p h
    cases i with
    | zero => simp at h; subst h; exact ⟨rfl, rfl, rfl⟩
    | succ i =>
      have := ih i p (by simpa using h)
      rw [show 3 * (i + 1) = 3 * i + 3 by omega, show 3 * i + 3 + 1 = (3 * i + 1) + 3 by omega, show 3 * i + 3 + 2 = (3 * i + 2) + 3 by omega]
      exact this
/-- Three cells in a row. -/
def C3 (w : World) (g o : Nat) (r : Ke) : Prop := w.cell? ⟨g, o, none⟩ = some (.bool r.c) ∧ w.cell? ⟨g, o + 1, none⟩ = some (.int .i64 r.k) ∧ w.cell? ⟨g, o + 2, none⟩ = some (.string r.s)
theorem C3.to {w w' : World} {g o : Nat} {r : Ke} (h : C3 w g o r) (lt : g < w.heap.size) (hb : Below w.heap.size w w') : C3 w' g o r :=
  ⟨(hb.cell (p := ⟨g, o, none⟩) lt).trans h.1, (hb.cell (p := ⟨g, o + 1, none⟩) lt).trans h.2.1, (hb.cell (p := ⟨g, o + 2, none⟩) lt).trans h.2.2⟩
/-- A row of records in memory. -/
def Kls (w : World) (v : Value) (l : List Ke) : Prop := ∃ (a : Option Addr) (c : Nat), v = .slice a l.length c ∧ ∀ (i : Nat) (r : Ke), l[i]? = some r → ∃ g o, a = some ⟨g, o, none⟩ ∧ g < w.heap.size ∧ C3 w g (o + i * 3) r
theorem Kls.to {w w' : World} {v : Value} {l : List Ke} (h : Kls w v l) (hb : Below w.heap.size w w') : Kls w' v l := by
  obtain ⟨a, c, h1, h2⟩ := h
  refine ⟨a, c, h1, fun i r hi => ?_⟩
  obtain ⟨g, o, e, lt, c3⟩ := h2 i r hi
  exact ⟨g, o, e, Nat.lt_of_lt_of_le lt hb.size, c3.to lt hb⟩
theorem Kls.nil (w : World) : Kls w (.slice none 0 0) [] := ⟨none, 0, rfl, fun i r h => by cases h⟩
theorem Kls.own {W : World} {b : Nat} {v : Value} {l : List Ke} (h : W.ownsRow b 47 3 v l.length (flK l)) : Kls W v l := by
  have hl := h.lt
  have hc := fun g hg => World.ownsRow.cells h (g := g) hg
  rcases h.2 with ⟨h1, h0⟩ | ⟨g, c, cur, h1, _⟩
  · have e : l = [] := List.eq_nil_of_length_eq_zero h0
    subst e
    rw [h1]
    exact Kls.nil W
  · subst h1
    refine ⟨_, c, rfl, fun i r hi => ⟨g, 0, rfl, (hl g rfl).2, ?_⟩⟩
    obtain ⟨e0, e1, e2⟩ := flK_at l i r hi
    have a0 := hc g rfl _ _ e0
    have a1 := hc g rfl _ _ e1
    have a2 := hc g rfl _ _ e2
    rw [Addr.add_mid, Nat.zero_add] at a0 a1 a2
    rw [Nat.zero_add, Nat.mul_comm]
    exact ⟨a0, a1, a2⟩
theorem own_frm {W : World} {b e n m : Nat} {v : Value} {xs : List Value} (h : W.ownsRow b e m v n xs) : ∃ ao c, v = .slice ao n c := by
  rcases h.2 with ⟨h, h0⟩ | ⟨g, c, _, h, _⟩
  · exact ⟨none, 0, by rw [h, h0]⟩
  · exact ⟨_, c, h⟩
/-- A row of numbers in memory. -/
def Nls (w : World) (v : Value) (l : List Int) : Prop := ∃ (a : Option Addr) (c : Nat), v = .slice a l.length c ∧ ∀ (i : Nat) (n : Int), l[i]? = some n → ∃ g o, a = some ⟨g, o, none⟩ ∧ g < w.heap.size ∧ w.cell? ⟨g, o + i, none⟩ = some (.int .i64 n)
theorem Nls.to {w w' : World} {v : Value} {l : List Int} (h : Nls w v l) (hb : Below w.heap.size w w') : Nls w' v l := by
  obtain ⟨a, c, h1, h2⟩ := h
  refine ⟨a, c, h1, fun i r hi => ?_⟩
  obtain ⟨g, o, e, lt, c3⟩ := h2 i r hi
  exact ⟨g, o, e, Nat.lt_of_lt_of_le lt hb.size, (hb.cell (p := ⟨g, o + i, none⟩) lt).trans c3⟩
theorem Nls.nil (w : World) : Nls w (.slice none 0 0) [] := ⟨none, 0, rfl, fun i r h => by cases h⟩
theorem Nls.own {W : World} {b : Nat} {v : Value} {l : List Int} (h : W.ownsRow b 3 1 v l.length (l.map (Value.int .i64))) : Nls W v l := by
  have hl := h.lt
  have hc := fun g hg => World.ownsRow.cells h (g := g) hg
  rcases h.2 with ⟨h1, h0⟩ | ⟨g, c, cur, h1, _⟩
  · have e : l = [] := List.eq_nil_of_length_eq_zero h0
    subst e
    rw [h1]
    exact Nls.nil W
  · subst h1
    refine ⟨_, c, rfl, fun i r hi => ⟨g, 0, rfl, (hl g rfl).2, ?_⟩⟩
    have := hc g rfl i (.int .i64 r) (by rw [List.getElem?_map, hi]; rfl)
    rwa [Addr.add_mid] at this
theorem txt_ne {s t : ByteArray} (h : s ≠ t) : (s.toList == t.toList) = false := beq_eq_false_iff_ne.2 (fun e => h (ba_ext (by rw [← ByteArray.toList_eq, ← ByteArray.toList_eq]; exact e)))
theorem txt_B (s t : ByteArray) : (s.toList == t.toList) = decide (s.data.toList = t.data.toList) := by
  rw [ByteArray.toList_eq, ByteArray.toList_eq]
  by_cases h : s.data.toList = t.data.toList
  · rw [decide_eq_true h]; exact beq_iff_eq.2 h
  · rw [decide_eq_false h]; exact beq_eq_false_iff_ne.2 h
def keV (r : Ke) : Value := .agg #[.bool r.c, .int .i64 r.k, .string r.s]
theorem eqKe (a b : Ke) (w : World) : (Op.equalIn 10000 47 (.agg #[.bool a.c, .int .i64 a.k, .string a.s]) (.agg #[.bool b.c, .int .i64 b.k, .string b.s])).run Try.prog w = .ok (keB a b) w := by
  rw [run_equalIn_agg (w := w) 9999 47 _ _ (by kernel_rfl) (by kernel_rfl)]
  unfold keB
  have ht := txt_B a.s b.s
  cases h1 : (a.c == b.c) <;> cases h2 : (a.k == b.k) <;> cases h3 : (a.s.toList == b.s.toList) <;> rw [h3] at ht <;> simp [go_sem, h1, h2, h3, ← ht] <;> simp_all
theorem Try.infoK : (Try.prog.info? 47).map (fun i => (i.zero, i.size, i.bytes)) = some (some (.agg #[.bool false, .int .i64 0, .string ⟨#[]⟩]), 3, 32) := by kernel_rfl
theorem info_parts {e : TypeId} {z : Value} {n m : Nat} (h : (Try.prog.info? e).map (fun i => (i.zero, i.size, i.bytes)) = some (some z, n, m)) : ∃ i, Try.prog.info? e = some i ∧ i.zero = some z ∧ i.size = n ∧ i.bytes = m := by
  obtain ⟨i, hi, h2⟩ := Option.map_eq_some_iff.1 h
  exact ⟨i, hi, by injection h2, by injection h2 with _ h; injection h, by injection h2 with _ h; injection h⟩
theorem twL_mk (n : Nat) (h : n < 65536) : mkS [((n / 256 : Nat) : Int), ((n % 256 : Nat) : Int)] = baL (twL n) := by
  apply ba_ext
  rw [mkS_list, baL_list]
  show [UInt8.ofNat ((n / 256 : Nat) : Int).toNat, UInt8.ofNat ((n % 256 : Nat) : Int).toNat] = _
  rw [Int.toNat_natCast, Int.toNat_natCast]
  rfl
set_option maxHeartbeats 1000000 in
theorem rtwo_any (n : Nat) (h : n < 65536) (w : World) : Calls Try.prog 27 #[.int .i64 (n : Int)] w fun e w' => e = .returned (.string (baL (twL n))) ∧ Below w.heap.size w w' := by
  rw [← twL_mk n h]
  have n0 : (0 : Int) ≤ (n : Int) := by omega
  have n1 : (n : Int) < 65536 := by omega
  have q0 : (0 : Int) ≤ (n : Int) / 256 := by omega
  have q1 : (n : Int) / 256 < 256 := by omega
  have q2 : (0 : Int) ≤ (n : Int) % 256 := by omega
  have q3 : (n : Int) % 256 < 256 := by omega
  have C := fun (W : World) => convC (W.alloc (.cells #[.int .u8 ((n : Int) / 256), .int .u8 ((n : Int) % 256)] 5)) W.heap.size 2 2 [(n : Int) / 256, (n : Int) % 256] rfl (news_new W [.int .u8 ((n : Int) / 256), .int .u8 ((n : Int) % 256)] 5)
  go_enter Try.func27, Try.ntmps27
  go_wp2
  go_ret
  refine ⟨?_, by go_grown⟩
  rfl
end Go.Proofs.Ytndfcecimckioaa
