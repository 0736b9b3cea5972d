/- What point.Both and point.Mul answer. -/
import Derived.Sort.CutIn
import Derived.Test.YtgekafmojedlkaaJ31
import Derived.Test.YtgekafmojedlkaaJ32
set_option linter.all false
set_option maxRecDepth 100000
namespace Go.Proofs.Ytgekafmojedlkaa
open Go.RowKit Go.Shelf Go.Sort
attribute [local go_sem] Oper.semAt_some
/-- Three coordinates and a mark. -/
abbrev T4 := Int × Int × Bool × Int
abbrev jt (s : T4) : Value := jv s.1 s.2.1 s.2.2.1 s.2.2.2
/-- Thirteen stores. -/
abbrev st13 (w : World) (b : Nat) (X Y : Int) (i : Bool) (Z : Int) : World := (((((((((((((w).setCell ⟨b, 0, none⟩ (.int .u64 (lim (X) 0))).setCell ⟨b, 1, none⟩ (.int .u64 (lim (X) 1))).setCell ⟨b, 2, none⟩ (.int .u64 (lim (X) 2))).setCell ⟨b, 3, none⟩ (.int .u64 (lim (X) 3))).setCell ⟨b, 4, none⟩ (.int .u64 (lim (Y) 0))).setCell ⟨b, 5, none⟩ (.int .u64 (lim (Y) 1))).setCell ⟨b, 6, none⟩ (.int .u64 (lim (Y) 2))).setCell ⟨b, 7, none⟩ (.int .u64 (lim (Y) 3))).setCell ⟨b, 8, none⟩ (.bool i)).setCell ⟨b, 9, none⟩ (.int .u64 (lim (Z) 0))).setCell ⟨b, 10, none⟩ (.int .u64 (lim (Z) 1))).setCell ⟨b, 11, none⟩ (.int .u64 (lim (Z) 2))).setCell ⟨b, 12, none⟩ (.int .u64 (lim (Z) 3))
theorem Arr.st13 {w : World} {b : Nat} {f : Nat → Value} (h : Arr w b 13 f) (X Y : Int) (i : Bool) (Z : Int) : Arr (st13 w b X Y i Z) b 13 (sx X Y i Z) := by
  have h := h.set 0 (by omega) (.int .u64 (lim (X) 0))
  have h := h.set 1 (by omega) (.int .u64 (lim (X) 1))
  have h := h.set 2 (by omega) (.int .u64 (lim (X) 2))
  have h := h.set 3 (by omega) (.int .u64 (lim (X) 3))
  have h := h.set 4 (by omega) (.int .u64 (lim (Y) 0))
  have h := h.set 5 (by omega) (.int .u64 (lim (Y) 1))
  have h := h.set 6 (by omega) (.int .u64 (lim (Y) 2))
  have h := h.set 7 (by omega) (.int .u64 (lim (Y) 3))
  have h := h.set 8 (by omega) (.bool i)
  have h := h.set 9 (by omega) (.int .u64 (lim (Z) 0))
  have h := h.set 10 (by omega) (.int .u64 (lim (Z) 1))
  have h := h.set 11 (by omega) (.int .u64 (lim (Z) 2))
  have h := h.set 12 (by omega) (.int .u64 (lim (Z) 3))
  refine h.congr ?_
  intro j hj
  have h : j = 0 ∨ j = 1 ∨ j = 2 ∨ j = 3 ∨ j = 4 ∨ j = 5 ∨ j = 6 ∨ j = 7 ∨ j = 8 ∨ j = 9 ∨ j = 10 ∨ j = 11 ∨ j = 12 := by omega
  rcases h with h | h | h | h | h | h | h | h | h | h | h | h | h <;> subst h <;> simp [sx]
theorem Arr.st13o {w : World} {b b' n : Nat} {f : Nat → Value} (h : Arr w b n f) (hne : b' ≠ b) (X Y : Int) (i : Bool) (Z : Int) : Arr (Go.Proofs.Ytgekafmojedlkaa.st13 w b' X Y i Z) b n f := (((((((((((((h.other hne _).other hne _).other hne _).other hne _).other hne _).other hne _).other hne _).other hne _).other hne _).other hne _).other hne _).other hne _).other hne _)
theorem Bel.st13 {w W : World} (h : Below w.heap.size w W) {b : Nat} (hle : w.heap.size ≤ b) (X Y : Int) (i : Bool) (Z : Int) : Below w.heap.size w (Go.Proofs.Ytgekafmojedlkaa.st13 W b X Y i Z) := (Bel.st (Bel.st (Bel.st (Bel.st (Bel.st (Bel.st (Bel.st (Bel.st (Bel.st (Bel.st (Bel.st (Bel.st (Bel.st h hle _) hle _) hle _) hle _) hle _) hle _) hle _) hle _) hle _) hle _) hle _) hle _) hle _)
theorem ko_st13 (W : World) (b : Nat) (X Y : Int) (i : Bool) (Z : Int) : KeepsOthers W (st13 W b X Y i Z) := (((((((((((((KeepsOthers.setCell _ _ _).trans (KeepsOthers.setCell _ _ _)).trans (KeepsOthers.setCell _ _ _)).trans (KeepsOthers.setCell _ _ _)).trans (KeepsOthers.setCell _ _ _)).trans (KeepsOthers.setCell _ _ _)).trans (KeepsOthers.setCell _ _ _)).trans (KeepsOthers.setCell _ _ _)).trans (KeepsOthers.setCell _ _ _)).trans (KeepsOthers.setCell _ _ _)).trans (KeepsOthers.setCell _ _ _)).trans (KeepsOthers.setCell _ _ _)).trans (KeepsOthers.setCell _ _ _))
theorem kb2_st13 {b c b' : Nat} (h1 : b' ≠ b) (h2 : b' ≠ c) (W : World) (X Y : Int) (i : Bool) (Z : Int) : KB2 b c W (st13 W b' X Y i Z) := ⟨fun f h => h.st13o h1 X Y i Z, fun f h => h.st13o h2 X Y i Z⟩
theorem ko_st9 (W : World) (b : Nat) (v0 v1 v2 v3 v4 v5 v6 v7 v8 : Value) : KeepsOthers W ((((((((((W).setCell ⟨b, 0, none⟩ (v0)).setCell ⟨b, 1, none⟩ (v1)).setCell ⟨b, 2, none⟩ (v2)).setCell ⟨b, 3, none⟩ (v3)).setCell ⟨b, 4, none⟩ (v4)).setCell ⟨b, 5, none⟩ (v5)).setCell ⟨b, 6, none⟩ (v6)).setCell ⟨b, 7, none⟩ (v7)).setCell ⟨b, 8, none⟩ (v8)) := (((((((((KeepsOthers.setCell _ _ _).trans (KeepsOthers.setCell _ _ _)).trans (KeepsOthers.setCell _ _ _)).trans (KeepsOthers.setCell _ _ _)).trans (KeepsOthers.setCell _ _ _)).trans (KeepsOthers.setCell _ _ _)).trans (KeepsOthers.setCell _ _ _)).trans (KeepsOthers.setCell _ _ _)).trans (KeepsOthers.setCell _ _ _))
theorem arr_st9 {w : World} {b : Nat} {f : Nat → Value} (h : Arr w b 9 f) (X Y : Int) (i : Bool) : Arr ((((((((((w).setCell ⟨b, 0, none⟩ (.int .u64 (lim (X) 0))).setCell ⟨b, 1, none⟩ (.int .u64 (lim (X) 1))).setCell ⟨b, 2, none⟩ (.int .u64 (lim (X) 2))).setCell ⟨b, 3, none⟩ (.int .u64 (lim (X) 3))).setCell ⟨b, 4, none⟩ (.int .u64 (lim (Y) 0))).setCell ⟨b, 5, none⟩ (.int .u64 (lim (Y) 1))).setCell ⟨b, 6, none⟩ (.int .u64 (lim (Y) 2))).setCell ⟨b, 7, none⟩ (.int .u64 (lim (Y) 3))).setCell ⟨b, 8, none⟩ (.bool i)) b 9 (px X Y i) := by
  have h := h.set 0 (by omega) (.int .u64 (lim (X) 0))
  have h := h.set 1 (by omega) (.int .u64 (lim (X) 1))
  have h := h.set 2 (by omega) (.int .u64 (lim (X) 2))
  have h := h.set 3 (by omega) (.int .u64 (lim (X) 3))
  have h := h.set 4 (by omega) (.int .u64 (lim (Y) 0))
  have h := h.set 5 (by omega) (.int .u64 (lim (Y) 1))
  have h := h.set 6 (by omega) (.int .u64 (lim (Y) 2))
  have h := h.set 7 (by omega) (.int .u64 (lim (Y) 3))
  have h := h.set 8 (by omega) (.bool i)
  refine h.congr ?_
  intro j hj
  have h : j = 0 ∨ j = 1 ∨ j = 2 ∨ j = 3 ∨ j = 4 ∨ j = 5 ∨ j = 6 ∨ j = 7 ∨ j = 8 := by omega
  rcases h with h | h | h | h | h | h | h | h | h <;> subst h <;> simp [px]
theorem bel_st9 {w W : World} (h : Below w.heap.size w W) {b : Nat} (hle : w.heap.size ≤ b) (v0 v1 v2 v3 v4 v5 v6 v7 v8 : Value) : Below w.heap.size w ((((((((((W).setCell ⟨b, 0, none⟩ (v0)).setCell ⟨b, 1, none⟩ (v1)).setCell ⟨b, 2, none⟩ (v2)).setCell ⟨b, 3, none⟩ (v3)).setCell ⟨b, 4, none⟩ (v4)).setCell ⟨b, 5, none⟩ (v5)).setCell ⟨b, 6, none⟩ (v6)).setCell ⟨b, 7, none⟩ (v7)).setCell ⟨b, 8, none⟩ (v8)) := (Bel.st (Bel.st (Bel.st (Bel.st (Bel.st (Bel.st (Bel.st (Bel.st (Bel.st h hle _) hle _) hle _) hle _) hle _) hle _) hle _) hle _) hle _)
/-- What a round makes. -/
def bstep (D G A : T4 → T4) (s : T4) (x : Bool × Bool) : T4 := (if x.2 then A else id) ((if x.1 then G else id) (D s))
def bsts (D G A : T4 → T4) (pre : List (Bool × Bool)) : T4 := pre.foldl (bstep D G A) (0, 0, true, 1)
theorem bsts_snoc (D G A : T4 → T4) (pre : List (Bool × Bool)) (x : Bool × Bool) : bsts D G A (pre ++ [x]) = bstep D G A (bsts D G A pre) x := by simp [bsts]
theorem bsts_inv (D G A : T4 → T4) (I : T4 → Prop) (h0 : I (0, 0, true, 1)) (hD : ∀ s, I s → I (D s)) (hG : ∀ s, I s → I (G s)) (hA : ∀ s, I s → I (A s)) (pre : List (Bool × Bool)) : I (bsts D G A pre) := by
  unfold bsts
  suffices h : ∀ (l : List (Bool × Bool)) s, I s → I (l.foldl (bstep D G A) s) from h pre _ h0
  intro l
  induction l with
  | nil => intro s h; exact h
  | cons x l ih =>
    intro s hs
    refine ih _ ?_
    unfold bstep
    cases x.1 <;> cases x.2
    · exact hD _ hs
    · exact hA _ (hD _ hs)
    · exact hG _ (hD _ hs)
    · exact hA _ (hG _ (hD _ hs))
attribute [local go_sem] bv_t bv_f
set_option maxHeartbeats 16000000 in
theorem both_core (J K X Y P Q : Int) (i no : Bool) (L1 L2 L : Nat) (D G A : T4 → T4) (I : T4 → Prop) (w : World) (h1 : L1 ≤ 256) (h2 : L2 ≤ 256) (hL : L ≤ 256) (hmax : (if L1 < L2 then (L2 : Int) else (L1 : Int)) = (L : Int))
    (C1 : ∀ W, Calls Try.prog 77 #[nv J] W fun e w' => e = .returned (.int .i64 (L1 : Int)) ∧ Below W.heap.size W w')
    (C2 : ∀ W, Calls Try.prog 77 #[nv K] W fun e w' => e = .returned (.int .i64 (L2 : Int)) ∧ Below W.heap.size W w')
    (CJ : ∀ (k : Nat) W, k < 256 → Calls Try.prog 78 #[nv J, .int .i64 k] W fun e w' => e = .returned (bv (bitB J k)) ∧ Below W.heap.size W w')
    (CK : ∀ (k : Nat) W, k < 256 → Calls Try.prog 78 #[nv K, .int .i64 k] W fun e w' => e = .returned (bv (bitB K k)) ∧ Below W.heap.size W w')
    (h0 : I (0, 0, true, 1)) (iD : ∀ s, I s → I (D s)) (iG : ∀ s, I s → I (G s)) (iA : ∀ s, I s → I (A s))
    (C24 : ∀ W, Calls Try.prog 24 #[] W fun e w' => e = .returned (pv 0 0 true) ∧ Below W.heap.size W w')
    (C38 : ∀ W, Calls Try.prog 38 #[pv 0 0 true] W fun e w' => e = .returned (jv 0 0 true 1) ∧ Below W.heap.size W w')
    (CB : ∀ W, Calls Try.prog 9 #[] W fun e w' => e = .returned (pv gx gy false) ∧ Below W.heap.size W w')
    (CD : ∀ s W, I s → Calls Try.prog 57 #[jt s] W fun e w' => e = .returned (jt (D s)) ∧ Below W.heap.size W w')
    (CG : ∀ s W, I s → Calls Try.prog 39 #[jt s, pv gx gy false] W fun e w' => e = .returned (jt (G s)) ∧ Below W.heap.size W w')
    (CA : ∀ s W, I s → Calls Try.prog 39 #[jt s, pv X Y i] W fun e w' => e = .returned (jt (A s)) ∧ Below W.heap.size W w')
    (CV : ∀ W, Calls Try.prog 40 #[jt (bsts D G A (up2 J K L L))] W fun e w' => e = .returned (pv P Q no) ∧ Below W.heap.size W w') :
    Calls Try.prog 41 #[nv J, nv K, pv X Y i] w fun e w' => e = .returned (pv P Q no) ∧ Below w.heap.size w w' := by
  refine (callsIn_wide (n := 8)).1 ?_
  refine callsIn_of_wp_marks Try.func41 rfl trivial ?_ rfl
  simp only [Try.ntmps41, List.size_toArray, List.length_cons, List.length_nil, Nat.reduceAdd, Nat.reduceSub, Array.replicate_succ, Array.replicate_zero, List.push_toArray, List.append_toArray, List.nil_append, List.cons_append]
  gi_wp2_with (refine ⟨trivial, ?_⟩; gi_at_call 24; refine (callsIn_wide.2 (C24 _)).mono ?_; rintro e w1 ⟨rfl, hb1⟩)
  refine ⟨trivial, ?_⟩
  refine (callsIn_wide.2 (C38 _)).mono ?_
  rintro e w2 ⟨rfl, hb2⟩
  have hB : Below w.heap.size w w2 := Bel.call (Bel.call (by go_grown : Below w.heap.size w ((((w.alloc (.cells #[.int .u64 (lim (J) 0), .int .u64 (lim (J) 1), .int .u64 (lim (J) 2), .int .u64 (lim (J) 3)] 24)).alloc (.cells #[.int .u64 (lim (K) 0), .int .u64 (lim (K) 1), .int .u64 (lim (K) 2), .int .u64 (lim (K) 3)] 24)).alloc (.cells #[.int .u64 (lim (X) 0), .int .u64 (lim (X) 1), .int .u64 (lim (X) 2), .int .u64 (lim (X) 3), .int .u64 (lim (Y) 0), .int .u64 (lim (Y) 1), .int .u64 (lim (Y) 2), .int .u64 (lim (Y) 3), .bool i] 26)).alloc (.cells #[.int .u64 0, .int .u64 0, .int .u64 0, .int .u64 0, .int .u64 0, .int .u64 0, .int .u64 0, .int .u64 0, .bool false] 26))) hb1) hb2
  have q : ∀ {b n : Nat} {f : Nat → Value}, Arr ((((w.alloc (.cells #[.int .u64 (lim (J) 0), .int .u64 (lim (J) 1), .int .u64 (lim (J) 2), .int .u64 (lim (J) 3)] 24)).alloc (.cells #[.int .u64 (lim (K) 0), .int .u64 (lim (K) 1), .int .u64 (lim (K) 2), .int .u64 (lim (K) 3)] 24)).alloc (.cells #[.int .u64 (lim (X) 0), .int .u64 (lim (X) 1), .int .u64 (lim (X) 2), .int .u64 (lim (X) 3), .int .u64 (lim (Y) 0), .int .u64 (lim (Y) 1), .int .u64 (lim (Y) 2), .int .u64 (lim (Y) 3), .bool i] 26)).alloc (.cells #[.int .u64 0, .int .u64 0, .int .u64 0, .int .u64 0, .int .u64 0, .int .u64 0, .int .u64 0, .int .u64 0, .bool false] 26)) b (n + 1) f → Arr w2 b (n + 1) f := fun h => (Arr.to' (Arr.to' h hb1) hb2)
  have QJ := q (Arr.mk4 (w := ((((w.alloc (.cells #[.int .u64 (lim (J) 0), .int .u64 (lim (J) 1), .int .u64 (lim (J) 2), .int .u64 (lim (J) 3)] 24)).alloc (.cells #[.int .u64 (lim (K) 0), .int .u64 (lim (K) 1), .int .u64 (lim (K) 2), .int .u64 (lim (K) 3)] 24)).alloc (.cells #[.int .u64 (lim (X) 0), .int .u64 (lim (X) 1), .int .u64 (lim (X) 2), .int .u64 (lim (X) 3), .int .u64 (lim (Y) 0), .int .u64 (lim (Y) 1), .int .u64 (lim (Y) 2), .int .u64 (lim (Y) 3), .bool i] 26)).alloc (.cells #[.int .u64 0, .int .u64 0, .int .u64 0, .int .u64 0, .int .u64 0, .int .u64 0, .int .u64 0, .int .u64 0, .bool false] 26))) (f := fun j => .int .u64 (lim (J) j)) (b := w.heap.size) (by simp [go_sem]) (by simp [go_sem]) (by simp [go_sem]) (by simp [go_sem]) (by simp [go_sem]) (by simp [go_sem]) (by simp [go_sem]) (by simp [go_sem]))
  have QK := q (Arr.mk4 (w := ((((w.alloc (.cells #[.int .u64 (lim (J) 0), .int .u64 (lim (J) 1), .int .u64 (lim (J) 2), .int .u64 (lim (J) 3)] 24)).alloc (.cells #[.int .u64 (lim (K) 0), .int .u64 (lim (K) 1), .int .u64 (lim (K) 2), .int .u64 (lim (K) 3)] 24)).alloc (.cells #[.int .u64 (lim (X) 0), .int .u64 (lim (X) 1), .int .u64 (lim (X) 2), .int .u64 (lim (X) 3), .int .u64 (lim (Y) 0), .int .u64 (lim (Y) 1), .int .u64 (lim (Y) 2), .int .u64 (lim (Y) 3), .bool i] 26)).alloc (.cells #[.int .u64 0, .int .u64 0, .int .u64 0, .int .u64 0, .int .u64 0, .int .u64 0, .int .u64 0, .int .u64 0, .bool false] 26))) (f := fun j => .int .u64 (lim (K) j)) (b := w.heap.size + 1) (by simp [go_sem]) (by simp [go_sem]) (by simp [go_sem]) (by simp [go_sem]) (by simp [go_sem]) (by simp [go_sem]) (by simp [go_sem]) (by simp [go_sem]))
  have QP := q (Arr.mk9p (w := ((((w.alloc (.cells #[.int .u64 (lim (J) 0), .int .u64 (lim (J) 1), .int .u64 (lim (J) 2), .int .u64 (lim (J) 3)] 24)).alloc (.cells #[.int .u64 (lim (K) 0), .int .u64 (lim (K) 1), .int .u64 (lim (K) 2), .int .u64 (lim (K) 3)] 24)).alloc (.cells #[.int .u64 (lim (X) 0), .int .u64 (lim (X) 1), .int .u64 (lim (X) 2), .int .u64 (lim (X) 3), .int .u64 (lim (Y) 0), .int .u64 (lim (Y) 1), .int .u64 (lim (Y) 2), .int .u64 (lim (Y) 3), .bool i] 26)).alloc (.cells #[.int .u64 0, .int .u64 0, .int .u64 0, .int .u64 0, .int .u64 0, .int .u64 0, .int .u64 0, .int .u64 0, .bool false] 26))) (f := px (X) (Y) i) (b := w.heap.size + 1 + 1) (by simp [go_sem, px, sx, zx]) (by simp [go_sem, px, sx, zx]) (by simp [go_sem, px, sx, zx]) (by simp [go_sem, px, sx, zx]) (by simp [go_sem, px, sx, zx]) (by simp [go_sem, px, sx, zx]) (by simp [go_sem, px, sx, zx]) (by simp [go_sem, px, sx, zx]) (by simp [go_sem, px, sx, zx]) (by simp [go_sem, px, sx, zx]))
  have QO := q (Arr.mk9p (w := ((((w.alloc (.cells #[.int .u64 (lim (J) 0), .int .u64 (lim (J) 1), .int .u64 (lim (J) 2), .int .u64 (lim (J) 3)] 24)).alloc (.cells #[.int .u64 (lim (K) 0), .int .u64 (lim (K) 1), .int .u64 (lim (K) 2), .int .u64 (lim (K) 3)] 24)).alloc (.cells #[.int .u64 (lim (X) 0), .int .u64 (lim (X) 1), .int .u64 (lim (X) 2), .int .u64 (lim (X) 3), .int .u64 (lim (Y) 0), .int .u64 (lim (Y) 1), .int .u64 (lim (Y) 2), .int .u64 (lim (Y) 3), .bool i] 26)).alloc (.cells #[.int .u64 0, .int .u64 0, .int .u64 0, .int .u64 0, .int .u64 0, .int .u64 0, .int .u64 0, .int .u64 0, .bool false] 26))) (f := zx 8) (b := w.heap.size + 1 + 1 + 1) (by simp [go_sem, px, sx, zx]) (by simp [go_sem, px, sx, zx]) (by simp [go_sem, px, sx, zx]) (by simp [go_sem, px, sx, zx]) (by simp [go_sem, px, sx, zx]) (by simp [go_sem, px, sx, zx]) (by simp [go_sem, px, sx, zx]) (by simp [go_sem, px, sx, zx]) (by simp [go_sem, px, sx, zx]) (by simp [go_sem, px, sx, zx]))
  have lO := QO.lt
  have lJ := QJ.lt
  have lK := QK.lt
  have cj := (Arr.al' QJ (.cells #[.int .u64 (lim (0) 0), .int .u64 (lim (0) 1), .int .u64 (lim (0) 2), .int .u64 (lim (0) 3), .int .u64 (lim (0) 0), .int .u64 (lim (0) 1), .int .u64 (lim (0) 2), .int .u64 (lim (0) 3), .bool true, .int .u64 (lim (1) 0), .int .u64 (lim (1) 1), .int .u64 (lim (1) 2), .int .u64 (lim (1) 3)] 55)).c
  have ck := (Arr.al' QK (.cells #[.int .u64 (lim (0) 0), .int .u64 (lim (0) 1), .int .u64 (lim (0) 2), .int .u64 (lim (0) 3), .int .u64 (lim (0) 0), .int .u64 (lim (0) 1), .int .u64 (lim (0) 2), .int .u64 (lim (0) 3), .bool true, .int .u64 (lim (1) 0), .int .u64 (lim (1) 1), .int .u64 (lim (1) 2), .int .u64 (lim (1) 3)] 55)).c
  have hS := hB.size
  clear q hb1 hb2 C24 C38
  gi_wp2_with (refine ⟨trivial, ?_⟩; gi_at_call 59; refine (callsIn_wide.2 (pbits_any J K _)).mono ?_; rintro e w3 ⟨rfl, rfl⟩)
  have S0 : Arr (((w2.alloc (.cells #[.int .u64 (lim (0) 0), .int .u64 (lim (0) 1), .int .u64 (lim (0) 2), .int .u64 (lim (0) 3), .int .u64 (lim (0) 0), .int .u64 (lim (0) 1), .int .u64 (lim (0) 2), .int .u64 (lim (0) 3), .bool true, .int .u64 (lim (1) 0), .int .u64 (lim (1) 1), .int .u64 (lim (1) 2), .int .u64 (lim (1) 3)] 55)).alloc (.cells #[.int .u64 (lim (J) 0), .int .u64 (lim (J) 1), .int .u64 (lim (J) 2), .int .u64 (lim (J) 3)] 24)).alloc (.cells #[.int .u64 (lim (K) 0), .int .u64 (lim (K) 1), .int .u64 (lim (K) 2), .int .u64 (lim (K) 3)] 24)) w2.heap.size 13 (sx (bsts D G A []).1 (bsts D G A []).2.1 (bsts D G A []).2.2.1 (bsts D G A []).2.2.2) := Arr.mk13 (by simp [go_sem, sx, bsts]) (by simp [go_sem, sx, bsts]) (by simp [go_sem, sx, bsts]) (by simp [go_sem, sx, bsts]) (by simp [go_sem, sx, bsts]) (by simp [go_sem, sx, bsts]) (by simp [go_sem, sx, bsts]) (by simp [go_sem, sx, bsts]) (by simp [go_sem, sx, bsts]) (by simp [go_sem, sx, bsts]) (by simp [go_sem, sx, bsts]) (by simp [go_sem, sx, bsts]) (by simp [go_sem, sx, bsts]) (by simp [go_sem, sx, bsts])
  have J0 : Arr (((w2.alloc (.cells #[.int .u64 (lim (0) 0), .int .u64 (lim (0) 1), .int .u64 (lim (0) 2), .int .u64 (lim (0) 3), .int .u64 (lim (0) 0), .int .u64 (lim (0) 1), .int .u64 (lim (0) 2), .int .u64 (lim (0) 3), .bool true, .int .u64 (lim (1) 0), .int .u64 (lim (1) 1), .int .u64 (lim (1) 2), .int .u64 (lim (1) 3)] 55)).alloc (.cells #[.int .u64 (lim (J) 0), .int .u64 (lim (J) 1), .int .u64 (lim (J) 2), .int .u64 (lim (J) 3)] 24)).alloc (.cells #[.int .u64 (lim (K) 0), .int .u64 (lim (K) 1), .int .u64 (lim (K) 2), .int .u64 (lim (K) 3)] 24)) (w2.heap.size + 1) 4 (fun j => .int .u64 (lim (J) j)) := Arr.mk4 (by simp [go_sem]) (by simp [go_sem]) (by simp [go_sem]) (by simp [go_sem]) (by simp [go_sem]) (by simp [go_sem]) (by simp [go_sem]) (by simp [go_sem])
  have K0 : Arr (((w2.alloc (.cells #[.int .u64 (lim (0) 0), .int .u64 (lim (0) 1), .int .u64 (lim (0) 2), .int .u64 (lim (0) 3), .int .u64 (lim (0) 0), .int .u64 (lim (0) 1), .int .u64 (lim (0) 2), .int .u64 (lim (0) 3), .bool true, .int .u64 (lim (1) 0), .int .u64 (lim (1) 1), .int .u64 (lim (1) 2), .int .u64 (lim (1) 3)] 55)).alloc (.cells #[.int .u64 (lim (J) 0), .int .u64 (lim (J) 1), .int .u64 (lim (J) 2), .int .u64 (lim (J) 3)] 24)).alloc (.cells #[.int .u64 (lim (K) 0), .int .u64 (lim (K) 1), .int .u64 (lim (K) 2), .int .u64 (lim (K) 3)] 24)) (w2.heap.size + 1 + 1) 4 (fun j => .int .u64 (lim (K) j)) := Arr.mk4 (by simp [go_sem]) (by simp [go_sem]) (by simp [go_sem]) (by simp [go_sem]) (by simp [go_sem]) (by simp [go_sem]) (by simp [go_sem]) (by simp [go_sem])
  have lP := QP.lt
  have P0 := Arr.al' (Arr.al' (Arr.al' QP (.cells #[.int .u64 (lim (0) 0), .int .u64 (lim (0) 1), .int .u64 (lim (0) 2), .int .u64 (lim (0) 3), .int .u64 (lim (0) 0), .int .u64 (lim (0) 1), .int .u64 (lim (0) 2), .int .u64 (lim (0) 3), .bool true, .int .u64 (lim (1) 0), .int .u64 (lim (1) 1), .int .u64 (lim (1) 2), .int .u64 (lim (1) 3)] 55)) (.cells #[.int .u64 (lim (J) 0), .int .u64 (lim (J) 1), .int .u64 (lim (J) 2), .int .u64 (lim (J) 3)] 24)) (.cells #[.int .u64 (lim (K) 0), .int .u64 (lim (K) 1), .int .u64 (lim (K) 2), .int .u64 (lim (K) 3)] 24)
  have O0 := Arr.al' (Arr.al' (Arr.al' QO (.cells #[.int .u64 (lim (0) 0), .int .u64 (lim (0) 1), .int .u64 (lim (0) 2), .int .u64 (lim (0) 3), .int .u64 (lim (0) 0), .int .u64 (lim (0) 1), .int .u64 (lim (0) 2), .int .u64 (lim (0) 3), .bool true, .int .u64 (lim (1) 0), .int .u64 (lim (1) 1), .int .u64 (lim (1) 2), .int .u64 (lim (1) 3)] 55)) (.cells #[.int .u64 (lim (J) 0), .int .u64 (lim (J) 1), .int .u64 (lim (J) 2), .int .u64 (lim (J) 3)] 24)) (.cells #[.int .u64 (lim (K) 0), .int .u64 (lim (K) 1), .int .u64 (lim (K) 2), .int .u64 (lim (K) 3)] 24)
  have B0 := Bel.al (Bel.al (Bel.al hB (.cells #[.int .u64 (lim (0) 0), .int .u64 (lim (0) 1), .int .u64 (lim (0) 2), .int .u64 (lim (0) 3), .int .u64 (lim (0) 0), .int .u64 (lim (0) 1), .int .u64 (lim (0) 2), .int .u64 (lim (0) 3), .bool true, .int .u64 (lim (1) 0), .int .u64 (lim (1) 1), .int .u64 (lim (1) 2), .int .u64 (lim (1) 3)] 55)) (.cells #[.int .u64 (lim (J) 0), .int .u64 (lim (J) 1), .int .u64 (lim (J) 2), .int .u64 (lim (J) 3)] 24)) (.cells #[.int .u64 (lim (K) 0), .int .u64 (lim (K) 1), .int .u64 (lim (K) 2), .int .u64 (lim (K) 3)] 24)
  clear QJ QK QP QO cj ck hB
  refine wpIn_rangeFunc_ownF rfl (by omega) (gf := 76) (lb := #[.pointer (some ⟨w2.heap.size + 1, 0, none⟩), .pointer (some ⟨w2.heap.size + 1 + 1, 0, none⟩)]) rfl trivial (enters_of Try.func76 (by kernel_rfl) rfl)
    (pbits_seq J K L1 L2 L _ (w2.heap.size + 1) (w2.heap.size + 1 + 1) (by omega) h1 h2 hL hmax _ C1 C2 CJ CK J0 K0) KB2.t (fun W l o o' _ h1 h2 _ => ⟨KB.b W l o o' h1 h2, KB.b W l o o' h1 h2⟩) (Below.refl _ _) (fun _ => rfl)
    (fun pre W => (Arr W w2.heap.size 13 (sx (bsts D G A pre).1 (bsts D G A pre).2.1 (bsts D G A pre).2.2.1 (bsts D G A pre).2.2.2) ∧ Arr W (w.heap.size + 1 + 1) 9 (px X Y i) ∧ Arr W (w.heap.size + 1 + 1 + 1) 9 (zx 8)) ∧ Below w.heap.size w W)
    (fun _ _ _ => False)
    (OwnFrom.and (Own.from (fun s A B row hs hg hr => ⟨arr_kept hs.1 hg hr, arr_kept hs.2.1 hg hr, arr_kept hs.2.2 hg hr⟩) _) (ownFrom_below (Nat.le_refl _) (by simp; omega)))
    (fun _ _ _ _ _ hs _ _ => hs)
    ⟨⟨S0, P0, O0⟩, B0⟩
    (fun x => { tmps := #[nv J, nv K, pv X Y i, .pointer (some ⟨w.heap.size, 0, none⟩), .pointer (some ⟨w.heap.size + 1, 0, none⟩), .pointer (some ⟨w.heap.size + 1 + 1, 0, none⟩), .pointer (some ⟨w.heap.size + 1 + 1 + 1, 0, none⟩), .pointer (some ⟨w2.heap.size, 0, none⟩), bv x.1, bv x.2, pv 0 0 true, jv 0 0 true 1, nv J, nv K, .func (.func 76) #[] #[.pointer (some ⟨w2.heap.size + 1, 0, none⟩), .pointer (some ⟨w2.heap.size + 1 + 1, 0, none⟩)], bv x.1, bv x.2, undef, undef, undef, undef, undef, undef, undef, undef, undef, undef, undef, undef, undef, undef], defers := [] }) ?assign ?body ?done ?stop
  case assign =>
    intro l x W K hK
    gi_wp2
    exact hK
  case body =>
    clear S0 P0 O0 B0 J0 K0 C1 C2 CJ CK CV
    rintro l pre ⟨x1, x2⟩ W ⟨⟨IS, IP, IQ⟩, hB⟩ _
    have hI := bsts_inv D G A I h0 iD iG iA pre
    obtain ⟨X1, Y1, i1, Z1, hs⟩ : ∃ X1 Y1 i1 Z1, bsts D G A pre = (X1, Y1, i1, Z1) := ⟨_, _, _, _, rfl⟩
    rw [hs] at IS hI
    replace IS : Arr W w2.heap.size 13 (sx X1 Y1 i1 Z1) := IS
    have hd : 1 ≤ 8 - 1 - 1 := by omega
    cases x1 <;> cases x2
    · have hI1 := iD _ hI
      have rs0 := IS.cv 0 (by omega) (.int .u64 (lim (X1) 0)) rfl
      have rs1 := IS.cv 1 (by omega) (.int .u64 (lim (X1) 1)) rfl
      have rs2 := IS.cv 2 (by omega) (.int .u64 (lim (X1) 2)) rfl
      have rs3 := IS.cv 3 (by omega) (.int .u64 (lim (X1) 3)) rfl
      have rs4 := IS.cv 4 (by omega) (.int .u64 (lim (Y1) 0)) rfl
      have rs5 := IS.cv 5 (by omega) (.int .u64 (lim (Y1) 1)) rfl
      have rs6 := IS.cv 6 (by omega) (.int .u64 (lim (Y1) 2)) rfl
      have rs7 := IS.cv 7 (by omega) (.int .u64 (lim (Y1) 3)) rfl
      have rs8 := IS.cv 8 (by omega) (.bool i1) rfl
      have rs9 := IS.cv 9 (by omega) (.int .u64 (lim (Z1) 0)) rfl
      have rs10 := IS.cv 10 (by omega) (.int .u64 (lim (Z1) 1)) rfl
      have rs11 := IS.cv 11 (by omega) (.int .u64 (lim (Z1) 2)) rfl
      have rs12 := IS.cv 12 (by omega) (.int .u64 (lim (Z1) 3)) rfl
      obtain ⟨X2, Y2, i2, Z2, hs2⟩ : ∃ X2 Y2 i2 Z2, D (X1, Y1, i1, Z1) = (X2, Y2, i2, Z2) := ⟨_, _, _, _, rfl⟩
      have cd := fun W => CD (X1, Y1, i1, Z1) W hI
      rw [hs2] at cd
      gi_wp2_with (refine ⟨trivial, ?_⟩; gi_at_call 57; refine (callsIn_wide.2 (cd _)).mono ?_; rintro e w4 ⟨rfl, hb⟩; have JS := IS.below hb IS.lt; have qs0 := JS.cv 0 (by omega) (.int .u64 (lim (X1) 0)) rfl; have qs1 := JS.cv 1 (by omega) (.int .u64 (lim (X1) 1)) rfl; have qs2 := JS.cv 2 (by omega) (.int .u64 (lim (X1) 2)) rfl; have qs3 := JS.cv 3 (by omega) (.int .u64 (lim (X1) 3)) rfl; have qs4 := JS.cv 4 (by omega) (.int .u64 (lim (Y1) 0)) rfl; have qs5 := JS.cv 5 (by omega) (.int .u64 (lim (Y1) 1)) rfl; have qs6 := JS.cv 6 (by omega) (.int .u64 (lim (Y1) 2)) rfl; have qs7 := JS.cv 7 (by omega) (.int .u64 (lim (Y1) 3)) rfl; have qs8 := JS.cv 8 (by omega) (.bool i1) rfl; have qs9 := JS.cv 9 (by omega) (.int .u64 (lim (Z1) 0)) rfl; have qs10 := JS.cv 10 (by omega) (.int .u64 (lim (Z1) 1)) rfl; have qs11 := JS.cv 11 (by omega) (.int .u64 (lim (Z1) 2)) rfl; have qs12 := JS.cv 12 (by omega) (.int .u64 (lim (Z1) 3)) rfl; have zq := JS.z)
      have S1 : Arr ((((((((((((((w4).setCell ⟨w2.heap.size, 0, none⟩ (.int .u64 (lim (X2) 0))).setCell ⟨w2.heap.size, 1, none⟩ (.int .u64 (lim (X2) 1))).setCell ⟨w2.heap.size, 2, none⟩ (.int .u64 (lim (X2) 2))).setCell ⟨w2.heap.size, 3, none⟩ (.int .u64 (lim (X2) 3))).setCell ⟨w2.heap.size, 4, none⟩ (.int .u64 (lim (Y2) 0))).setCell ⟨w2.heap.size, 5, none⟩ (.int .u64 (lim (Y2) 1))).setCell ⟨w2.heap.size, 6, none⟩ (.int .u64 (lim (Y2) 2))).setCell ⟨w2.heap.size, 7, none⟩ (.int .u64 (lim (Y2) 3))).setCell ⟨w2.heap.size, 8, none⟩ (.bool i2)).setCell ⟨w2.heap.size, 9, none⟩ (.int .u64 (lim (Z2) 0))).setCell ⟨w2.heap.size, 10, none⟩ (.int .u64 (lim (Z2) 1))).setCell ⟨w2.heap.size, 11, none⟩ (.int .u64 (lim (Z2) 2))).setCell ⟨w2.heap.size, 12, none⟩ (.int .u64 (lim (Z2) 3))) w2.heap.size 13 (sx X2 Y2 i2 Z2) := JS.st13 X2 Y2 i2 Z2
      have P1 : Arr ((((((((((((((w4).setCell ⟨w2.heap.size, 0, none⟩ (.int .u64 (lim (X2) 0))).setCell ⟨w2.heap.size, 1, none⟩ (.int .u64 (lim (X2) 1))).setCell ⟨w2.heap.size, 2, none⟩ (.int .u64 (lim (X2) 2))).setCell ⟨w2.heap.size, 3, none⟩ (.int .u64 (lim (X2) 3))).setCell ⟨w2.heap.size, 4, none⟩ (.int .u64 (lim (Y2) 0))).setCell ⟨w2.heap.size, 5, none⟩ (.int .u64 (lim (Y2) 1))).setCell ⟨w2.heap.size, 6, none⟩ (.int .u64 (lim (Y2) 2))).setCell ⟨w2.heap.size, 7, none⟩ (.int .u64 (lim (Y2) 3))).setCell ⟨w2.heap.size, 8, none⟩ (.bool i2)).setCell ⟨w2.heap.size, 9, none⟩ (.int .u64 (lim (Z2) 0))).setCell ⟨w2.heap.size, 10, none⟩ (.int .u64 (lim (Z2) 1))).setCell ⟨w2.heap.size, 11, none⟩ (.int .u64 (lim (Z2) 2))).setCell ⟨w2.heap.size, 12, none⟩ (.int .u64 (lim (Z2) 3))) (w.heap.size + 1 + 1) 9 (px X Y i) := (IP.below hb IP.lt).st13o (b' := w2.heap.size) (by omega) X2 Y2 i2 Z2
      have O1 : Arr ((((((((((((((w4).setCell ⟨w2.heap.size, 0, none⟩ (.int .u64 (lim (X2) 0))).setCell ⟨w2.heap.size, 1, none⟩ (.int .u64 (lim (X2) 1))).setCell ⟨w2.heap.size, 2, none⟩ (.int .u64 (lim (X2) 2))).setCell ⟨w2.heap.size, 3, none⟩ (.int .u64 (lim (X2) 3))).setCell ⟨w2.heap.size, 4, none⟩ (.int .u64 (lim (Y2) 0))).setCell ⟨w2.heap.size, 5, none⟩ (.int .u64 (lim (Y2) 1))).setCell ⟨w2.heap.size, 6, none⟩ (.int .u64 (lim (Y2) 2))).setCell ⟨w2.heap.size, 7, none⟩ (.int .u64 (lim (Y2) 3))).setCell ⟨w2.heap.size, 8, none⟩ (.bool i2)).setCell ⟨w2.heap.size, 9, none⟩ (.int .u64 (lim (Z2) 0))).setCell ⟨w2.heap.size, 10, none⟩ (.int .u64 (lim (Z2) 1))).setCell ⟨w2.heap.size, 11, none⟩ (.int .u64 (lim (Z2) 2))).setCell ⟨w2.heap.size, 12, none⟩ (.int .u64 (lim (Z2) 3))) (w.heap.size + 1 + 1 + 1) 9 (zx 8) := (IQ.below hb IQ.lt).st13o (b' := w2.heap.size) (by omega) X2 Y2 i2 Z2
      have B1 : Below w.heap.size w ((((((((((((((w4).setCell ⟨w2.heap.size, 0, none⟩ (.int .u64 (lim (X2) 0))).setCell ⟨w2.heap.size, 1, none⟩ (.int .u64 (lim (X2) 1))).setCell ⟨w2.heap.size, 2, none⟩ (.int .u64 (lim (X2) 2))).setCell ⟨w2.heap.size, 3, none⟩ (.int .u64 (lim (X2) 3))).setCell ⟨w2.heap.size, 4, none⟩ (.int .u64 (lim (Y2) 0))).setCell ⟨w2.heap.size, 5, none⟩ (.int .u64 (lim (Y2) 1))).setCell ⟨w2.heap.size, 6, none⟩ (.int .u64 (lim (Y2) 2))).setCell ⟨w2.heap.size, 7, none⟩ (.int .u64 (lim (Y2) 3))).setCell ⟨w2.heap.size, 8, none⟩ (.bool i2)).setCell ⟨w2.heap.size, 9, none⟩ (.int .u64 (lim (Z2) 0))).setCell ⟨w2.heap.size, 10, none⟩ (.int .u64 (lim (Z2) 1))).setCell ⟨w2.heap.size, 11, none⟩ (.int .u64 (lim (Z2) 2))).setCell ⟨w2.heap.size, 12, none⟩ (.int .u64 (lim (Z2) 3))) := Bel.st13 (Bel.call hB hb) (b := w2.heap.size) (by omega) X2 Y2 i2 Z2
      have KO1 : KeepsOthers W ((((((((((((((w4).setCell ⟨w2.heap.size, 0, none⟩ (.int .u64 (lim (X2) 0))).setCell ⟨w2.heap.size, 1, none⟩ (.int .u64 (lim (X2) 1))).setCell ⟨w2.heap.size, 2, none⟩ (.int .u64 (lim (X2) 2))).setCell ⟨w2.heap.size, 3, none⟩ (.int .u64 (lim (X2) 3))).setCell ⟨w2.heap.size, 4, none⟩ (.int .u64 (lim (Y2) 0))).setCell ⟨w2.heap.size, 5, none⟩ (.int .u64 (lim (Y2) 1))).setCell ⟨w2.heap.size, 6, none⟩ (.int .u64 (lim (Y2) 2))).setCell ⟨w2.heap.size, 7, none⟩ (.int .u64 (lim (Y2) 3))).setCell ⟨w2.heap.size, 8, none⟩ (.bool i2)).setCell ⟨w2.heap.size, 9, none⟩ (.int .u64 (lim (Z2) 0))).setCell ⟨w2.heap.size, 10, none⟩ (.int .u64 (lim (Z2) 1))).setCell ⟨w2.heap.size, 11, none⟩ (.int .u64 (lim (Z2) 2))).setCell ⟨w2.heap.size, 12, none⟩ (.int .u64 (lim (Z2) 3))) := (ko_below hb).trans (ko_st13 w4 w2.heap.size X2 Y2 i2 Z2)
      have KK1 : KB2 (w2.heap.size + 1) (w2.heap.size + 1 + 1) W ((((((((((((((w4).setCell ⟨w2.heap.size, 0, none⟩ (.int .u64 (lim (X2) 0))).setCell ⟨w2.heap.size, 1, none⟩ (.int .u64 (lim (X2) 1))).setCell ⟨w2.heap.size, 2, none⟩ (.int .u64 (lim (X2) 2))).setCell ⟨w2.heap.size, 3, none⟩ (.int .u64 (lim (X2) 3))).setCell ⟨w2.heap.size, 4, none⟩ (.int .u64 (lim (Y2) 0))).setCell ⟨w2.heap.size, 5, none⟩ (.int .u64 (lim (Y2) 1))).setCell ⟨w2.heap.size, 6, none⟩ (.int .u64 (lim (Y2) 2))).setCell ⟨w2.heap.size, 7, none⟩ (.int .u64 (lim (Y2) 3))).setCell ⟨w2.heap.size, 8, none⟩ (.bool i2)).setCell ⟨w2.heap.size, 9, none⟩ (.int .u64 (lim (Z2) 0))).setCell ⟨w2.heap.size, 10, none⟩ (.int .u64 (lim (Z2) 1))).setCell ⟨w2.heap.size, 11, none⟩ (.int .u64 (lim (Z2) 2))).setCell ⟨w2.heap.size, 12, none⟩ (.int .u64 (lim (Z2) 3))) := KB2.t (kb2_below hb) (kb2_st13 (b := w2.heap.size + 1) (c := w2.heap.size + 1 + 1) (b' := w2.heap.size) (by omega) (by omega) w4 X2 Y2 i2 Z2)
      generalize (((((((((((((w4).setCell ⟨w2.heap.size, 0, none⟩ (.int .u64 (lim (X2) 0))).setCell ⟨w2.heap.size, 1, none⟩ (.int .u64 (lim (X2) 1))).setCell ⟨w2.heap.size, 2, none⟩ (.int .u64 (lim (X2) 2))).setCell ⟨w2.heap.size, 3, none⟩ (.int .u64 (lim (X2) 3))).setCell ⟨w2.heap.size, 4, none⟩ (.int .u64 (lim (Y2) 0))).setCell ⟨w2.heap.size, 5, none⟩ (.int .u64 (lim (Y2) 1))).setCell ⟨w2.heap.size, 6, none⟩ (.int .u64 (lim (Y2) 2))).setCell ⟨w2.heap.size, 7, none⟩ (.int .u64 (lim (Y2) 3))).setCell ⟨w2.heap.size, 8, none⟩ (.bool i2)).setCell ⟨w2.heap.size, 9, none⟩ (.int .u64 (lim (Z2) 0))).setCell ⟨w2.heap.size, 10, none⟩ (.int .u64 (lim (Z2) 1))).setCell ⟨w2.heap.size, 11, none⟩ (.int .u64 (lim (Z2) 2))).setCell ⟨w2.heap.size, 12, none⟩ (.int .u64 (lim (Z2) 3)) = V1 at S1 P1 O1 B1 KO1 KK1 ⊢
      clear hb JS zq rs0 qs0 rs1 qs1 rs2 qs2 rs3 qs3 rs4 qs4 rs5 qs5 rs6 qs6 rs7 qs7 rs8 qs8 rs9 qs9 rs10 qs10 rs11 qs11 rs12 qs12 IS IP IQ hB cd
      try gi_wp2
      refine ⟨KO1, KK1, ⟨?_, P1, O1⟩, B1⟩
      rw [bsts_snoc, hs]
      simp only [bstep, if_true, Bool.false_eq_true, if_false, id, hs2]
      exact S1
    · have hI1 := iD _ hI
      have rs0 := IS.cv 0 (by omega) (.int .u64 (lim (X1) 0)) rfl
      have rs1 := IS.cv 1 (by omega) (.int .u64 (lim (X1) 1)) rfl
      have rs2 := IS.cv 2 (by omega) (.int .u64 (lim (X1) 2)) rfl
      have rs3 := IS.cv 3 (by omega) (.int .u64 (lim (X1) 3)) rfl
      have rs4 := IS.cv 4 (by omega) (.int .u64 (lim (Y1) 0)) rfl
      have rs5 := IS.cv 5 (by omega) (.int .u64 (lim (Y1) 1)) rfl
      have rs6 := IS.cv 6 (by omega) (.int .u64 (lim (Y1) 2)) rfl
      have rs7 := IS.cv 7 (by omega) (.int .u64 (lim (Y1) 3)) rfl
      have rs8 := IS.cv 8 (by omega) (.bool i1) rfl
      have rs9 := IS.cv 9 (by omega) (.int .u64 (lim (Z1) 0)) rfl
      have rs10 := IS.cv 10 (by omega) (.int .u64 (lim (Z1) 1)) rfl
      have rs11 := IS.cv 11 (by omega) (.int .u64 (lim (Z1) 2)) rfl
      have rs12 := IS.cv 12 (by omega) (.int .u64 (lim (Z1) 3)) rfl
      obtain ⟨X2, Y2, i2, Z2, hs2⟩ : ∃ X2 Y2 i2 Z2, D (X1, Y1, i1, Z1) = (X2, Y2, i2, Z2) := ⟨_, _, _, _, rfl⟩
      have cd := fun W => CD (X1, Y1, i1, Z1) W hI
      rw [hs2] at cd
      gi_upto_region 9 with (refine ⟨trivial, ?_⟩; gi_at_call 57; refine (callsIn_wide.2 (cd _)).mono ?_; rintro e w4 ⟨rfl, hb⟩; have JS := IS.below hb IS.lt; have qs0 := JS.cv 0 (by omega) (.int .u64 (lim (X1) 0)) rfl; have qs1 := JS.cv 1 (by omega) (.int .u64 (lim (X1) 1)) rfl; have qs2 := JS.cv 2 (by omega) (.int .u64 (lim (X1) 2)) rfl; have qs3 := JS.cv 3 (by omega) (.int .u64 (lim (X1) 3)) rfl; have qs4 := JS.cv 4 (by omega) (.int .u64 (lim (Y1) 0)) rfl; have qs5 := JS.cv 5 (by omega) (.int .u64 (lim (Y1) 1)) rfl; have qs6 := JS.cv 6 (by omega) (.int .u64 (lim (Y1) 2)) rfl; have qs7 := JS.cv 7 (by omega) (.int .u64 (lim (Y1) 3)) rfl; have qs8 := JS.cv 8 (by omega) (.bool i1) rfl; have qs9 := JS.cv 9 (by omega) (.int .u64 (lim (Z1) 0)) rfl; have qs10 := JS.cv 10 (by omega) (.int .u64 (lim (Z1) 1)) rfl; have qs11 := JS.cv 11 (by omega) (.int .u64 (lim (Z1) 2)) rfl; have qs12 := JS.cv 12 (by omega) (.int .u64 (lim (Z1) 3)) rfl; have zq := JS.z)
      have S1 : Arr ((((((((((((((w4).setCell ⟨w2.heap.size, 0, none⟩ (.int .u64 (lim (X2) 0))).setCell ⟨w2.heap.size, 1, none⟩ (.int .u64 (lim (X2) 1))).setCell ⟨w2.heap.size, 2, none⟩ (.int .u64 (lim (X2) 2))).setCell ⟨w2.heap.size, 3, none⟩ (.int .u64 (lim (X2) 3))).setCell ⟨w2.heap.size, 4, none⟩ (.int .u64 (lim (Y2) 0))).setCell ⟨w2.heap.size, 5, none⟩ (.int .u64 (lim (Y2) 1))).setCell ⟨w2.heap.size, 6, none⟩ (.int .u64 (lim (Y2) 2))).setCell ⟨w2.heap.size, 7, none⟩ (.int .u64 (lim (Y2) 3))).setCell ⟨w2.heap.size, 8, none⟩ (.bool i2)).setCell ⟨w2.heap.size, 9, none⟩ (.int .u64 (lim (Z2) 0))).setCell ⟨w2.heap.size, 10, none⟩ (.int .u64 (lim (Z2) 1))).setCell ⟨w2.heap.size, 11, none⟩ (.int .u64 (lim (Z2) 2))).setCell ⟨w2.heap.size, 12, none⟩ (.int .u64 (lim (Z2) 3))) w2.heap.size 13 (sx X2 Y2 i2 Z2) := JS.st13 X2 Y2 i2 Z2
      have P1 : Arr ((((((((((((((w4).setCell ⟨w2.heap.size, 0, none⟩ (.int .u64 (lim (X2) 0))).setCell ⟨w2.heap.size, 1, none⟩ (.int .u64 (lim (X2) 1))).setCell ⟨w2.heap.size, 2, none⟩ (.int .u64 (lim (X2) 2))).setCell ⟨w2.heap.size, 3, none⟩ (.int .u64 (lim (X2) 3))).setCell ⟨w2.heap.size, 4, none⟩ (.int .u64 (lim (Y2) 0))).setCell ⟨w2.heap.size, 5, none⟩ (.int .u64 (lim (Y2) 1))).setCell ⟨w2.heap.size, 6, none⟩ (.int .u64 (lim (Y2) 2))).setCell ⟨w2.heap.size, 7, none⟩ (.int .u64 (lim (Y2) 3))).setCell ⟨w2.heap.size, 8, none⟩ (.bool i2)).setCell ⟨w2.heap.size, 9, none⟩ (.int .u64 (lim (Z2) 0))).setCell ⟨w2.heap.size, 10, none⟩ (.int .u64 (lim (Z2) 1))).setCell ⟨w2.heap.size, 11, none⟩ (.int .u64 (lim (Z2) 2))).setCell ⟨w2.heap.size, 12, none⟩ (.int .u64 (lim (Z2) 3))) (w.heap.size + 1 + 1) 9 (px X Y i) := (IP.below hb IP.lt).st13o (b' := w2.heap.size) (by omega) X2 Y2 i2 Z2
      have O1 : Arr ((((((((((((((w4).setCell ⟨w2.heap.size, 0, none⟩ (.int .u64 (lim (X2) 0))).setCell ⟨w2.heap.size, 1, none⟩ (.int .u64 (lim (X2) 1))).setCell ⟨w2.heap.size, 2, none⟩ (.int .u64 (lim (X2) 2))).setCell ⟨w2.heap.size, 3, none⟩ (.int .u64 (lim (X2) 3))).setCell ⟨w2.heap.size, 4, none⟩ (.int .u64 (lim (Y2) 0))).setCell ⟨w2.heap.size, 5, none⟩ (.int .u64 (lim (Y2) 1))).setCell ⟨w2.heap.size, 6, none⟩ (.int .u64 (lim (Y2) 2))).setCell ⟨w2.heap.size, 7, none⟩ (.int .u64 (lim (Y2) 3))).setCell ⟨w2.heap.size, 8, none⟩ (.bool i2)).setCell ⟨w2.heap.size, 9, none⟩ (.int .u64 (lim (Z2) 0))).setCell ⟨w2.heap.size, 10, none⟩ (.int .u64 (lim (Z2) 1))).setCell ⟨w2.heap.size, 11, none⟩ (.int .u64 (lim (Z2) 2))).setCell ⟨w2.heap.size, 12, none⟩ (.int .u64 (lim (Z2) 3))) (w.heap.size + 1 + 1 + 1) 9 (zx 8) := (IQ.below hb IQ.lt).st13o (b' := w2.heap.size) (by omega) X2 Y2 i2 Z2
      have B1 : Below w.heap.size w ((((((((((((((w4).setCell ⟨w2.heap.size, 0, none⟩ (.int .u64 (lim (X2) 0))).setCell ⟨w2.heap.size, 1, none⟩ (.int .u64 (lim (X2) 1))).setCell ⟨w2.heap.size, 2, none⟩ (.int .u64 (lim (X2) 2))).setCell ⟨w2.heap.size, 3, none⟩ (.int .u64 (lim (X2) 3))).setCell ⟨w2.heap.size, 4, none⟩ (.int .u64 (lim (Y2) 0))).setCell ⟨w2.heap.size, 5, none⟩ (.int .u64 (lim (Y2) 1))).setCell ⟨w2.heap.size, 6, none⟩ (.int .u64 (lim (Y2) 2))).setCell ⟨w2.heap.size, 7, none⟩ (.int .u64 (lim (Y2) 3))).setCell ⟨w2.heap.size, 8, none⟩ (.bool i2)).setCell ⟨w2.heap.size, 9, none⟩ (.int .u64 (lim (Z2) 0))).setCell ⟨w2.heap.size, 10, none⟩ (.int .u64 (lim (Z2) 1))).setCell ⟨w2.heap.size, 11, none⟩ (.int .u64 (lim (Z2) 2))).setCell ⟨w2.heap.size, 12, none⟩ (.int .u64 (lim (Z2) 3))) := Bel.st13 (Bel.call hB hb) (b := w2.heap.size) (by omega) X2 Y2 i2 Z2
      have KO1 : KeepsOthers W ((((((((((((((w4).setCell ⟨w2.heap.size, 0, none⟩ (.int .u64 (lim (X2) 0))).setCell ⟨w2.heap.size, 1, none⟩ (.int .u64 (lim (X2) 1))).setCell ⟨w2.heap.size, 2, none⟩ (.int .u64 (lim (X2) 2))).setCell ⟨w2.heap.size, 3, none⟩ (.int .u64 (lim (X2) 3))).setCell ⟨w2.heap.size, 4, none⟩ (.int .u64 (lim (Y2) 0))).setCell ⟨w2.heap.size, 5, none⟩ (.int .u64 (lim (Y2) 1))).setCell ⟨w2.heap.size, 6, none⟩ (.int .u64 (lim (Y2) 2))).setCell ⟨w2.heap.size, 7, none⟩ (.int .u64 (lim (Y2) 3))).setCell ⟨w2.heap.size, 8, none⟩ (.bool i2)).setCell ⟨w2.heap.size, 9, none⟩ (.int .u64 (lim (Z2) 0))).setCell ⟨w2.heap.size, 10, none⟩ (.int .u64 (lim (Z2) 1))).setCell ⟨w2.heap.size, 11, none⟩ (.int .u64 (lim (Z2) 2))).setCell ⟨w2.heap.size, 12, none⟩ (.int .u64 (lim (Z2) 3))) := (ko_below hb).trans (ko_st13 w4 w2.heap.size X2 Y2 i2 Z2)
      have KK1 : KB2 (w2.heap.size + 1) (w2.heap.size + 1 + 1) W ((((((((((((((w4).setCell ⟨w2.heap.size, 0, none⟩ (.int .u64 (lim (X2) 0))).setCell ⟨w2.heap.size, 1, none⟩ (.int .u64 (lim (X2) 1))).setCell ⟨w2.heap.size, 2, none⟩ (.int .u64 (lim (X2) 2))).setCell ⟨w2.heap.size, 3, none⟩ (.int .u64 (lim (X2) 3))).setCell ⟨w2.heap.size, 4, none⟩ (.int .u64 (lim (Y2) 0))).setCell ⟨w2.heap.size, 5, none⟩ (.int .u64 (lim (Y2) 1))).setCell ⟨w2.heap.size, 6, none⟩ (.int .u64 (lim (Y2) 2))).setCell ⟨w2.heap.size, 7, none⟩ (.int .u64 (lim (Y2) 3))).setCell ⟨w2.heap.size, 8, none⟩ (.bool i2)).setCell ⟨w2.heap.size, 9, none⟩ (.int .u64 (lim (Z2) 0))).setCell ⟨w2.heap.size, 10, none⟩ (.int .u64 (lim (Z2) 1))).setCell ⟨w2.heap.size, 11, none⟩ (.int .u64 (lim (Z2) 2))).setCell ⟨w2.heap.size, 12, none⟩ (.int .u64 (lim (Z2) 3))) := KB2.t (kb2_below hb) (kb2_st13 (b := w2.heap.size + 1) (c := w2.heap.size + 1 + 1) (b' := w2.heap.size) (by omega) (by omega) w4 X2 Y2 i2 Z2)
      generalize (((((((((((((w4).setCell ⟨w2.heap.size, 0, none⟩ (.int .u64 (lim (X2) 0))).setCell ⟨w2.heap.size, 1, none⟩ (.int .u64 (lim (X2) 1))).setCell ⟨w2.heap.size, 2, none⟩ (.int .u64 (lim (X2) 2))).setCell ⟨w2.heap.size, 3, none⟩ (.int .u64 (lim (X2) 3))).setCell ⟨w2.heap.size, 4, none⟩ (.int .u64 (lim (Y2) 0))).setCell ⟨w2.heap.size, 5, none⟩ (.int .u64 (lim (Y2) 1))).setCell ⟨w2.heap.size, 6, none⟩ (.int .u64 (lim (Y2) 2))).setCell ⟨w2.heap.size, 7, none⟩ (.int .u64 (lim (Y2) 3))).setCell ⟨w2.heap.size, 8, none⟩ (.bool i2)).setCell ⟨w2.heap.size, 9, none⟩ (.int .u64 (lim (Z2) 0))).setCell ⟨w2.heap.size, 10, none⟩ (.int .u64 (lim (Z2) 1))).setCell ⟨w2.heap.size, 11, none⟩ (.int .u64 (lim (Z2) 2))).setCell ⟨w2.heap.size, 12, none⟩ (.int .u64 (lim (Z2) 3)) = V1 at S1 P1 O1 B1 KO1 KK1 ⊢
      clear hb JS zq rs0 qs0 rs1 qs1 rs2 qs2 rs3 qs3 rs4 qs4 rs5 qs5 rs6 qs6 rs7 qs7 rs8 qs8 rs9 qs9 rs10 qs10 rs11 qs11 rs12 qs12 IS IP IQ hB cd
      rw [hs2] at hI1
      obtain ⟨X4, Y4, i4, Z4, hs4⟩ : ∃ X4 Y4 i4 Z4, A (X2, Y2, i2, Z2) = (X4, Y4, i4, Z4) := ⟨_, _, _, _, rfl⟩
      have ca := fun W => CA (X2, Y2, i2, Z2) W hI1
      rw [hs4] at ca
      have ts0 := S1.cv 0 (by omega) (.int .u64 (lim (X2) 0)) rfl
      have ts1 := S1.cv 1 (by omega) (.int .u64 (lim (X2) 1)) rfl
      have ts2 := S1.cv 2 (by omega) (.int .u64 (lim (X2) 2)) rfl
      have ts3 := S1.cv 3 (by omega) (.int .u64 (lim (X2) 3)) rfl
      have ts4 := S1.cv 4 (by omega) (.int .u64 (lim (Y2) 0)) rfl
      have ts5 := S1.cv 5 (by omega) (.int .u64 (lim (Y2) 1)) rfl
      have ts6 := S1.cv 6 (by omega) (.int .u64 (lim (Y2) 2)) rfl
      have ts7 := S1.cv 7 (by omega) (.int .u64 (lim (Y2) 3)) rfl
      have ts8 := S1.cv 8 (by omega) (.bool i2) rfl
      have ts9 := S1.cv 9 (by omega) (.int .u64 (lim (Z2) 0)) rfl
      have ts10 := S1.cv 10 (by omega) (.int .u64 (lim (Z2) 1)) rfl
      have ts11 := S1.cv 11 (by omega) (.int .u64 (lim (Z2) 2)) rfl
      have ts12 := S1.cv 12 (by omega) (.int .u64 (lim (Z2) 3)) rfl
      have tp0 := P1.cv 0 (by omega) (.int .u64 (lim (X) 0)) rfl
      have tp1 := P1.cv 1 (by omega) (.int .u64 (lim (X) 1)) rfl
      have tp2 := P1.cv 2 (by omega) (.int .u64 (lim (X) 2)) rfl
      have tp3 := P1.cv 3 (by omega) (.int .u64 (lim (X) 3)) rfl
      have tp4 := P1.cv 4 (by omega) (.int .u64 (lim (Y) 0)) rfl
      have tp5 := P1.cv 5 (by omega) (.int .u64 (lim (Y) 1)) rfl
      have tp6 := P1.cv 6 (by omega) (.int .u64 (lim (Y) 2)) rfl
      have tp7 := P1.cv 7 (by omega) (.int .u64 (lim (Y) 3)) rfl
      have tp8 := P1.cv 8 (by omega) (.bool i) rfl
      gi_wp2_with (refine ⟨trivial, ?_⟩; gi_at_call 39; refine (callsIn_wide.2 (ca _)).mono ?_; rintro e w6 ⟨rfl, hb6⟩; have MS := S1.below hb6 S1.lt; have us0 := MS.cv 0 (by omega) (.int .u64 (lim (X2) 0)) rfl; have us1 := MS.cv 1 (by omega) (.int .u64 (lim (X2) 1)) rfl; have us2 := MS.cv 2 (by omega) (.int .u64 (lim (X2) 2)) rfl; have us3 := MS.cv 3 (by omega) (.int .u64 (lim (X2) 3)) rfl; have us4 := MS.cv 4 (by omega) (.int .u64 (lim (Y2) 0)) rfl; have us5 := MS.cv 5 (by omega) (.int .u64 (lim (Y2) 1)) rfl; have us6 := MS.cv 6 (by omega) (.int .u64 (lim (Y2) 2)) rfl; have us7 := MS.cv 7 (by omega) (.int .u64 (lim (Y2) 3)) rfl; have us8 := MS.cv 8 (by omega) (.bool i2) rfl; have us9 := MS.cv 9 (by omega) (.int .u64 (lim (Z2) 0)) rfl; have us10 := MS.cv 10 (by omega) (.int .u64 (lim (Z2) 1)) rfl; have us11 := MS.cv 11 (by omega) (.int .u64 (lim (Z2) 2)) rfl; have us12 := MS.cv 12 (by omega) (.int .u64 (lim (Z2) 3)) rfl; have zu := MS.z)
      have S3 : Arr ((((((((((((((w6).setCell ⟨w2.heap.size, 0, none⟩ (.int .u64 (lim (X4) 0))).setCell ⟨w2.heap.size, 1, none⟩ (.int .u64 (lim (X4) 1))).setCell ⟨w2.heap.size, 2, none⟩ (.int .u64 (lim (X4) 2))).setCell ⟨w2.heap.size, 3, none⟩ (.int .u64 (lim (X4) 3))).setCell ⟨w2.heap.size, 4, none⟩ (.int .u64 (lim (Y4) 0))).setCell ⟨w2.heap.size, 5, none⟩ (.int .u64 (lim (Y4) 1))).setCell ⟨w2.heap.size, 6, none⟩ (.int .u64 (lim (Y4) 2))).setCell ⟨w2.heap.size, 7, none⟩ (.int .u64 (lim (Y4) 3))).setCell ⟨w2.heap.size, 8, none⟩ (.bool i4)).setCell ⟨w2.heap.size, 9, none⟩ (.int .u64 (lim (Z4) 0))).setCell ⟨w2.heap.size, 10, none⟩ (.int .u64 (lim (Z4) 1))).setCell ⟨w2.heap.size, 11, none⟩ (.int .u64 (lim (Z4) 2))).setCell ⟨w2.heap.size, 12, none⟩ (.int .u64 (lim (Z4) 3))) w2.heap.size 13 (sx X4 Y4 i4 Z4) := MS.st13 X4 Y4 i4 Z4
      have P3 : Arr ((((((((((((((w6).setCell ⟨w2.heap.size, 0, none⟩ (.int .u64 (lim (X4) 0))).setCell ⟨w2.heap.size, 1, none⟩ (.int .u64 (lim (X4) 1))).setCell ⟨w2.heap.size, 2, none⟩ (.int .u64 (lim (X4) 2))).setCell ⟨w2.heap.size, 3, none⟩ (.int .u64 (lim (X4) 3))).setCell ⟨w2.heap.size, 4, none⟩ (.int .u64 (lim (Y4) 0))).setCell ⟨w2.heap.size, 5, none⟩ (.int .u64 (lim (Y4) 1))).setCell ⟨w2.heap.size, 6, none⟩ (.int .u64 (lim (Y4) 2))).setCell ⟨w2.heap.size, 7, none⟩ (.int .u64 (lim (Y4) 3))).setCell ⟨w2.heap.size, 8, none⟩ (.bool i4)).setCell ⟨w2.heap.size, 9, none⟩ (.int .u64 (lim (Z4) 0))).setCell ⟨w2.heap.size, 10, none⟩ (.int .u64 (lim (Z4) 1))).setCell ⟨w2.heap.size, 11, none⟩ (.int .u64 (lim (Z4) 2))).setCell ⟨w2.heap.size, 12, none⟩ (.int .u64 (lim (Z4) 3))) (w.heap.size + 1 + 1) 9 (px X Y i) := (P1.below hb6 P1.lt).st13o (b' := w2.heap.size) (by omega) X4 Y4 i4 Z4
      have O3 : Arr ((((((((((((((w6).setCell ⟨w2.heap.size, 0, none⟩ (.int .u64 (lim (X4) 0))).setCell ⟨w2.heap.size, 1, none⟩ (.int .u64 (lim (X4) 1))).setCell ⟨w2.heap.size, 2, none⟩ (.int .u64 (lim (X4) 2))).setCell ⟨w2.heap.size, 3, none⟩ (.int .u64 (lim (X4) 3))).setCell ⟨w2.heap.size, 4, none⟩ (.int .u64 (lim (Y4) 0))).setCell ⟨w2.heap.size, 5, none⟩ (.int .u64 (lim (Y4) 1))).setCell ⟨w2.heap.size, 6, none⟩ (.int .u64 (lim (Y4) 2))).setCell ⟨w2.heap.size, 7, none⟩ (.int .u64 (lim (Y4) 3))).setCell ⟨w2.heap.size, 8, none⟩ (.bool i4)).setCell ⟨w2.heap.size, 9, none⟩ (.int .u64 (lim (Z4) 0))).setCell ⟨w2.heap.size, 10, none⟩ (.int .u64 (lim (Z4) 1))).setCell ⟨w2.heap.size, 11, none⟩ (.int .u64 (lim (Z4) 2))).setCell ⟨w2.heap.size, 12, none⟩ (.int .u64 (lim (Z4) 3))) (w.heap.size + 1 + 1 + 1) 9 (zx 8) := (O1.below hb6 O1.lt).st13o (b' := w2.heap.size) (by omega) X4 Y4 i4 Z4
      have B3 : Below w.heap.size w ((((((((((((((w6).setCell ⟨w2.heap.size, 0, none⟩ (.int .u64 (lim (X4) 0))).setCell ⟨w2.heap.size, 1, none⟩ (.int .u64 (lim (X4) 1))).setCell ⟨w2.heap.size, 2, none⟩ (.int .u64 (lim (X4) 2))).setCell ⟨w2.heap.size, 3, none⟩ (.int .u64 (lim (X4) 3))).setCell ⟨w2.heap.size, 4, none⟩ (.int .u64 (lim (Y4) 0))).setCell ⟨w2.heap.size, 5, none⟩ (.int .u64 (lim (Y4) 1))).setCell ⟨w2.heap.size, 6, none⟩ (.int .u64 (lim (Y4) 2))).setCell ⟨w2.heap.size, 7, none⟩ (.int .u64 (lim (Y4) 3))).setCell ⟨w2.heap.size, 8, none⟩ (.bool i4)).setCell ⟨w2.heap.size, 9, none⟩ (.int .u64 (lim (Z4) 0))).setCell ⟨w2.heap.size, 10, none⟩ (.int .u64 (lim (Z4) 1))).setCell ⟨w2.heap.size, 11, none⟩ (.int .u64 (lim (Z4) 2))).setCell ⟨w2.heap.size, 12, none⟩ (.int .u64 (lim (Z4) 3))) := Bel.st13 (Bel.call B1 hb6) (b := w2.heap.size) (by omega) X4 Y4 i4 Z4
      have KO3 : KeepsOthers W ((((((((((((((w6).setCell ⟨w2.heap.size, 0, none⟩ (.int .u64 (lim (X4) 0))).setCell ⟨w2.heap.size, 1, none⟩ (.int .u64 (lim (X4) 1))).setCell ⟨w2.heap.size, 2, none⟩ (.int .u64 (lim (X4) 2))).setCell ⟨w2.heap.size, 3, none⟩ (.int .u64 (lim (X4) 3))).setCell ⟨w2.heap.size, 4, none⟩ (.int .u64 (lim (Y4) 0))).setCell ⟨w2.heap.size, 5, none⟩ (.int .u64 (lim (Y4) 1))).setCell ⟨w2.heap.size, 6, none⟩ (.int .u64 (lim (Y4) 2))).setCell ⟨w2.heap.size, 7, none⟩ (.int .u64 (lim (Y4) 3))).setCell ⟨w2.heap.size, 8, none⟩ (.bool i4)).setCell ⟨w2.heap.size, 9, none⟩ (.int .u64 (lim (Z4) 0))).setCell ⟨w2.heap.size, 10, none⟩ (.int .u64 (lim (Z4) 1))).setCell ⟨w2.heap.size, 11, none⟩ (.int .u64 (lim (Z4) 2))).setCell ⟨w2.heap.size, 12, none⟩ (.int .u64 (lim (Z4) 3))) := (KO1.trans (ko_below hb6)).trans (ko_st13 w6 w2.heap.size X4 Y4 i4 Z4)
      have KK3 : KB2 (w2.heap.size + 1) (w2.heap.size + 1 + 1) W ((((((((((((((w6).setCell ⟨w2.heap.size, 0, none⟩ (.int .u64 (lim (X4) 0))).setCell ⟨w2.heap.size, 1, none⟩ (.int .u64 (lim (X4) 1))).setCell ⟨w2.heap.size, 2, none⟩ (.int .u64 (lim (X4) 2))).setCell ⟨w2.heap.size, 3, none⟩ (.int .u64 (lim (X4) 3))).setCell ⟨w2.heap.size, 4, none⟩ (.int .u64 (lim (Y4) 0))).setCell ⟨w2.heap.size, 5, none⟩ (.int .u64 (lim (Y4) 1))).setCell ⟨w2.heap.size, 6, none⟩ (.int .u64 (lim (Y4) 2))).setCell ⟨w2.heap.size, 7, none⟩ (.int .u64 (lim (Y4) 3))).setCell ⟨w2.heap.size, 8, none⟩ (.bool i4)).setCell ⟨w2.heap.size, 9, none⟩ (.int .u64 (lim (Z4) 0))).setCell ⟨w2.heap.size, 10, none⟩ (.int .u64 (lim (Z4) 1))).setCell ⟨w2.heap.size, 11, none⟩ (.int .u64 (lim (Z4) 2))).setCell ⟨w2.heap.size, 12, none⟩ (.int .u64 (lim (Z4) 3))) := KB2.t (KB2.t KK1 (kb2_below hb6)) (kb2_st13 (b := w2.heap.size + 1) (c := w2.heap.size + 1 + 1) (b' := w2.heap.size) (by omega) (by omega) w6 X4 Y4 i4 Z4)
      generalize (((((((((((((w6).setCell ⟨w2.heap.size, 0, none⟩ (.int .u64 (lim (X4) 0))).setCell ⟨w2.heap.size, 1, none⟩ (.int .u64 (lim (X4) 1))).setCell ⟨w2.heap.size, 2, none⟩ (.int .u64 (lim (X4) 2))).setCell ⟨w2.heap.size, 3, none⟩ (.int .u64 (lim (X4) 3))).setCell ⟨w2.heap.size, 4, none⟩ (.int .u64 (lim (Y4) 0))).setCell ⟨w2.heap.size, 5, none⟩ (.int .u64 (lim (Y4) 1))).setCell ⟨w2.heap.size, 6, none⟩ (.int .u64 (lim (Y4) 2))).setCell ⟨w2.heap.size, 7, none⟩ (.int .u64 (lim (Y4) 3))).setCell ⟨w2.heap.size, 8, none⟩ (.bool i4)).setCell ⟨w2.heap.size, 9, none⟩ (.int .u64 (lim (Z4) 0))).setCell ⟨w2.heap.size, 10, none⟩ (.int .u64 (lim (Z4) 1))).setCell ⟨w2.heap.size, 11, none⟩ (.int .u64 (lim (Z4) 2))).setCell ⟨w2.heap.size, 12, none⟩ (.int .u64 (lim (Z4) 3)) = V3 at S3 P3 O3 B3 KO3 KK3 ⊢
      try gi_wp2
      refine ⟨KO3, KK3, ⟨?_, P3, O3⟩, B3⟩
      rw [bsts_snoc, hs]
      simp only [bstep, if_true, Bool.false_eq_true, if_false, id, hs2, hs4]
      exact S3
    · have hI1 := iD _ hI
      have hI2 := iG _ hI1
      have rs0 := IS.cv 0 (by omega) (.int .u64 (lim (X1) 0)) rfl
      have rs1 := IS.cv 1 (by omega) (.int .u64 (lim (X1) 1)) rfl
      have rs2 := IS.cv 2 (by omega) (.int .u64 (lim (X1) 2)) rfl
      have rs3 := IS.cv 3 (by omega) (.int .u64 (lim (X1) 3)) rfl
      have rs4 := IS.cv 4 (by omega) (.int .u64 (lim (Y1) 0)) rfl
      have rs5 := IS.cv 5 (by omega) (.int .u64 (lim (Y1) 1)) rfl
      have rs6 := IS.cv 6 (by omega) (.int .u64 (lim (Y1) 2)) rfl
      have rs7 := IS.cv 7 (by omega) (.int .u64 (lim (Y1) 3)) rfl
      have rs8 := IS.cv 8 (by omega) (.bool i1) rfl
      have rs9 := IS.cv 9 (by omega) (.int .u64 (lim (Z1) 0)) rfl
      have rs10 := IS.cv 10 (by omega) (.int .u64 (lim (Z1) 1)) rfl
      have rs11 := IS.cv 11 (by omega) (.int .u64 (lim (Z1) 2)) rfl
      have rs12 := IS.cv 12 (by omega) (.int .u64 (lim (Z1) 3)) rfl
      obtain ⟨X2, Y2, i2, Z2, hs2⟩ : ∃ X2 Y2 i2 Z2, D (X1, Y1, i1, Z1) = (X2, Y2, i2, Z2) := ⟨_, _, _, _, rfl⟩
      have cd := fun W => CD (X1, Y1, i1, Z1) W hI
      rw [hs2] at cd
      gi_wp2_with (refine ⟨trivial, ?_⟩; gi_at_call 57; refine (callsIn_wide.2 (cd _)).mono ?_; rintro e w4 ⟨rfl, hb⟩; have JS := IS.below hb IS.lt; have qs0 := JS.cv 0 (by omega) (.int .u64 (lim (X1) 0)) rfl; have qs1 := JS.cv 1 (by omega) (.int .u64 (lim (X1) 1)) rfl; have qs2 := JS.cv 2 (by omega) (.int .u64 (lim (X1) 2)) rfl; have qs3 := JS.cv 3 (by omega) (.int .u64 (lim (X1) 3)) rfl; have qs4 := JS.cv 4 (by omega) (.int .u64 (lim (Y1) 0)) rfl; have qs5 := JS.cv 5 (by omega) (.int .u64 (lim (Y1) 1)) rfl; have qs6 := JS.cv 6 (by omega) (.int .u64 (lim (Y1) 2)) rfl; have qs7 := JS.cv 7 (by omega) (.int .u64 (lim (Y1) 3)) rfl; have qs8 := JS.cv 8 (by omega) (.bool i1) rfl; have qs9 := JS.cv 9 (by omega) (.int .u64 (lim (Z1) 0)) rfl; have qs10 := JS.cv 10 (by omega) (.int .u64 (lim (Z1) 1)) rfl; have qs11 := JS.cv 11 (by omega) (.int .u64 (lim (Z1) 2)) rfl; have qs12 := JS.cv 12 (by omega) (.int .u64 (lim (Z1) 3)) rfl; have zq := JS.z)
      have S1 : Arr ((((((((((((((w4).setCell ⟨w2.heap.size, 0, none⟩ (.int .u64 (lim (X2) 0))).setCell ⟨w2.heap.size, 1, none⟩ (.int .u64 (lim (X2) 1))).setCell ⟨w2.heap.size, 2, none⟩ (.int .u64 (lim (X2) 2))).setCell ⟨w2.heap.size, 3, none⟩ (.int .u64 (lim (X2) 3))).setCell ⟨w2.heap.size, 4, none⟩ (.int .u64 (lim (Y2) 0))).setCell ⟨w2.heap.size, 5, none⟩ (.int .u64 (lim (Y2) 1))).setCell ⟨w2.heap.size, 6, none⟩ (.int .u64 (lim (Y2) 2))).setCell ⟨w2.heap.size, 7, none⟩ (.int .u64 (lim (Y2) 3))).setCell ⟨w2.heap.size, 8, none⟩ (.bool i2)).setCell ⟨w2.heap.size, 9, none⟩ (.int .u64 (lim (Z2) 0))).setCell ⟨w2.heap.size, 10, none⟩ (.int .u64 (lim (Z2) 1))).setCell ⟨w2.heap.size, 11, none⟩ (.int .u64 (lim (Z2) 2))).setCell ⟨w2.heap.size, 12, none⟩ (.int .u64 (lim (Z2) 3))) w2.heap.size 13 (sx X2 Y2 i2 Z2) := JS.st13 X2 Y2 i2 Z2
      have P1 : Arr ((((((((((((((w4).setCell ⟨w2.heap.size, 0, none⟩ (.int .u64 (lim (X2) 0))).setCell ⟨w2.heap.size, 1, none⟩ (.int .u64 (lim (X2) 1))).setCell ⟨w2.heap.size, 2, none⟩ (.int .u64 (lim (X2) 2))).setCell ⟨w2.heap.size, 3, none⟩ (.int .u64 (lim (X2) 3))).setCell ⟨w2.heap.size, 4, none⟩ (.int .u64 (lim (Y2) 0))).setCell ⟨w2.heap.size, 5, none⟩ (.int .u64 (lim (Y2) 1))).setCell ⟨w2.heap.size, 6, none⟩ (.int .u64 (lim (Y2) 2))).setCell ⟨w2.heap.size, 7, none⟩ (.int .u64 (lim (Y2) 3))).setCell ⟨w2.heap.size, 8, none⟩ (.bool i2)).setCell ⟨w2.heap.size, 9, none⟩ (.int .u64 (lim (Z2) 0))).setCell ⟨w2.heap.size, 10, none⟩ (.int .u64 (lim (Z2) 1))).setCell ⟨w2.heap.size, 11, none⟩ (.int .u64 (lim (Z2) 2))).setCell ⟨w2.heap.size, 12, none⟩ (.int .u64 (lim (Z2) 3))) (w.heap.size + 1 + 1) 9 (px X Y i) := (IP.below hb IP.lt).st13o (b' := w2.heap.size) (by omega) X2 Y2 i2 Z2
      have O1 : Arr ((((((((((((((w4).setCell ⟨w2.heap.size, 0, none⟩ (.int .u64 (lim (X2) 0))).setCell ⟨w2.heap.size, 1, none⟩ (.int .u64 (lim (X2) 1))).setCell ⟨w2.heap.size, 2, none⟩ (.int .u64 (lim (X2) 2))).setCell ⟨w2.heap.size, 3, none⟩ (.int .u64 (lim (X2) 3))).setCell ⟨w2.heap.size, 4, none⟩ (.int .u64 (lim (Y2) 0))).setCell ⟨w2.heap.size, 5, none⟩ (.int .u64 (lim (Y2) 1))).setCell ⟨w2.heap.size, 6, none⟩ (.int .u64 (lim (Y2) 2))).setCell ⟨w2.heap.size, 7, none⟩ (.int .u64 (lim (Y2) 3))).setCell ⟨w2.heap.size, 8, none⟩ (.bool i2)).setCell ⟨w2.heap.size, 9, none⟩ (.int .u64 (lim (Z2) 0))).setCell ⟨w2.heap.size, 10, none⟩ (.int .u64 (lim (Z2) 1))).setCell ⟨w2.heap.size, 11, none⟩ (.int .u64 (lim (Z2) 2))).setCell ⟨w2.heap.size, 12, none⟩ (.int .u64 (lim (Z2) 3))) (w.heap.size + 1 + 1 + 1) 9 (zx 8) := (IQ.below hb IQ.lt).st13o (b' := w2.heap.size) (by omega) X2 Y2 i2 Z2
      have B1 : Below w.heap.size w ((((((((((((((w4).setCell ⟨w2.heap.size, 0, none⟩ (.int .u64 (lim (X2) 0))).setCell ⟨w2.heap.size, 1, none⟩ (.int .u64 (lim (X2) 1))).setCell ⟨w2.heap.size, 2, none⟩ (.int .u64 (lim (X2) 2))).setCell ⟨w2.heap.size, 3, none⟩ (.int .u64 (lim (X2) 3))).setCell ⟨w2.heap.size, 4, none⟩ (.int .u64 (lim (Y2) 0))).setCell ⟨w2.heap.size, 5, none⟩ (.int .u64 (lim (Y2) 1))).setCell ⟨w2.heap.size, 6, none⟩ (.int .u64 (lim (Y2) 2))).setCell ⟨w2.heap.size, 7, none⟩ (.int .u64 (lim (Y2) 3))).setCell ⟨w2.heap.size, 8, none⟩ (.bool i2)).setCell ⟨w2.heap.size, 9, none⟩ (.int .u64 (lim (Z2) 0))).setCell ⟨w2.heap.size, 10, none⟩ (.int .u64 (lim (Z2) 1))).setCell ⟨w2.heap.size, 11, none⟩ (.int .u64 (lim (Z2) 2))).setCell ⟨w2.heap.size, 12, none⟩ (.int .u64 (lim (Z2) 3))) := Bel.st13 (Bel.call hB hb) (b := w2.heap.size) (by omega) X2 Y2 i2 Z2
      have KO1 : KeepsOthers W ((((((((((((((w4).setCell ⟨w2.heap.size, 0, none⟩ (.int .u64 (lim (X2) 0))).setCell ⟨w2.heap.size, 1, none⟩ (.int .u64 (lim (X2) 1))).setCell ⟨w2.heap.size, 2, none⟩ (.int .u64 (lim (X2) 2))).setCell ⟨w2.heap.size, 3, none⟩ (.int .u64 (lim (X2) 3))).setCell ⟨w2.heap.size, 4, none⟩ (.int .u64 (lim (Y2) 0))).setCell ⟨w2.heap.size, 5, none⟩ (.int .u64 (lim (Y2) 1))).setCell ⟨w2.heap.size, 6, none⟩ (.int .u64 (lim (Y2) 2))).setCell ⟨w2.heap.size, 7, none⟩ (.int .u64 (lim (Y2) 3))).setCell ⟨w2.heap.size, 8, none⟩ (.bool i2)).setCell ⟨w2.heap.size, 9, none⟩ (.int .u64 (lim (Z2) 0))).setCell ⟨w2.heap.size, 10, none⟩ (.int .u64 (lim (Z2) 1))).setCell ⟨w2.heap.size, 11, none⟩ (.int .u64 (lim (Z2) 2))).setCell ⟨w2.heap.size, 12, none⟩ (.int .u64 (lim (Z2) 3))) := (ko_below hb).trans (ko_st13 w4 w2.heap.size X2 Y2 i2 Z2)
      have KK1 : KB2 (w2.heap.size + 1) (w2.heap.size + 1 + 1) W ((((((((((((((w4).setCell ⟨w2.heap.size, 0, none⟩ (.int .u64 (lim (X2) 0))).setCell ⟨w2.heap.size, 1, none⟩ (.int .u64 (lim (X2) 1))).setCell ⟨w2.heap.size, 2, none⟩ (.int .u64 (lim (X2) 2))).setCell ⟨w2.heap.size, 3, none⟩ (.int .u64 (lim (X2) 3))).setCell ⟨w2.heap.size, 4, none⟩ (.int .u64 (lim (Y2) 0))).setCell ⟨w2.heap.size, 5, none⟩ (.int .u64 (lim (Y2) 1))).setCell ⟨w2.heap.size, 6, none⟩ (.int .u64 (lim (Y2) 2))).setCell ⟨w2.heap.size, 7, none⟩ (.int .u64 (lim (Y2) 3))).setCell ⟨w2.heap.size, 8, none⟩ (.bool i2)).setCell ⟨w2.heap.size, 9, none⟩ (.int .u64 (lim (Z2) 0))).setCell ⟨w2.heap.size, 10, none⟩ (.int .u64 (lim (Z2) 1))).setCell ⟨w2.heap.size, 11, none⟩ (.int .u64 (lim (Z2) 2))).setCell ⟨w2.heap.size, 12, none⟩ (.int .u64 (lim (Z2) 3))) := KB2.t (kb2_below hb) (kb2_st13 (b := w2.heap.size + 1) (c := w2.heap.size + 1 + 1) (b' := w2.heap.size) (by omega) (by omega) w4 X2 Y2 i2 Z2)
      generalize (((((((((((((w4).setCell ⟨w2.heap.size, 0, none⟩ (.int .u64 (lim (X2) 0))).setCell ⟨w2.heap.size, 1, none⟩ (.int .u64 (lim (X2) 1))).setCell ⟨w2.heap.size, 2, none⟩ (.int .u64 (lim (X2) 2))).setCell ⟨w2.heap.size, 3, none⟩ (.int .u64 (lim (X2) 3))).setCell ⟨w2.heap.size, 4, none⟩ (.int .u64 (lim (Y2) 0))).setCell ⟨w2.heap.size, 5, none⟩ (.int .u64 (lim (Y2) 1))).setCell ⟨w2.heap.size, 6, none⟩ (.int .u64 (lim (Y2) 2))).setCell ⟨w2.heap.size, 7, none⟩ (.int .u64 (lim (Y2) 3))).setCell ⟨w2.heap.size, 8, none⟩ (.bool i2)).setCell ⟨w2.heap.size, 9, none⟩ (.int .u64 (lim (Z2) 0))).setCell ⟨w2.heap.size, 10, none⟩ (.int .u64 (lim (Z2) 1))).setCell ⟨w2.heap.size, 11, none⟩ (.int .u64 (lim (Z2) 2))).setCell ⟨w2.heap.size, 12, none⟩ (.int .u64 (lim (Z2) 3)) = V1 at S1 P1 O1 B1 KO1 KK1 ⊢
      clear hb JS zq rs0 qs0 rs1 qs1 rs2 qs2 rs3 qs3 rs4 qs4 rs5 qs5 rs6 qs6 rs7 qs7 rs8 qs8 rs9 qs9 rs10 qs10 rs11 qs11 rs12 qs12 IS IP IQ hB cd
      rw [hs2] at hI1 hI2
      obtain ⟨X3, Y3, i3, Z3, hs3⟩ : ∃ X3 Y3 i3 Z3, G (X2, Y2, i2, Z2) = (X3, Y3, i3, Z3) := ⟨_, _, _, _, rfl⟩
      have cg := fun W => CG (X2, Y2, i2, Z2) W hI1
      rw [hs3] at cg hI2
      have rs0 := fun ds os => cell_regrown (v := .int .u64 (lim (X2) 0)) (S1.c 0 (by omega)) ds os
      have rs1 := fun ds os => cell_regrown (v := .int .u64 (lim (X2) 1)) (S1.c 1 (by omega)) ds os
      have rs2 := fun ds os => cell_regrown (v := .int .u64 (lim (X2) 2)) (S1.c 2 (by omega)) ds os
      have rs3 := fun ds os => cell_regrown (v := .int .u64 (lim (X2) 3)) (S1.c 3 (by omega)) ds os
      have rs4 := fun ds os => cell_regrown (v := .int .u64 (lim (Y2) 0)) (S1.c 4 (by omega)) ds os
      have rs5 := fun ds os => cell_regrown (v := .int .u64 (lim (Y2) 1)) (S1.c 5 (by omega)) ds os
      have rs6 := fun ds os => cell_regrown (v := .int .u64 (lim (Y2) 2)) (S1.c 6 (by omega)) ds os
      have rs7 := fun ds os => cell_regrown (v := .int .u64 (lim (Y2) 3)) (S1.c 7 (by omega)) ds os
      have rs8 := fun ds os => cell_regrown (v := .bool i2) (S1.c 8 (by omega)) ds os
      have rs9 := fun ds os => cell_regrown (v := .int .u64 (lim (Z2) 0)) (S1.c 9 (by omega)) ds os
      have rs10 := fun ds os => cell_regrown (v := .int .u64 (lim (Z2) 1)) (S1.c 10 (by omega)) ds os
      have rs11 := fun ds os => cell_regrown (v := .int .u64 (lim (Z2) 2)) (S1.c 11 (by omega)) ds os
      have rs12 := fun ds os => cell_regrown (v := .int .u64 (lim (Z2) 3)) (S1.c 12 (by omega)) ds os
      try gi_wp2
      refine wpIn_region_below_tail 3 (by kernel_rfl) (by kernel_rfl) ?_
      simp only [List.take_succ_cons, List.take_zero, List.drop_succ_cons, List.drop_zero]
      repeat (go_big_quiet_step (first | (go_at_call 9; with_reducible exact Calls.regrown_of (CB _)) | (go_at_call 39; with_reducible exact Calls.regrown_of (cg _))))
      refine wpQuiet_nil ?_
      intro w5 hw'
      obtain ⟨⟨dq, osq⟩, hw''⟩ := hw'
      have hb := below_of hw''
      clear hw'' rs0 rs1 rs2 rs3 rs4 rs5 rs6 rs7 rs8 rs9 rs10 rs11 rs12
      have JS := S1.below hb S1.lt
      have qs0 := JS.cv 0 (by omega) (.int .u64 (lim (X2) 0)) rfl
      have qs1 := JS.cv 1 (by omega) (.int .u64 (lim (X2) 1)) rfl
      have qs2 := JS.cv 2 (by omega) (.int .u64 (lim (X2) 2)) rfl
      have qs3 := JS.cv 3 (by omega) (.int .u64 (lim (X2) 3)) rfl
      have qs4 := JS.cv 4 (by omega) (.int .u64 (lim (Y2) 0)) rfl
      have qs5 := JS.cv 5 (by omega) (.int .u64 (lim (Y2) 1)) rfl
      have qs6 := JS.cv 6 (by omega) (.int .u64 (lim (Y2) 2)) rfl
      have qs7 := JS.cv 7 (by omega) (.int .u64 (lim (Y2) 3)) rfl
      have qs8 := JS.cv 8 (by omega) (.bool i2) rfl
      have qs9 := JS.cv 9 (by omega) (.int .u64 (lim (Z2) 0)) rfl
      have qs10 := JS.cv 10 (by omega) (.int .u64 (lim (Z2) 1)) rfl
      have qs11 := JS.cv 11 (by omega) (.int .u64 (lim (Z2) 2)) rfl
      have qs12 := JS.cv 12 (by omega) (.int .u64 (lim (Z2) 3)) rfl
      have zq := JS.z
      gi_wp2_with fail
      have S2 : Arr ((((((((((((((w5).setCell ⟨w2.heap.size, 0, none⟩ (.int .u64 (lim (X3) 0))).setCell ⟨w2.heap.size, 1, none⟩ (.int .u64 (lim (X3) 1))).setCell ⟨w2.heap.size, 2, none⟩ (.int .u64 (lim (X3) 2))).setCell ⟨w2.heap.size, 3, none⟩ (.int .u64 (lim (X3) 3))).setCell ⟨w2.heap.size, 4, none⟩ (.int .u64 (lim (Y3) 0))).setCell ⟨w2.heap.size, 5, none⟩ (.int .u64 (lim (Y3) 1))).setCell ⟨w2.heap.size, 6, none⟩ (.int .u64 (lim (Y3) 2))).setCell ⟨w2.heap.size, 7, none⟩ (.int .u64 (lim (Y3) 3))).setCell ⟨w2.heap.size, 8, none⟩ (.bool i3)).setCell ⟨w2.heap.size, 9, none⟩ (.int .u64 (lim (Z3) 0))).setCell ⟨w2.heap.size, 10, none⟩ (.int .u64 (lim (Z3) 1))).setCell ⟨w2.heap.size, 11, none⟩ (.int .u64 (lim (Z3) 2))).setCell ⟨w2.heap.size, 12, none⟩ (.int .u64 (lim (Z3) 3))) w2.heap.size 13 (sx X3 Y3 i3 Z3) := JS.st13 X3 Y3 i3 Z3
      have P2 : Arr ((((((((((((((w5).setCell ⟨w2.heap.size, 0, none⟩ (.int .u64 (lim (X3) 0))).setCell ⟨w2.heap.size, 1, none⟩ (.int .u64 (lim (X3) 1))).setCell ⟨w2.heap.size, 2, none⟩ (.int .u64 (lim (X3) 2))).setCell ⟨w2.heap.size, 3, none⟩ (.int .u64 (lim (X3) 3))).setCell ⟨w2.heap.size, 4, none⟩ (.int .u64 (lim (Y3) 0))).setCell ⟨w2.heap.size, 5, none⟩ (.int .u64 (lim (Y3) 1))).setCell ⟨w2.heap.size, 6, none⟩ (.int .u64 (lim (Y3) 2))).setCell ⟨w2.heap.size, 7, none⟩ (.int .u64 (lim (Y3) 3))).setCell ⟨w2.heap.size, 8, none⟩ (.bool i3)).setCell ⟨w2.heap.size, 9, none⟩ (.int .u64 (lim (Z3) 0))).setCell ⟨w2.heap.size, 10, none⟩ (.int .u64 (lim (Z3) 1))).setCell ⟨w2.heap.size, 11, none⟩ (.int .u64 (lim (Z3) 2))).setCell ⟨w2.heap.size, 12, none⟩ (.int .u64 (lim (Z3) 3))) (w.heap.size + 1 + 1) 9 (px X Y i) := (P1.below hb P1.lt).st13o (b' := w2.heap.size) (by omega) X3 Y3 i3 Z3
      have O2 : Arr ((((((((((((((w5).setCell ⟨w2.heap.size, 0, none⟩ (.int .u64 (lim (X3) 0))).setCell ⟨w2.heap.size, 1, none⟩ (.int .u64 (lim (X3) 1))).setCell ⟨w2.heap.size, 2, none⟩ (.int .u64 (lim (X3) 2))).setCell ⟨w2.heap.size, 3, none⟩ (.int .u64 (lim (X3) 3))).setCell ⟨w2.heap.size, 4, none⟩ (.int .u64 (lim (Y3) 0))).setCell ⟨w2.heap.size, 5, none⟩ (.int .u64 (lim (Y3) 1))).setCell ⟨w2.heap.size, 6, none⟩ (.int .u64 (lim (Y3) 2))).setCell ⟨w2.heap.size, 7, none⟩ (.int .u64 (lim (Y3) 3))).setCell ⟨w2.heap.size, 8, none⟩ (.bool i3)).setCell ⟨w2.heap.size, 9, none⟩ (.int .u64 (lim (Z3) 0))).setCell ⟨w2.heap.size, 10, none⟩ (.int .u64 (lim (Z3) 1))).setCell ⟨w2.heap.size, 11, none⟩ (.int .u64 (lim (Z3) 2))).setCell ⟨w2.heap.size, 12, none⟩ (.int .u64 (lim (Z3) 3))) (w.heap.size + 1 + 1 + 1) 9 (zx 8) := (O1.below hb O1.lt).st13o (b' := w2.heap.size) (by omega) X3 Y3 i3 Z3
      have B2 : Below w.heap.size w ((((((((((((((w5).setCell ⟨w2.heap.size, 0, none⟩ (.int .u64 (lim (X3) 0))).setCell ⟨w2.heap.size, 1, none⟩ (.int .u64 (lim (X3) 1))).setCell ⟨w2.heap.size, 2, none⟩ (.int .u64 (lim (X3) 2))).setCell ⟨w2.heap.size, 3, none⟩ (.int .u64 (lim (X3) 3))).setCell ⟨w2.heap.size, 4, none⟩ (.int .u64 (lim (Y3) 0))).setCell ⟨w2.heap.size, 5, none⟩ (.int .u64 (lim (Y3) 1))).setCell ⟨w2.heap.size, 6, none⟩ (.int .u64 (lim (Y3) 2))).setCell ⟨w2.heap.size, 7, none⟩ (.int .u64 (lim (Y3) 3))).setCell ⟨w2.heap.size, 8, none⟩ (.bool i3)).setCell ⟨w2.heap.size, 9, none⟩ (.int .u64 (lim (Z3) 0))).setCell ⟨w2.heap.size, 10, none⟩ (.int .u64 (lim (Z3) 1))).setCell ⟨w2.heap.size, 11, none⟩ (.int .u64 (lim (Z3) 2))).setCell ⟨w2.heap.size, 12, none⟩ (.int .u64 (lim (Z3) 3))) := Bel.st13 (Bel.call B1 hb) (b := w2.heap.size) (by omega) X3 Y3 i3 Z3
      have KO2 : KeepsOthers W ((((((((((((((w5).setCell ⟨w2.heap.size, 0, none⟩ (.int .u64 (lim (X3) 0))).setCell ⟨w2.heap.size, 1, none⟩ (.int .u64 (lim (X3) 1))).setCell ⟨w2.heap.size, 2, none⟩ (.int .u64 (lim (X3) 2))).setCell ⟨w2.heap.size, 3, none⟩ (.int .u64 (lim (X3) 3))).setCell ⟨w2.heap.size, 4, none⟩ (.int .u64 (lim (Y3) 0))).setCell ⟨w2.heap.size, 5, none⟩ (.int .u64 (lim (Y3) 1))).setCell ⟨w2.heap.size, 6, none⟩ (.int .u64 (lim (Y3) 2))).setCell ⟨w2.heap.size, 7, none⟩ (.int .u64 (lim (Y3) 3))).setCell ⟨w2.heap.size, 8, none⟩ (.bool i3)).setCell ⟨w2.heap.size, 9, none⟩ (.int .u64 (lim (Z3) 0))).setCell ⟨w2.heap.size, 10, none⟩ (.int .u64 (lim (Z3) 1))).setCell ⟨w2.heap.size, 11, none⟩ (.int .u64 (lim (Z3) 2))).setCell ⟨w2.heap.size, 12, none⟩ (.int .u64 (lim (Z3) 3))) := (KO1.trans (ko_below hb)).trans (ko_st13 w5 w2.heap.size X3 Y3 i3 Z3)
      have KK2 : KB2 (w2.heap.size + 1) (w2.heap.size + 1 + 1) W ((((((((((((((w5).setCell ⟨w2.heap.size, 0, none⟩ (.int .u64 (lim (X3) 0))).setCell ⟨w2.heap.size, 1, none⟩ (.int .u64 (lim (X3) 1))).setCell ⟨w2.heap.size, 2, none⟩ (.int .u64 (lim (X3) 2))).setCell ⟨w2.heap.size, 3, none⟩ (.int .u64 (lim (X3) 3))).setCell ⟨w2.heap.size, 4, none⟩ (.int .u64 (lim (Y3) 0))).setCell ⟨w2.heap.size, 5, none⟩ (.int .u64 (lim (Y3) 1))).setCell ⟨w2.heap.size, 6, none⟩ (.int .u64 (lim (Y3) 2))).setCell ⟨w2.heap.size, 7, none⟩ (.int .u64 (lim (Y3) 3))).setCell ⟨w2.heap.size, 8, none⟩ (.bool i3)).setCell ⟨w2.heap.size, 9, none⟩ (.int .u64 (lim (Z3) 0))).setCell ⟨w2.heap.size, 10, none⟩ (.int .u64 (lim (Z3) 1))).setCell ⟨w2.heap.size, 11, none⟩ (.int .u64 (lim (Z3) 2))).setCell ⟨w2.heap.size, 12, none⟩ (.int .u64 (lim (Z3) 3))) := KB2.t (KB2.t KK1 (kb2_below hb)) (kb2_st13 (b := w2.heap.size + 1) (c := w2.heap.size + 1 + 1) (b' := w2.heap.size) (by omega) (by omega) w5 X3 Y3 i3 Z3)
      generalize (((((((((((((w5).setCell ⟨w2.heap.size, 0, none⟩ (.int .u64 (lim (X3) 0))).setCell ⟨w2.heap.size, 1, none⟩ (.int .u64 (lim (X3) 1))).setCell ⟨w2.heap.size, 2, none⟩ (.int .u64 (lim (X3) 2))).setCell ⟨w2.heap.size, 3, none⟩ (.int .u64 (lim (X3) 3))).setCell ⟨w2.heap.size, 4, none⟩ (.int .u64 (lim (Y3) 0))).setCell ⟨w2.heap.size, 5, none⟩ (.int .u64 (lim (Y3) 1))).setCell ⟨w2.heap.size, 6, none⟩ (.int .u64 (lim (Y3) 2))).setCell ⟨w2.heap.size, 7, none⟩ (.int .u64 (lim (Y3) 3))).setCell ⟨w2.heap.size, 8, none⟩ (.bool i3)).setCell ⟨w2.heap.size, 9, none⟩ (.int .u64 (lim (Z3) 0))).setCell ⟨w2.heap.size, 10, none⟩ (.int .u64 (lim (Z3) 1))).setCell ⟨w2.heap.size, 11, none⟩ (.int .u64 (lim (Z3) 2))).setCell ⟨w2.heap.size, 12, none⟩ (.int .u64 (lim (Z3) 3)) = V2 at S2 P2 O2 B2 KO2 KK2 ⊢
      clear hb JS zq qs0 qs1 qs2 qs3 qs4 qs5 qs6 qs7 qs8 qs9 qs10 qs11 qs12 S1 P1 O1 B1 KO1 KK1 cg
      try gi_wp2
      refine ⟨KO2, KK2, ⟨?_, P2, O2⟩, B2⟩
      rw [bsts_snoc, hs]
      simp only [bstep, if_true, Bool.false_eq_true, if_false, id, hs2, hs3]
      exact S2
    · have hI1 := iD _ hI
      have hI2 := iG _ hI1
      have rs0 := IS.cv 0 (by omega) (.int .u64 (lim (X1) 0)) rfl
      have rs1 := IS.cv 1 (by omega) (.int .u64 (lim (X1) 1)) rfl
      have rs2 := IS.cv 2 (by omega) (.int .u64 (lim (X1) 2)) rfl
      have rs3 := IS.cv 3 (by omega) (.int .u64 (lim (X1) 3)) rfl
      have rs4 := IS.cv 4 (by omega) (.int .u64 (lim (Y1) 0)) rfl
      have rs5 := IS.cv 5 (by omega) (.int .u64 (lim (Y1) 1)) rfl
      have rs6 := IS.cv 6 (by omega) (.int .u64 (lim (Y1) 2)) rfl
      have rs7 := IS.cv 7 (by omega) (.int .u64 (lim (Y1) 3)) rfl
      have rs8 := IS.cv 8 (by omega) (.bool i1) rfl
      have rs9 := IS.cv 9 (by omega) (.int .u64 (lim (Z1) 0)) rfl
      have rs10 := IS.cv 10 (by omega) (.int .u64 (lim (Z1) 1)) rfl
      have rs11 := IS.cv 11 (by omega) (.int .u64 (lim (Z1) 2)) rfl
      have rs12 := IS.cv 12 (by omega) (.int .u64 (lim (Z1) 3)) rfl
      obtain ⟨X2, Y2, i2, Z2, hs2⟩ : ∃ X2 Y2 i2 Z2, D (X1, Y1, i1, Z1) = (X2, Y2, i2, Z2) := ⟨_, _, _, _, rfl⟩
      have cd := fun W => CD (X1, Y1, i1, Z1) W hI
      rw [hs2] at cd
      gi_wp2_with (refine ⟨trivial, ?_⟩; gi_at_call 57; refine (callsIn_wide.2 (cd _)).mono ?_; rintro e w4 ⟨rfl, hb⟩; have JS := IS.below hb IS.lt; have qs0 := JS.cv 0 (by omega) (.int .u64 (lim (X1) 0)) rfl; have qs1 := JS.cv 1 (by omega) (.int .u64 (lim (X1) 1)) rfl; have qs2 := JS.cv 2 (by omega) (.int .u64 (lim (X1) 2)) rfl; have qs3 := JS.cv 3 (by omega) (.int .u64 (lim (X1) 3)) rfl; have qs4 := JS.cv 4 (by omega) (.int .u64 (lim (Y1) 0)) rfl; have qs5 := JS.cv 5 (by omega) (.int .u64 (lim (Y1) 1)) rfl; have qs6 := JS.cv 6 (by omega) (.int .u64 (lim (Y1) 2)) rfl; have qs7 := JS.cv 7 (by omega) (.int .u64 (lim (Y1) 3)) rfl; have qs8 := JS.cv 8 (by omega) (.bool i1) rfl; have qs9 := JS.cv 9 (by omega) (.int .u64 (lim (Z1) 0)) rfl; have qs10 := JS.cv 10 (by omega) (.int .u64 (lim (Z1) 1)) rfl; have qs11 := JS.cv 11 (by omega) (.int .u64 (lim (Z1) 2)) rfl; have qs12 := JS.cv 12 (by omega) (.int .u64 (lim (Z1) 3)) rfl; have zq := JS.z)
      have S1 : Arr ((((((((((((((w4).setCell ⟨w2.heap.size, 0, none⟩ (.int .u64 (lim (X2) 0))).setCell ⟨w2.heap.size, 1, none⟩ (.int .u64 (lim (X2) 1))).setCell ⟨w2.heap.size, 2, none⟩ (.int .u64 (lim (X2) 2))).setCell ⟨w2.heap.size, 3, none⟩ (.int .u64 (lim (X2) 3))).setCell ⟨w2.heap.size, 4, none⟩ (.int .u64 (lim (Y2) 0))).setCell ⟨w2.heap.size, 5, none⟩ (.int .u64 (lim (Y2) 1))).setCell ⟨w2.heap.size, 6, none⟩ (.int .u64 (lim (Y2) 2))).setCell ⟨w2.heap.size, 7, none⟩ (.int .u64 (lim (Y2) 3))).setCell ⟨w2.heap.size, 8, none⟩ (.bool i2)).setCell ⟨w2.heap.size, 9, none⟩ (.int .u64 (lim (Z2) 0))).setCell ⟨w2.heap.size, 10, none⟩ (.int .u64 (lim (Z2) 1))).setCell ⟨w2.heap.size, 11, none⟩ (.int .u64 (lim (Z2) 2))).setCell ⟨w2.heap.size, 12, none⟩ (.int .u64 (lim (Z2) 3))) w2.heap.size 13 (sx X2 Y2 i2 Z2) := JS.st13 X2 Y2 i2 Z2
      have P1 : Arr ((((((((((((((w4).setCell ⟨w2.heap.size, 0, none⟩ (.int .u64 (lim (X2) 0))).setCell ⟨w2.heap.size, 1, none⟩ (.int .u64 (lim (X2) 1))).setCell ⟨w2.heap.size, 2, none⟩ (.int .u64 (lim (X2) 2))).setCell ⟨w2.heap.size, 3, none⟩ (.int .u64 (lim (X2) 3))).setCell ⟨w2.heap.size, 4, none⟩ (.int .u64 (lim (Y2) 0))).setCell ⟨w2.heap.size, 5, none⟩ (.int .u64 (lim (Y2) 1))).setCell ⟨w2.heap.size, 6, none⟩ (.int .u64 (lim (Y2) 2))).setCell ⟨w2.heap.size, 7, none⟩ (.int .u64 (lim (Y2) 3))).setCell ⟨w2.heap.size, 8, none⟩ (.bool i2)).setCell ⟨w2.heap.size, 9, none⟩ (.int .u64 (lim (Z2) 0))).setCell ⟨w2.heap.size, 10, none⟩ (.int .u64 (lim (Z2) 1))).setCell ⟨w2.heap.size, 11, none⟩ (.int .u64 (lim (Z2) 2))).setCell ⟨w2.heap.size, 12, none⟩ (.int .u64 (lim (Z2) 3))) (w.heap.size + 1 + 1) 9 (px X Y i) := (IP.below hb IP.lt).st13o (b' := w2.heap.size) (by omega) X2 Y2 i2 Z2
      have O1 : Arr ((((((((((((((w4).setCell ⟨w2.heap.size, 0, none⟩ (.int .u64 (lim (X2) 0))).setCell ⟨w2.heap.size, 1, none⟩ (.int .u64 (lim (X2) 1))).setCell ⟨w2.heap.size, 2, none⟩ (.int .u64 (lim (X2) 2))).setCell ⟨w2.heap.size, 3, none⟩ (.int .u64 (lim (X2) 3))).setCell ⟨w2.heap.size, 4, none⟩ (.int .u64 (lim (Y2) 0))).setCell ⟨w2.heap.size, 5, none⟩ (.int .u64 (lim (Y2) 1))).setCell ⟨w2.heap.size, 6, none⟩ (.int .u64 (lim (Y2) 2))).setCell ⟨w2.heap.size, 7, none⟩ (.int .u64 (lim (Y2) 3))).setCell ⟨w2.heap.size, 8, none⟩ (.bool i2)).setCell ⟨w2.heap.size, 9, none⟩ (.int .u64 (lim (Z2) 0))).setCell ⟨w2.heap.size, 10, none⟩ (.int .u64 (lim (Z2) 1))).setCell ⟨w2.heap.size, 11, none⟩ (.int .u64 (lim (Z2) 2))).setCell ⟨w2.heap.size, 12, none⟩ (.int .u64 (lim (Z2) 3))) (w.heap.size + 1 + 1 + 1) 9 (zx 8) := (IQ.below hb IQ.lt).st13o (b' := w2.heap.size) (by omega) X2 Y2 i2 Z2
      have B1 : Below w.heap.size w ((((((((((((((w4).setCell ⟨w2.heap.size, 0, none⟩ (.int .u64 (lim (X2) 0))).setCell ⟨w2.heap.size, 1, none⟩ (.int .u64 (lim (X2) 1))).setCell ⟨w2.heap.size, 2, none⟩ (.int .u64 (lim (X2) 2))).setCell ⟨w2.heap.size, 3, none⟩ (.int .u64 (lim (X2) 3))).setCell ⟨w2.heap.size, 4, none⟩ (.int .u64 (lim (Y2) 0))).setCell ⟨w2.heap.size, 5, none⟩ (.int .u64 (lim (Y2) 1))).setCell ⟨w2.heap.size, 6, none⟩ (.int .u64 (lim (Y2) 2))).setCell ⟨w2.heap.size, 7, none⟩ (.int .u64 (lim (Y2) 3))).setCell ⟨w2.heap.size, 8, none⟩ (.bool i2)).setCell ⟨w2.heap.size, 9, none⟩ (.int .u64 (lim (Z2) 0))).setCell ⟨w2.heap.size, 10, none⟩ (.int .u64 (lim (Z2) 1))).setCell ⟨w2.heap.size, 11, none⟩ (.int .u64 (lim (Z2) 2))).setCell ⟨w2.heap.size, 12, none⟩ (.int .u64 (lim (Z2) 3))) := Bel.st13 (Bel.call hB hb) (b := w2.heap.size) (by omega) X2 Y2 i2 Z2
      have KO1 : KeepsOthers W ((((((((((((((w4).setCell ⟨w2.heap.size, 0, none⟩ (.int .u64 (lim (X2) 0))).setCell ⟨w2.heap.size, 1, none⟩ (.int .u64 (lim (X2) 1))).setCell ⟨w2.heap.size, 2, none⟩ (.int .u64 (lim (X2) 2))).setCell ⟨w2.heap.size, 3, none⟩ (.int .u64 (lim (X2) 3))).setCell ⟨w2.heap.size, 4, none⟩ (.int .u64 (lim (Y2) 0))).setCell ⟨w2.heap.size, 5, none⟩ (.int .u64 (lim (Y2) 1))).setCell ⟨w2.heap.size, 6, none⟩ (.int .u64 (lim (Y2) 2))).setCell ⟨w2.heap.size, 7, none⟩ (.int .u64 (lim (Y2) 3))).setCell ⟨w2.heap.size, 8, none⟩ (.bool i2)).setCell ⟨w2.heap.size, 9, none⟩ (.int .u64 (lim (Z2) 0))).setCell ⟨w2.heap.size, 10, none⟩ (.int .u64 (lim (Z2) 1))).setCell ⟨w2.heap.size, 11, none⟩ (.int .u64 (lim (Z2) 2))).setCell ⟨w2.heap.size, 12, none⟩ (.int .u64 (lim (Z2) 3))) := (ko_below hb).trans (ko_st13 w4 w2.heap.size X2 Y2 i2 Z2)
      have KK1 : KB2 (w2.heap.size + 1) (w2.heap.size + 1 + 1) W ((((((((((((((w4).setCell ⟨w2.heap.size, 0, none⟩ (.int .u64 (lim (X2) 0))).setCell ⟨w2.heap.size, 1, none⟩ (.int .u64 (lim (X2) 1))).setCell ⟨w2.heap.size, 2, none⟩ (.int .u64 (lim (X2) 2))).setCell ⟨w2.heap.size, 3, none⟩ (.int .u64 (lim (X2) 3))).setCell ⟨w2.heap.size, 4, none⟩ (.int .u64 (lim (Y2) 0))).setCell ⟨w2.heap.size, 5, none⟩ (.int .u64 (lim (Y2) 1))).setCell ⟨w2.heap.size, 6, none⟩ (.int .u64 (lim (Y2) 2))).setCell ⟨w2.heap.size, 7, none⟩ (.int .u64 (lim (Y2) 3))).setCell ⟨w2.heap.size, 8, none⟩ (.bool i2)).setCell ⟨w2.heap.size, 9, none⟩ (.int .u64 (lim (Z2) 0))).setCell ⟨w2.heap.size, 10, none⟩ (.int .u64 (lim (Z2) 1))).setCell ⟨w2.heap.size, 11, none⟩ (.int .u64 (lim (Z2) 2))).setCell ⟨w2.heap.size, 12, none⟩ (.int .u64 (lim (Z2) 3))) := KB2.t (kb2_below hb) (kb2_st13 (b := w2.heap.size + 1) (c := w2.heap.size + 1 + 1) (b' := w2.heap.size) (by omega) (by omega) w4 X2 Y2 i2 Z2)
      generalize (((((((((((((w4).setCell ⟨w2.heap.size, 0, none⟩ (.int .u64 (lim (X2) 0))).setCell ⟨w2.heap.size, 1, none⟩ (.int .u64 (lim (X2) 1))).setCell ⟨w2.heap.size, 2, none⟩ (.int .u64 (lim (X2) 2))).setCell ⟨w2.heap.size, 3, none⟩ (.int .u64 (lim (X2) 3))).setCell ⟨w2.heap.size, 4, none⟩ (.int .u64 (lim (Y2) 0))).setCell ⟨w2.heap.size, 5, none⟩ (.int .u64 (lim (Y2) 1))).setCell ⟨w2.heap.size, 6, none⟩ (.int .u64 (lim (Y2) 2))).setCell ⟨w2.heap.size, 7, none⟩ (.int .u64 (lim (Y2) 3))).setCell ⟨w2.heap.size, 8, none⟩ (.bool i2)).setCell ⟨w2.heap.size, 9, none⟩ (.int .u64 (lim (Z2) 0))).setCell ⟨w2.heap.size, 10, none⟩ (.int .u64 (lim (Z2) 1))).setCell ⟨w2.heap.size, 11, none⟩ (.int .u64 (lim (Z2) 2))).setCell ⟨w2.heap.size, 12, none⟩ (.int .u64 (lim (Z2) 3)) = V1 at S1 P1 O1 B1 KO1 KK1 ⊢
      clear hb JS zq rs0 qs0 rs1 qs1 rs2 qs2 rs3 qs3 rs4 qs4 rs5 qs5 rs6 qs6 rs7 qs7 rs8 qs8 rs9 qs9 rs10 qs10 rs11 qs11 rs12 qs12 IS IP IQ hB cd
      rw [hs2] at hI1 hI2
      obtain ⟨X3, Y3, i3, Z3, hs3⟩ : ∃ X3 Y3 i3 Z3, G (X2, Y2, i2, Z2) = (X3, Y3, i3, Z3) := ⟨_, _, _, _, rfl⟩
      have cg := fun W => CG (X2, Y2, i2, Z2) W hI1
      rw [hs3] at cg hI2
      have rs0 := fun ds os => cell_regrown (v := .int .u64 (lim (X2) 0)) (S1.c 0 (by omega)) ds os
      have rs1 := fun ds os => cell_regrown (v := .int .u64 (lim (X2) 1)) (S1.c 1 (by omega)) ds os
      have rs2 := fun ds os => cell_regrown (v := .int .u64 (lim (X2) 2)) (S1.c 2 (by omega)) ds os
      have rs3 := fun ds os => cell_regrown (v := .int .u64 (lim (X2) 3)) (S1.c 3 (by omega)) ds os
      have rs4 := fun ds os => cell_regrown (v := .int .u64 (lim (Y2) 0)) (S1.c 4 (by omega)) ds os
      have rs5 := fun ds os => cell_regrown (v := .int .u64 (lim (Y2) 1)) (S1.c 5 (by omega)) ds os
      have rs6 := fun ds os => cell_regrown (v := .int .u64 (lim (Y2) 2)) (S1.c 6 (by omega)) ds os
      have rs7 := fun ds os => cell_regrown (v := .int .u64 (lim (Y2) 3)) (S1.c 7 (by omega)) ds os
      have rs8 := fun ds os => cell_regrown (v := .bool i2) (S1.c 8 (by omega)) ds os
      have rs9 := fun ds os => cell_regrown (v := .int .u64 (lim (Z2) 0)) (S1.c 9 (by omega)) ds os
      have rs10 := fun ds os => cell_regrown (v := .int .u64 (lim (Z2) 1)) (S1.c 10 (by omega)) ds os
      have rs11 := fun ds os => cell_regrown (v := .int .u64 (lim (Z2) 2)) (S1.c 11 (by omega)) ds os
      have rs12 := fun ds os => cell_regrown (v := .int .u64 (lim (Z2) 3)) (S1.c 12 (by omega)) ds os
      try gi_wp2
      refine wpIn_region_below_tail 3 (by kernel_rfl) (by kernel_rfl) ?_
      simp only [List.take_succ_cons, List.take_zero, List.drop_succ_cons, List.drop_zero]
      repeat (go_big_quiet_step (first | (go_at_call 9; with_reducible exact Calls.regrown_of (CB _)) | (go_at_call 39; with_reducible exact Calls.regrown_of (cg _))))
      refine wpQuiet_nil ?_
      intro w5 hw'
      obtain ⟨⟨dq, osq⟩, hw''⟩ := hw'
      have hb := below_of hw''
      clear hw'' rs0 rs1 rs2 rs3 rs4 rs5 rs6 rs7 rs8 rs9 rs10 rs11 rs12
      have JS := S1.below hb S1.lt
      have qs0 := JS.cv 0 (by omega) (.int .u64 (lim (X2) 0)) rfl
      have qs1 := JS.cv 1 (by omega) (.int .u64 (lim (X2) 1)) rfl
      have qs2 := JS.cv 2 (by omega) (.int .u64 (lim (X2) 2)) rfl
      have qs3 := JS.cv 3 (by omega) (.int .u64 (lim (X2) 3)) rfl
      have qs4 := JS.cv 4 (by omega) (.int .u64 (lim (Y2) 0)) rfl
      have qs5 := JS.cv 5 (by omega) (.int .u64 (lim (Y2) 1)) rfl
      have qs6 := JS.cv 6 (by omega) (.int .u64 (lim (Y2) 2)) rfl
      have qs7 := JS.cv 7 (by omega) (.int .u64 (lim (Y2) 3)) rfl
      have qs8 := JS.cv 8 (by omega) (.bool i2) rfl
      have qs9 := JS.cv 9 (by omega) (.int .u64 (lim (Z2) 0)) rfl
      have qs10 := JS.cv 10 (by omega) (.int .u64 (lim (Z2) 1)) rfl
      have qs11 := JS.cv 11 (by omega) (.int .u64 (lim (Z2) 2)) rfl
      have qs12 := JS.cv 12 (by omega) (.int .u64 (lim (Z2) 3)) rfl
      have zq := JS.z
      gi_upto_region 9 with fail
      have S2 : Arr ((((((((((((((w5).setCell ⟨w2.heap.size, 0, none⟩ (.int .u64 (lim (X3) 0))).setCell ⟨w2.heap.size, 1, none⟩ (.int .u64 (lim (X3) 1))).setCell ⟨w2.heap.size, 2, none⟩ (.int .u64 (lim (X3) 2))).setCell ⟨w2.heap.size, 3, none⟩ (.int .u64 (lim (X3) 3))).setCell ⟨w2.heap.size, 4, none⟩ (.int .u64 (lim (Y3) 0))).setCell ⟨w2.heap.size, 5, none⟩ (.int .u64 (lim (Y3) 1))).setCell ⟨w2.heap.size, 6, none⟩ (.int .u64 (lim (Y3) 2))).setCell ⟨w2.heap.size, 7, none⟩ (.int .u64 (lim (Y3) 3))).setCell ⟨w2.heap.size, 8, none⟩ (.bool i3)).setCell ⟨w2.heap.size, 9, none⟩ (.int .u64 (lim (Z3) 0))).setCell ⟨w2.heap.size, 10, none⟩ (.int .u64 (lim (Z3) 1))).setCell ⟨w2.heap.size, 11, none⟩ (.int .u64 (lim (Z3) 2))).setCell ⟨w2.heap.size, 12, none⟩ (.int .u64 (lim (Z3) 3))) w2.heap.size 13 (sx X3 Y3 i3 Z3) := JS.st13 X3 Y3 i3 Z3
      have P2 : Arr ((((((((((((((w5).setCell ⟨w2.heap.size, 0, none⟩ (.int .u64 (lim (X3) 0))).setCell ⟨w2.heap.size, 1, none⟩ (.int .u64 (lim (X3) 1))).setCell ⟨w2.heap.size, 2, none⟩ (.int .u64 (lim (X3) 2))).setCell ⟨w2.heap.size, 3, none⟩ (.int .u64 (lim (X3) 3))).setCell ⟨w2.heap.size, 4, none⟩ (.int .u64 (lim (Y3) 0))).setCell ⟨w2.heap.size, 5, none⟩ (.int .u64 (lim (Y3) 1))).setCell ⟨w2.heap.size, 6, none⟩ (.int .u64 (lim (Y3) 2))).setCell ⟨w2.heap.size, 7, none⟩ (.int .u64 (lim (Y3) 3))).setCell ⟨w2.heap.size, 8, none⟩ (.bool i3)).setCell ⟨w2.heap.size, 9, none⟩ (.int .u64 (lim (Z3) 0))).setCell ⟨w2.heap.size, 10, none⟩ (.int .u64 (lim (Z3) 1))).setCell ⟨w2.heap.size, 11, none⟩ (.int .u64 (lim (Z3) 2))).setCell ⟨w2.heap.size, 12, none⟩ (.int .u64 (lim (Z3) 3))) (w.heap.size + 1 + 1) 9 (px X Y i) := (P1.below hb P1.lt).st13o (b' := w2.heap.size) (by omega) X3 Y3 i3 Z3
      have O2 : Arr ((((((((((((((w5).setCell ⟨w2.heap.size, 0, none⟩ (.int .u64 (lim (X3) 0))).setCell ⟨w2.heap.size, 1, none⟩ (.int .u64 (lim (X3) 1))).setCell ⟨w2.heap.size, 2, none⟩ (.int .u64 (lim (X3) 2))).setCell ⟨w2.heap.size, 3, none⟩ (.int .u64 (lim (X3) 3))).setCell ⟨w2.heap.size, 4, none⟩ (.int .u64 (lim (Y3) 0))).setCell ⟨w2.heap.size, 5, none⟩ (.int .u64 (lim (Y3) 1))).setCell ⟨w2.heap.size, 6, none⟩ (.int .u64 (lim (Y3) 2))).setCell ⟨w2.heap.size, 7, none⟩ (.int .u64 (lim (Y3) 3))).setCell ⟨w2.heap.size, 8, none⟩ (.bool i3)).setCell ⟨w2.heap.size, 9, none⟩ (.int .u64 (lim (Z3) 0))).setCell ⟨w2.heap.size, 10, none⟩ (.int .u64 (lim (Z3) 1))).setCell ⟨w2.heap.size, 11, none⟩ (.int .u64 (lim (Z3) 2))).setCell ⟨w2.heap.size, 12, none⟩ (.int .u64 (lim (Z3) 3))) (w.heap.size + 1 + 1 + 1) 9 (zx 8) := (O1.below hb O1.lt).st13o (b' := w2.heap.size) (by omega) X3 Y3 i3 Z3
      have B2 : Below w.heap.size w ((((((((((((((w5).setCell ⟨w2.heap.size, 0, none⟩ (.int .u64 (lim (X3) 0))).setCell ⟨w2.heap.size, 1, none⟩ (.int .u64 (lim (X3) 1))).setCell ⟨w2.heap.size, 2, none⟩ (.int .u64 (lim (X3) 2))).setCell ⟨w2.heap.size, 3, none⟩ (.int .u64 (lim (X3) 3))).setCell ⟨w2.heap.size, 4, none⟩ (.int .u64 (lim (Y3) 0))).setCell ⟨w2.heap.size, 5, none⟩ (.int .u64 (lim (Y3) 1))).setCell ⟨w2.heap.size, 6, none⟩ (.int .u64 (lim (Y3) 2))).setCell ⟨w2.heap.size, 7, none⟩ (.int .u64 (lim (Y3) 3))).setCell ⟨w2.heap.size, 8, none⟩ (.bool i3)).setCell ⟨w2.heap.size, 9, none⟩ (.int .u64 (lim (Z3) 0))).setCell ⟨w2.heap.size, 10, none⟩ (.int .u64 (lim (Z3) 1))).setCell ⟨w2.heap.size, 11, none⟩ (.int .u64 (lim (Z3) 2))).setCell ⟨w2.heap.size, 12, none⟩ (.int .u64 (lim (Z3) 3))) := Bel.st13 (Bel.call B1 hb) (b := w2.heap.size) (by omega) X3 Y3 i3 Z3
      have KO2 : KeepsOthers W ((((((((((((((w5).setCell ⟨w2.heap.size, 0, none⟩ (.int .u64 (lim (X3) 0))).setCell ⟨w2.heap.size, 1, none⟩ (.int .u64 (lim (X3) 1))).setCell ⟨w2.heap.size, 2, none⟩ (.int .u64 (lim (X3) 2))).setCell ⟨w2.heap.size, 3, none⟩ (.int .u64 (lim (X3) 3))).setCell ⟨w2.heap.size, 4, none⟩ (.int .u64 (lim (Y3) 0))).setCell ⟨w2.heap.size, 5, none⟩ (.int .u64 (lim (Y3) 1))).setCell ⟨w2.heap.size, 6, none⟩ (.int .u64 (lim (Y3) 2))).setCell ⟨w2.heap.size, 7, none⟩ (.int .u64 (lim (Y3) 3))).setCell ⟨w2.heap.size, 8, none⟩ (.bool i3)).setCell ⟨w2.heap.size, 9, none⟩ (.int .u64 (lim (Z3) 0))).setCell ⟨w2.heap.size, 10, none⟩ (.int .u64 (lim (Z3) 1))).setCell ⟨w2.heap.size, 11, none⟩ (.int .u64 (lim (Z3) 2))).setCell ⟨w2.heap.size, 12, none⟩ (.int .u64 (lim (Z3) 3))) := (KO1.trans (ko_below hb)).trans (ko_st13 w5 w2.heap.size X3 Y3 i3 Z3)
      have KK2 : KB2 (w2.heap.size + 1) (w2.heap.size + 1 + 1) W ((((((((((((((w5).setCell ⟨w2.heap.size, 0, none⟩ (.int .u64 (lim (X3) 0))).setCell ⟨w2.heap.size, 1, none⟩ (.int .u64 (lim (X3) 1))).setCell ⟨w2.heap.size, 2, none⟩ (.int .u64 (lim (X3) 2))).setCell ⟨w2.heap.size, 3, none⟩ (.int .u64 (lim (X3) 3))).setCell ⟨w2.heap.size, 4, none⟩ (.int .u64 (lim (Y3) 0))).setCell ⟨w2.heap.size, 5, none⟩ (.int .u64 (lim (Y3) 1))).setCell ⟨w2.heap.size, 6, none⟩ (.int .u64 (lim (Y3) 2))).setCell ⟨w2.heap.size, 7, none⟩ (.int .u64 (lim (Y3) 3))).setCell ⟨w2.heap.size, 8, none⟩ (.bool i3)).setCell ⟨w2.heap.size, 9, none⟩ (.int .u64 (lim (Z3) 0))).setCell ⟨w2.heap.size, 10, none⟩ (.int .u64 (lim (Z3) 1))).setCell ⟨w2.heap.size, 11, none⟩ (.int .u64 (lim (Z3) 2))).setCell ⟨w2.heap.size, 12, none⟩ (.int .u64 (lim (Z3) 3))) := KB2.t (KB2.t KK1 (kb2_below hb)) (kb2_st13 (b := w2.heap.size + 1) (c := w2.heap.size + 1 + 1) (b' := w2.heap.size) (by omega) (by omega) w5 X3 Y3 i3 Z3)
      generalize (((((((((((((w5).setCell ⟨w2.heap.size, 0, none⟩ (.int .u64 (lim (X3) 0))).setCell ⟨w2.heap.size, 1, none⟩ (.int .u64 (lim (X3) 1))).setCell ⟨w2.heap.size, 2, none⟩ (.int .u64 (lim (X3) 2))).setCell ⟨w2.heap.size, 3, none⟩ (.int .u64 (lim (X3) 3))).setCell ⟨w2.heap.size, 4, none⟩ (.int .u64 (lim (Y3) 0))).setCell ⟨w2.heap.size, 5, none⟩ (.int .u64 (lim (Y3) 1))).setCell ⟨w2.heap.size, 6, none⟩ (.int .u64 (lim (Y3) 2))).setCell ⟨w2.heap.size, 7, none⟩ (.int .u64 (lim (Y3) 3))).setCell ⟨w2.heap.size, 8, none⟩ (.bool i3)).setCell ⟨w2.heap.size, 9, none⟩ (.int .u64 (lim (Z3) 0))).setCell ⟨w2.heap.size, 10, none⟩ (.int .u64 (lim (Z3) 1))).setCell ⟨w2.heap.size, 11, none⟩ (.int .u64 (lim (Z3) 2))).setCell ⟨w2.heap.size, 12, none⟩ (.int .u64 (lim (Z3) 3)) = V2 at S2 P2 O2 B2 KO2 KK2 ⊢
      clear hb JS zq qs0 qs1 qs2 qs3 qs4 qs5 qs6 qs7 qs8 qs9 qs10 qs11 qs12 S1 P1 O1 B1 KO1 KK1 cg
      obtain ⟨X4, Y4, i4, Z4, hs4⟩ : ∃ X4 Y4 i4 Z4, A (X3, Y3, i3, Z3) = (X4, Y4, i4, Z4) := ⟨_, _, _, _, rfl⟩
      have ca := fun W => CA (X3, Y3, i3, Z3) W hI2
      rw [hs4] at ca
      have ts0 := S2.cv 0 (by omega) (.int .u64 (lim (X3) 0)) rfl
      have ts1 := S2.cv 1 (by omega) (.int .u64 (lim (X3) 1)) rfl
      have ts2 := S2.cv 2 (by omega) (.int .u64 (lim (X3) 2)) rfl
      have ts3 := S2.cv 3 (by omega) (.int .u64 (lim (X3) 3)) rfl
      have ts4 := S2.cv 4 (by omega) (.int .u64 (lim (Y3) 0)) rfl
      have ts5 := S2.cv 5 (by omega) (.int .u64 (lim (Y3) 1)) rfl
      have ts6 := S2.cv 6 (by omega) (.int .u64 (lim (Y3) 2)) rfl
      have ts7 := S2.cv 7 (by omega) (.int .u64 (lim (Y3) 3)) rfl
      have ts8 := S2.cv 8 (by omega) (.bool i3) rfl
      have ts9 := S2.cv 9 (by omega) (.int .u64 (lim (Z3) 0)) rfl
      have ts10 := S2.cv 10 (by omega) (.int .u64 (lim (Z3) 1)) rfl
      have ts11 := S2.cv 11 (by omega) (.int .u64 (lim (Z3) 2)) rfl
      have ts12 := S2.cv 12 (by omega) (.int .u64 (lim (Z3) 3)) rfl
      have tp0 := P2.cv 0 (by omega) (.int .u64 (lim (X) 0)) rfl
      have tp1 := P2.cv 1 (by omega) (.int .u64 (lim (X) 1)) rfl
      have tp2 := P2.cv 2 (by omega) (.int .u64 (lim (X) 2)) rfl
      have tp3 := P2.cv 3 (by omega) (.int .u64 (lim (X) 3)) rfl
      have tp4 := P2.cv 4 (by omega) (.int .u64 (lim (Y) 0)) rfl
      have tp5 := P2.cv 5 (by omega) (.int .u64 (lim (Y) 1)) rfl
      have tp6 := P2.cv 6 (by omega) (.int .u64 (lim (Y) 2)) rfl
      have tp7 := P2.cv 7 (by omega) (.int .u64 (lim (Y) 3)) rfl
      have tp8 := P2.cv 8 (by omega) (.bool i) rfl
      gi_wp2_with (refine ⟨trivial, ?_⟩; gi_at_call 39; refine (callsIn_wide.2 (ca _)).mono ?_; rintro e w6 ⟨rfl, hb6⟩; have MS := S2.below hb6 S2.lt; have us0 := MS.cv 0 (by omega) (.int .u64 (lim (X3) 0)) rfl; have us1 := MS.cv 1 (by omega) (.int .u64 (lim (X3) 1)) rfl; have us2 := MS.cv 2 (by omega) (.int .u64 (lim (X3) 2)) rfl; have us3 := MS.cv 3 (by omega) (.int .u64 (lim (X3) 3)) rfl; have us4 := MS.cv 4 (by omega) (.int .u64 (lim (Y3) 0)) rfl; have us5 := MS.cv 5 (by omega) (.int .u64 (lim (Y3) 1)) rfl; have us6 := MS.cv 6 (by omega) (.int .u64 (lim (Y3) 2)) rfl; have us7 := MS.cv 7 (by omega) (.int .u64 (lim (Y3) 3)) rfl; have us8 := MS.cv 8 (by omega) (.bool i3) rfl; have us9 := MS.cv 9 (by omega) (.int .u64 (lim (Z3) 0)) rfl; have us10 := MS.cv 10 (by omega) (.int .u64 (lim (Z3) 1)) rfl; have us11 := MS.cv 11 (by omega) (.int .u64 (lim (Z3) 2)) rfl; have us12 := MS.cv 12 (by omega) (.int .u64 (lim (Z3) 3)) rfl; have zu := MS.z)
      have S3 : Arr ((((((((((((((w6).setCell ⟨w2.heap.size, 0, none⟩ (.int .u64 (lim (X4) 0))).setCell ⟨w2.heap.size, 1, none⟩ (.int .u64 (lim (X4) 1))).setCell ⟨w2.heap.size, 2, none⟩ (.int .u64 (lim (X4) 2))).setCell ⟨w2.heap.size, 3, none⟩ (.int .u64 (lim (X4) 3))).setCell ⟨w2.heap.size, 4, none⟩ (.int .u64 (lim (Y4) 0))).setCell ⟨w2.heap.size, 5, none⟩ (.int .u64 (lim (Y4) 1))).setCell ⟨w2.heap.size, 6, none⟩ (.int .u64 (lim (Y4) 2))).setCell ⟨w2.heap.size, 7, none⟩ (.int .u64 (lim (Y4) 3))).setCell ⟨w2.heap.size, 8, none⟩ (.bool i4)).setCell ⟨w2.heap.size, 9, none⟩ (.int .u64 (lim (Z4) 0))).setCell ⟨w2.heap.size, 10, none⟩ (.int .u64 (lim (Z4) 1))).setCell ⟨w2.heap.size, 11, none⟩ (.int .u64 (lim (Z4) 2))).setCell ⟨w2.heap.size, 12, none⟩ (.int .u64 (lim (Z4) 3))) w2.heap.size 13 (sx X4 Y4 i4 Z4) := MS.st13 X4 Y4 i4 Z4
      have P3 : Arr ((((((((((((((w6).setCell ⟨w2.heap.size, 0, none⟩ (.int .u64 (lim (X4) 0))).setCell ⟨w2.heap.size, 1, none⟩ (.int .u64 (lim (X4) 1))).setCell ⟨w2.heap.size, 2, none⟩ (.int .u64 (lim (X4) 2))).setCell ⟨w2.heap.size, 3, none⟩ (.int .u64 (lim (X4) 3))).setCell ⟨w2.heap.size, 4, none⟩ (.int .u64 (lim (Y4) 0))).setCell ⟨w2.heap.size, 5, none⟩ (.int .u64 (lim (Y4) 1))).setCell ⟨w2.heap.size, 6, none⟩ (.int .u64 (lim (Y4) 2))).setCell ⟨w2.heap.size, 7, none⟩ (.int .u64 (lim (Y4) 3))).setCell ⟨w2.heap.size, 8, none⟩ (.bool i4)).setCell ⟨w2.heap.size, 9, none⟩ (.int .u64 (lim (Z4) 0))).setCell ⟨w2.heap.size, 10, none⟩ (.int .u64 (lim (Z4) 1))).setCell ⟨w2.heap.size, 11, none⟩ (.int .u64 (lim (Z4) 2))).setCell ⟨w2.heap.size, 12, none⟩ (.int .u64 (lim (Z4) 3))) (w.heap.size + 1 + 1) 9 (px X Y i) := (P2.below hb6 P2.lt).st13o (b' := w2.heap.size) (by omega) X4 Y4 i4 Z4
      have O3 : Arr ((((((((((((((w6).setCell ⟨w2.heap.size, 0, none⟩ (.int .u64 (lim (X4) 0))).setCell ⟨w2.heap.size, 1, none⟩ (.int .u64 (lim (X4) 1))).setCell ⟨w2.heap.size, 2, none⟩ (.int .u64 (lim (X4) 2))).setCell ⟨w2.heap.size, 3, none⟩ (.int .u64 (lim (X4) 3))).setCell ⟨w2.heap.size, 4, none⟩ (.int .u64 (lim (Y4) 0))).setCell ⟨w2.heap.size, 5, none⟩ (.int .u64 (lim (Y4) 1))).setCell ⟨w2.heap.size, 6, none⟩ (.int .u64 (lim (Y4) 2))).setCell ⟨w2.heap.size, 7, none⟩ (.int .u64 (lim (Y4) 3))).setCell ⟨w2.heap.size, 8, none⟩ (.bool i4)).setCell ⟨w2.heap.size, 9, none⟩ (.int .u64 (lim (Z4) 0))).setCell ⟨w2.heap.size, 10, none⟩ (.int .u64 (lim (Z4) 1))).setCell ⟨w2.heap.size, 11, none⟩ (.int .u64 (lim (Z4) 2))).setCell ⟨w2.heap.size, 12, none⟩ (.int .u64 (lim (Z4) 3))) (w.heap.size + 1 + 1 + 1) 9 (zx 8) := (O2.below hb6 O2.lt).st13o (b' := w2.heap.size) (by omega) X4 Y4 i4 Z4
      have B3 : Below w.heap.size w ((((((((((((((w6).setCell ⟨w2.heap.size, 0, none⟩ (.int .u64 (lim (X4) 0))).setCell ⟨w2.heap.size, 1, none⟩ (.int .u64 (lim (X4) 1))).setCell ⟨w2.heap.size, 2, none⟩ (.int .u64 (lim (X4) 2))).setCell ⟨w2.heap.size, 3, none⟩ (.int .u64 (lim (X4) 3))).setCell ⟨w2.heap.size, 4, none⟩ (.int .u64 (lim (Y4) 0))).setCell ⟨w2.heap.size, 5, none⟩ (.int .u64 (lim (Y4) 1))).setCell ⟨w2.heap.size, 6, none⟩ (.int .u64 (lim (Y4) 2))).setCell ⟨w2.heap.size, 7, none⟩ (.int .u64 (lim (Y4) 3))).setCell ⟨w2.heap.size, 8, none⟩ (.bool i4)).setCell ⟨w2.heap.size, 9, none⟩ (.int .u64 (lim (Z4) 0))).setCell ⟨w2.heap.size, 10, none⟩ (.int .u64 (lim (Z4) 1))).setCell ⟨w2.heap.size, 11, none⟩ (.int .u64 (lim (Z4) 2))).setCell ⟨w2.heap.size, 12, none⟩ (.int .u64 (lim (Z4) 3))) := Bel.st13 (Bel.call B2 hb6) (b := w2.heap.size) (by omega) X4 Y4 i4 Z4
      have KO3 : KeepsOthers W ((((((((((((((w6).setCell ⟨w2.heap.size, 0, none⟩ (.int .u64 (lim (X4) 0))).setCell ⟨w2.heap.size, 1, none⟩ (.int .u64 (lim (X4) 1))).setCell ⟨w2.heap.size, 2, none⟩ (.int .u64 (lim (X4) 2))).setCell ⟨w2.heap.size, 3, none⟩ (.int .u64 (lim (X4) 3))).setCell ⟨w2.heap.size, 4, none⟩ (.int .u64 (lim (Y4) 0))).setCell ⟨w2.heap.size, 5, none⟩ (.int .u64 (lim (Y4) 1))).setCell ⟨w2.heap.size, 6, none⟩ (.int .u64 (lim (Y4) 2))).setCell ⟨w2.heap.size, 7, none⟩ (.int .u64 (lim (Y4) 3))).setCell ⟨w2.heap.size, 8, none⟩ (.bool i4)).setCell ⟨w2.heap.size, 9, none⟩ (.int .u64 (lim (Z4) 0))).setCell ⟨w2.heap.size, 10, none⟩ (.int .u64 (lim (Z4) 1))).setCell ⟨w2.heap.size, 11, none⟩ (.int .u64 (lim (Z4) 2))).setCell ⟨w2.heap.size, 12, none⟩ (.int .u64 (lim (Z4) 3))) := (KO2.trans (ko_below hb6)).trans (ko_st13 w6 w2.heap.size X4 Y4 i4 Z4)
      have KK3 : KB2 (w2.heap.size + 1) (w2.heap.size + 1 + 1) W ((((((((((((((w6).setCell ⟨w2.heap.size, 0, none⟩ (.int .u64 (lim (X4) 0))).setCell ⟨w2.heap.size, 1, none⟩ (.int .u64 (lim (X4) 1))).setCell ⟨w2.heap.size, 2, none⟩ (.int .u64 (lim (X4) 2))).setCell ⟨w2.heap.size, 3, none⟩ (.int .u64 (lim (X4) 3))).setCell ⟨w2.heap.size, 4, none⟩ (.int .u64 (lim (Y4) 0))).setCell ⟨w2.heap.size, 5, none⟩ (.int .u64 (lim (Y4) 1))).setCell ⟨w2.heap.size, 6, none⟩ (.int .u64 (lim (Y4) 2))).setCell ⟨w2.heap.size, 7, none⟩ (.int .u64 (lim (Y4) 3))).setCell ⟨w2.heap.size, 8, none⟩ (.bool i4)).setCell ⟨w2.heap.size, 9, none⟩ (.int .u64 (lim (Z4) 0))).setCell ⟨w2.heap.size, 10, none⟩ (.int .u64 (lim (Z4) 1))).setCell ⟨w2.heap.size, 11, none⟩ (.int .u64 (lim (Z4) 2))).setCell ⟨w2.heap.size, 12, none⟩ (.int .u64 (lim (Z4) 3))) := KB2.t (KB2.t KK2 (kb2_below hb6)) (kb2_st13 (b := w2.heap.size + 1) (c := w2.heap.size + 1 + 1) (b' := w2.heap.size) (by omega) (by omega) w6 X4 Y4 i4 Z4)
      generalize (((((((((((((w6).setCell ⟨w2.heap.size, 0, none⟩ (.int .u64 (lim (X4) 0))).setCell ⟨w2.heap.size, 1, none⟩ (.int .u64 (lim (X4) 1))).setCell ⟨w2.heap.size, 2, none⟩ (.int .u64 (lim (X4) 2))).setCell ⟨w2.heap.size, 3, none⟩ (.int .u64 (lim (X4) 3))).setCell ⟨w2.heap.size, 4, none⟩ (.int .u64 (lim (Y4) 0))).setCell ⟨w2.heap.size, 5, none⟩ (.int .u64 (lim (Y4) 1))).setCell ⟨w2.heap.size, 6, none⟩ (.int .u64 (lim (Y4) 2))).setCell ⟨w2.heap.size, 7, none⟩ (.int .u64 (lim (Y4) 3))).setCell ⟨w2.heap.size, 8, none⟩ (.bool i4)).setCell ⟨w2.heap.size, 9, none⟩ (.int .u64 (lim (Z4) 0))).setCell ⟨w2.heap.size, 10, none⟩ (.int .u64 (lim (Z4) 1))).setCell ⟨w2.heap.size, 11, none⟩ (.int .u64 (lim (Z4) 2))).setCell ⟨w2.heap.size, 12, none⟩ (.int .u64 (lim (Z4) 3)) = V3 at S3 P3 O3 B3 KO3 KK3 ⊢
      try gi_wp2
      refine ⟨KO3, KK3, ⟨?_, P3, O3⟩, B3⟩
      rw [bsts_snoc, hs]
      simp only [bstep, if_true, Bool.false_eq_true, if_false, id, hs2, hs3, hs4]
      exact S3
  case done =>
    clear S0 P0 O0 B0 J0 K0 C1 C2 CJ CK
    rintro De ys W hD rfl ⟨⟨IS, IP, IQ⟩, hB⟩ hK
    generalize bsts D G A (up2 J K L L) = s at *
    obtain ⟨a, c, d, g⟩ := s
    have rs0 := IS.cv 0 (by omega) (.int .u64 (lim (a) 0)) rfl
    have rs1 := IS.cv 1 (by omega) (.int .u64 (lim (a) 1)) rfl
    have rs2 := IS.cv 2 (by omega) (.int .u64 (lim (a) 2)) rfl
    have rs3 := IS.cv 3 (by omega) (.int .u64 (lim (a) 3)) rfl
    have rs4 := IS.cv 4 (by omega) (.int .u64 (lim (c) 0)) rfl
    have rs5 := IS.cv 5 (by omega) (.int .u64 (lim (c) 1)) rfl
    have rs6 := IS.cv 6 (by omega) (.int .u64 (lim (c) 2)) rfl
    have rs7 := IS.cv 7 (by omega) (.int .u64 (lim (c) 3)) rfl
    have rs8 := IS.cv 8 (by omega) (.bool d) rfl
    have rs9 := IS.cv 9 (by omega) (.int .u64 (lim (g) 0)) rfl
    have rs10 := IS.cv 10 (by omega) (.int .u64 (lim (g) 1)) rfl
    have rs11 := IS.cv 11 (by omega) (.int .u64 (lim (g) 2)) rfl
    have rs12 := IS.cv 12 (by omega) (.int .u64 (lim (g) 3)) rfl
    gi_wp2_with (refine ⟨trivial, ?_⟩; gi_at_call 40; refine (callsIn_wide.2 (CV _)).mono ?_; rintro e w3 ⟨rfl, hb⟩; have JZ := IQ.below hb IQ.lt; have co0 := JZ.cv 0 (by omega) (.int .u64 0) rfl; have co1 := JZ.cv 1 (by omega) (.int .u64 0) rfl; have co2 := JZ.cv 2 (by omega) (.int .u64 0) rfl; have co3 := JZ.cv 3 (by omega) (.int .u64 0) rfl; have co4 := JZ.cv 4 (by omega) (.int .u64 0) rfl; have co5 := JZ.cv 5 (by omega) (.int .u64 0) rfl; have co6 := JZ.cv 6 (by omega) (.int .u64 0) rfl; have co7 := JZ.cv 7 (by omega) (.int .u64 0) rfl; have co8 := JZ.cv 8 (by omega) (.bool false) rfl; have zz := JZ.z)
    have hK1 := (ko_below hb).same De _ hK rfl
    have hK' := (ko_st9 w3 (w.heap.size + 1 + 1 + 1) (.int .u64 (lim (P) 0)) (.int .u64 (lim (P) 1)) (.int .u64 (lim (P) 2)) (.int .u64 (lim (P) 3)) (.int .u64 (lim (Q) 0)) (.int .u64 (lim (Q) 1)) (.int .u64 (lim (Q) 2)) (.int .u64 (lim (Q) 3)) (.bool no)).same De _ hK1 rfl
    have G6 := arr_st9 JZ P Q no
    have H6 := arr_kept G6 (grownBy_putObj' _ De (.deferred none)) (fun r e => by cases e; exact ⟨_, hK', rfl⟩)
    refine ⟨by simp, .inl ⟨_, _, rfl, run_takeDeferred hK', ?_⟩⟩
    have ch0 := H6.cv 0 (by omega) (.int .u64 (lim (P) 0)) rfl
    have ch1 := H6.cv 1 (by omega) (.int .u64 (lim (P) 1)) rfl
    have ch2 := H6.cv 2 (by omega) (.int .u64 (lim (P) 2)) rfl
    have ch3 := H6.cv 3 (by omega) (.int .u64 (lim (P) 3)) rfl
    have ch4 := H6.cv 4 (by omega) (.int .u64 (lim (Q) 0)) rfl
    have ch5 := H6.cv 5 (by omega) (.int .u64 (lim (Q) 1)) rfl
    have ch6 := H6.cv 6 (by omega) (.int .u64 (lim (Q) 2)) rfl
    have ch7 := H6.cv 7 (by omega) (.int .u64 (lim (Q) 3)) rfl
    have ch8 := H6.cv 8 (by omega) (.bool no) rfl
    refine ⟨pv P Q no, by simp [results, Try.results41, go_sem, ch0, ch1, ch2, ch3, ch4, ch5, ch6, ch7, ch8], rfl, ?_⟩
    exact (bel_st9 (Bel.call hB hb) (b := w.heap.size + 1 + 1 + 1) (by omega) (.int .u64 (lim (P) 0)) (.int .u64 (lim (P) 1)) (.int .u64 (lim (P) 2)) (.int .u64 (lim (P) 3)) (.int .u64 (lim (Q) 0)) (.int .u64 (lim (Q) 1)) (.int .u64 (lim (Q) 2)) (.int .u64 (lim (Q) 3)) (.bool no)).trans (belowK_b (w := w) (Nat.le_refl _) _ De _ _ (by simp at hD; omega) hK' rfl rfl)
  case stop =>
    rintro De c pre W _ _ h _
    exact h.elim
set_option maxHeartbeats 8000000 in
theorem mul_core (K X Y P Q : Int) (i no : Bool) (w : World)
    (C1 : ∀ W, Calls Try.prog 41 #[.agg #[.int .u64 0, .int .u64 0, .int .u64 0, .int .u64 0], nv K, pv X Y i] W fun e w' => e = .returned (pv P Q no) ∧ Below W.heap.size W w') :
    Calls Try.prog 20 #[nv K, pv X Y i] w fun e w' => e = .returned (pv P Q no) ∧ Below w.heap.size w w' := by
  go_enter Try.func20, Try.ntmps20
  have Bk := Arr.mk4 (w := (((w.alloc (.cells #[.int .u64 (lim (K) 0), .int .u64 (lim (K) 1), .int .u64 (lim (K) 2), .int .u64 (lim (K) 3)] 24)).alloc (.cells #[.int .u64 (lim (X) 0), .int .u64 (lim (X) 1), .int .u64 (lim (X) 2), .int .u64 (lim (X) 3), .int .u64 (lim (Y) 0), .int .u64 (lim (Y) 1), .int .u64 (lim (Y) 2), .int .u64 (lim (Y) 3), .bool i] 26)).alloc (.cells #[.int .u64 0, .int .u64 0, .int .u64 0, .int .u64 0, .int .u64 0, .int .u64 0, .int .u64 0, .int .u64 0, .bool false] 26))) (f := fun j => .int .u64 (lim (K) j)) (b := w.heap.size) (by simp [go_sem]) (by simp [go_sem]) (by simp [go_sem]) (by simp [go_sem]) (by simp [go_sem]) (by simp [go_sem]) (by simp [go_sem]) (by simp [go_sem])
  have Ba := Arr.mk9p (w := (((w.alloc (.cells #[.int .u64 (lim (K) 0), .int .u64 (lim (K) 1), .int .u64 (lim (K) 2), .int .u64 (lim (K) 3)] 24)).alloc (.cells #[.int .u64 (lim (X) 0), .int .u64 (lim (X) 1), .int .u64 (lim (X) 2), .int .u64 (lim (X) 3), .int .u64 (lim (Y) 0), .int .u64 (lim (Y) 1), .int .u64 (lim (Y) 2), .int .u64 (lim (Y) 3), .bool i] 26)).alloc (.cells #[.int .u64 0, .int .u64 0, .int .u64 0, .int .u64 0, .int .u64 0, .int .u64 0, .int .u64 0, .int .u64 0, .bool false] 26))) (f := px (X) (Y) i) (b := w.heap.size + 1) (by simp [go_sem, px, sx, zx]) (by simp [go_sem, px, sx, zx]) (by simp [go_sem, px, sx, zx]) (by simp [go_sem, px, sx, zx]) (by simp [go_sem, px, sx, zx]) (by simp [go_sem, px, sx, zx]) (by simp [go_sem, px, sx, zx]) (by simp [go_sem, px, sx, zx]) (by simp [go_sem, px, sx, zx]) (by simp [go_sem, px, sx, zx])
  have Bo := Arr.mk9p (w := (((w.alloc (.cells #[.int .u64 (lim (K) 0), .int .u64 (lim (K) 1), .int .u64 (lim (K) 2), .int .u64 (lim (K) 3)] 24)).alloc (.cells #[.int .u64 (lim (X) 0), .int .u64 (lim (X) 1), .int .u64 (lim (X) 2), .int .u64 (lim (X) 3), .int .u64 (lim (Y) 0), .int .u64 (lim (Y) 1), .int .u64 (lim (Y) 2), .int .u64 (lim (Y) 3), .bool i] 26)).alloc (.cells #[.int .u64 0, .int .u64 0, .int .u64 0, .int .u64 0, .int .u64 0, .int .u64 0, .int .u64 0, .int .u64 0, .bool false] 26))) (f := zx 8) (b := w.heap.size + 1 + 1) (by simp [go_sem, px, sx, zx]) (by simp [go_sem, px, sx, zx]) (by simp [go_sem, px, sx, zx]) (by simp [go_sem, px, sx, zx]) (by simp [go_sem, px, sx, zx]) (by simp [go_sem, px, sx, zx]) (by simp [go_sem, px, sx, zx]) (by simp [go_sem, px, sx, zx]) (by simp [go_sem, px, sx, zx]) (by simp [go_sem, px, sx, zx])
  have hB' : Below w.heap.size w (((w.alloc (.cells #[.int .u64 (lim (K) 0), .int .u64 (lim (K) 1), .int .u64 (lim (K) 2), .int .u64 (lim (K) 3)] 24)).alloc (.cells #[.int .u64 (lim (X) 0), .int .u64 (lim (X) 1), .int .u64 (lim (X) 2), .int .u64 (lim (X) 3), .int .u64 (lim (Y) 0), .int .u64 (lim (Y) 1), .int .u64 (lim (Y) 2), .int .u64 (lim (Y) 3), .bool i] 26)).alloc (.cells #[.int .u64 0, .int .u64 0, .int .u64 0, .int .u64 0, .int .u64 0, .int .u64 0, .int .u64 0, .int .u64 0, .bool false] 26)) := by go_grown
  have Ak := Bk
  have Aa := Ba
  have Ao := Bo
  have hB := hB'
  clear Bk Ba Bo hB'
  have ck := Ak.c
  have ca_0 := Aa.cv 0 (by omega) (.int .u64 (lim (X) 0)) rfl
  have ca_1 := Aa.cv 1 (by omega) (.int .u64 (lim (X) 1)) rfl
  have ca_2 := Aa.cv 2 (by omega) (.int .u64 (lim (X) 2)) rfl
  have ca_3 := Aa.cv 3 (by omega) (.int .u64 (lim (X) 3)) rfl
  have ca_4 := Aa.cv 4 (by omega) (.int .u64 (lim (Y) 0)) rfl
  have ca_5 := Aa.cv 5 (by omega) (.int .u64 (lim (Y) 1)) rfl
  have ca_6 := Aa.cv 6 (by omega) (.int .u64 (lim (Y) 2)) rfl
  have ca_7 := Aa.cv 7 (by omega) (.int .u64 (lim (Y) 3)) rfl
  have ca_8 := Aa.cv 8 (by omega) (.bool i) rfl
  go_wp2_with fail
  refine (C1 _).mono ?_
  rintro e w11 ⟨rfl, hb⟩
  have Bo := Arr.to' Ao hb
  have hB' := Bel.call hB hb
  clear hb ck ca_0 ca_1 ca_2 ca_3 ca_4 ca_5 ca_6 ca_7 ca_8 Ak Aa Ao hB
  have Ao := Bo
  have hB := hB'
  clear Bo hB'
  have hS := hB.size
  have co_0 := Ao.cv 0 (by omega) (.int .u64 0) rfl
  have co_1 := Ao.cv 1 (by omega) (.int .u64 0) rfl
  have co_2 := Ao.cv 2 (by omega) (.int .u64 0) rfl
  have co_3 := Ao.cv 3 (by omega) (.int .u64 0) rfl
  have co_4 := Ao.cv 4 (by omega) (.int .u64 0) rfl
  have co_5 := Ao.cv 5 (by omega) (.int .u64 0) rfl
  have co_6 := Ao.cv 6 (by omega) (.int .u64 0) rfl
  have co_7 := Ao.cv 7 (by omega) (.int .u64 0) rfl
  have co_8 := Ao.cv 8 (by omega) (.bool false) rfl
  have zo := Ao.z
  go_wp2_with fail
  refine bodyPost_ret (v := pv P Q no) (by simp [results, Try.results20, go_sem, co_0, co_1, co_2, co_3, co_4, co_5, co_6, co_7, co_8]) rfl ⟨rfl, ?_⟩
  go_grown
end Go.Proofs.Ytgekafmojedlkaa
