/- A range over a function whose iterator lays memory ahead of a call of its body and reads it behind: the body keeps what is newer than what it knew. -/
import Derived.RangeFuncFrom
import Derived.RangeFuncNested
import Derived.RangeFuncBound
import Derived.RangeFuncCalls
import Derived.RangeFuncLeaves
import Derived.RangeFuncBox
import Derived.Shelf.Abstract
import Derived.Shelf.RegionOpen
import Derived.WalkKit
import Derived.OwnWalkIn
import Derived.TacticsInMore
import Derived.LoopNIn
import Derived.LoopIn
import Derived.Test.YtndfcecimckioaaY8
set_option linter.all false
namespace Go.Proofs.Ytndfcecimckioaa
open Go.RowKit Go.Shelf Go.Sort
section
variable {F : Fence} {n : Nat} {P : Program}
def SeqD {α : Type} (F : Fence) (n : Nat) (P : Program) (g : Nat) (lb : Array Value) (encs : α → Array Value) (Kp : World → World → World → Prop) (Mk : List α → α → Prop) (S Sp : List α → Prop) (w : World) : Prop :=
  ∀ (l : Nat) (J Jx : List α → World → Prop) (W : World), Below w.heap.size w W → AbidesFrom W.heap.size J → AbidesFrom W.heap.size Jx →
    (∀ pre x A0 A, J pre A0 → A0.grownBy A none → Mk pre x → YieldAt F (n - 1) P l (encs x) A fun e A' => (e = .returned (.bool true) ∧ J (pre ++ [x]) A' ∧ Kp A0 A A') ∨ (e = .returned (.bool false) ∧ Jx (pre ++ [x]) A')) →
    J [] W → CallsIn F n P g (#[.func (.yield l) #[] #[]] ++ lb) W fun e A' => (∃ v, e = .returned v) ∧ ((∃ xs, S xs ∧ J xs A') ∨ (∃ pre, Sp pre ∧ Jx pre A'))
/-- How a round may end. -/
def EndD {α : Type} (Kp : World → World → World → Prop) (I : List α → World → Prop) (Ix : Code → List α → World → Prop) (xs : List α) (W0 A W : World) : Exit → Act → World → Prop
  | .normal, _, W' => KeepsOthers W W' ∧ Kp W0 A W' ∧ I xs W'
  | .exit id, _, W' => KeepsOthers W W' ∧ Ix (.exit id) xs W'
  | .ret, _, W' => KeepsOthers W W' ∧ Ix .ret xs W'
  | _, _, _ => False
theorem wpIn_rangeFunc_dual {α : Type} {g : Operand} {ps : Array Tmp} {assign body : Code} {Q : Exit → Act → World → Prop} {a : Act} {w : World}
    (hro : F.round = none) (h1 : 1 ≤ n) {gf : Nat} {lb : Array Value} (hg : a.eval g = .func (.func gf) #[] lb) (hFg : F.fn gf) (eg : ∀ args w, (callFunc gf args).run P w = .ok (.enter gf args) w)
    {encs : α → Array Value} {Kp : World → World → World → Prop} {Mk : List α → α → Prop} {S Sp : List α → Prop} {w0 : World} (hseq : SeqD F (n - 1) P gf lb encs Kp Mk S Sp w0)
    (hKb : ∀ (A0 A B : World) (l : Nat) (o o' : Obj), w.heap.size ≤ l → l < A0.heap.size → B.heap[l]? = some o → o.isCells = false → Kp A0 A B → Kp A0 A (B.putObj l o')) (hb0 : Below w0.heap.size w0 w) (hps : ∀ x, (encs x).size = ps.size)
    (I : List α → World → Prop) (Ix : Code → List α → World → Prop) (hI : OwnFrom w.heap.size I) (hIx : ∀ c, OwnFrom w.heap.size (Ix c)) (h0 : I [] w)
    (hround : ∀ (l : Nat) (pre : List α) (x : α) (W0 W : World), I pre W0 → W0.grownBy W none → Mk pre x →
      assign.wpIn (F.inRound l) (n - 1 - 1) P (Exit.then (fun a₁ W₁ => W.grownBy W₁ none ∧ ∀ W₂, Upd w.heap.size W₁ W₂ → body.wpIn (F.inRound l) (n - 1 - 1) P (EndD Kp I Ix (pre ++ [x]) W0 W W₂) a₁ W₂) (fun _ _ _ => False))
        { tmps := (ps.zip (encs x)).foldl (fun t (p, v) => t.setIfInBounds p v) a.tmps, defers := [] } W)
    (hdone : ∀ (D : Nat) (xs : List α) (W : World), w.heap.size ≤ D → S xs → I xs W → W.heap[D]? = some (.deferred (some [])) → Q .normal { a with defers := { target := .collected D, args := #[] } :: a.defers } W)
    (hstop : ∀ (D : Nat) (c : Code) (pre : List α) (W : World), w.heap.size ≤ D → Sp pre → Ix c pre W → W.heap[D]? = some (.deferred (some [])) → c.wpIn F n P Q { a with defers := { target := .collected D, args := #[] } :: a.defers } W) :
    (Code.rangeFunc g ps assign body).wpIn F n P Q a w := by
  refine wpIn_rangeFunc fun fn hfn => ?_
  rw [hro]
  obtain ⟨R, hR⟩ : ∃ R : LoopState → Option Code → Loop, R = fun st pe => { state := st, pending := pe, fn, tmps := a.tmps, params := ps, assign, body, defers := w.heap.size } := ⟨_, rfl⟩
  obtain ⟨V, hV⟩ : ∃ V, (w.alloc (.deferred (some []))).alloc (.loop (R .ready none)) = V := ⟨_, rfl⟩
  have bV : Book w (R .ready none) V := by
    rw [← hV]
    refine ⟨?_, (Below.heap_alloc _ _ _ (by simp)).trans (World.alloc_heap_new w _)⟩
    have := World.alloc_heap_new (w.alloc (.deferred (some []))) (.loop (R .ready none))
    rwa [World.size_alloc] at this
  have iV : I [] V := by rw [← hV]; exact hI.alloc _ (hI.alloc _ h0)
  have sV : w.heap.size ≤ V.heap.size := by rw [← hV]; simp; omega
  have cV : Below w0.heap.size w0 V := by
    rw [← hV]; exact hb0.trans ((((Below.refl _ w).alloc (Nat.le_refl _) _).alloc (by simp) _).mono hb0.size)
  refine ⟨w.heap.size + 1, [{ target := .collected w.heap.size, args := #[] }], V, { target := .fn (.func gf) lb, args := #[.func (.yield (w.heap.size + 1)) #[] #[]] }, V, gf,
    #[.func (.yield (w.heap.size + 1)) #[] #[]] ++ lb, V, by rw [← hV, hR]; exact run_enterLoop_outer _ _ _ _ _, by simp only [resolve, hg]; simp [go_sem], ?_, by simp [invoke, go_sem, eg], fun _ => h1, ?_⟩
  · intro f' hf'; simp [Target.leads] at hf'; subst hf'; exact hFg
  have far : ∀ {A : World} {rw : Option Nat}, (∀ r, rw = some r → V.heap.size ≤ r ∧ ∃ o : Obj, A.heap[r]? = some o ∧ o.isWalk = true) → (∀ r, rw = some r → w.heap.size ≤ r ∧ ∃ o : Obj, A.heap[r]? = some o ∧ o.isCells = false) := by
    intro A rw hr r e
    obtain ⟨hB, o, ho, hw⟩ := hr r e
    exact ⟨Nat.le_trans sV hB, o, ho, Obj.not_cells_of_walk hw⟩
  refine (hseq (w.heap.size + 1) (fun pre W => I pre W ∧ Book w (R .ready none) W) (fun pre W => ∃ c, Ix c pre W ∧ Book w (R .done (some c)) W) V cV ?_ ?_ ?_ ⟨iV, bV⟩).mono ?_
  · rintro s A B row' ⟨i, b⟩ hg' hr
    exact ⟨hI s A B row' i hg' (far hr), (grownBy_keeps hg' (fun r e => (hr r e).2) b.1 rfl).trans b.1, (grownBy_keeps hg' (fun r e => (hr r e).2) b.2 rfl).trans b.2⟩
  · rintro s A B row' ⟨c, i, b⟩ hg' hr
    exact ⟨c, hIx c s A B row' i hg' (far hr), (grownBy_keeps hg' (fun r e => (hr r e).2) b.1 rfl).trans b.1, (grownBy_keeps hg' (fun r e => (hr r e).2) b.2 rfl).trans b.2⟩
  · rintro pre x W0 W ⟨i, bb⟩ hg0 hm
    have b : Book w (R .ready none) W := bb.grown hg0 (fun k e => by cases e)
    have l0 : w.heap.size + 1 < W0.heap.size := (Array.getElem?_eq_some_iff.1 bb.1).1
    have hy := run_yield (P := P) (args := encs x) b.1 (by rw [hR]; exact hps x)
    rw [hR] at hy
    refine ⟨fn, _, assign, body, hy, roundIn_of_wpIn hfn (wpIn_mono (hround _ pre x W0 W i hg0 hm) ?_)⟩
    rintro e a1 W1 hp
    cases e with
    | normal =>
      obtain ⟨hg1, hb1⟩ := hp
      have none0 : ∀ r, (none : Option Nat) = some r → w.heap.size ≤ r ∧ ∃ o : Obj, W.heap[r]? = some o ∧ o.isCells = false := fun r e => by cases e
      have b1 : Book w (R .ready none) W1 := b.grown hg1 (fun k e => by cases e)
      have u1 : Upd w.heap.size W1 (W1.putObj (w.heap.size + 1) (.loop { R .ready none with state := .busy })) := ⟨w.heap.size + 1, _, b1.1, rfl, by omega, grownBy_putObj' _ _ _⟩
      have b2 := b1.put { R .ready none with state := .busy }
      refine ⟨_, run_beginRound b1.1 (by rw [hR]), ?_⟩
      refine wpIn_mono (hb1 _ u1) ?_
      rintro e a3 W3 hp
      cases e with
      | normal =>
        obtain ⟨ko, kp, i3⟩ := hp
        have b3 := b2.keep ko
        have he := run_endRound (P := P) (none : Option Code) b3.1
        have b4 := b3.put (R .ready none)
        rw [hR] at he b4 b3
        refine ⟨_, _, he, .inl ⟨rfl, ⟨hI.putObj _ i3 (by omega) b3.1 rfl, ?_⟩, hKb _ _ _ _ _ _ (by omega) l0 b3.1 rfl kp⟩⟩
        rw [hR]
        exact b4
      | exit id =>
        obtain ⟨ko, i3⟩ := hp
        have b3 := b2.keep ko
        have he := run_endRound (P := P) (some (Code.exit id)) b3.1
        have b4 := b3.put (R .done (some (Code.exit id)))
        rw [hR] at he b4 b3
        refine ⟨_, _, he, .inr ⟨rfl, _, (hIx _).putObj _ i3 (by omega) b3.1 rfl, ?_⟩⟩
        rw [hR]
        exact b4
      | ret =>
        obtain ⟨ko, i3⟩ := hp
        have b3 := b2.keep ko
        have he := run_endRound (P := P) (some (Code.ret)) b3.1
        have b4 := b3.put (R .done (some (Code.ret)))
        rw [hR] at he b4 b3
        refine ⟨_, _, he, .inr ⟨rfl, _, (hIx _).putObj _ i3 (by omega) b3.1 rfl, ?_⟩⟩
        rw [hR]
        exact b4
      | goto t => exact hp.elim
      | panic ch => exact hp.elim
      | outgrown => exact hp.elim
    | ret => exact hp.elim
    | exit id => exact hp.elim
    | goto t => exact hp.elim
    | panic ch => exact hp.elim
    | outgrown => exact hp.elim
  · rintro e W2 ⟨⟨v, rfl⟩, (⟨xs, hS, i, b⟩ | ⟨pre, hSp, c, i, b⟩)⟩
    · have he := run_endLoop (P := P) b.1 (by rw [hR]; simp)
      rw [hR] at he
      exact ⟨none, _, he, hdone _ xs _ (Nat.le_refl _) hS (hI.putObj _ i (by omega) b.1 rfl) ((World.putObj_heap_other (by omega)).trans b.2)⟩
    · have he := run_endLoop (P := P) b.1 (by rw [hR]; simp)
      rw [hR] at he
      exact ⟨some c, _, he, hstop _ c pre _ (Nat.le_refl _) hSp ((hIx c).putObj _ i (by omega) b.1 rfl) ((World.putObj_heap_other (by omega)).trans b.2)⟩
end
end Go.Proofs.Ytndfcecimckioaa
