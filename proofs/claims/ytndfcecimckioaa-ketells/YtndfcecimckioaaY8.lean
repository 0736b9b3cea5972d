/- A range over a function whose iterator tells its body more than what it hands out; the body may be left by an exit. -/
import Derived.RangeFuncFrom
import Derived.RangeFuncNested
import Derived.RangeFuncBound
import Derived.RangeFuncCalls
import Derived.RangeFuncLeaves
import Derived.RangeFuncBox
import Derived.Shelf.Abstract
import Derived.Shelf.RegionOpen
import Derived.WalkKit
import Derived.OwnWalkIn
import Derived.TacticsInMore
import Derived.LoopNIn
import Derived.LoopIn
import Derived.Test.YtndfcecimckioaaB3
set_option linter.all false
namespace Go.Proofs.Ytndfcecimckioaa
open Go.RowKit Go.Shelf Go.Sort
section
variable {F : Fence} {n : Nat} {P : Program}
def SeqM {α : Type} (F : Fence) (n : Nat) (P : Program) (g : Nat) (lb : Array Value) (encs : α → Array Value) (Kp : World → World → Prop) (Mk : List α → α → World → Prop) (Bd S Sp : List α → Prop) (row : Option Nat) (Ed : World → Prop) (w : World) : Prop :=
  ∀ (l : Nat) (J Jx : List α → World → Prop) (W : World), Below w.heap.size w W → AbidesFrom W.heap.size J → AbidesFrom W.heap.size Jx → (∀ s A B, J s A → A.grownBy B row → J s B) → (∀ s A, J s A → Bd s) →
    (∀ pre x A, J pre A → Mk pre x A → YieldAt F (n - 1) P l (encs x) A fun e A' => (e = .returned (.bool true) ∧ J (pre ++ [x]) A' ∧ Kp A A') ∨ (e = .returned (.bool false) ∧ Jx (pre ++ [x]) A')) →
    J [] W → CallsIn F n P g (#[.func (.yield l) #[] #[]] ++ lb) W fun e A' => (∃ v, e = .returned v) ∧ ((∃ xs, S xs ∧ J xs A' ∧ Ed A') ∨ (∃ pre, Sp pre ∧ Jx pre A'))
/-- How a round may end. -/
def EndM {α : Type} (Kp : World → World → Prop) (I : List α → World → Prop) (Ix : Code → List α → World → Prop) (xs : List α) (W : World) : Exit → Act → World → Prop
  | .normal, _, W' => KeepsOthers W W' ∧ Kp W W' ∧ I xs W'
  | .exit id, _, W' => KeepsOthers W W' ∧ Ix (.exit id) xs W'
  | .ret, _, W' => KeepsOthers W W' ∧ Ix .ret xs W'
  | _, _, _ => False
theorem Book.grown {w A B : World} {r : Loop} {row : Option Nat} (h : Book w r A) (hg : A.grownBy B row) (hr : ∀ k, row = some k → k < w.heap.size) : Book w r B :=
  ⟨(hg.block _ (Array.getElem?_eq_some_iff.1 h.1).1 (fun e => by have := hr _ e.symm; omega)).trans h.1, (hg.block _ (Array.getElem?_eq_some_iff.1 h.2).1 (fun e => by have := hr _ e.symm; omega)).trans h.2⟩
/-- One block that is no cells, of the loop's own, is turned. -/
def Upd (B : Nat) (W W' : World) : Prop := ∃ l o, W.heap[l]? = some o ∧ o.isCells = false ∧ B ≤ l ∧ W.grownBy W' (some l)
theorem Upd.own {β : Type} {B : Nat} {I : β → World → Prop} (hI : OwnFrom B I) {s : β} {W W' : World} (h : Upd B W W') (hi : I s W) : I s W' := by
  obtain ⟨l, o, h1, h2, h3, h4⟩ := h
  exact hI s W W' (some l) hi h4 (fun r e => by cases e; exact ⟨h3, o, h1, h2⟩)
theorem Upd.arr {B : Nat} {W W' : World} (h : Upd B W W') {b n : Nat} {f : Nat → Value} (hA : Arr W b n f) : Arr W' b n f := by
  obtain ⟨l, o, h1, h2, h3, h4⟩ := h
  exact arr_kept hA h4 (fun r e => by cases e; exact ⟨o, h1, h2⟩)
theorem wpIn_rangeFunc_made {α : Type} {g : Operand} {ps : Array Tmp} {assign body : Code} {Q : Exit → Act → World → Prop} {a : Act} {w : World}
    (hro : F.round = none) (h1 : 1 ≤ n) {gf : Nat} {lb : Array Value} (hg : a.eval g = .func (.func gf) #[] lb) (hFg : F.fn gf) (eg : ∀ args w, (callFunc gf args).run P w = .ok (.enter gf args) w)
    {encs : α → Array Value} {Kp : World → World → Prop} {Mk : List α → α → World → Prop} {Bd S Sp : List α → Prop} {row : Option Nat} {Ed : World → Prop} {w0 : World} (hseq : SeqM F (n - 1) P gf lb encs Kp Mk Bd S Sp row Ed w0)
    (hKt : ∀ {A B C : World}, Kp A B → Kp B C → Kp A C) (hKb : ∀ (W : World) (l : Nat) (o o' : Obj), w.heap.size ≤ l → W.heap[l]? = some o → o.isCells = false → Kp W (W.putObj l o')) (hKg : ∀ A B : World, A.grownBy B none → Kp A B) (hb0 : Below w0.heap.size w0 w) (hps : ∀ x, (encs x).size = ps.size)
    (hrow : ∀ k, row = some k → k < w.heap.size) (hMk : OwnFrom w.heap.size (fun (s : List α × α) W => Mk s.1 s.2 W)) (hEd : OwnFrom w.heap.size (fun (_ : Unit) W => Ed W))
    (I : List α → World → Prop) (Ix : Code → List α → World → Prop) (hI : OwnFrom w.heap.size I) (hIx : ∀ c, OwnFrom w.heap.size (Ix c)) (hIg : ∀ s A B, I s A → A.grownBy B row → I s B) (hBd : ∀ s A, I s A → Bd s) (h0 : I [] w)
    (hround : ∀ (l : Nat) (pre : List α) (x : α) (W : World), I pre W → Mk pre x W →
      assign.wpIn (F.inRound l) (n - 1 - 1) P (Exit.then (fun a₁ W₁ => W.grownBy W₁ none ∧ ∀ W₂, Upd w.heap.size W₁ W₂ → I pre W₂ → Mk pre x W₂ → body.wpIn (F.inRound l) (n - 1 - 1) P (EndM Kp I Ix (pre ++ [x]) W₂) a₁ W₂) (fun _ _ _ => False))
        { tmps := (ps.zip (encs x)).foldl (fun t (p, v) => t.setIfInBounds p v) a.tmps, defers := [] } W)
    (hdone : ∀ (D : Nat) (xs : List α) (W : World), w.heap.size ≤ D → S xs → I xs W → Ed W → W.heap[D]? = some (.deferred (some [])) → Q .normal { a with defers := { target := .collected D, args := #[] } :: a.defers } W)
    (hstop : ∀ (D : Nat) (c : Code) (pre : List α) (W : World), w.heap.size ≤ D → Sp pre → Ix c pre W → W.heap[D]? = some (.deferred (some [])) → c.wpIn F n P Q { a with defers := { target := .collected D, args := #[] } :: a.defers } W) :
    (Code.rangeFunc g ps assign body).wpIn F n P Q a w := by
  refine wpIn_rangeFunc fun fn hfn => ?_
  rw [hro]
  obtain ⟨R, hR⟩ : ∃ R : LoopState → Option Code → Loop, R = fun st pe => { state := st, pending := pe, fn, tmps := a.tmps, params := ps, assign, body, defers := w.heap.size } := ⟨_, rfl⟩
  obtain ⟨V, hV⟩ : ∃ V, (w.alloc (.deferred (some []))).alloc (.loop (R .ready none)) = V := ⟨_, rfl⟩
  have bV : Book w (R .ready none) V := by
    rw [← hV]
    refine ⟨?_, (Below.heap_alloc _ _ _ (by simp)).trans (World.alloc_heap_new w _)⟩
    have := World.alloc_heap_new (w.alloc (.deferred (some []))) (.loop (R .ready none))
    rwa [World.size_alloc] at this
  have iV : I [] V := by rw [← hV]; exact hI.alloc _ (hI.alloc _ h0)
  have sV : w.heap.size ≤ V.heap.size := by rw [← hV]; simp; omega
  have cV : Below w0.heap.size w0 V := by
    rw [← hV]; exact hb0.trans ((((Below.refl _ w).alloc (Nat.le_refl _) _).alloc (by simp) _).mono hb0.size)
  refine ⟨w.heap.size + 1, [{ target := .collected w.heap.size, args := #[] }], V, { target := .fn (.func gf) lb, args := #[.func (.yield (w.heap.size + 1)) #[] #[]] }, V, gf,
    #[.func (.yield (w.heap.size + 1)) #[] #[]] ++ lb, V, by rw [← hV, hR]; exact run_enterLoop_outer _ _ _ _ _, by simp only [resolve, hg]; simp [go_sem], ?_, by simp [invoke, go_sem, eg], fun _ => h1, ?_⟩
  · intro f' hf'; simp [Target.leads] at hf'; subst hf'; exact hFg
  have far : ∀ {A : World} {rw : Option Nat}, (∀ r, rw = some r → V.heap.size ≤ r ∧ ∃ o : Obj, A.heap[r]? = some o ∧ o.isWalk = true) → (∀ r, rw = some r → w.heap.size ≤ r ∧ ∃ o : Obj, A.heap[r]? = some o ∧ o.isCells = false) := by
    intro A rw hr r e
    obtain ⟨hB, o, ho, hw⟩ := hr r e
    exact ⟨Nat.le_trans sV hB, o, ho, Obj.not_cells_of_walk hw⟩
  refine (hseq (w.heap.size + 1) (fun pre W => I pre W ∧ Book w (R .ready none) W) (fun pre W => ∃ c, Ix c pre W ∧ Book w (R .done (some c)) W) V cV ?_ ?_ ?_ (fun s A h => hBd s A h.1) ?_ ⟨iV, bV⟩).mono ?_
  · rintro s A B row' ⟨i, b⟩ hg' hr
    exact ⟨hI s A B row' i hg' (far hr), (grownBy_keeps hg' (fun r e => (hr r e).2) b.1 rfl).trans b.1, (grownBy_keeps hg' (fun r e => (hr r e).2) b.2 rfl).trans b.2⟩
  · rintro s A B row' ⟨c, i, b⟩ hg' hr
    exact ⟨c, hIx c s A B row' i hg' (far hr), (grownBy_keeps hg' (fun r e => (hr r e).2) b.1 rfl).trans b.1, (grownBy_keeps hg' (fun r e => (hr r e).2) b.2 rfl).trans b.2⟩
  · rintro s A B ⟨i, b⟩ hg'
    exact ⟨hIg s A B i hg', b.grown hg' hrow⟩
  · rintro pre x W ⟨i, b⟩ hm
    have hy := run_yield (P := P) (args := encs x) b.1 (by rw [hR]; exact hps x)
    rw [hR] at hy
    refine ⟨fn, _, assign, body, hy, roundIn_of_wpIn hfn (wpIn_mono (hround _ pre x W i hm) ?_)⟩
    rintro e a1 W1 hp
    cases e with
    | normal =>
      obtain ⟨hg1, hb1⟩ := hp
      have none0 : ∀ r, (none : Option Nat) = some r → w.heap.size ≤ r ∧ ∃ o : Obj, W.heap[r]? = some o ∧ o.isCells = false := fun r e => by cases e
      have b1 : Book w (R .ready none) W1 := b.grown hg1 (fun k e => by cases e)
      have i1 := hI pre W W1 none i hg1 none0
      have m1 := hMk (pre, x) W W1 none hm hg1 none0
      have u1 : Upd w.heap.size W1 (W1.putObj (w.heap.size + 1) (.loop { R .ready none with state := .busy })) := ⟨w.heap.size + 1, _, b1.1, rfl, by omega, grownBy_putObj' _ _ _⟩
      have b2 := b1.put { R .ready none with state := .busy }
      refine ⟨_, run_beginRound b1.1 (by rw [hR]), ?_⟩
      have k2 : Kp W (W1.putObj (w.heap.size + 1) (.loop { R .ready none with state := .busy })) := hKt (hKg _ _ hg1) (hKb W1 (w.heap.size + 1) _ _ (by omega) b1.1 rfl)
      refine wpIn_mono (hb1 _ u1 (u1.own hI i1) (u1.own (s := (pre, x)) hMk m1)) ?_
      rintro e a3 W3 hp
      cases e with
      | normal =>
        obtain ⟨ko, kp, i3⟩ := hp
        have b3 := b2.keep ko
        have he := run_endRound (P := P) (none : Option Code) b3.1
        have b4 := b3.put (R .ready none)
        rw [hR] at he b4 b3
        refine ⟨_, _, he, .inl ⟨rfl, ⟨hI.putObj _ i3 (by omega) b3.1 rfl, ?_⟩, hKt (hKt (by rw [hR] at k2; exact k2) (by rw [hR] at kp; exact kp)) (hKb _ _ _ _ (by omega) b3.1 rfl)⟩⟩
        rw [hR]
        exact b4
      | exit id =>
        obtain ⟨ko, i3⟩ := hp
        have b3 := b2.keep ko
        have he := run_endRound (P := P) (some (Code.exit id)) b3.1
        have b4 := b3.put (R .done (some (Code.exit id)))
        rw [hR] at he b4 b3
        refine ⟨_, _, he, .inr ⟨rfl, _, (hIx _).putObj _ i3 (by omega) b3.1 rfl, ?_⟩⟩
        rw [hR]
        exact b4
      | ret =>
        obtain ⟨ko, i3⟩ := hp
        have b3 := b2.keep ko
        have he := run_endRound (P := P) (some (Code.ret)) b3.1
        have b4 := b3.put (R .done (some (Code.ret)))
        rw [hR] at he b4 b3
        refine ⟨_, _, he, .inr ⟨rfl, _, (hIx _).putObj _ i3 (by omega) b3.1 rfl, ?_⟩⟩
        rw [hR]
        exact b4
      | goto t => exact hp.elim
      | panic ch => exact hp.elim
      | outgrown => exact hp.elim
    | ret => exact hp.elim
    | exit id => exact hp.elim
    | goto t => exact hp.elim
    | panic ch => exact hp.elim
    | outgrown => exact hp.elim
  · rintro e W2 ⟨⟨v, rfl⟩, (⟨xs, hS, ⟨i, b⟩, ed⟩ | ⟨pre, hSp, c, i, b⟩)⟩
    · have he := run_endLoop (P := P) b.1 (by rw [hR]; simp)
      rw [hR] at he
      exact ⟨none, _, he, hdone _ xs _ (Nat.le_refl _) hS (hI.putObj _ i (by omega) b.1 rfl) (hEd.putObj (s := ()) _ ed (by omega) b.1 rfl) ((World.putObj_heap_other (by omega)).trans b.2)⟩
    · have he := run_endLoop (P := P) b.1 (by rw [hR]; simp)
      rw [hR] at he
      exact ⟨some c, _, he, hstop _ c pre _ (Nat.le_refl _) hSp ((hIx c).putObj _ i (by omega) b.1 rfl) ((World.putObj_heap_other (by omega)).trans b.2)⟩
end
end Go.Proofs.Ytndfcecimckioaa
