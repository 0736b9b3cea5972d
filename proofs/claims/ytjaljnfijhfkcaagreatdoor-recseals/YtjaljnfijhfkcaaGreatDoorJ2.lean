/- Texts joined: B1, B2, Z8, B3, E1, E2, P1. -/
import Derived.WalkKit
import Derived.WalkSpells
import Derived.WalkLawsBesides
import Derived.Handy
import Derived.Laws.Externs
import Derived.Deep.MidRow
import Derived.Deep.Cut
import Derived.Deep.RegionLaw
import Derived.Laws.BytesString
import Derived.Laws.MakeOwn
import Derived.RangeFuncFrom
import Derived.RangeFuncNested
import Derived.RangeFuncBound
import Derived.RangeFuncCalls
import Derived.RangeFuncLeaves
import Derived.Shelf.Abstract
import Derived.Shelf.RegionOpen
import Derived.OwnWalkIn
import Derived.TacticsInMore
import Derived.LoopNIn
import Derived.LoopIn
import Derived.Lib.AppendStr
import Derived.RangeFuncBox
import Derived.Shelf.Strings.Builder1
import Derived.Shelf.Strings.Builder2
import Derived.Shelf.Strings.Trim
import Derived.Shelf.Small.Strs
import Derived.Shelf.Strings.Search1
import Derived.Shelf.Strings.Prefix
import Derived.Shelf.Strings.Runes
import Derived.Shelf.Strings.AsciiSet
import Derived.Shelf.Bits.Mul64
import Derived.Shelf.Strings.Repeat
import Derived.Shelf.Unicode.DecodeSlow
import Derived.Test.YtjaljnfijhfkcaaGreatDoorRows
import Derived.Test.YtjaljnfijhfkcaaGreatDoorJ1
/- Arrays of the call's own, in worlds that are letters: what lies in a block, and what of it stays behind calls, stores and new blocks. -/
set_option linter.all false
namespace Go.Proofs.YtjaljnfijhfkcaaGreatDoor
open Go.RowKit
/-- The first n cells of block b hold f and may be written. -/
def Arr (w : World) (b n : Nat) (f : Nat → Value) : Prop := ∀ j, j < n → w.cell? ⟨b, j, none⟩ = some (f j) ∧ w.frozen? ⟨b, j, none⟩ = false
theorem Arr.c {w : World} {b n : Nat} {f : Nat → Value} (h : Arr w b n f) (j : Nat) (hj : j < n) : w.cell? ⟨b, j, none⟩ = some (f j) := (h j hj).1
theorem Arr.z {w : World} {b n : Nat} {f : Nat → Value} (h : Arr w b n f) (j : Nat) (hj : j < n) : w.frozen? ⟨b, j, none⟩ = false := (h j hj).2
theorem Arr.below {w w' : World} {b n B : Nat} {f : Nat → Value} (h : Arr w b n f) (hb : Below B w w') (hlt : b < B) : Arr w' b n f := fun j hj =>
  ⟨(hb.cell (p := ⟨b, j, none⟩) hlt).trans (h j hj).1, (hb.frozen (p := ⟨b, j, none⟩) hlt).trans (h j hj).2⟩
theorem Arr.set {w : World} {b n : Nat} {f : Nat → Value} (h : Arr w b n f) (k : Nat) (hk : k < n) (v : Value) : Arr (w.setCell ⟨b, k, none⟩ v) b n (fun j => if j = k then v else f j) := fun j hj => by
  refine ⟨?_, by rw [World.frozen?_setCell]; exact (h j hj).2⟩
  by_cases e : j = k
  · subst e; show _ = some (if j = j then v else f j); rw [if_pos rfl]; exact World.cell?_setCell_same _ _ _ (h j hj).1
  · show _ = some (if j = k then v else f j); rw [if_neg e, World.cell?_setCell_other _ _ _ _ (by intro hh; injection hh with _ h2; exact e h2.symm)]; exact (h j hj).1
theorem Arr.other {w : World} {b n : Nat} {f : Nat → Value} (h : Arr w b n f) {b' k : Nat} (hne : b' ≠ b) (v : Value) : Arr (w.setCell ⟨b', k, none⟩ v) b n f := fun j hj =>
  ⟨by rw [World.cell?_setCell_other _ _ _ _ (by intro hh; injection hh with h1 _; exact hne h1)]; exact (h j hj).1, by rw [World.frozen?_setCell]; exact (h j hj).2⟩
theorem Arr.alloc {w : World} {b n : Nat} {f : Nat → Value} (h : Arr w b n f) (hlt : b < w.heap.size) (o : Obj) : Arr (w.alloc o) b n f := fun j hj =>
  ⟨(World.cell?_alloc_past (w := w) o b j hlt).trans (h j hj).1, (World.frozen?_alloc_past (w := w) o b j hlt).trans (h j hj).2⟩
theorem Arr.drew {w : World} {b n : Nat} {f : Nat → Value} (h : Arr w b n f) : Arr w.drew b n f := h
theorem Arr.new (w : World) (c : Array Value) (T : TypeId) (b : Nat) (hb : b = w.heap.size) (f : Nat → Value) (n : Nat) (hf : ∀ j, j < n → c[j]? = some (f j)) : Arr (w.alloc (.cells c T)) b n f := fun j hj =>
  ⟨(World.cell?_alloc_at (w := w) c T b j hb).trans (hf j hj), World.frozen?_alloc_at (w := w) c T b j hb⟩
theorem Arr.congr {w : World} {b n : Nat} {f g : Nat → Value} (h : Arr w b n f) (e : ∀ j, j < n → f j = g j) : Arr w b n g := fun j hj => ⟨(h j hj).1.trans (by rw [e j hj]), (h j hj).2⟩
theorem size_set (w : World) (a : Addr) (v : Value) : (w.setCell a v).heap.size = w.heap.size := by simp [World.setCell]
end Go.Proofs.YtjaljnfijhfkcaaGreatDoor
/- More on arrays of the call's own; rows of cells; texts as lists of bytes. -/
set_option linter.all false
namespace Go.Proofs.YtjaljnfijhfkcaaGreatDoor
open Go.RowKit Go.Sort
theorem Arr.lt {w : World} {b n : Nat} {f : Nat → Value} (h : Arr w b (n + 1) f) : b < w.heap.size := block_lt_of_cell (h 0 (by omega)).1
theorem Arr.to' {w w' : World} {b n : Nat} {f : Nat → Value} (h : Arr w b (n + 1) f) (hb : Below w.heap.size w w') : Arr w' b (n + 1) f := h.below hb h.lt
theorem Arr.al' {w : World} {b n : Nat} {f : Nat → Value} (h : Arr w b (n + 1) f) (o : Obj) : Arr (w.alloc o) b (n + 1) f := h.alloc h.lt o
theorem Bel.call {w W w' : World} (h : Below w.heap.size w W) (hb : Below W.heap.size W w') : Below w.heap.size w w' := h.trans (hb.mono h.size)
theorem Bel.al {w W : World} (h : Below w.heap.size w W) (o : Obj) : Below w.heap.size w (W.alloc o) := h.alloc h.size o
theorem Bel.st {w W : World} (h : Below w.heap.size w W) {b k : Nat} (hle : w.heap.size ≤ b) (v : Value) : Below w.heap.size w (W.setCell ⟨b, k, none⟩ v) := h.setCell (p := ⟨b, k, none⟩) hle v
theorem below_of {w w' : World} {d : Nat} {os : Array Obj} (h : w' = grow (redrawn w d) os) : Below w.heap.size w w' := by rw [h]; exact below_regrown _ _ _
theorem Arr.cv {w : World} {b n : Nat} {f : Nat → Value} (h : Arr w b n f) (j : Nat) (hj : j < n) (v : Value) (hv : f j = v) : w.cell? ⟨b, j, none⟩ = some v := by rw [← hv]; exact h.c j hj
theorem Arr.range {w : World} {b n : Nat} {f : Nat → Value} (h : Arr w b n f) (cs : List Value) (hl : cs.length = n) (hc : ∀ j, j < n → cs[j]? = some (f j)) : w.rangeAt b 0 cs := fun j v hv => by
  have hj : j < n := by rw [← hl]; exact (List.getElem?_eq_some_iff.1 hv).1
  rw [Nat.zero_add, (h j hj).1, ← hc j hj]; exact hv
theorem Arr.there {w : World} {b n : Nat} {f : Nat → Value} (h : Arr w b n f) : w.there b 0 n := fun j hj => by
  rw [Nat.zero_add]
  exact ⟨by rw [(h j hj).1]; rfl, (h j hj).2⟩
theorem Arr.of_range {w : World} {b n : Nat} {f : Nat → Value} {cs : List Value} (h : w.rangeAt b 0 cs) (hc : ∀ j, j < n → cs[j]? = some (f j)) (z : ∀ j, j < n → w.frozen? ⟨b, j, none⟩ = false) : Arr w b n f := fun j hj => by
  have := h j _ (hc j hj)
  rw [Nat.zero_add] at this
  exact ⟨this, z j hj⟩
theorem below_setCells {B : Nat} {a w : World} (h : Below B a w) {b : Nat} (hb : B ≤ b) : ∀ (vs : List Value) (o : Nat), Below B a (w.setCells b o vs) := by
  intro vs
  induction vs generalizing w with
  | nil => intro o; exact h
  | cons v r ih => intro o; rw [World.setCells]; exact ih (h.setCell hb _) (o + 1)
theorem results_cell1 {P : Program} {fn : Func} {p : Tmp} {ty : TypeId} {a : Addr} {v : Value} {w : World} (h : fn.results = #[.cell p ty]) (tmps : Array Value) (hp : tmps.getD p undef = .pointer (some a)) (hl : (loadVar ty a).run P w = .ok v w) :
    (results fn tmps).run P w = .ok v w := by
  have hp' : tmps[p]?.getD undef = .pointer (some a) := by simpa using hp
  simp only [results, h]
  simp [Sem.run_bind, hp', asAddr, hl]
/-- The i-th byte of a text. -/
def bt (s : ByteArray) (i : Nat) : Int := (s.data[i]?.getD 0).toNat
theorem bt_bd (s : ByteArray) (i : Nat) : 0 ≤ bt s i ∧ bt s i < 256 := by unfold bt; have := (s.data[i]?.getD 0).toNat_lt; omega
theorem idxS (s : ByteArray) (k : Nat) (hk : k < s.size) (W : World) : (Instr.index 9 (.string s) (.int .i64 (k : Int))).run Tryz.prog W = .ok (.int .u8 (bt s k)) W := by
  have h0 : (0 : Int) ≤ (k : Int) ∧ (k : Int) < (s.size : Int) := by omega
  have e : s.data[k]? = some (s.data[k]'hk) := Array.getElem?_eq_getElem hk
  unfold bt
  rw [e]
  simp [Instr.index, asIntOf, Sem.run_bind, Sem.run_pure, Result.andThen_ok, run_underlying Tryz.underlying9, h0, go_sem]
  rw [getElem?_pos s k hk]
  rfl
def mkS (ns : List Int) : ByteArray := ns.foldl (fun r n => r.push (UInt8.ofNat n.toNat)) ByteArray.empty
theorem mkS_data (ns : List Int) : ∀ r : ByteArray, (ns.foldl (fun r n => r.push (UInt8.ofNat n.toNat)) r).data.toList = r.data.toList ++ ns.map (fun n => UInt8.ofNat n.toNat) := by
  induction ns with
  | nil => intro r; simp
  | cons n l ih => intro r; rw [List.foldl_cons, ih]; simp
theorem mkS_list (ns : List Int) : (mkS ns).data.toList = ns.map (fun n => UInt8.ofNat n.toNat) := by
  rw [mkS, mkS_data]; rfl
theorem mkS_size (ns : List Int) : (mkS ns).size = ns.length := by
  have := congrArg List.length (mkS_list ns)
  simpa using this
theorem mkS_bt (ns : List Int) (i : Nat) (n : Int) (hi : ns[i]? = some n) (h0 : 0 ≤ n) (h1 : n < 256) : bt (mkS ns) i = n := by
  unfold bt
  have e : (mkS ns).data[i]? = (ns.map (fun n => UInt8.ofNat n.toNat))[i]? := by rw [← mkS_list, Array.getElem?_toList]
  rw [e, List.getElem?_map, hi]
  show ((UInt8.ofNat n.toNat).toNat : Int) = n
  rw [UInt8.toNat_ofNat']
  omega
/-- Texts are their bytes. -/
theorem ba_ext {s t : ByteArray} (h : s.data.toList = t.data.toList) : s = t := by
  apply ByteArray.ext
  exact Array.ext' h
end Go.Proofs.YtjaljnfijhfkcaaGreatDoor
/- A range over a function whose closure keeps a variable of its own in a cell, and whose body is never left. -/
set_option linter.all false
namespace Go.Proofs.YtjaljnfijhfkcaaGreatDoor
open Go.RowKit Go.Shelf
variable {F : Fence} {n : Nat} {P : Program}
/-- What an iterator does that writes the cell of block Bs: whatever the rounds keep abides new blocks and stores into that cell. -/
def SeqC {α : Type} (F : Fence) (n : Nat) (P : Program) (g : Nat) (lb : Array Value) (encs : α → Array Value) (Kp : World → World → Prop) (S : List α → Prop) (N Bs : Nat) (w : World) : Prop :=
  ∀ (l : Nat) (J : List α → World → Prop) (W : World), Below w.heap.size w W → AbidesFrom W.heap.size J → (∀ s A v, J s A → J s (A.setCell ⟨Bs, 0, none⟩ v)) →
    (∀ pre x A, J pre A → pre.length < N → YieldAt F (n - 1) P l (encs x) A fun e A' => e = .returned (.bool true) ∧ J (pre ++ [x]) A' ∧ Kp A A') →
    J [] W → CallsIn F n P g (#[.func (.yield l) #[] #[]] ++ lb) W fun e A' => (∃ v, e = .returned v) ∧ ∃ xs, S xs ∧ J xs A'
/-- The loop's record, and the block for what the rounds put off, lie as they should. -/
def Book (w : World) (r : Loop) (A : World) : Prop := A.heap[w.heap.size + 1]? = some (.loop r) ∧ A.heap[w.heap.size]? = some (.deferred (some []))
theorem Book.keep {w A B : World} {r : Loop} (h : Book w r A) (k : KeepsOthers A B) : Book w r B := ⟨k.same _ _ h.1 rfl, k.same _ _ h.2 rfl⟩
theorem Book.put {w A : World} {r : Loop} (h : Book w r A) (r' : Loop) : Book w r' (A.putObj (w.heap.size + 1) (.loop r')) :=
  ⟨World.putObj_heap_same (Array.getElem?_eq_some_iff.1 h.1).1, (World.putObj_heap_other (by omega)).trans h.2⟩
theorem wpIn_rangeFunc_cell {α : Type} {g : Operand} {ps : Array Tmp} {assign body : Code} {Q : Exit → Act → World → Prop} {a : Act} {w : World}
    (hro : F.round = none) (h1 : 1 ≤ n) {gf : Nat} {lb : Array Value} (hg : a.eval g = .func (.func gf) #[] lb) (hFg : F.fn gf) (eg : ∀ args w, (callFunc gf args).run P w = .ok (.enter gf args) w)
    {encs : α → Array Value} {Kp : World → World → Prop} {S : List α → Prop} {N Bs : Nat} {w0 : World} (hseq : SeqC F (n - 1) P gf lb encs Kp S N Bs w0)
    (hKt : ∀ {A B C : World}, Kp A B → Kp B C → Kp A C) (hKb : ∀ (W : World) (l : Nat) (o o' : Obj), w.heap.size ≤ l → W.heap[l]? = some o → o.isCells = false → Kp W (W.putObj l o')) (hb0 : Below w0.heap.size w0 w) (hps : ∀ x, (encs x).size = ps.size)
    (I : List α → World → Prop) (hI : OwnFrom w.heap.size I) (hIc : ∀ s A v, I s A → I s (A.setCell ⟨Bs, 0, none⟩ v)) (h0 : I [] w) (a₁ : α → Act)
    (hassign : ∀ (l : Nat) (x : α) (W : World) (K : Act → World → Prop), K (a₁ x) W →
      assign.wpIn (F.inRound l) (n - 1 - 1) P (Exit.then K (fun _ _ _ => False)) { tmps := (ps.zip (encs x)).foldl (fun t (p, v) => t.setIfInBounds p v) a.tmps, defers := [] } W)
    (hbody : ∀ (l : Nat) (pre : List α) (x : α) (W : World), I pre W → pre.length < N → body.wpIn (F.inRound l) (n - 1 - 1) P (Exit.then (fun _ W' => KeepsOthers W W' ∧ Kp W W' ∧ I (pre ++ [x]) W') (fun _ _ _ => False)) (a₁ x) W)
    (hdone : ∀ (D : Nat) (xs : List α) (W : World), w.heap.size ≤ D → S xs → I xs W → W.heap[D]? = some (.deferred (some [])) → Q .normal { a with defers := { target := .collected D, args := #[] } :: a.defers } W) :
    (Code.rangeFunc g ps assign body).wpIn F n P Q a w := by
  refine wpIn_rangeFunc fun fn hfn => ?_
  rw [hro]
  obtain ⟨R, hR⟩ : ∃ R : LoopState → Loop, R = fun st => { state := st, pending := none, fn, tmps := a.tmps, params := ps, assign, body, defers := w.heap.size } := ⟨_, rfl⟩
  obtain ⟨V, hV⟩ : ∃ V, (w.alloc (.deferred (some []))).alloc (.loop (R .ready)) = V := ⟨_, rfl⟩
  have bV : Book w (R .ready) V := by
    rw [← hV]
    refine ⟨?_, (Below.heap_alloc _ _ _ (by simp)).trans (World.alloc_heap_new w _)⟩
    have := World.alloc_heap_new (w.alloc (.deferred (some []))) (.loop (R .ready))
    rwa [World.size_alloc] at this
  have iV : I [] V := by rw [← hV]; exact hI.alloc _ (hI.alloc _ h0)
  have sV : w.heap.size ≤ V.heap.size := by rw [← hV]; simp; omega
  have cV : Below w0.heap.size w0 V := by
    rw [← hV]; exact hb0.trans ((((Below.refl _ w).alloc (Nat.le_refl _) _).alloc (by simp) _).mono hb0.size)
  refine ⟨w.heap.size + 1, [{ target := .collected w.heap.size, args := #[] }], V, { target := .fn (.func gf) lb, args := #[.func (.yield (w.heap.size + 1)) #[] #[]] }, V, gf,
    #[.func (.yield (w.heap.size + 1)) #[] #[]] ++ lb, V, by rw [← hV, hR]; exact run_enterLoop_outer _ _ _ _ _, by simp only [resolve, hg]; simp [go_sem], ?_, by simp [invoke, go_sem, eg], fun _ => h1, ?_⟩
  · intro f' hf'; simp [Target.leads] at hf'; subst hf'; exact hFg
  refine (hseq (w.heap.size + 1) (fun pre W => I pre W ∧ Book w (R .ready) W) V cV ?_ ?_ ?_ ⟨iV, bV⟩).mono ?_
  · rintro s A B row ⟨i, b⟩ hg' hr
    refine ⟨hI s A B row i hg' (fun r e => ?_), (grownBy_keeps hg' (fun r e => (hr r e).2) b.1 rfl).trans b.1, (grownBy_keeps hg' (fun r e => (hr r e).2) b.2 rfl).trans b.2⟩
    obtain ⟨hB, o, ho, hw⟩ := hr r e
    exact ⟨Nat.le_trans sV hB, o, ho, Obj.not_cells_of_walk hw⟩
  · rintro s A v ⟨i, b⟩
    exact ⟨hIc s A v i, b.keep (KeepsOthers.setCell _ _ _)⟩
  · rintro pre x W ⟨i, b⟩ hlen
    have hy := run_yield (P := P) (args := encs x) b.1 (by rw [hR]; exact hps x)
    rw [hR] at hy
    refine ⟨fn, _, assign, body, hy, roundIn_of_wpIn hfn (hassign _ x W _ ⟨_, run_beginRound b.1 (by rw [hR]), ?_⟩)⟩
    have b2 := b.put { R .ready with state := .busy }
    have k2 := hKb W (w.heap.size + 1) _ (.loop { R .ready with state := .busy }) (by omega) b.1 rfl
    refine wpIn_mono (hbody _ pre x _ (hI.putObj _ i (by omega) b.1 rfl) hlen) ?_
    rintro e a3 W3 hp
    cases e with
    | normal =>
      obtain ⟨ko, kp, i3⟩ := hp
      have b3 := b2.keep ko
      have he := run_endRound (P := P) (none : Option Code) b3.1
      have b4 := b3.put (R .ready)
      rw [hR] at he b4 b3
      rw [hR]
      exact ⟨_, _, he, rfl, ⟨hI.putObj _ i3 (by omega) b3.1 rfl, b4⟩, hKt (hKt (by rw [hR] at k2; exact k2) (by rw [hR] at kp; exact kp)) (hKb _ _ _ _ (by omega) b3.1 rfl)⟩
    | ret => exact hp.elim
    | exit id => exact hp.elim
    | goto t => exact hp.elim
    | panic ch => exact hp.elim
    | outgrown => exact hp.elim
  · rintro e W2 ⟨⟨v, rfl⟩, xs, hS, i, b⟩
    have he := run_endLoop (P := P) b.1 (by rw [hR]; simp)
    rw [hR] at he
    exact ⟨none, _, he, hdone _ xs _ (Nat.le_refl _) hS (hI.putObj _ i (by omega) b.1 rfl) ((World.putObj_heap_other (by omega)).trans b.2)⟩
end Go.Proofs.YtjaljnfijhfkcaaGreatDoor
/- Generic: rows of bytes, texts as lists, what is kept. -/
set_option linter.all false
set_option maxRecDepth 100000
namespace Go.Proofs.YtjaljnfijhfkcaaGreatDoor
open Go.RowKit Go.Shelf Go.Sort Go.Lib
attribute [local go_sem] Oper.semAt_some
def Stop (p : Prop) : Prop := p
theorem stopAt {p : Prop} (h : Stop p) : p := h
theorem Tryz.info5 : (Tryz.prog.info? 5).map (fun i => (i.zero, i.size, i.bytes)) = some (some (.int .u8 0), 1, 1) := by kernel_rfl
theorem own_form {W : World} {b n : Nat} {v : Value} {xs : List Value} (h : W.ownsRow b 5 1 v n xs) : ∃ ao c, v = .slice ao n c := by
  rcases h.2 with ⟨h, h0⟩ | ⟨g, c, _, h, _⟩
  · exact ⟨none, 0, by rw [h, h0]⟩
  · exact ⟨_, c, h⟩
theorem own_some {W : World} {b n : Nat} {v : Value} {xs : List Value} (h : W.ownsRow b 5 1 v n xs) (hn : n ≠ 0) : ∃ g c, v = .slice (some ⟨g, 0, none⟩) n c := by
  rcases h.2 with ⟨_, h⟩ | ⟨g, c, _, h, _⟩
  · exact absurd h hn
  · exact ⟨g, c, h⟩
theorem news_new (W : World) (L : List Value) (e : TypeId) : ∀ (j : Nat) (u : Value), L[j]? = some u → (W.alloc (.cells L.toArray e)).cell? ((⟨W.heap.size, 0, none⟩ : Addr).add j) = some u := by
  intro j u h
  rw [Addr.add_mid, Nat.zero_add, World.cell?_alloc_at (w := W) L.toArray e _ j rfl, List.getElem?_toArray]
  exact h
theorem convC (W : World) (g k c : Nat) (ns : List Int) (hk : ns.length = k) (hc : ∀ j u, (ns.map (Value.int .u8))[j]? = some u → W.cell? ((⟨g, 0, none⟩ : Addr).add j) = some u) :
    (convert 50 9 (.slice (some ⟨g, 0, none⟩) k c)).run Tryz.prog W = .ok (.string (mkS ns)) W := by
  rw [run_convert_bytes_string W 50 9 5 _ k c Tryz.underlying50 Tryz.underlying5 Tryz.underlying9]
  refine run_bytesToString W ⟨g, 0, none⟩ k c ns ?_
  have := run_loadCells_list (P := Tryz.prog) W ⟨g, 0, none⟩ (ns.map (Value.int .u8)) hc
  rw [List.length_map, hk] at this
  exact this
theorem ap_list (a b : ByteArray) : (a ++ b).data.toList = a.data.toList ++ b.data.toList := by simp
theorem ext_list (s : ByteArray) (a b : Nat) : (s.extract a b).data.toList = (s.data.toList.drop a).take (b - a) := by
  rw [ByteArray.data_extract, Array.toList_extract]
theorem len_list (s : ByteArray) : s.data.toList.length = s.size := by rw [Array.length_toList]; rfl
theorem ap_assoc (a b c : ByteArray) : (a ++ b) ++ c = a ++ (b ++ c) := by
  apply ba_ext
  simp only [ap_list, List.append_assoc]
theorem ap_nil (a : ByteArray) : (⟨#[]⟩ : ByteArray) ++ a = a := by
  apply ba_ext
  rw [ap_list]
  rfl
theorem wpListIn_append_own_string {F : Fence} {n' : Nat} {P : Program} (w : World) {ops : Array Oper} {rest : List Oper} {o : Oper} {a : Act} {Q : Exit → Act → World → Prop} (hgd : o.guard = none) (sl x : Operand) (t u : TypeId)
    (ho : o.op = .call { callee := .builtin .append, args := #[sl, x], argTypes := #[t, u] })
    (base : Nat) (e : TypeId) (i : TypeInfo) (ht : P.underlying t = some (.slice e)) (hu : P.underlying u = some .string) (hi : P.info? e = some i) (hz : i.zero = some (.int .u8 0))
    (hsize : i.size = 1) (hby : i.bytes = 1)
    (v : Value) (n : Nat) (xs : List Value) (hs : a.eval sl = v) (hown : w.ownsRow base e 1 v n xs) (s : ByteArray) (hx : a.eval x = .string s)
    (h63 : n + s.size ≤ maxLen) (hbytes : n + s.size ≤ 140737488355328) (hbase : base ≤ w.heap.size)
    (h : ∀ v' w', w'.ownsRow base e 1 v' (n + s.size) (xs ++ strCells s) → w.grownBy w' v.ownBlock → wpListIn F n' P ops Q rest (a.put o.dst v') w') : wpListIn F n' P ops Q (o :: rest) a w := by
  refine wpListIn_plain hgd fun K hK => ?_
  obtain ⟨v', w', hr, h2, h3, h4⟩ := run_append_own_string (P := P) w base t u o.type e i ht hu hi hz hsize hby v n xs hown s h63 hbytes hbase
  unfold Oper.wpIn
  refine ⟨?_, ?_⟩
  · simp [Oper.about, ho, resolve, Target.leads, Sem.run_pure]
  · rw [Oper.semAt_plain F _ _ (by rw [ho]; intro c hc'; cases hc')]
    simp [execOp, ho, resolve, invoke, builtin, hs, hx, hr, Result.andThen]
    exact hK _ _ (h v' w' h2 h3)
theorem boxed_app {W w1 : World} {n₀ B : Nat} {t e : TypeId} {size : Nat} {v v' : Value} {k m : Nat} {xs ys : List Value}
    (hv : Boxed W B t v) (hte : t ≠ e) (hrow : W.ownsRow n₀ e size v k xs) (hn₀ : n₀ ≤ W.heap.size) (hB : n₀ ≤ B)
    (hown' : w1.ownsRow n₀ e size v' m ys) (hgrow : W.grownBy w1 v.ownBlock) :
    Boxed w1 B t v ∧ Boxed (w1.setCell ⟨B, 0, none⟩ v') B t v' ∧ (w1.setCell ⟨B, 0, none⟩ v').ownsRow n₀ e size v' m ys ∧ KeepsOthers W (w1.setCell ⟨B, 0, none⟩ v') ∧ Below n₀ W (w1.setCell ⟨B, 0, none⟩ v') := by
  have hv1 : Boxed w1 B t v := hv.kept hgrow (hv.not_row hte hrow)
  refine ⟨hv1, hv1.set v', hown'.kept (grownBy_setCell' w1 B v') (.inr (hv1.not_row hte hown').symm), ?_, ?_⟩
  · refine (KeepsOthers.of_grownBy hgrow fun j o ej hj => ?_).trans (KeepsOthers.setCell _ _ _)
    rcases hrow.2 with ⟨rfl, _⟩ | ⟨g, cap, cur, rfl, _, hgb, _⟩
    · simp [Value.ownBlock] at ej
    · obtain rfl : g = j := by simpa [Value.ownBlock] using ej
      rw [hgb] at hj; cases hj; rfl
  · refine ((Below.refl n₀ W).grown hgrow hn₀ fun j ej => ?_).setCell (p := ⟨B, 0, none⟩) hB v'
    rcases hrow.2 with ⟨rfl, _⟩ | ⟨g, cap, cur, rfl, hb, _, _⟩
    · simp [Value.ownBlock] at ej
    · obtain rfl : g = j := by simpa [Value.ownBlock] using ej
      exact hb
theorem strCells_app (a b : ByteArray) : strCells (a ++ b) = strCells a ++ strCells b := by simp [strCells]
theorem mkS_strCells (s : ByteArray) : mkS (s.data.toList.map (fun b : UInt8 => (b.toNat : Int))) = s := by
  apply ba_ext
  rw [mkS_list, List.map_map]
  have : ∀ l : List UInt8, l.map ((fun n : Int => UInt8.ofNat n.toNat) ∘ fun b : UInt8 => (b.toNat : Int)) = l := by
    intro l
    induction l with
    | nil => rfl
    | cons x l ih => rw [List.map_cons, ih]; simp
  exact this _
/-- A row of bytes as a text. -/
theorem convR (W : World) (b k : Nat) (v : Value) (s : ByteArray) (h : W.ownsRow b 5 1 v k (strCells s)) (hk : s.size = k) : (convert 50 9 v).run Tryz.prog W = .ok (.string s) W := by
  rcases h.2 with ⟨rfl, h0⟩ | ⟨g, c, cur, rfl, _⟩
  · have e : s = mkS [] := by
      rw [← mkS_strCells s]
      have : s.data.toList = [] := List.eq_nil_of_length_eq_zero (by rw [len_list]; omega)
      rw [this]; rfl
    rw [e, run_convert_bytes_string W 50 9 5 _ 0 0 Tryz.underlying50 Tryz.underlying5 Tryz.underlying9]
    rfl
  · have e : strCells s = (s.data.toList.map (fun b : UInt8 => (b.toNat : Int))).map (Value.int .u8) := by
      unfold strCells; rw [List.map_map]; rfl
    have := convC W g k c (s.data.toList.map (fun b : UInt8 => (b.toNat : Int))) (by rw [List.length_map, len_list, hk]) (by rw [← e]; exact World.ownsRow.cells h rfl)
    rwa [mkS_strCells] at this
theorem ext_app_lo (a b : ByteArray) (n : Nat) (h : n ≤ a.size) : (a ++ b).extract 0 n = a.extract 0 n := by
  apply ba_ext
  rw [ext_list, ext_list, ap_list, List.drop_zero, List.drop_zero, List.take_append_of_le_length (by rw [len_list]; omega)]
theorem ext_app_hi (a b : ByteArray) (n : Nat) (h : a.size ≤ n) : (a ++ b).extract 0 n = a ++ b.extract 0 (n - a.size) := by
  apply ba_ext
  rw [ext_list, ap_list, ap_list, ext_list, List.drop_zero, List.drop_zero, Nat.sub_zero, Nat.sub_zero, List.take_append, len_list, List.take_of_length_le (by rw [len_list]; omega)]
theorem gby {W w1 : World} (hb : Below W.heap.size W w1) : W.grownBy w1 none := ⟨hb.os, hb.tape, hb.output, hb.size, fun k hk _ => hb.block k hk⟩
theorem ko_below {W W' : World} (hb : Below W.heap.size W W') : KeepsOthers W W' := KeepsOthers.of_grownBy (gby hb) (fun j o e _ => by cases e)
theorem arr_kept {W W' : World} {b n : Nat} {f : Nat → Value} {row : Option Nat} (h : Arr W b n f) (hg : W.grownBy W' row) (hr : ∀ r, row = some r → ∃ o : Obj, W.heap[r]? = some o ∧ o.isCells = false) : Arr W' b n f := fun j hj =>
  ⟨cell_kept (h j hj).1 hg hr, (frozen_kept (h j hj).1 hg hr).trans (h j hj).2⟩
theorem bt_of (s : ByteArray) (k : Nat) (h : k < s.size) : ((s[k]'h).toNat : Int) = bt s k := by
  unfold bt
  have e : s.data[k]? = some (s.data[k]'h) := Array.getElem?_eq_getElem h
  rw [e]
  rfl
theorem bt_m (s : ByteArray) (k : Nat) : bt s k % 4294967296 = bt s k := by have := bt_bd s k; omega
theorem bt_ext (s : ByteArray) (a b i : Nat) (h : a + i < b) (hb : b ≤ s.size) : bt (s.extract a b) i = bt s (a + i) := by
  unfold bt
  rw [ByteArray.data_extract, Array.getElem?_extract, if_pos (by have : s.data.size = s.size := rfl; omega)]
end Go.Proofs.YtjaljnfijhfkcaaGreatDoor
/- Records as bytes: kinds, the most bytes of a kind, heads, Frame, of the program. -/
set_option linter.all false
set_option maxRecDepth 100000
namespace Go.Proofs.YtjaljnfijhfkcaaGreatDoor
open Go.RowKit Go.Sort
/-- A kind of records. -/
def knB (k : Int) : Bool := k == 21 || k == 22 || k == 23
theorem knB_iff (k : Int) : knB k = true ↔ 21 ≤ k ∧ k ≤ 23 := by unfold knB; simp; omega
/-- How many bytes a record of a kind may have. -/
def mst (k : Int) : Nat := if k = 23 then 16640 else 16384
theorem mst_cases (k : Int) : mst k = 16640 ∨ mst k = 16384 := by unfold mst; split <;> simp
theorem isKind_any (k : Int) (w : World) : Calls Tryz.prog 28 #[.int .i64 k] w fun e w' => e = .returned (.bool (knB k)) ∧ w' = w := by
  by_cases h1 : k = 21
  · subst h1
    rw [show knB 21 = true from rfl]
    go_enter Tryz.func28, Tryz.ntmps28
    go_wp2
    go_ret
    exact ⟨rfl, rfl⟩
  by_cases h2 : k = 22
  · subst h2
    rw [show knB 22 = true from rfl]
    go_enter Tryz.func28, Tryz.ntmps28
    go_wp2
    go_ret
    exact ⟨rfl, rfl⟩
  by_cases h3 : k = 23
  · subst h3
    rw [show knB 23 = true from rfl]
    go_enter Tryz.func28, Tryz.ntmps28
    go_wp2
    go_ret
    exact ⟨rfl, rfl⟩
  unfold knB
  go_enter Tryz.func28, Tryz.ntmps28
  go_wp2
  go_ret
  exact ⟨by simp [h1, h2, h3], rfl⟩
theorem mostBytes_any (k : Int) (w : World) : Calls Tryz.prog 29 #[.int .i64 k] w fun e w' => e = .returned (.int .i64 (mst k : Int)) ∧ w' = w := by
  unfold mst
  by_cases h3 : k = 23
  · rw [if_pos h3]
    go_enter Tryz.func29, Tryz.ntmps29
    go_wp2
    go_ret
    exact ⟨rfl, rfl⟩
  rw [if_neg h3]
  go_enter Tryz.func29, Tryz.ntmps29
  go_wp2
  go_ret
  exact ⟨rfl, rfl⟩
/-- What stands ahead of n bytes. -/
def hdS (k n : Int) : ByteArray := mkS [k % 256, 3, 3, n / 256 % 256, n % 256]
theorem hdS_size (k n : Int) : (hdS k n).size = 5 := by unfold hdS; rw [mkS_size]; rfl
theorem hdS_is (k n : Int) : mkS [k % 256] ++ (⟨#[3, 3]⟩ : ByteArray) ++ mkS [n / 256 % 256, n % 256] = hdS k n := by
  apply ba_ext
  unfold hdS
  rw [ap_list, ap_list, mkS_list, mkS_list, mkS_list]
  rfl
theorem head_any (k n : Int) (w : World) : Calls Tryz.prog 30 #[.int .i64 k, .int .i64 n] w fun e w' => e = .returned (.string (hdS k n)) ∧ Below w.heap.size w w' := by
  have cv := convC (w.alloc (.cells #[.int .u8 (k % 256)] 5)) w.heap.size 1 1 [k % 256] rfl (news_new w [.int .u8 (k % 256)] 5)
  have cv2 := convC ((w.alloc (.cells #[.int .u8 (k % 256)] 5)).alloc (.cells #[.int .u8 (n / 256 % 256), .int .u8 (n % 256)] 5)) (w.heap.size + 1) 2 2 [n / 256 % 256, n % 256] rfl (by have := news_new (w.alloc (.cells #[.int .u8 (k % 256)] 5)) [.int .u8 (n / 256 % 256), .int .u8 (n % 256)] 5; simpa using this)
  have H := hdS_is k n
  have z1 : (mkS [k % 256]).size = 1 := by rw [mkS_size]; rfl
  have z2 : (mkS [n / 256 % 256, n % 256]).size = 2 := by rw [mkS_size]; rfl
  generalize mkS [k % 256] = S at *
  generalize mkS [n / 256 % 256, n % 256] = S2 at *
  have H2 : Hid (S ++ (⟨#[3, 3]⟩ : ByteArray) ++ S2 = hdS k n) := H
  clear H
  go_enter Tryz.func30, Tryz.ntmps30
  go_wp2_with fail
  go_ret
  exact ⟨by rw [← H2.out]; rfl, by go_grown⟩
/-- A record, its cells. -/
def rcV (k : Int) (b : ByteArray) : Value := .agg #[.int .i64 k, .string b]
def rc2 (k : Int) (b : ByteArray) (j : Nat) : Value := if j = 0 then .int .i64 k else .string b
theorem rc2_at (k : Int) (b : ByteArray) (j : Nat) (hj : j < 2) : (#[.int .i64 k, .string b] : Array Value)[j]? = some (rc2 k b j) := by
  have : j = 0 ∨ j = 1 := by omega
  rcases this with rfl | rfl <;> rfl
/-- What is wrong with a record, and what it is as bytes. -/
def frE (k : Int) (b : ByteArray) : Int := if knB k = true then (if mst k < b.size then 12 else 0) else 23
def frS (k : Int) (b : ByteArray) : ByteArray := if frE k b = 0 then hdS k (b.size : Int) ++ b else ⟨#[]⟩
theorem Frame_1 (k : Int) (b : ByteArray) (w : World)
    (C1 : ∀ W, Calls Tryz.prog 28 #[.int .i64 k] W fun e w' => e = .returned (.bool false) ∧ w' = W) :
    Calls Tryz.prog 14 #[rcV k b] w fun e w' => e = .returned (.tuple #[.string ⟨#[]⟩, .int .i64 23]) ∧ Below w.heap.size w w' := by
  unfold rcV
  go_enter Tryz.func14, Tryz.ntmps14
  go_wp2_with (go_at_call 28; refine (C1 _).mono ?_; rintro e w1 ⟨rfl, rfl⟩)
  refine bodyPost_ret (v := .tuple #[.string ⟨#[]⟩, .int .i64 23]) (by simp [results, Tryz.results14, go_sem]) rfl ⟨rfl, by go_grown⟩
theorem Frame_2 (k : Int) (b S : ByteArray) (m : Int) (r : Bool) (hr : decide (m < (b.size : Int)) = r) (z : S.size = 5) (hb : r = false → b.size ≤ 1000000) (w : World)
    (C1 : ∀ W, Calls Tryz.prog 28 #[.int .i64 k] W fun e w' => e = .returned (.bool true) ∧ w' = W)
    (C2 : ∀ W, Calls Tryz.prog 29 #[.int .i64 k] W fun e w' => e = .returned (.int .i64 m) ∧ Below W.heap.size W w')
    (C3 : ∀ W, Calls Tryz.prog 30 #[.int .i64 k, .int .i64 (b.size : Int)] W fun e w' => e = .returned (.string S) ∧ Below W.heap.size W w') :
    Calls Tryz.prog 14 #[rcV k b] w fun e w' => e = .returned (.tuple (if r = true then #[.string ⟨#[]⟩, .int .i64 12] else #[.string (S ++ b), .int .i64 0])) ∧ Below w.heap.size w w' := by
  unfold rcV
  go_enter Tryz.func14, Tryz.ntmps14
  go_wp2_with (go_at_call 28; refine (C1 _).mono ?_; rintro e w1 ⟨rfl, rfl⟩)
  have A0 := Arr.new w _ 26 _ rfl _ 2 (rc2_at k b)
  have B0 : Below w.heap.size w (w.alloc (.cells #[.int .i64 k, .string b] 26)) := by go_grown
  generalize w.alloc (.cells #[.int .i64 k, .string b] 26) = W at *
  have r0 := fun ds os => cell_regrown (A0.cv 0 (by omega) (.int .i64 k) rfl) ds os
  have r1 := fun ds os => cell_regrown (A0.cv 1 (by omega) (.string b) rfl) ds os
  refine wp_region_quiet_below (by kernel_rfl) (by kernel_rfl) ?_
  repeat (go_big_quiet_step (first | (go_at_call 29; exact Calls.regrown_of (C2 _))))
  refine wpQuiet_nil ?_
  intro w1 hw'
  obtain ⟨⟨dq, osq⟩, hw''⟩ := hw'
  have hb1 := below_of hw''
  clear hw'' r0 r1
  have A1 := A0.to' hb1
  have B1 := Bel.call B0 hb1
  clear A0 B0 hb1 C1 C2
  cases r with
  | true =>
    go_wp2_with fail
    refine bodyPost_ret (v := .tuple #[.string ⟨#[]⟩, .int .i64 12]) (by simp [results, Tryz.results14, go_sem]) rfl ⟨rfl, B1⟩
  | false =>
    have hb := hb rfl
    have zb : (b.size : Int) ≤ 1000000 := by omega
    have zs : (S.size : Int) = 5 := by omega
    go_wp2_with fail
    have r0 := fun ds os => cell_regrown (A1.cv 0 (by omega) (.int .i64 k) rfl) ds os
    have r1 := fun ds os => cell_regrown (A1.cv 1 (by omega) (.string b) rfl) ds os
    refine wp_region_quiet_below (by kernel_rfl) (by kernel_rfl) ?_
    repeat (go_big_quiet_step (first | (go_at_call 30; exact Calls.regrown_of (C3 _))))
    refine wpQuiet_nil ?_
    intro w2 hw'
    obtain ⟨⟨dq, osq⟩, hw''⟩ := hw'
    have hb2 := below_of hw''
    clear hw'' r0 r1
    have B2 := Bel.call B1 hb2
    go_wp2_with fail
    refine bodyPost_ret (v := .tuple #[.string (S ++ b), .int .i64 0]) (by simp [results, Tryz.results14, go_sem]) rfl ⟨rfl, B2⟩
theorem cB {f : Nat} {a : Array Value} {v : Value} (h : ∀ W, Calls Tryz.prog f a W fun e w' => e = .returned v ∧ w' = W) (W : World) : Calls Tryz.prog f a W fun e w' => e = .returned v ∧ Below W.heap.size W w' :=
  (h W).mono (by rintro e w' ⟨h, rfl⟩; exact ⟨h, Below.refl _ _⟩)
theorem Frame_any (k : Int) (b : ByteArray) (w : World) : Calls Tryz.prog 14 #[rcV k b] w fun e w' => e = .returned (.tuple #[.string (frS k b), .int .i64 (frE k b)]) ∧ Below w.heap.size w w' := by
  unfold frS
  cases h : knB k with
  | false =>
    have e : frE k b = 23 := by unfold frE; rw [if_neg (by rw [h]; decide)]
    rw [e, if_neg (by decide)]
    exact Frame_1 k b w (fun W => by rw [← h]; exact isKind_any k W)
  | true =>
    have C := fun r hr hb => Frame_2 k b (hdS k (b.size : Int)) (mst k : Int) r hr (hdS_size _ _) hb w (fun W => by rw [← h]; exact isKind_any k W) (cB (fun W => mostBytes_any k W)) (fun W => head_any k _ W)
    by_cases hm : mst k < b.size
    · have e : frE k b = 12 := by unfold frE; rw [if_pos h, if_pos hm]
      rw [e, if_neg (by decide)]
      exact C true (decide_eq_true (by omega)) (by intro h; cases h)
    · have e : frE k b = 0 := by unfold frE; rw [if_pos h, if_neg hm]
      rw [e, if_pos rfl]
      exact C false (decide_eq_false (by omega)) (fun _ => by have := mst_cases k; omega)
end Go.Proofs.YtjaljnfijhfkcaaGreatDoor
/- Unframe of the program, by what readHead tells; what was within a sealed record; what can't be sealed. -/
set_option linter.all false
set_option maxRecDepth 100000
namespace Go.Proofs.YtjaljnfijhfkcaaGreatDoor
open Go.RowKit Go.Sort
/-- A record put into a block. -/
def srec (w : World) (b : Nat) (k : Int) (s : ByteArray) : World := (w.setCell ⟨b, 0, none⟩ (.int .i64 k)).setCell ⟨b, 1, none⟩ (.string s)
theorem Arr.srec {w : World} {b : Nat} {f : Nat → Value} (h : Arr w b 2 f) (k : Int) (s : ByteArray) : Arr (srec w b k s) b 2 (rc2 k s) :=
  ((h.set 0 (by omega) _).set 1 (by omega) _).congr (by
    intro j hj
    have : j = 0 ∨ j = 1 := by omega
    rcases this with rfl | rfl <;> simp [rc2])
theorem Arr.sreco {w : World} {b b' n : Nat} {f : Nat → Value} (h : Arr w b n f) (hne : b' ≠ b) (k : Int) (s : ByteArray) : Arr (Go.Proofs.YtjaljnfijhfkcaaGreatDoor.srec w b' k s) b n f := (h.other hne _).other hne _
theorem Bel.srec {w W : World} (h : Below w.heap.size w W) {b : Nat} (hle : w.heap.size ≤ b) (k : Int) (s : ByteArray) : Below w.heap.size w (Go.Proofs.YtjaljnfijhfkcaaGreatDoor.srec W b k s) := Bel.st (Bel.st h hle _) hle _
set_option maxHeartbeats 1000000 in
theorem Unframe_1 (s : ByteArray) (k n r : Int) (hr : ¬ r = 0) (w : World)
    (C1 : ∀ W, Calls Tryz.prog 31 #[.string s] W fun e w' => e = .returned (.tuple #[.int .i64 k, .int .i64 n, .int .i64 r]) ∧ Below W.heap.size W w') :
    Calls Tryz.prog 15 #[.string s] w fun e w' => e = .returned (.tuple #[rcV 0 ⟨#[]⟩, .string ⟨#[]⟩, .int .i64 r]) ∧ Below w.heap.size w w' := by
  go_enter Tryz.func15, Tryz.ntmps15
  have A0 := Arr.new w _ 26 _ rfl _ 2 (rc2_at 0 ⟨#[]⟩)
  go_wp2_with fail
  refine (C1 _).mono ?_
  rintro e w1 ⟨rfl, b1⟩
  have A1 := A0.to' b1
  have B1 : Below w.heap.size w w1 := Bel.call (by go_grown) b1
  clear C1 b1 A0
  have c0 := A1.c 0 (by omega)
  have c1 := A1.c 1 (by omega)
  have z0 := A1.z 0 (by omega)
  have z1 := A1.z 1 (by omega)
  go_wp2_with fail
  have A2 := A1.srec 0 ⟨#[]⟩
  have e0 := A2.cv 0 (by omega) (.int .i64 0) rfl
  have e1 := A2.cv 1 (by omega) (.string ⟨#[]⟩) rfl
  unfold srec at e0 e1
  refine bodyPost_ret (v := .tuple #[rcV 0 ⟨#[]⟩, .string ⟨#[]⟩, .int .i64 r]) (by simp [rcV, results, Tryz.results15, go_sem, e0, e1]) rfl ⟨rfl, Bel.srec B1 (Nat.le_refl _) 0 ⟨#[]⟩⟩
set_option maxHeartbeats 1000000 in
theorem Unframe_2 (s : ByteArray) (k : Int) (n : Nat) (h5 : 5 ≤ s.size) (hn : s.size < 5 + n) (w : World)
    (C1 : ∀ W, Calls Tryz.prog 31 #[.string s] W fun e w' => e = .returned (.tuple #[.int .i64 k, .int .i64 (n : Int), .int .i64 0]) ∧ Below W.heap.size W w') :
    Calls Tryz.prog 15 #[.string s] w fun e w' => e = .returned (.tuple #[rcV 0 ⟨#[]⟩, .string ⟨#[]⟩, .int .i64 11]) ∧ Below w.heap.size w w' := by
  have s5 : (5 : Int) ≤ (s.size : Int) := by omega
  have sn : (s.size : Int) - 5 < (n : Int) := by omega
  have ze : ((s.extract 5 s.size).size : Int) < (n : Int) := by rw [ByteArray.size_extract]; omega
  generalize hE : s.extract 5 s.size = E at *
  have HE : Hid (s.extract 5 s.size = E) := hE
  go_enter Tryz.func15, Tryz.ntmps15
  have A0 := Arr.new w _ 26 _ rfl _ 2 (rc2_at 0 ⟨#[]⟩)
  go_wp2_with fail
  refine (C1 _).mono ?_
  rintro e w1 ⟨rfl, b1⟩
  have A1 := A0.to' b1
  have B1 : Below w.heap.size w w1 := Bel.call (by go_grown) b1
  clear C1 b1 A0
  have c0 := A1.c 0 (by omega)
  have c1 := A1.c 1 (by omega)
  have z0 := A1.z 0 (by omega)
  have z1 := A1.z 1 (by omega)
  go_wp2_with fail
  have A2 := A1.srec 0 ⟨#[]⟩
  have e0 := A2.cv 0 (by omega) (.int .i64 0) rfl
  have e1 := A2.cv 1 (by omega) (.string ⟨#[]⟩) rfl
  unfold srec at e0 e1
  refine bodyPost_ret (v := .tuple #[rcV 0 ⟨#[]⟩, .string ⟨#[]⟩, .int .i64 11]) (by simp [rcV, results, Tryz.results15, go_sem, e0, e1]) rfl ⟨rfl, Bel.srec B1 (Nat.le_refl _) 0 ⟨#[]⟩⟩
set_option maxHeartbeats 1000000 in
theorem Unframe_3c (s E X1 X2 : ByteArray) (k : Int) (n : Nat) (h5 : 5 ≤ s.size) (hE : s.extract 5 s.size = E) (nj : ¬ E.size < n) (w : World)
    (S1 : ∀ W, (Instr.slice 9 (.string E) none (some (.int .i64 (n : Int))) none).run Tryz.prog W = .ok (.string X1) W)
    (S2 : ∀ W, (Instr.slice 9 (.string E) (some (.int .i64 (n : Int))) none none).run Tryz.prog W = .ok (.string X2) W)
    (C1 : ∀ W, Calls Tryz.prog 31 #[.string s] W fun e w' => e = .returned (.tuple #[.int .i64 k, .int .i64 (n : Int), .int .i64 0]) ∧ Below W.heap.size W w') :
    Calls Tryz.prog 15 #[.string s] w fun e w' => e = .returned (.tuple #[rcV k X1, .string X2, .int .i64 0]) ∧ Below w.heap.size w w' := by
  have s5 : (5 : Int) ≤ (s.size : Int) := by omega
  have S0 : ∀ W, (Instr.slice 9 (.string s) (some (.int .i64 5)) none none).run Tryz.prog W = .ok (.string E) W := fun W => by
    rw [run_slice_string_l W 9 s Tryz.underlying9 .i64 5 (by omega) (by omega), ← hE]
    rfl
  clear hE
  go_enter Tryz.func15, Tryz.ntmps15
  have A0 := Arr.new w _ 26 _ rfl _ 2 (rc2_at 0 ⟨#[]⟩)
  go_wp2_with fail
  refine (C1 _).mono ?_
  rintro e W ⟨rfl, b1⟩
  replace A0 := A0.to' b1
  have B0 : Below w.heap.size w W := Bel.call (by go_grown) b1
  clear C1 b1
  go_wp2_with fail
  refine wp_region_float_tail 5 3 #[true, true, true, true, true, true, true, true, false, false, false] #[false, false, false, false, false, true, true, true, false, false, false] (by kernel_rfl) (by intro c d v a w h; cases d <;> exact h) (by kernel_rfl) _ ⟨.string E, Or.inl ⟨rfl, fun _ => rfl⟩, ⟨.int .i64 (n : Int), Or.inl ⟨rfl, fun _ => rfl⟩, ⟨.string X2, Or.inl ⟨rfl, fun W => ?_⟩, rfl⟩⟩⟩ ?_
  · simp [execOp, Act.eval, Act.put, go_sem, S2]
  simp only [List.take_succ_cons, List.take_zero, List.drop_succ_cons, List.drop_zero, Act.put, List.setIfInBounds_toArray, List.set_cons_succ, List.set_cons_zero]
  repeat (go_big_quiet_step (fail))
  refine wpQuiet_nil ?_
  intro w3 hw'
  obtain ⟨⟨dq, osq⟩, hw''⟩ := hw'
  have hb := below_of hw''
  clear hw''
  have A1 := A0.to' hb
  have B1 := Bel.call B0 hb
  have c := A1.c
  have z := A1.z
  have A2 := A1.srec k X1
  have e0 := A2.cv 0 (by omega) (.int .i64 k) rfl
  have e1 := A2.cv 1 (by omega) (.string X1) rfl
  unfold srec at e0 e1
  go_wp2_with fail
  refine bodyPost_ret (v := .tuple #[rcV k X1, .string X2, .int .i64 0]) (by simp [rcV, results, Tryz.results15, go_sem, e0, e1]) rfl ⟨rfl, Bel.srec B1 (Nat.le_refl _) k X1⟩
theorem Unframe_3 (s : ByteArray) (k : Int) (n : Nat) (h5 : 5 ≤ s.size) (hn : 5 + n ≤ s.size) (w : World)
    (C1 : ∀ W, Calls Tryz.prog 31 #[.string s] W fun e w' => e = .returned (.tuple #[.int .i64 k, .int .i64 (n : Int), .int .i64 0]) ∧ Below W.heap.size W w') :
    Calls Tryz.prog 15 #[.string s] w fun e w' => e = .returned (.tuple #[rcV k (s.extract 5 (5 + n)), .string (s.extract (5 + n) s.size), .int .i64 0]) ∧ Below w.heap.size w w' := by
  have x1 : (s.extract 5 s.size).extract 0 n = s.extract 5 (5 + n) := by
    apply ba_ext
    simp only [ext_list, List.drop_zero, Nat.sub_zero]
    rw [List.take_take, show min n (s.size - 5) = 5 + n - 5 by omega]
  have x2 : (s.extract 5 s.size).extract n (s.extract 5 s.size).size = s.extract (5 + n) s.size := by
    apply ba_ext
    simp only [ext_list, ByteArray.size_extract]
    rw [List.drop_take, List.take_take, List.drop_drop, show min (min s.size s.size - 5 - n) (s.size - 5 - n) = s.size - (5 + n) by omega]
  have ze : (s.extract 5 s.size).size = s.size - 5 := by rw [ByteArray.size_extract]; omega
  refine Unframe_3c s _ _ _ k n h5 rfl (by rw [ze]; omega) w (fun W => ?_) (fun W => ?_) C1
  · rw [run_slice_string_h W 9 _ Tryz.underlying9 .i64 (n : Int) (by omega) (by rw [ze]; omega), Int.toNat_natCast, x1]
  · rw [run_slice_string_l W 9 _ Tryz.underlying9 .i64 (n : Int) (by omega) (by rw [ze]; omega), Int.toNat_natCast, x2]
end Go.Proofs.YtjaljnfijhfkcaaGreatDoor
/- The library's contracts (strings.TrimRight, Repeat), laid at this translation. -/
set_option linter.all false
namespace Go.Proofs.YtjaljnfijhfkcaaGreatDoor
open Go.Shelf Go.RowKit Go.Sort Go.Lib
def sh_lays162_ren : Go.Shelf.Ren := ⟨fun | 162 => 49 | 232 => 72 | 227 => 73 | 234 => 74 | 236 => 75 | 228 => 92 | 271 => 93 | 151 => 94 | 120 => 103 | 197 => 104 | 152 => 105 | 260 => 118 | 137 => 119 | 119 => 120 | 224 => 121 | 225 => 122 | 217 => 129 | 266 => 132 | n => n, fun | 9 => 9 | 4 => 4 | 3 => 3 | 5 => 5 | 117 => 128 | 116 => 127 | 0 => 0 | 124 => 131 | 21 => 21 | 105 => 149 | 46 => 80 | 119 => 162 | 139 => 200 | 138 => 199 | n => n, fun | 3 => 1 | 4 => 2 | n => n⟩
theorem sh_lays162 : Go.Proofs.Lays.n162 Tryz.prog sh_lays162_ren := {
  mixed := by kernel_rfl
  f119 := Tryz.func120.trans (congrArg some (by kernel_rfl))
  f120 := Tryz.func103.trans (congrArg some (by kernel_rfl))
  f137 := Tryz.func119.trans (congrArg some (by kernel_rfl))
  f151 := Tryz.func94.trans (congrArg some (by kernel_rfl))
  f152 := Tryz.func105.trans (congrArg some (by kernel_rfl))
  f162 := Tryz.func49.trans (congrArg some (by kernel_rfl))
  f197 := Tryz.func104.trans (congrArg some (by kernel_rfl))
  f217 := Tryz.func129.trans (congrArg some (by kernel_rfl))
  f224 := Tryz.func121.trans (congrArg some (by kernel_rfl))
  f225 := Tryz.func122.trans (congrArg some (by kernel_rfl))
  f227 := Tryz.func73.trans (congrArg some (by kernel_rfl))
  f228 := Tryz.func92.trans (congrArg some (by kernel_rfl))
  f232 := Tryz.func72.trans (congrArg some (by kernel_rfl))
  f234 := Tryz.func74.trans (congrArg some (by kernel_rfl))
  f236 := Tryz.func75.trans (congrArg some (by kernel_rfl))
  f260 := Tryz.func118.trans (congrArg some (by kernel_rfl))
  f266 := Tryz.func132.trans (congrArg some (by kernel_rfl))
  f271 := Tryz.func93.trans (congrArg some (by kernel_rfl))
  t0 := Tryz.underlying0
  a0 := Tryz.isAgg0
  z0 := Tryz.sizeOf0
  v0 := Tryz.zeroValue0
  t3 := Tryz.underlying3
  a3 := Tryz.isAgg3
  z3 := Tryz.sizeOf3
  v3 := Tryz.zeroValue3
  t4 := Tryz.underlying4
  a4 := Tryz.isAgg4
  z4 := Tryz.sizeOf4
  v4 := Tryz.zeroValue4
  t5 := Tryz.underlying5
  a5 := Tryz.isAgg5
  z5 := Tryz.sizeOf5
  v5 := Tryz.zeroValue5
  t9 := Tryz.underlying9
  a9 := Tryz.isAgg9
  z9 := Tryz.sizeOf9
  v9 := Tryz.zeroValue9
  t21 := Tryz.underlying21
  a21 := Tryz.isAgg21
  z21 := Tryz.sizeOf21
  v21 := Tryz.zeroValue21
  t46 := Tryz.underlying80
  a46 := Tryz.isAgg80
  z46 := Tryz.sizeOf80
  v46 := Tryz.zeroValue80
  t105 := Tryz.underlying149
  a105 := Tryz.isAgg149
  z105 := Tryz.sizeOf149
  v105 := Tryz.zeroValue149
  t116 := Tryz.underlying127
  a116 := Tryz.isAgg127
  z116 := Tryz.sizeOf127
  t117 := Tryz.underlying128
  a117 := Tryz.isAgg128
  z117 := Tryz.sizeOf128
  v117 := Tryz.zeroValue128
  t119 := Tryz.underlying162
  a119 := Tryz.isAgg162
  z119 := Tryz.sizeOf162
  t124 := Tryz.underlying131
  a124 := Tryz.isAgg131
  z124 := Tryz.sizeOf131
  v124 := Tryz.zeroValue131
  t138 := Tryz.underlying199
  a138 := Tryz.isAgg199
  z138 := Tryz.sizeOf199
  v138 := Tryz.zeroValue199
  t139 := Tryz.underlying200
  a139 := Tryz.isAgg200
  z139 := Tryz.sizeOf200
  v139 := Tryz.zeroValue200
  g3 := by kernel_rfl
  g4 := by kernel_rfl }
theorem sh_strings_TrimRight_one (s : ByteArray) (c : UInt8) (hc : c.toNat < 128) (w : World) (hs : s.size ≤ 9223372036854775807) :
    Calls Tryz.prog 49 #[.string s, .string ⟨#[c]⟩] w fun e w' => e = .returned (.string ⟨(Lib.trimRightB s.data.toList c).toArray⟩) ∧ w' = w := Any.strings_TrimRight_one sh_lays162 s c hc w hs
def sh_lays105_ren : Go.Shelf.Ren := ⟨fun | 105 => 20 | 212 => 36 | 99 => 37 | 165 => 38 | 166 => 39 | 170 => 40 | 169 => 41 | 263 => 58 | 264 => 59 | 206 => 60 | 240 => 61 | 241 => 62 | 276 => 82 | 277 => 83 | n => n, fun | 9 => 9 | 3 => 3 | 4 => 4 | 20 => 20 | 0 => 0 | 46 => 80 | 109 => 81 | 5 => 5 | 72 => 86 | 76 => 90 | 51 => 112 | 146 => 113 | 53 => 22 | 148 => 115 | 70 => 84 | 37 => 50 | 75 => 89 | 127 => 117 | 164 => 138 | 80 => 79 | n => n, fun | n => n⟩
theorem sh_lays105 : Go.Proofs.Lays.n105 Tryz.prog sh_lays105_ren := {
  mixed := by kernel_rfl
  f99 := Tryz.func37.trans (congrArg some (by kernel_rfl))
  f105 := Tryz.func20.trans (congrArg some (by kernel_rfl))
  f165 := Tryz.func38.trans (congrArg some (by kernel_rfl))
  f166 := Tryz.func39.trans (congrArg some (by kernel_rfl))
  f169 := Tryz.func41.trans (congrArg some (by kernel_rfl))
  f170 := Tryz.func40.trans (congrArg some (by kernel_rfl))
  f206 := Tryz.func60.trans (congrArg some (by kernel_rfl))
  f212 := Tryz.func36.trans (congrArg some (by kernel_rfl))
  f240 := Tryz.func61.trans (congrArg some (by kernel_rfl))
  f241 := Tryz.func62.trans (congrArg some (by kernel_rfl))
  f263 := Tryz.func58.trans (congrArg some (by kernel_rfl))
  f264 := Tryz.func59.trans (congrArg some (by kernel_rfl))
  f276 := Tryz.func82.trans (congrArg some (by kernel_rfl))
  f277 := Tryz.func83.trans (congrArg some (by kernel_rfl))
  t0 := Tryz.underlying0
  a0 := Tryz.isAgg0
  z0 := Tryz.sizeOf0
  v0 := Tryz.zeroValue0
  t3 := Tryz.underlying3
  a3 := Tryz.isAgg3
  z3 := Tryz.sizeOf3
  v3 := Tryz.zeroValue3
  t4 := Tryz.underlying4
  a4 := Tryz.isAgg4
  z4 := Tryz.sizeOf4
  v4 := Tryz.zeroValue4
  t5 := Tryz.underlying5
  a5 := Tryz.isAgg5
  z5 := Tryz.sizeOf5
  v5 := Tryz.zeroValue5
  t9 := Tryz.underlying9
  a9 := Tryz.isAgg9
  z9 := Tryz.sizeOf9
  v9 := Tryz.zeroValue9
  t20 := Tryz.underlying20
  a20 := Tryz.isAgg20
  z20 := Tryz.sizeOf20
  v20 := Tryz.zeroValue20
  t37 := Tryz.underlying50
  a37 := Tryz.isAgg50
  z37 := Tryz.sizeOf50
  v37 := Tryz.zeroValue50
  t46 := Tryz.underlying80
  a46 := Tryz.isAgg80
  z46 := Tryz.sizeOf80
  v46 := Tryz.zeroValue80
  t51 := Tryz.underlying112
  a51 := Tryz.isAgg112
  z51 := Tryz.sizeOf112
  v51 := Tryz.zeroValue112
  t53 := Tryz.underlying22
  a53 := Tryz.isAgg22
  z53 := Tryz.sizeOf22
  v53 := Tryz.zeroValue22
  t70 := Tryz.underlying84
  a70 := Tryz.isAgg84
  z70 := Tryz.sizeOf84
  v70 := Tryz.zeroValue84
  t72 := Tryz.underlying86
  a72 := Tryz.isAgg86
  z72 := Tryz.sizeOf86
  v72 := Tryz.zeroValue86
  t75 := Tryz.underlying89
  a75 := Tryz.isAgg89
  z75 := Tryz.sizeOf89
  v75 := Tryz.zeroValue89
  t76 := Tryz.underlying90
  a76 := Tryz.isAgg90
  z76 := Tryz.sizeOf90
  v76 := Tryz.zeroValue90
  t109 := Tryz.underlying81
  a109 := Tryz.isAgg81
  z109 := Tryz.sizeOf81
  v109 := Tryz.zeroValue81
  t127 := Tryz.underlying117
  a127 := Tryz.isAgg117
  z127 := Tryz.sizeOf117
  v127 := Tryz.zeroValue117
  t146 := Tryz.underlying113
  a146 := Tryz.isAgg113
  z146 := Tryz.sizeOf113
  v146 := Tryz.zeroValue113
  t148 := Tryz.underlying115
  a148 := Tryz.isAgg115
  z148 := Tryz.sizeOf115
  v148 := Tryz.zeroValue115
  t164 := Tryz.underlying138
  a164 := Tryz.isAgg138
  z164 := Tryz.sizeOf138
  v164 := Tryz.zeroValue138 }
theorem sh_Builder_Extra_105 : Builder.Extra Tryz.prog sh_lays105_ren := {
  sizeBuilder := by kernel_rfl
  liesBuilder := by kernel_rfl
  t5 := Tryz.underlying5
  a5 := Tryz.isAgg5
  z5 := Tryz.sizeOf5
  v5 := Tryz.zeroValue5
  infoByte := by kernel_rfl
  cellsByte := by kernel_rfl
  sizeByte := by kernel_rfl
  neB5 := by decide }
theorem sh_strings_Repeat (s : ByteArray) (c : Nat) (w : World) (hc : c ≤ 9223372036854775807) (hlen : s.size * c ≤ 140737488355328) :
    Calls Tryz.prog 20 #[.string s, .int .i64 c] w fun e w' => e = .returned (.string ⟨(Lib.repeatL s.data.toList c).toArray⟩) ∧ Below w.heap.size w w' := Any.strings_Repeat sh_lays105 sh_Builder_Extra_105 s c w hc hlen
end Go.Proofs.YtjaljnfijhfkcaaGreatDoor
