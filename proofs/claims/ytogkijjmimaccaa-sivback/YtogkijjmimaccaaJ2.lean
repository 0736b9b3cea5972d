/- Texts joined: B1, B2, Z8, B3. -/
import Derived.WalkKit
import Derived.WalkSpells
import Derived.WalkLawsBesides
import Derived.Handy
import Derived.Laws.Externs
import Derived.Deep.MidRow
import Derived.Deep.Cut
import Derived.Deep.RegionLaw
import Derived.Laws.BytesString
import Derived.Laws.MakeOwn
import Derived.RangeFuncFrom
import Derived.RangeFuncNested
import Derived.RangeFuncBound
import Derived.RangeFuncCalls
import Derived.RangeFuncLeaves
import Derived.Shelf.Abstract
import Derived.Shelf.RegionOpen
import Derived.OwnWalkIn
import Derived.TacticsInMore
import Derived.LoopNIn
import Derived.LoopIn
import Derived.Lib.AppendStr
import Derived.RangeFuncBox
import Derived.Test.YtogkijjmimaccaaRows
import Derived.Test.YtogkijjmimaccaaJ1
/- Arrays of the call's own, in worlds that are letters: what lies in a block, and what of it stays behind calls, stores and new blocks. -/
set_option linter.all false
namespace Go.Proofs.Ytogkijjmimaccaa
open Go.RowKit
/-- The first n cells of block b hold f and may be written. -/
def Arr (w : World) (b n : Nat) (f : Nat → Value) : Prop := ∀ j, j < n → w.cell? ⟨b, j, none⟩ = some (f j) ∧ w.frozen? ⟨b, j, none⟩ = false
theorem Arr.c {w : World} {b n : Nat} {f : Nat → Value} (h : Arr w b n f) (j : Nat) (hj : j < n) : w.cell? ⟨b, j, none⟩ = some (f j) := (h j hj).1
theorem Arr.z {w : World} {b n : Nat} {f : Nat → Value} (h : Arr w b n f) (j : Nat) (hj : j < n) : w.frozen? ⟨b, j, none⟩ = false := (h j hj).2
theorem Arr.below {w w' : World} {b n B : Nat} {f : Nat → Value} (h : Arr w b n f) (hb : Below B w w') (hlt : b < B) : Arr w' b n f := fun j hj =>
  ⟨(hb.cell (p := ⟨b, j, none⟩) hlt).trans (h j hj).1, (hb.frozen (p := ⟨b, j, none⟩) hlt).trans (h j hj).2⟩
theorem Arr.set {w : World} {b n : Nat} {f : Nat → Value} (h : Arr w b n f) (k : Nat) (hk : k < n) (v : Value) : Arr (w.setCell ⟨b, k, none⟩ v) b n (fun j => if j = k then v else f j) := fun j hj => by
  refine ⟨?_, by rw [World.frozen?_setCell]; exact (h j hj).2⟩
  by_cases e : j = k
  · subst e; show _ = some (if j = j then v else f j); rw [if_pos rfl]; exact World.cell?_setCell_same _ _ _ (h j hj).1
  · show _ = some (if j = k then v else f j); rw [if_neg e, World.cell?_setCell_other _ _ _ _ (by intro hh; injection hh with _ h2; exact e h2.symm)]; exact (h j hj).1
theorem Arr.other {w : World} {b n : Nat} {f : Nat → Value} (h : Arr w b n f) {b' k : Nat} (hne : b' ≠ b) (v : Value) : Arr (w.setCell ⟨b', k, none⟩ v) b n f := fun j hj =>
  ⟨by rw [World.cell?_setCell_other _ _ _ _ (by intro hh; injection hh with h1 _; exact hne h1)]; exact (h j hj).1, by rw [World.frozen?_setCell]; exact (h j hj).2⟩
theorem Arr.alloc {w : World} {b n : Nat} {f : Nat → Value} (h : Arr w b n f) (hlt : b < w.heap.size) (o : Obj) : Arr (w.alloc o) b n f := fun j hj =>
  ⟨(World.cell?_alloc_past (w := w) o b j hlt).trans (h j hj).1, (World.frozen?_alloc_past (w := w) o b j hlt).trans (h j hj).2⟩
theorem Arr.drew {w : World} {b n : Nat} {f : Nat → Value} (h : Arr w b n f) : Arr w.drew b n f := h
theorem Arr.new (w : World) (c : Array Value) (T : TypeId) (b : Nat) (hb : b = w.heap.size) (f : Nat → Value) (n : Nat) (hf : ∀ j, j < n → c[j]? = some (f j)) : Arr (w.alloc (.cells c T)) b n f := fun j hj =>
  ⟨(World.cell?_alloc_at (w := w) c T b j hb).trans (hf j hj), World.frozen?_alloc_at (w := w) c T b j hb⟩
theorem Arr.congr {w : World} {b n : Nat} {f g : Nat → Value} (h : Arr w b n f) (e : ∀ j, j < n → f j = g j) : Arr w b n g := fun j hj => ⟨(h j hj).1.trans (by rw [e j hj]), (h j hj).2⟩
theorem size_set (w : World) (a : Addr) (v : Value) : (w.setCell a v).heap.size = w.heap.size := by simp [World.setCell]
end Go.Proofs.Ytogkijjmimaccaa
/- More on arrays of the call's own; rows of cells; texts as lists of bytes. -/
set_option linter.all false
namespace Go.Proofs.Ytogkijjmimaccaa
open Go.RowKit Go.Sort
theorem Arr.lt {w : World} {b n : Nat} {f : Nat → Value} (h : Arr w b (n + 1) f) : b < w.heap.size := block_lt_of_cell (h 0 (by omega)).1
theorem Arr.to' {w w' : World} {b n : Nat} {f : Nat → Value} (h : Arr w b (n + 1) f) (hb : Below w.heap.size w w') : Arr w' b (n + 1) f := h.below hb h.lt
theorem Arr.al' {w : World} {b n : Nat} {f : Nat → Value} (h : Arr w b (n + 1) f) (o : Obj) : Arr (w.alloc o) b (n + 1) f := h.alloc h.lt o
theorem Bel.call {w W w' : World} (h : Below w.heap.size w W) (hb : Below W.heap.size W w') : Below w.heap.size w w' := h.trans (hb.mono h.size)
theorem Bel.al {w W : World} (h : Below w.heap.size w W) (o : Obj) : Below w.heap.size w (W.alloc o) := h.alloc h.size o
theorem Bel.st {w W : World} (h : Below w.heap.size w W) {b k : Nat} (hle : w.heap.size ≤ b) (v : Value) : Below w.heap.size w (W.setCell ⟨b, k, none⟩ v) := h.setCell (p := ⟨b, k, none⟩) hle v
theorem below_of {w w' : World} {d : Nat} {os : Array Obj} (h : w' = grow (redrawn w d) os) : Below w.heap.size w w' := by rw [h]; exact below_regrown _ _ _
theorem Arr.cv {w : World} {b n : Nat} {f : Nat → Value} (h : Arr w b n f) (j : Nat) (hj : j < n) (v : Value) (hv : f j = v) : w.cell? ⟨b, j, none⟩ = some v := by rw [← hv]; exact h.c j hj
theorem Arr.range {w : World} {b n : Nat} {f : Nat → Value} (h : Arr w b n f) (cs : List Value) (hl : cs.length = n) (hc : ∀ j, j < n → cs[j]? = some (f j)) : w.rangeAt b 0 cs := fun j v hv => by
  have hj : j < n := by rw [← hl]; exact (List.getElem?_eq_some_iff.1 hv).1
  rw [Nat.zero_add, (h j hj).1, ← hc j hj]; exact hv
theorem Arr.there {w : World} {b n : Nat} {f : Nat → Value} (h : Arr w b n f) : w.there b 0 n := fun j hj => by
  rw [Nat.zero_add]
  exact ⟨by rw [(h j hj).1]; rfl, (h j hj).2⟩
theorem Arr.of_range {w : World} {b n : Nat} {f : Nat → Value} {cs : List Value} (h : w.rangeAt b 0 cs) (hc : ∀ j, j < n → cs[j]? = some (f j)) (z : ∀ j, j < n → w.frozen? ⟨b, j, none⟩ = false) : Arr w b n f := fun j hj => by
  have := h j _ (hc j hj)
  rw [Nat.zero_add] at this
  exact ⟨this, z j hj⟩
theorem below_setCells {B : Nat} {a w : World} (h : Below B a w) {b : Nat} (hb : B ≤ b) : ∀ (vs : List Value) (o : Nat), Below B a (w.setCells b o vs) := by
  intro vs
  induction vs generalizing w with
  | nil => intro o; exact h
  | cons v r ih => intro o; rw [World.setCells]; exact ih (h.setCell hb _) (o + 1)
theorem results_cell1 {P : Program} {fn : Func} {p : Tmp} {ty : TypeId} {a : Addr} {v : Value} {w : World} (h : fn.results = #[.cell p ty]) (tmps : Array Value) (hp : tmps.getD p undef = .pointer (some a)) (hl : (loadVar ty a).run P w = .ok v w) :
    (results fn tmps).run P w = .ok v w := by
  have hp' : tmps[p]?.getD undef = .pointer (some a) := by simpa using hp
  simp only [results, h]
  simp [Sem.run_bind, hp', asAddr, hl]
/-- The i-th byte of a text. -/
def bt (s : ByteArray) (i : Nat) : Int := (s.data[i]?.getD 0).toNat
theorem bt_bd (s : ByteArray) (i : Nat) : 0 ≤ bt s i ∧ bt s i < 256 := by unfold bt; have := (s.data[i]?.getD 0).toNat_lt; omega
theorem idxS (s : ByteArray) (k : Nat) (hk : k < s.size) (W : World) : (Instr.index 9 (.string s) (.int .i64 (k : Int))).run Try.prog W = .ok (.int .u8 (bt s k)) W := by
  have h0 : (0 : Int) ≤ (k : Int) ∧ (k : Int) < (s.size : Int) := by omega
  have e : s.data[k]? = some (s.data[k]'hk) := Array.getElem?_eq_getElem hk
  unfold bt
  rw [e]
  simp [Instr.index, asIntOf, Sem.run_bind, Sem.run_pure, Result.andThen_ok, run_underlying Try.underlying9, h0, go_sem]
  rw [getElem?_pos s k hk]
  rfl
def mkS (ns : List Int) : ByteArray := ns.foldl (fun r n => r.push (UInt8.ofNat n.toNat)) ByteArray.empty
theorem mkS_data (ns : List Int) : ∀ r : ByteArray, (ns.foldl (fun r n => r.push (UInt8.ofNat n.toNat)) r).data.toList = r.data.toList ++ ns.map (fun n => UInt8.ofNat n.toNat) := by
  induction ns with
  | nil => intro r; simp
  | cons n l ih => intro r; rw [List.foldl_cons, ih]; simp
theorem mkS_list (ns : List Int) : (mkS ns).data.toList = ns.map (fun n => UInt8.ofNat n.toNat) := by
  rw [mkS, mkS_data]; rfl
theorem mkS_size (ns : List Int) : (mkS ns).size = ns.length := by
  have := congrArg List.length (mkS_list ns)
  simpa using this
theorem mkS_bt (ns : List Int) (i : Nat) (n : Int) (hi : ns[i]? = some n) (h0 : 0 ≤ n) (h1 : n < 256) : bt (mkS ns) i = n := by
  unfold bt
  have e : (mkS ns).data[i]? = (ns.map (fun n => UInt8.ofNat n.toNat))[i]? := by rw [← mkS_list, Array.getElem?_toList]
  rw [e, List.getElem?_map, hi]
  show ((UInt8.ofNat n.toNat).toNat : Int) = n
  rw [UInt8.toNat_ofNat']
  omega
/-- Texts are their bytes. -/
theorem ba_ext {s t : ByteArray} (h : s.data.toList = t.data.toList) : s = t := by
  apply ByteArray.ext
  exact Array.ext' h
end Go.Proofs.Ytogkijjmimaccaa
/- A range over a function whose closure keeps a variable of its own in a cell, and whose body is never left. -/
set_option linter.all false
namespace Go.Proofs.Ytogkijjmimaccaa
open Go.RowKit Go.Shelf
variable {F : Fence} {n : Nat} {P : Program}
/-- What an iterator does that writes the cell of block Bs: whatever the rounds keep abides new blocks and stores into that cell. -/
def SeqC {α : Type} (F : Fence) (n : Nat) (P : Program) (g : Nat) (lb : Array Value) (encs : α → Array Value) (Kp : World → World → Prop) (S : List α → Prop) (N Bs : Nat) (w : World) : Prop :=
  ∀ (l : Nat) (J : List α → World → Prop) (W : World), Below w.heap.size w W → AbidesFrom W.heap.size J → (∀ s A v, J s A → J s (A.setCell ⟨Bs, 0, none⟩ v)) →
    (∀ pre x A, J pre A → pre.length < N → YieldAt F (n - 1) P l (encs x) A fun e A' => e = .returned (.bool true) ∧ J (pre ++ [x]) A' ∧ Kp A A') →
    J [] W → CallsIn F n P g (#[.func (.yield l) #[] #[]] ++ lb) W fun e A' => (∃ v, e = .returned v) ∧ ∃ xs, S xs ∧ J xs A'
/-- The loop's record, and the block for what the rounds put off, lie as they should. -/
def Book (w : World) (r : Loop) (A : World) : Prop := A.heap[w.heap.size + 1]? = some (.loop r) ∧ A.heap[w.heap.size]? = some (.deferred (some []))
theorem Book.keep {w A B : World} {r : Loop} (h : Book w r A) (k : KeepsOthers A B) : Book w r B := ⟨k.same _ _ h.1 rfl, k.same _ _ h.2 rfl⟩
theorem Book.put {w A : World} {r : Loop} (h : Book w r A) (r' : Loop) : Book w r' (A.putObj (w.heap.size + 1) (.loop r')) :=
  ⟨World.putObj_heap_same (Array.getElem?_eq_some_iff.1 h.1).1, (World.putObj_heap_other (by omega)).trans h.2⟩
theorem wpIn_rangeFunc_cell {α : Type} {g : Operand} {ps : Array Tmp} {assign body : Code} {Q : Exit → Act → World → Prop} {a : Act} {w : World}
    (hro : F.round = none) (h1 : 1 ≤ n) {gf : Nat} {lb : Array Value} (hg : a.eval g = .func (.func gf) #[] lb) (hFg : F.fn gf) (eg : ∀ args w, (callFunc gf args).run P w = .ok (.enter gf args) w)
    {encs : α → Array Value} {Kp : World → World → Prop} {S : List α → Prop} {N Bs : Nat} {w0 : World} (hseq : SeqC F (n - 1) P gf lb encs Kp S N Bs w0)
    (hKt : ∀ {A B C : World}, Kp A B → Kp B C → Kp A C) (hKb : ∀ (W : World) (l : Nat) (o o' : Obj), w.heap.size ≤ l → W.heap[l]? = some o → o.isCells = false → Kp W (W.putObj l o')) (hb0 : Below w0.heap.size w0 w) (hps : ∀ x, (encs x).size = ps.size)
    (I : List α → World → Prop) (hI : OwnFrom w.heap.size I) (hIc : ∀ s A v, I s A → I s (A.setCell ⟨Bs, 0, none⟩ v)) (h0 : I [] w) (a₁ : α → Act)
    (hassign : ∀ (l : Nat) (x : α) (W : World) (K : Act → World → Prop), K (a₁ x) W →
      assign.wpIn (F.inRound l) (n - 1 - 1) P (Exit.then K (fun _ _ _ => False)) { tmps := (ps.zip (encs x)).foldl (fun t (p, v) => t.setIfInBounds p v) a.tmps, defers := [] } W)
    (hbody : ∀ (l : Nat) (pre : List α) (x : α) (W : World), I pre W → pre.length < N → body.wpIn (F.inRound l) (n - 1 - 1) P (Exit.then (fun _ W' => KeepsOthers W W' ∧ Kp W W' ∧ I (pre ++ [x]) W') (fun _ _ _ => False)) (a₁ x) W)
    (hdone : ∀ (D : Nat) (xs : List α) (W : World), w.heap.size ≤ D → S xs → I xs W → W.heap[D]? = some (.deferred (some [])) → Q .normal { a with defers := { target := .collected D, args := #[] } :: a.defers } W) :
    (Code.rangeFunc g ps assign body).wpIn F n P Q a w := by
  refine wpIn_rangeFunc fun fn hfn => ?_
  rw [hro]
  obtain ⟨R, hR⟩ : ∃ R : LoopState → Loop, R = fun st => { state := st, pending := none, fn, tmps := a.tmps, params := ps, assign, body, defers := w.heap.size } := ⟨_, rfl⟩
  obtain ⟨V, hV⟩ : ∃ V, (w.alloc (.deferred (some []))).alloc (.loop (R .ready)) = V := ⟨_, rfl⟩
  have bV : Book w (R .ready) V := by
    rw [← hV]
    refine ⟨?_, (Below.heap_alloc _ _ _ (by simp)).trans (World.alloc_heap_new w _)⟩
    have := World.alloc_heap_new (w.alloc (.deferred (some []))) (.loop (R .ready))
    rwa [World.size_alloc] at this
  have iV : I [] V := by rw [← hV]; exact hI.alloc _ (hI.alloc _ h0)
  have sV : w.heap.size ≤ V.heap.size := by rw [← hV]; simp; omega
  have cV : Below w0.heap.size w0 V := by
    rw [← hV]; exact hb0.trans ((((Below.refl _ w).alloc (Nat.le_refl _) _).alloc (by simp) _).mono hb0.size)
  refine ⟨w.heap.size + 1, [{ target := .collected w.heap.size, args := #[] }], V, { target := .fn (.func gf) lb, args := #[.func (.yield (w.heap.size + 1)) #[] #[]] }, V, gf,
    #[.func (.yield (w.heap.size + 1)) #[] #[]] ++ lb, V, by rw [← hV, hR]; exact run_enterLoop_outer _ _ _ _ _, by simp only [resolve, hg]; simp [go_sem], ?_, by simp [invoke, go_sem, eg], fun _ => h1, ?_⟩
  · intro f' hf'; simp [Target.leads] at hf'; subst hf'; exact hFg
  refine (hseq (w.heap.size + 1) (fun pre W => I pre W ∧ Book w (R .ready) W) V cV ?_ ?_ ?_ ⟨iV, bV⟩).mono ?_
  · rintro s A B row ⟨i, b⟩ hg' hr
    refine ⟨hI s A B row i hg' (fun r e => ?_), (grownBy_keeps hg' (fun r e => (hr r e).2) b.1 rfl).trans b.1, (grownBy_keeps hg' (fun r e => (hr r e).2) b.2 rfl).trans b.2⟩
    obtain ⟨hB, o, ho, hw⟩ := hr r e
    exact ⟨Nat.le_trans sV hB, o, ho, Obj.not_cells_of_walk hw⟩
  · rintro s A v ⟨i, b⟩
    exact ⟨hIc s A v i, b.keep (KeepsOthers.setCell _ _ _)⟩
  · rintro pre x W ⟨i, b⟩ hlen
    have hy := run_yield (P := P) (args := encs x) b.1 (by rw [hR]; exact hps x)
    rw [hR] at hy
    refine ⟨fn, _, assign, body, hy, roundIn_of_wpIn hfn (hassign _ x W _ ⟨_, run_beginRound b.1 (by rw [hR]), ?_⟩)⟩
    have b2 := b.put { R .ready with state := .busy }
    have k2 := hKb W (w.heap.size + 1) _ (.loop { R .ready with state := .busy }) (by omega) b.1 rfl
    refine wpIn_mono (hbody _ pre x _ (hI.putObj _ i (by omega) b.1 rfl) hlen) ?_
    rintro e a3 W3 hp
    cases e with
    | normal =>
      obtain ⟨ko, kp, i3⟩ := hp
      have b3 := b2.keep ko
      have he := run_endRound (P := P) (none : Option Code) b3.1
      have b4 := b3.put (R .ready)
      rw [hR] at he b4 b3
      rw [hR]
      exact ⟨_, _, he, rfl, ⟨hI.putObj _ i3 (by omega) b3.1 rfl, b4⟩, hKt (hKt (by rw [hR] at k2; exact k2) (by rw [hR] at kp; exact kp)) (hKb _ _ _ _ (by omega) b3.1 rfl)⟩
    | ret => exact hp.elim
    | exit id => exact hp.elim
    | goto t => exact hp.elim
    | panic ch => exact hp.elim
    | outgrown => exact hp.elim
  · rintro e W2 ⟨⟨v, rfl⟩, xs, hS, i, b⟩
    have he := run_endLoop (P := P) b.1 (by rw [hR]; simp)
    rw [hR] at he
    exact ⟨none, _, he, hdone _ xs _ (Nat.le_refl _) hS (hI.putObj _ i (by omega) b.1 rfl) ((World.putObj_heap_other (by omega)).trans b.2)⟩
end Go.Proofs.Ytogkijjmimaccaa
/- Generic: rows of bytes, texts as lists, what is kept. -/
set_option linter.all false
set_option maxRecDepth 100000
namespace Go.Proofs.Ytogkijjmimaccaa
open Go.RowKit Go.Shelf Go.Sort Go.Lib
attribute [local go_sem] Oper.semAt_some
def Stop (p : Prop) : Prop := p
theorem stopAt {p : Prop} (h : Stop p) : p := h
theorem Try.info5 : (Try.prog.info? 5).map (fun i => (i.zero, i.size, i.bytes)) = some (some (.int .u8 0), 1, 1) := by kernel_rfl
theorem own_form {W : World} {b n : Nat} {v : Value} {xs : List Value} (h : W.ownsRow b 5 1 v n xs) : ∃ ao c, v = .slice ao n c := by
  rcases h.2 with ⟨h, h0⟩ | ⟨g, c, _, h, _⟩
  · exact ⟨none, 0, by rw [h, h0]⟩
  · exact ⟨_, c, h⟩
theorem own_some {W : World} {b n : Nat} {v : Value} {xs : List Value} (h : W.ownsRow b 5 1 v n xs) (hn : n ≠ 0) : ∃ g c, v = .slice (some ⟨g, 0, none⟩) n c := by
  rcases h.2 with ⟨_, h⟩ | ⟨g, c, _, h, _⟩
  · exact absurd h hn
  · exact ⟨g, c, h⟩
theorem news_new (W : World) (L : List Value) (e : TypeId) : ∀ (j : Nat) (u : Value), L[j]? = some u → (W.alloc (.cells L.toArray e)).cell? ((⟨W.heap.size, 0, none⟩ : Addr).add j) = some u := by
  intro j u h
  rw [Addr.add_mid, Nat.zero_add, World.cell?_alloc_at (w := W) L.toArray e _ j rfl, List.getElem?_toArray]
  exact h
theorem convC (W : World) (g k c : Nat) (ns : List Int) (hk : ns.length = k) (hc : ∀ j u, (ns.map (Value.int .u8))[j]? = some u → W.cell? ((⟨g, 0, none⟩ : Addr).add j) = some u) :
    (convert 38 9 (.slice (some ⟨g, 0, none⟩) k c)).run Try.prog W = .ok (.string (mkS ns)) W := by
  rw [run_convert_bytes_string W 38 9 5 _ k c Try.underlying38 Try.underlying5 Try.underlying9]
  refine run_bytesToString W ⟨g, 0, none⟩ k c ns ?_
  have := run_loadCells_list (P := Try.prog) W ⟨g, 0, none⟩ (ns.map (Value.int .u8)) hc
  rw [List.length_map, hk] at this
  exact this
theorem ap_list (a b : ByteArray) : (a ++ b).data.toList = a.data.toList ++ b.data.toList := by simp
theorem ext_list (s : ByteArray) (a b : Nat) : (s.extract a b).data.toList = (s.data.toList.drop a).take (b - a) := by
  rw [ByteArray.data_extract, Array.toList_extract]
theorem len_list (s : ByteArray) : s.data.toList.length = s.size := by rw [Array.length_toList]; rfl
theorem ap_assoc (a b c : ByteArray) : (a ++ b) ++ c = a ++ (b ++ c) := by
  apply ba_ext
  simp only [ap_list, List.append_assoc]
theorem ap_nil (a : ByteArray) : (⟨#[]⟩ : ByteArray) ++ a = a := by
  apply ba_ext
  rw [ap_list]
  rfl
theorem wpListIn_append_own_string {F : Fence} {n' : Nat} {P : Program} (w : World) {ops : Array Oper} {rest : List Oper} {o : Oper} {a : Act} {Q : Exit → Act → World → Prop} (hgd : o.guard = none) (sl x : Operand) (t u : TypeId)
    (ho : o.op = .call { callee := .builtin .append, args := #[sl, x], argTypes := #[t, u] })
    (base : Nat) (e : TypeId) (i : TypeInfo) (ht : P.underlying t = some (.slice e)) (hu : P.underlying u = some .string) (hi : P.info? e = some i) (hz : i.zero = some (.int .u8 0))
    (hsize : i.size = 1) (hby : i.bytes = 1)
    (v : Value) (n : Nat) (xs : List Value) (hs : a.eval sl = v) (hown : w.ownsRow base e 1 v n xs) (s : ByteArray) (hx : a.eval x = .string s)
    (h63 : n + s.size ≤ maxLen) (hbytes : n + s.size ≤ 140737488355328) (hbase : base ≤ w.heap.size)
    (h : ∀ v' w', w'.ownsRow base e 1 v' (n + s.size) (xs ++ strCells s) → w.grownBy w' v.ownBlock → wpListIn F n' P ops Q rest (a.put o.dst v') w') : wpListIn F n' P ops Q (o :: rest) a w := by
  refine wpListIn_plain hgd fun K hK => ?_
  obtain ⟨v', w', hr, h2, h3, h4⟩ := run_append_own_string (P := P) w base t u o.type e i ht hu hi hz hsize hby v n xs hown s h63 hbytes hbase
  unfold Oper.wpIn
  refine ⟨?_, ?_⟩
  · simp [Oper.about, ho, resolve, Target.leads, Sem.run_pure]
  · rw [Oper.semAt_plain F _ _ (by rw [ho]; intro c hc'; cases hc')]
    simp [execOp, ho, resolve, invoke, builtin, hs, hx, hr, Result.andThen]
    exact hK _ _ (h v' w' h2 h3)
theorem boxed_app {W w1 : World} {n₀ B : Nat} {t e : TypeId} {size : Nat} {v v' : Value} {k m : Nat} {xs ys : List Value}
    (hv : Boxed W B t v) (hte : t ≠ e) (hrow : W.ownsRow n₀ e size v k xs) (hn₀ : n₀ ≤ W.heap.size) (hB : n₀ ≤ B)
    (hown' : w1.ownsRow n₀ e size v' m ys) (hgrow : W.grownBy w1 v.ownBlock) :
    Boxed w1 B t v ∧ Boxed (w1.setCell ⟨B, 0, none⟩ v') B t v' ∧ (w1.setCell ⟨B, 0, none⟩ v').ownsRow n₀ e size v' m ys ∧ KeepsOthers W (w1.setCell ⟨B, 0, none⟩ v') ∧ Below n₀ W (w1.setCell ⟨B, 0, none⟩ v') := by
  have hv1 : Boxed w1 B t v := hv.kept hgrow (hv.not_row hte hrow)
  refine ⟨hv1, hv1.set v', hown'.kept (grownBy_setCell' w1 B v') (.inr (hv1.not_row hte hown').symm), ?_, ?_⟩
  · refine (KeepsOthers.of_grownBy hgrow fun j o ej hj => ?_).trans (KeepsOthers.setCell _ _ _)
    rcases hrow.2 with ⟨rfl, _⟩ | ⟨g, cap, cur, rfl, _, hgb, _⟩
    · simp [Value.ownBlock] at ej
    · obtain rfl : g = j := by simpa [Value.ownBlock] using ej
      rw [hgb] at hj; cases hj; rfl
  · refine ((Below.refl n₀ W).grown hgrow hn₀ fun j ej => ?_).setCell (p := ⟨B, 0, none⟩) hB v'
    rcases hrow.2 with ⟨rfl, _⟩ | ⟨g, cap, cur, rfl, hb, _, _⟩
    · simp [Value.ownBlock] at ej
    · obtain rfl : g = j := by simpa [Value.ownBlock] using ej
      exact hb
theorem strCells_app (a b : ByteArray) : strCells (a ++ b) = strCells a ++ strCells b := by simp [strCells]
theorem mkS_strCells (s : ByteArray) : mkS (s.data.toList.map (fun b : UInt8 => (b.toNat : Int))) = s := by
  apply ba_ext
  rw [mkS_list, List.map_map]
  have : ∀ l : List UInt8, l.map ((fun n : Int => UInt8.ofNat n.toNat) ∘ fun b : UInt8 => (b.toNat : Int)) = l := by
    intro l
    induction l with
    | nil => rfl
    | cons x l ih => rw [List.map_cons, ih]; simp
  exact this _
/-- A row of bytes as a text. -/
theorem convR (W : World) (b k : Nat) (v : Value) (s : ByteArray) (h : W.ownsRow b 5 1 v k (strCells s)) (hk : s.size = k) : (convert 38 9 v).run Try.prog W = .ok (.string s) W := by
  rcases h.2 with ⟨rfl, h0⟩ | ⟨g, c, cur, rfl, _⟩
  · have e : s = mkS [] := by
      rw [← mkS_strCells s]
      have : s.data.toList = [] := List.eq_nil_of_length_eq_zero (by rw [len_list]; omega)
      rw [this]; rfl
    rw [e, run_convert_bytes_string W 38 9 5 _ 0 0 Try.underlying38 Try.underlying5 Try.underlying9]
    rfl
  · have e : strCells s = (s.data.toList.map (fun b : UInt8 => (b.toNat : Int))).map (Value.int .u8) := by
      unfold strCells; rw [List.map_map]; rfl
    have := convC W g k c (s.data.toList.map (fun b : UInt8 => (b.toNat : Int))) (by rw [List.length_map, len_list, hk]) (by rw [← e]; exact World.ownsRow.cells h rfl)
    rwa [mkS_strCells] at this
theorem ext_app_lo (a b : ByteArray) (n : Nat) (h : n ≤ a.size) : (a ++ b).extract 0 n = a.extract 0 n := by
  apply ba_ext
  rw [ext_list, ext_list, ap_list, List.drop_zero, List.drop_zero, List.take_append_of_le_length (by rw [len_list]; omega)]
theorem ext_app_hi (a b : ByteArray) (n : Nat) (h : a.size ≤ n) : (a ++ b).extract 0 n = a ++ b.extract 0 (n - a.size) := by
  apply ba_ext
  rw [ext_list, ap_list, ap_list, ext_list, List.drop_zero, List.drop_zero, Nat.sub_zero, Nat.sub_zero, List.take_append, len_list, List.take_of_length_le (by rw [len_list]; omega)]
theorem gby {W w1 : World} (hb : Below W.heap.size W w1) : W.grownBy w1 none := ⟨hb.os, hb.tape, hb.output, hb.size, fun k hk _ => hb.block k hk⟩
theorem ko_below {W W' : World} (hb : Below W.heap.size W W') : KeepsOthers W W' := KeepsOthers.of_grownBy (gby hb) (fun j o e _ => by cases e)
theorem arr_kept {W W' : World} {b n : Nat} {f : Nat → Value} {row : Option Nat} (h : Arr W b n f) (hg : W.grownBy W' row) (hr : ∀ r, row = some r → ∃ o : Obj, W.heap[r]? = some o ∧ o.isCells = false) : Arr W' b n f := fun j hj =>
  ⟨cell_kept (h j hj).1 hg hr, (frozen_kept (h j hj).1 hg hr).trans (h j hj).2⟩
theorem bt_of (s : ByteArray) (k : Nat) (h : k < s.size) : ((s[k]'h).toNat : Int) = bt s k := by
  unfold bt
  have e : s.data[k]? = some (s.data[k]'h) := Array.getElem?_eq_getElem h
  rw [e]
  rfl
theorem bt_m (s : ByteArray) (k : Nat) : bt s k % 4294967296 = bt s k := by have := bt_bd s k; omega
theorem bt_ext (s : ByteArray) (a b i : Nat) (h : a + i < b) (hb : b ≤ s.size) : bt (s.extract a b) i = bt s (a + i) := by
  unfold bt
  rw [ByteArray.data_extract, Array.getElem?_extract, if_pos (by have : s.data.size = s.size := rfl; omega)]
end Go.Proofs.Ytogkijjmimaccaa
