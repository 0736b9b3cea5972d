/- A key's words; a cipher's cells. -/
import Derived.Test.YtnmikancbfaejaaA13
set_option linter.all false
set_option maxRecDepth 100000
namespace Go.Proofs.Ytnmikancbfaejaa
open Go.RowKit Go.Sort Lin
/-- Four bytes. -/
abbrev Q4 : Type := By × By × By × By
def wQ (q : Q4) : Int := wd q.1 q.2.1 q.2.2.1 q.2.2.2
def bQ (q : Q4) (r : Nat) : By := match r with | 0 => q.1 | 1 => q.2.1 | 2 => q.2.2.1 | _ => q.2.2.2
def xQ (p q : Q4) : Q4 := (xr p.1 q.1, xr p.2.1 q.2.1, xr p.2.2.1 q.2.2.1, xr p.2.2.2 q.2.2.2)
def sQ (q : Q4) : Q4 := (sb q.1, sb q.2.1, sb q.2.2.1, sb q.2.2.2)
/-- The powers of x. -/
def rc : Nat → By
  | 0 => 1
  | k + 1 => tmF (rc k) 2
/-- What is added to the word that is a whole key ahead. -/
def tQ (nk n : Nat) (t : Q4) : Q4 :=
  if n % nk = 0 then (xr (sb t.2.1) (rc ((n - 1) / nk)), sb t.2.2.1, sb t.2.2.2, sb t.1)
  else if nk = 8 ∧ n % 8 = 4 then sQ t else t
def nxQ (key : Nat → By) (nk n : Nat) (l : List Q4) : Q4 :=
  if n < nk then (key (4 * n), key (4 * n + 1), key (4 * n + 2), key (4 * n + 3)) else xQ (l.getD (nk - 1) (0, 0, 0, 0)) (tQ nk n (l.getD 0 (0, 0, 0, 0)))
/-- The first n words, the last first. -/
def slQ (key : Nat → By) (nk : Nat) : Nat → List Q4
  | 0 => []
  | n + 1 => nxQ key nk n (slQ key nk n) :: slQ key nk n
/-- A key's n-th word. -/
def kQ (key : Nat → By) (nk n : Nat) : Q4 := nxQ key nk n (slQ key nk n)
theorem slQ_at (key : Nat → By) (nk : Nat) : ∀ n i, i < n → (slQ key nk n).getD i (0, 0, 0, 0) = kQ key nk (n - 1 - i) := by
  intro n
  induction n with
  | zero => intro i hi; omega
  | succ n ih =>
    intro i hi
    cases i with
    | zero => simp [slQ, kQ]
    | succ i =>
      show (slQ key nk n).getD i _ = _
      rw [ih i (by omega), show n + 1 - 1 - (i + 1) = n - 1 - i by omega]
theorem kQ_lo (key : Nat → By) (nk n : Nat) (h : n < nk) : kQ key nk n = (key (4 * n), key (4 * n + 1), key (4 * n + 2), key (4 * n + 3)) := by unfold kQ nxQ; rw [if_pos h]
theorem kQ_hi (key : Nat → By) (nk n : Nat) (h : nk ≤ n) (h0 : 0 < nk) : kQ key nk n = xQ (kQ key nk (n - nk)) (tQ nk n (kQ key nk (n - 1))) := by
  have e : kQ key nk n = xQ ((slQ key nk n).getD (nk - 1) (0, 0, 0, 0)) (tQ nk n ((slQ key nk n).getD 0 (0, 0, 0, 0))) := by unfold kQ nxQ; rw [if_neg (by omega)]
  rw [e, slQ_at key nk n _ (by omega), slQ_at key nk n 0 (by omega), show n - 1 - (nk - 1) = n - nk by omega, show n - 1 - 0 = n - 1 by omega]
/-- The j-th byte of what a key is made into. -/
def kB (key : Nat → By) (nk j : Nat) : By := bQ (kQ key nk (j / 4)) (j % 4)
theorem wQ_xor (p q : Q4) : bits .xor .u32 (wQ p) (wQ q) = wQ (xQ p q) := wd_xor _ _ _ _ _ _ _ _
theorem col_kB (key : Nat → By) (nk i c : Nat) : col (fun j => kB key nk (16 * i + j)) c = wQ (kQ key nk (4 * i + c)) := by
  unfold col kB wQ
  simp only []
  rw [show (16 * i + 4 * c) / 4 = 4 * i + c by omega, show (16 * i + 4 * c) % 4 = 0 by omega, show (16 * i + (4 * c + 1)) / 4 = 4 * i + c by omega, show (16 * i + (4 * c + 1)) % 4 = 1 by omega, show (16 * i + (4 * c + 2)) / 4 = 4 * i + c by omega, show (16 * i + (4 * c + 2)) % 4 = 2 by omega, show (16 * i + (4 * c + 3)) / 4 = 4 * i + c by omega, show (16 * i + (4 * c + 3)) % 4 = 3 by omega]
  rfl
/-- A cipher's cells. -/
def cph (key : ByteArray) (d st : Int) (T : Nat → Value) (X : Nat → Int) (last : Int) (j : Nat) : Value :=
  if j = 0 then .string key else if j = 1 then .int .u32 d else if j = 2 then .int .i32 st else if j = 3 then .int .u32 0 else if j < 260 then T (j - 4) else if j < 320 then .int .u32 (X (j - 260)) else .int .i64 last
def zT (_ : Nat) : Value := .int .u8 0
def sT (j : Nat) : Value := .int .u8 ((sb (Fin.ofNat 256 j)).val : Int)
theorem cph_0 {key d st T X last} : cph key d st T X last 0 = .string key := rfl
theorem cph_1 {key d st T X last} : cph key d st T X last 1 = .int .u32 d := rfl
theorem cph_2 {key d st T X last} : cph key d st T X last 2 = .int .i32 st := rfl
theorem cph_T {key d st T X last} (j : Nat) (h : j < 256) : cph key d st T X last (4 + j) = T j := by
  unfold cph
  rw [if_neg (by omega), if_neg (by omega), if_neg (by omega), if_neg (by omega), if_pos (by omega), show 4 + j - 4 = j by omega]
theorem cph_X {key d st T X last} (j : Nat) (h : j < 60) : cph key d st T X last (260 + j) = .int .u32 (X j) := by
  unfold cph
  rw [if_neg (by omega), if_neg (by omega), if_neg (by omega), if_neg (by omega), if_neg (by omega), if_pos (by omega), show 260 + j - 260 = j by omega]
theorem cph_l {key d st T X last} : cph key d st T X last 320 = .int .i64 last := rfl
/-- The cipher of block b. -/
def Cph (w : World) (b : Nat) (key : ByteArray) (d st : Int) (T : Nat → Value) (X : Nat → Int) (last : Int) : Prop := Arr w b 321 (cph key d st T X last)
theorem Cph.tab {w b key d st X last} (h : Cph w b key d st sT X last) : TabAt w b 4 sb := fun a => by
  have := h.c (4 + a.val) (by have := a.2; omega)
  rw [cph_T a.val a.2] at this
  rw [this]
  unfold sT
  congr
  exact Fin.ext (by simp [Nat.mod_eq_of_lt a.2])
theorem Cph.setX {w b key d st T X last} (h : Cph w b key d st T X last) (k : Nat) (hk : k < 60) (v : Int) : Cph (w.setCell ⟨b, 260 + k, none⟩ (.int .u32 v)) b key d st T (fun j => if j = k then v else X j) last := by
  refine (Arr.set h (260 + k) (by omega) _).congr ?_
  intro j hj
  by_cases e : j = 260 + k
  · subst e
    rw [if_pos rfl, cph_X k hk, if_pos rfl]
  · rw [if_neg e]
    unfold cph
    by_cases c1 : j < 260
    · simp only [if_pos c1]
    · by_cases c2 : j < 320
      · simp only [if_neg c1, if_pos c2, if_neg (show ¬ j = 0 by omega), if_neg (show ¬ j = 1 by omega), if_neg (show ¬ j = 2 by omega), if_neg (show ¬ j = 3 by omega), if_neg (show ¬ j - 260 = k by omega)]
      · simp only [if_neg c1, if_neg c2]
theorem Cph.setL {w b key d st T X last} (h : Cph w b key d st T X last) (v : Int) : Cph (w.setCell ⟨b, 320, none⟩ (.int .i64 v)) b key d st T X v := by
  refine (Arr.set h 320 (by omega) _).congr ?_
  intro j hj
  by_cases e : j = 320
  · subst e; rw [if_pos rfl]; rfl
  · rw [if_neg e]
    unfold cph
    by_cases c1 : j < 260
    · simp only [if_pos c1]
    · simp only [if_neg c1, if_pos (show j < 320 by omega)]
theorem Cph.setD {w b key d st T X last} (h : Cph w b key d st T X last) (v : Int) : Cph (w.setCell ⟨b, 1, none⟩ (.int .u32 v)) b key v st T X last := by
  refine (Arr.set h 1 (by omega) _).congr ?_
  intro j hj
  by_cases e : j = 1
  · subst e; rw [if_pos rfl]; rfl
  · rw [if_neg e]
    unfold cph
    simp only [if_neg e]
theorem Cph.setS {w b key d st T X last} (h : Cph w b key d st T X last) (v : Int) : Cph (w.setCell ⟨b, 2, none⟩ (.int .i32 v)) b key d v T X last := by
  refine (Arr.set h 2 (by omega) _).congr ?_
  intro j hj
  by_cases e : j = 2
  · subst e; rw [if_pos rfl]; rfl
  · rw [if_neg e]
    unfold cph
    simp only [if_neg e]
theorem cell_sets_out (w : World) (b j : Nat) : ∀ (vs : List Value) (o : Nat), (j < o ∨ o + vs.length ≤ j) → (w.setCells b o vs).cell? ⟨b, j, none⟩ = w.cell? ⟨b, j, none⟩ := by
  intro vs
  induction vs generalizing w with
  | nil => intro o _; rfl
  | cons v r ih =>
    intro o h
    have hl : (v :: r).length = r.length + 1 := rfl
    rw [World.setCells, ih _ (o + 1) (by omega), World.cell?_setCell_other _ _ _ _ (by intro hh; injection hh with _ h2; omega)]
theorem Cph.there {w b key d st T X last} (h : Cph w b key d st T X last) : w.there b 4 256 := fun j hj => by
  refine ⟨?_, Arr.z h (4 + j) (by omega)⟩
  rw [Arr.c h (4 + j) (by omega)]; rfl
theorem Cph.setT {w b key d st T X last} (h : Cph w b key d st T X last) : Cph (w.setCells b 4 (tbL sb)) b key d st sT X last := by
  intro j hj
  refine ⟨?_, by rw [frozen_sets]; exact Arr.z h j hj⟩
  by_cases e : 4 ≤ j ∧ j < 260
  · obtain ⟨i, rfl⟩ : ∃ i, j = 4 + i := ⟨j - 4, by omega⟩
    have R := World.rangeAt_setCells_same w b 4 (tbL sb) (by rw [tbL_len]; exact h.there)
    have := R i _ (tbL_at sb i (by omega))
    rw [this, cph_T i (by omega)]
    rfl
  · rw [cell_sets_out w b j (tbL sb) 4 (by rw [tbL_len]; omega), Arr.c h j hj]
    unfold cph
    by_cases c : j < 4
    · have : j = 0 ∨ j = 1 ∨ j = 2 ∨ j = 3 := by omega
      rcases this with rfl | rfl | rfl | rfl <;> rfl
    · simp only [if_neg (show ¬ j < 260 by omega)]
theorem Cph.congrX {w b key d st T X Y last} (h : Cph w b key d st T X last) (e : ∀ j, j < 60 → X j = Y j) : Cph w b key d st T Y last := by
  refine Arr.congr h ?_
  intro j hj
  unfold cph
  by_cases c1 : j < 260
  · simp only [if_pos c1]
  · by_cases c2 : j < 320
    · simp only [if_neg c1, if_pos c2, e (j - 260) (by omega)]
    · simp only [if_neg c1, if_neg c2]
/-- Only block b is written. -/
theorem gb_set (w : World) (b k : Nat) (v : Value) : w.grownBy (w.setCell ⟨b, k, none⟩ v) (some b) :=
  ⟨rfl, rfl, rfl, by rw [size_set]; omega, fun j _ hj => Below.heap_setCell _ _ _ j (fun e => hj (by rw [e]))⟩
theorem gb_trans {a b c : World} {r : Option Nat} (h : a.grownBy b r) (k : b.grownBy c r) : a.grownBy c r :=
  ⟨k.os.trans h.os, k.tape.trans h.tape, k.output.trans h.output, Nat.le_trans h.size k.size, fun i hi hr => (k.block i (Nat.lt_of_lt_of_le hi h.size) hr).trans (h.block i hi hr)⟩
theorem gb_of {a b : World} {r : Option Nat} (h : Below a.heap.size a b) : a.grownBy b r := ⟨h.os, h.tape, h.output, h.size, fun k hk _ => h.block k hk⟩
theorem gb_drew {a b : World} {r : Option Nat} (h : a.grownBy b r) : a.grownBy b.drew r := ⟨h.os, h.tape, h.output, h.size, h.block⟩
theorem gb_refl (a : World) (r : Option Nat) : a.grownBy a r := ⟨rfl, rfl, rfl, Nat.le_refl _, fun _ _ _ => rfl⟩
theorem gb_sets (w : World) (b : Nat) : ∀ (vs : List Value) (o : Nat), w.grownBy (w.setCells b o vs) (some b) := by
  intro vs
  induction vs generalizing w with
  | nil => intro o; exact gb_refl _ _
  | cons v r ih => intro o; rw [World.setCells]; exact gb_trans (gb_set _ _ _ _) (ih _ (o + 1))
theorem gb_cell {w w' : World} {b c j : Nat} (h : w.grownBy w' (some b)) (hc : c < w.heap.size) (hne : c ≠ b) : w'.cell? ⟨c, j, none⟩ = w.cell? ⟨c, j, none⟩ :=
  World.cell?_of_block (w := w) (h.block c hc (by intro e; exact hne (Option.some.inj e)))
theorem gb_frozen {w w' : World} {b c j : Nat} (h : w.grownBy w' (some b)) (hc : c < w.heap.size) (hne : c ≠ b) : w'.frozen? ⟨c, j, none⟩ = w.frozen? ⟨c, j, none⟩ :=
  World.frozen?_of_block (w := w) (h.block c hc (by intro e; exact hne (Option.some.inj e)))
theorem gb_arr {w w' : World} {b c n : Nat} {f : Nat → Value} (h : w.grownBy w' (some b)) (hne : c ≠ b) (hA : Arr w c (n + 1) f) : Arr w' c (n + 1) f := fun j hj =>
  ⟨(gb_cell h hA.lt hne).trans (hA.c j hj), (gb_frozen h hA.lt hne).trans (hA.z j hj)⟩
theorem gb_below {w W W' : World} {b : Nat} (h : Below w.heap.size w W) (hg : W.grownBy W' (some b)) (hb : w.heap.size ≤ b) : Below w.heap.size w W' :=
  h.grown hg h.size (fun k e => by cases e; exact hb)
theorem Cph.to {w w' b key d st T X last} (h : Cph w b key d st T X last) (hb : Below w.heap.size w w') : Cph w' b key d st T X last := Arr.to' h hb
theorem Cph.lt {w b key d st T X last} (h : Cph w b key d st T X last) : b < w.heap.size := Arr.lt h
theorem Cph.al {w b key d st T X last} (h : Cph w b key d st T X last) (o : Obj) : Cph (w.alloc o) b key d st T X last := Arr.al' h o
end Go.Proofs.Ytnmikancbfaejaa
