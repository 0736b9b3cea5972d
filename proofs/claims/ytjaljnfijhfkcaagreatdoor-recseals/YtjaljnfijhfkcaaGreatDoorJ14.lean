/- Texts joined: A13, C1, Z11. -/
import Derived.Test.YtjaljnfijhfkcaaGreatDoorJ10
import Derived.Test.YtjaljnfijhfkcaaGreatDoorJ13
import Derived.Test.YtjaljnfijhfkcaaGreatDoorJ12
/- Blocks as bytes: what the program's functions make of them. -/
set_option linter.all false
set_option maxRecDepth 100000
namespace Go.Proofs.YtjaljnfijhfkcaaGreatDoor
open Go.RowKit Go.Sort Lin
def plF (h k : Nat → By) (j : Nat) : By := xr (h j) (k j)
def beF (f : By → By) (h : Nat → By) (j : Nat) : By := f (h j)
def tnF (h : Nat → By) (j : Nat) : By := h (4 * ((j / 4 + j % 4) % 4) + j % 4)
/-- A byte of a column that is mixed. -/
def mxB (m0 m1 m2 m3 a b c d : By) : By := xr (xr (xr (tmF a m0) (tmF b m1)) (tmF c m2)) (tmF d m3)
def mxF (m0 m1 m2 m3 : By) (h : Nat → By) (j : Nat) : By := mxB m0 m1 m2 m3 (h (4 * (j / 4) + j % 4)) (h (4 * (j / 4) + (j % 4 + 1) % 4)) (h (4 * (j / 4) + (j % 4 + 2) % 4)) (h (4 * (j / 4) + (j % 4 + 3) % 4))
theorem col_of (h : Nat → By) (g : Nat → By) (k : Nat) (e0 : h (4 * k) = g (4 * k)) (e1 : h (4 * k + 1) = g (4 * k + 1)) (e2 : h (4 * k + 2) = g (4 * k + 2)) (e3 : h (4 * k + 3) = g (4 * k + 3)) : col h k = col g k := by unfold col; rw [e0, e1, e2, e3]
theorem plus_any (h k : Nat → By) (w : World) : Calls Tryz.prog 111 #[bv (col h), bv (col k)] w fun e w' => e = .returned (bv (col (plF h k))) ∧ Below w.heap.size w w' :=
  plus_core _ _ _ (fun c _ => by unfold col; rw [wd_xor]; rfl) w
theorem become_any (f : By → By) (b o : Nat) (h : Nat → By) (w : World) (hT : TabAt w b o f) : Calls Tryz.prog 108 #[bv (col h), .pointer (some ⟨b, o, none⟩)] w fun e w' => e = .returned (bv (col (beF f h))) ∧ Below w.heap.size w w' :=
  become_core _ _ b o f (fun k _ W hW => of_any f b o _ _ _ _ W hW) w hT
theorem turned_any (h : Nat → By) (w : World) : Calls Tryz.prog 109 #[bv (col h)] w fun e w' => e = .returned (bv (col (tnF h))) ∧ Below w.heap.size w w' := by
  refine turned_core _ _ (fun k hk => ?_) w
  have e : ∀ r, r < 4 → tnF h (4 * k + r) = h (4 * ((k + r) % 4) + r) := fun r hr => by
    unfold tnF
    rw [show (4 * k + r) / 4 = k by omega, show (4 * k + r) % 4 = r by omega]
  have e0 := e 0 (by omega)
  rw [Nat.add_zero, Nat.add_zero, Nat.add_zero, Nat.mod_eq_of_lt hk] at e0
  unfold col
  rw [e0, e 1 (by omega), e 2 (by omega), e 3 (by omega)]
  rw [show (4278190080 : Int) = wd 255 0 0 0 by decide, show (16711680 : Int) = wd 0 255 0 0 by decide, show (65280 : Int) = wd 0 0 255 0 by decide, show (255 : Int) = wd 0 0 0 255 by decide]
  simp only [wd_and, wd_or, an_ff, an_00, or_0, or_0']
theorem rot_8 (a b c d : By) (w : World) : Calls Tryz.prog 127 #[.int .u32 (wd a b c d), .int .i64 8] w fun e w' => e = .returned (.int .u32 (wd b c d a)) ∧ w' = w := by
  have := rotl_any (wd a b c d) 8 8 (by decide) (by decide) (by decide) w
  rw [show wd a b c d * 2 ^ (8 : Int).toNat % 4294967296 = wd b c d 0 by unfold wd wdN; have := a.2; have := b.2; have := c.2; have := d.2; simp; omega, show wd a b c d / 2 ^ ((32 : Int) - 8).toNat = wd 0 0 0 a by unfold wd wdN; have := a.2; have := b.2; have := c.2; have := d.2; simp; omega, wd_or] at this
  simpa only [or_0, or_0'] using this
theorem rot_16 (a b c d : By) (w : World) : Calls Tryz.prog 127 #[.int .u32 (wd a b c d), .int .i64 16] w fun e w' => e = .returned (.int .u32 (wd c d a b)) ∧ w' = w := by
  have := rotl_any (wd a b c d) 16 16 (by decide) (by decide) (by decide) w
  rw [show wd a b c d * 2 ^ (16 : Int).toNat % 4294967296 = wd c d 0 0 by unfold wd wdN; have := a.2; have := b.2; have := c.2; have := d.2; simp; omega, show wd a b c d / 2 ^ ((32 : Int) - 16).toNat = wd 0 0 a b by unfold wd wdN; have := a.2; have := b.2; have := c.2; have := d.2; simp; omega, wd_or] at this
  simpa only [or_0, or_0'] using this
theorem rot_24 (a b c d : By) (w : World) : Calls Tryz.prog 127 #[.int .u32 (wd a b c d), .int .i64 24] w fun e w' => e = .returned (.int .u32 (wd d a b c)) ∧ w' = w := by
  have := rotl_any (wd a b c d) 24 24 (by decide) (by decide) (by decide) w
  rw [show wd a b c d * 2 ^ (24 : Int).toNat % 4294967296 = wd d 0 0 0 by unfold wd wdN; have := a.2; have := b.2; have := c.2; have := d.2; simp; omega, show wd a b c d / 2 ^ ((32 : Int) - 24).toNat = wd 0 a b c by unfold wd wdN; have := a.2; have := b.2; have := c.2; have := d.2; simp; omega, wd_or] at this
  simpa only [or_0, or_0'] using this
theorem dF_xr (a b : By) : dF (xr a b) = xr (dF a) (dF b) := Fin.ext (T8_L.2 _ _)
theorem tm_2 : ∀ a : By, tmF a 2 = dF a := by decide +kernel
theorem tm_3 : ∀ a : By, tmF a 3 = xr (dF a) a := by decide +kernel
theorem tm_1 : ∀ a : By, tmF a 1 = a := by decide +kernel
theorem mx_is (a b c d : By) : xr (xr (xr (dF (xr a b)) b) c) d = mxB 2 3 1 1 a b c d := by
  unfold mxB
  rw [tm_2, tm_3, tm_1, tm_1, dF_xr, xr_assoc (dF a)]
theorem mixed_any (h : Nat → By) (w : World) : Calls Tryz.prog 110 #[bv (col h)] w fun e w' => e = .returned (bv (col (mxF 2 3 1 1 h))) ∧ Below w.heap.size w w' := by
  refine mixed_core (col h) (fun k => wd (h (4 * k + 1)) (h (4 * k + 2)) (h (4 * k + 3)) (h (4 * k))) (fun k => wd (h (4 * k + 2)) (h (4 * k + 3)) (h (4 * k)) (h (4 * k + 1))) (fun k => wd (h (4 * k + 3)) (h (4 * k)) (h (4 * k + 1)) (h (4 * k + 2)))
    (fun k => wd (dF (xr (h (4 * k)) (h (4 * k + 1)))) (dF (xr (h (4 * k + 1)) (h (4 * k + 2)))) (dF (xr (h (4 * k + 2)) (h (4 * k + 3)))) (dF (xr (h (4 * k + 3)) (h (4 * k))))) _
    (fun k _ W => rot_8 _ _ _ _ W) (fun k _ W => rot_16 _ _ _ _ W) (fun k _ W => rot_24 _ _ _ _ W) (fun k _ W => ?_) (fun k hk => ?_) w
  · have := dbl_any (bits .xor .u32 (col h k) (wd (h (4 * k + 1)) (h (4 * k + 2)) (h (4 * k + 3)) (h (4 * k)))) W
    unfold col at this ⊢
    rw [wd_xor] at this ⊢
    rw [dbW_wd] at this
    exact this
  · have e : ∀ r, r < 4 → mxF 2 3 1 1 h (4 * k + r) = mxB 2 3 1 1 (h (4 * k + r)) (h (4 * k + (r + 1) % 4)) (h (4 * k + (r + 2) % 4)) (h (4 * k + (r + 3) % 4)) := fun r hr => by
      unfold mxF
      rw [show (4 * k + r) / 4 = k by omega, show (4 * k + r) % 4 = r by omega]
    have e0 := e 0 (by omega)
    rw [Nat.add_zero] at e0
    unfold col
    rw [e0, e 1 (by omega), e 2 (by omega), e 3 (by omega)]
    simp only [wd_xor, mx_is, Nat.zero_add, Nat.reduceMod, Nat.reduceAdd, Nat.add_zero]
/-- Sixteen bytes as a text. -/
def tx (h : Nat → By) : ByteArray := mkS ((List.range 16).map fun j => ((h j).val : Int))
theorem w4_wd (a b c d : By) : w4 (wd a b c d) = [(a.val : Int), (b.val : Int), (c.val : Int), (d.val : Int)] := by
  unfold w4 wd wdN
  have := a.2; have := b.2; have := c.2; have := d.2
  simp only [List.cons.injEq, and_true]
  refine ⟨?_, ?_, ?_, ?_⟩ <;> omega
theorem txt_col (h : Nat → By) : txt (col h) = tx h := by
  unfold txt tx
  congr 1
  unfold hfL hfL hfL hfL hfL col
  simp only [w4_wd]
  rfl
theorem text_b (h : Nat → By) (w : World) : Calls Tryz.prog 98 #[bv (col h)] w fun e w' => e = .returned (.string (tx h)) ∧ Below w.heap.size w w' := by
  have := text_any (col h) w
  rwa [txt_col] at this
theorem tx_size (h : Nat → By) : (tx h).size = 16 := by unfold tx; rw [mkS_size]; simp
theorem bF_tx (h : Nat → By) (j : Nat) (hj : j < 16) : bF (tx h) j = h j := by
  apply Fin.ext
  have := mkS_bt ((List.range 16).map fun j => ((h j).val : Int)) j ((h j).val : Int) (by simp [hj]) (by omega) (by have := (h j).2; omega)
  have e := bF_bt (tx h) j
  unfold tx at e ⊢
  omega
theorem tx_bF (s : ByteArray) (hs : s.size = 16) : tx (bF s) = s := by
  apply ba_ext
  unfold tx
  rw [mkS_list, List.map_map]
  apply List.ext_getElem?
  intro j
  by_cases hj : j < 16
  · have e1 : s.data.toList[j]? = some (s.data[j]'(by have : s.data.size = 16 := hs; omega)) := by rw [Array.getElem?_toList]; exact Array.getElem?_eq_getElem _
    rw [e1, List.getElem?_map, List.getElem?_range hj]
    simp only [Option.map_some, Function.comp]
    rw [← bF_bt]
    unfold bt
    rw [Array.getElem?_eq_getElem (by have : s.data.size = 16 := hs; omega)]
    simp
  · rw [List.getElem?_eq_none (by simp; omega), List.getElem?_eq_none (by rw [len_list]; omega)]
theorem tx_congr {h k : Nat → By} (e : ∀ j, j < 16 → h j = k j) : tx h = tx k := by
  unfold tx
  congr 1
  refine List.map_congr_left fun j hj => ?_
  rw [e j (List.mem_range.1 hj)]
theorem bv_congr {h k : Nat → By} (e : ∀ j, j < 16 → h j = k j) : bv (col h) = bv (col k) := by
  unfold bv col
  rw [e _ (by omega), e _ (by omega), e _ (by omega), e _ (by omega), e _ (by omega), e _ (by omega), e _ (by omega), e _ (by omega), e _ (by omega), e _ (by omega), e _ (by omega), e _ (by omega), e _ (by omega), e _ (by omega), e _ (by omega), e _ (by omega)]
end Go.Proofs.YtjaljnfijhfkcaaGreatDoor
/- A key's words; a cipher's cells. -/
set_option linter.all false
set_option maxRecDepth 100000
namespace Go.Proofs.YtjaljnfijhfkcaaGreatDoor
open Go.RowKit Go.Sort Lin
/-- Four bytes. -/
abbrev Q4 : Type := By × By × By × By
def wQ (q : Q4) : Int := wd q.1 q.2.1 q.2.2.1 q.2.2.2
def bQ (q : Q4) (r : Nat) : By := match r with | 0 => q.1 | 1 => q.2.1 | 2 => q.2.2.1 | _ => q.2.2.2
def xQ (p q : Q4) : Q4 := (xr p.1 q.1, xr p.2.1 q.2.1, xr p.2.2.1 q.2.2.1, xr p.2.2.2 q.2.2.2)
def sQ (q : Q4) : Q4 := (sb q.1, sb q.2.1, sb q.2.2.1, sb q.2.2.2)
/-- The powers of x. -/
def rc : Nat → By
  | 0 => 1
  | k + 1 => tmF (rc k) 2
/-- What is added to the word that is a whole key ahead. -/
def tQ (nk n : Nat) (t : Q4) : Q4 :=
  if n % nk = 0 then (xr (sb t.2.1) (rc ((n - 1) / nk)), sb t.2.2.1, sb t.2.2.2, sb t.1)
  else if nk = 8 ∧ n % 8 = 4 then sQ t else t
def nxQ (key : Nat → By) (nk n : Nat) (l : List Q4) : Q4 :=
  if n < nk then (key (4 * n), key (4 * n + 1), key (4 * n + 2), key (4 * n + 3)) else xQ (l.getD (nk - 1) (0, 0, 0, 0)) (tQ nk n (l.getD 0 (0, 0, 0, 0)))
/-- The first n words, the last first. -/
def slQ (key : Nat → By) (nk : Nat) : Nat → List Q4
  | 0 => []
  | n + 1 => nxQ key nk n (slQ key nk n) :: slQ key nk n
/-- A key's n-th word. -/
def kQ (key : Nat → By) (nk n : Nat) : Q4 := nxQ key nk n (slQ key nk n)
theorem slQ_at (key : Nat → By) (nk : Nat) : ∀ n i, i < n → (slQ key nk n).getD i (0, 0, 0, 0) = kQ key nk (n - 1 - i) := by
  intro n
  induction n with
  | zero => intro i hi; omega
  | succ n ih =>
    intro i hi
    cases i with
    | zero => simp [slQ, kQ]
    | succ i =>
      show (slQ key nk n).getD i _ = _
      rw [ih i (by omega), show n + 1 - 1 - (i + 1) = n - 1 - i by omega]
theorem kQ_lo (key : Nat → By) (nk n : Nat) (h : n < nk) : kQ key nk n = (key (4 * n), key (4 * n + 1), key (4 * n + 2), key (4 * n + 3)) := by unfold kQ nxQ; rw [if_pos h]
theorem kQ_hi (key : Nat → By) (nk n : Nat) (h : nk ≤ n) (h0 : 0 < nk) : kQ key nk n = xQ (kQ key nk (n - nk)) (tQ nk n (kQ key nk (n - 1))) := by
  have e : kQ key nk n = xQ ((slQ key nk n).getD (nk - 1) (0, 0, 0, 0)) (tQ nk n ((slQ key nk n).getD 0 (0, 0, 0, 0))) := by unfold kQ nxQ; rw [if_neg (by omega)]
  rw [e, slQ_at key nk n _ (by omega), slQ_at key nk n 0 (by omega), show n - 1 - (nk - 1) = n - nk by omega, show n - 1 - 0 = n - 1 by omega]
/-- The j-th byte of what a key is made into. -/
def kB (key : Nat → By) (nk j : Nat) : By := bQ (kQ key nk (j / 4)) (j % 4)
theorem wQ_xor (p q : Q4) : bits .xor .u32 (wQ p) (wQ q) = wQ (xQ p q) := wd_xor _ _ _ _ _ _ _ _
theorem col_kB (key : Nat → By) (nk i c : Nat) : col (fun j => kB key nk (16 * i + j)) c = wQ (kQ key nk (4 * i + c)) := by
  unfold col kB wQ
  simp only []
  rw [show (16 * i + 4 * c) / 4 = 4 * i + c by omega, show (16 * i + 4 * c) % 4 = 0 by omega, show (16 * i + (4 * c + 1)) / 4 = 4 * i + c by omega, show (16 * i + (4 * c + 1)) % 4 = 1 by omega, show (16 * i + (4 * c + 2)) / 4 = 4 * i + c by omega, show (16 * i + (4 * c + 2)) % 4 = 2 by omega, show (16 * i + (4 * c + 3)) / 4 = 4 * i + c by omega, show (16 * i + (4 * c + 3)) % 4 = 3 by omega]
  rfl
/-- A cipher's cells. -/
def cph (key : ByteArray) (d st : Int) (T : Nat → Value) (X : Nat → Int) (last : Int) (j : Nat) : Value :=
  if j = 0 then .string key else if j = 1 then .int .u32 d else if j = 2 then .int .i32 st else if j = 3 then .int .u32 0 else if j < 260 then T (j - 4) else if j < 320 then .int .u32 (X (j - 260)) else .int .i64 last
def zT (_ : Nat) : Value := .int .u8 0
def sT (j : Nat) : Value := .int .u8 ((sb (Fin.ofNat 256 j)).val : Int)
theorem cph_0 {key d st T X last} : cph key d st T X last 0 = .string key := rfl
theorem cph_1 {key d st T X last} : cph key d st T X last 1 = .int .u32 d := rfl
theorem cph_2 {key d st T X last} : cph key d st T X last 2 = .int .i32 st := rfl
theorem cph_T {key d st T X last} (j : Nat) (h : j < 256) : cph key d st T X last (4 + j) = T j := by
  unfold cph
  rw [if_neg (by omega), if_neg (by omega), if_neg (by omega), if_neg (by omega), if_pos (by omega), show 4 + j - 4 = j by omega]
theorem cph_X {key d st T X last} (j : Nat) (h : j < 60) : cph key d st T X last (260 + j) = .int .u32 (X j) := by
  unfold cph
  rw [if_neg (by omega), if_neg (by omega), if_neg (by omega), if_neg (by omega), if_neg (by omega), if_pos (by omega), show 260 + j - 260 = j by omega]
theorem cph_l {key d st T X last} : cph key d st T X last 320 = .int .i64 last := rfl
/-- The cipher of block b. -/
def Cph (w : World) (b : Nat) (key : ByteArray) (d st : Int) (T : Nat → Value) (X : Nat → Int) (last : Int) : Prop := Arr w b 321 (cph key d st T X last)
theorem Cph.tab {w b key d st X last} (h : Cph w b key d st sT X last) : TabAt w b 4 sb := fun a => by
  have := h.c (4 + a.val) (by have := a.2; omega)
  rw [cph_T a.val a.2] at this
  rw [this]
  unfold sT
  congr
  exact Fin.ext (by simp [Nat.mod_eq_of_lt a.2])
theorem Cph.setX {w b key d st T X last} (h : Cph w b key d st T X last) (k : Nat) (hk : k < 60) (v : Int) : Cph (w.setCell ⟨b, 260 + k, none⟩ (.int .u32 v)) b key d st T (fun j => if j = k then v else X j) last := by
  refine (Arr.set h (260 + k) (by omega) _).congr ?_
  intro j hj
  by_cases e : j = 260 + k
  · subst e
    rw [if_pos rfl, cph_X k hk, if_pos rfl]
  · rw [if_neg e]
    unfold cph
    by_cases c1 : j < 260
    · simp only [if_pos c1]
    · by_cases c2 : j < 320
      · simp only [if_neg c1, if_pos c2, if_neg (show ¬ j = 0 by omega), if_neg (show ¬ j = 1 by omega), if_neg (show ¬ j = 2 by omega), if_neg (show ¬ j = 3 by omega), if_neg (show ¬ j - 260 = k by omega)]
      · simp only [if_neg c1, if_neg c2]
theorem Cph.setL {w b key d st T X last} (h : Cph w b key d st T X last) (v : Int) : Cph (w.setCell ⟨b, 320, none⟩ (.int .i64 v)) b key d st T X v := by
  refine (Arr.set h 320 (by omega) _).congr ?_
  intro j hj
  by_cases e : j = 320
  · subst e; rw [if_pos rfl]; rfl
  · rw [if_neg e]
    unfold cph
    by_cases c1 : j < 260
    · simp only [if_pos c1]
    · simp only [if_neg c1, if_pos (show j < 320 by omega)]
theorem Cph.setD {w b key d st T X last} (h : Cph w b key d st T X last) (v : Int) : Cph (w.setCell ⟨b, 1, none⟩ (.int .u32 v)) b key v st T X last := by
  refine (Arr.set h 1 (by omega) _).congr ?_
  intro j hj
  by_cases e : j = 1
  · subst e; rw [if_pos rfl]; rfl
  · rw [if_neg e]
    unfold cph
    simp only [if_neg e]
theorem Cph.setS {w b key d st T X last} (h : Cph w b key d st T X last) (v : Int) : Cph (w.setCell ⟨b, 2, none⟩ (.int .i32 v)) b key d v T X last := by
  refine (Arr.set h 2 (by omega) _).congr ?_
  intro j hj
  by_cases e : j = 2
  · subst e; rw [if_pos rfl]; rfl
  · rw [if_neg e]
    unfold cph
    simp only [if_neg e]
theorem cell_sets_out (w : World) (b j : Nat) : ∀ (vs : List Value) (o : Nat), (j < o ∨ o + vs.length ≤ j) → (w.setCells b o vs).cell? ⟨b, j, none⟩ = w.cell? ⟨b, j, none⟩ := by
  intro vs
  induction vs generalizing w with
  | nil => intro o _; rfl
  | cons v r ih =>
    intro o h
    have hl : (v :: r).length = r.length + 1 := rfl
    rw [World.setCells, ih _ (o + 1) (by omega), World.cell?_setCell_other _ _ _ _ (by intro hh; injection hh with _ h2; omega)]
theorem Cph.there {w b key d st T X last} (h : Cph w b key d st T X last) : w.there b 4 256 := fun j hj => by
  refine ⟨?_, Arr.z h (4 + j) (by omega)⟩
  rw [Arr.c h (4 + j) (by omega)]; rfl
theorem Cph.setT {w b key d st T X last} (h : Cph w b key d st T X last) : Cph (w.setCells b 4 (tbL sb)) b key d st sT X last := by
  intro j hj
  refine ⟨?_, by rw [frozen_sets]; exact Arr.z h j hj⟩
  by_cases e : 4 ≤ j ∧ j < 260
  · obtain ⟨i, rfl⟩ : ∃ i, j = 4 + i := ⟨j - 4, by omega⟩
    have R := World.rangeAt_setCells_same w b 4 (tbL sb) (by rw [tbL_len]; exact h.there)
    have := R i _ (tbL_at sb i (by omega))
    rw [this, cph_T i (by omega)]
    rfl
  · rw [cell_sets_out w b j (tbL sb) 4 (by rw [tbL_len]; omega), Arr.c h j hj]
    unfold cph
    by_cases c : j < 4
    · have : j = 0 ∨ j = 1 ∨ j = 2 ∨ j = 3 := by omega
      rcases this with rfl | rfl | rfl | rfl <;> rfl
    · simp only [if_neg (show ¬ j < 260 by omega)]
theorem Cph.congrX {w b key d st T X Y last} (h : Cph w b key d st T X last) (e : ∀ j, j < 60 → X j = Y j) : Cph w b key d st T Y last := by
  refine Arr.congr h ?_
  intro j hj
  unfold cph
  by_cases c1 : j < 260
  · simp only [if_pos c1]
  · by_cases c2 : j < 320
    · simp only [if_neg c1, if_pos c2, e (j - 260) (by omega)]
    · simp only [if_neg c1, if_neg c2]
/-- Only block b is written. -/
theorem gb_set (w : World) (b k : Nat) (v : Value) : w.grownBy (w.setCell ⟨b, k, none⟩ v) (some b) :=
  ⟨rfl, rfl, rfl, by rw [size_set]; omega, fun j _ hj => Below.heap_setCell _ _ _ j (fun e => hj (by rw [e]))⟩
theorem gb_trans {a b c : World} {r : Option Nat} (h : a.grownBy b r) (k : b.grownBy c r) : a.grownBy c r :=
  ⟨k.os.trans h.os, k.tape.trans h.tape, k.output.trans h.output, Nat.le_trans h.size k.size, fun i hi hr => (k.block i (Nat.lt_of_lt_of_le hi h.size) hr).trans (h.block i hi hr)⟩
theorem gb_of {a b : World} {r : Option Nat} (h : Below a.heap.size a b) : a.grownBy b r := ⟨h.os, h.tape, h.output, h.size, fun k hk _ => h.block k hk⟩
theorem gb_drew {a b : World} {r : Option Nat} (h : a.grownBy b r) : a.grownBy b.drew r := ⟨h.os, h.tape, h.output, h.size, h.block⟩
theorem gb_refl (a : World) (r : Option Nat) : a.grownBy a r := ⟨rfl, rfl, rfl, Nat.le_refl _, fun _ _ _ => rfl⟩
theorem gb_sets (w : World) (b : Nat) : ∀ (vs : List Value) (o : Nat), w.grownBy (w.setCells b o vs) (some b) := by
  intro vs
  induction vs generalizing w with
  | nil => intro o; exact gb_refl _ _
  | cons v r ih => intro o; rw [World.setCells]; exact gb_trans (gb_set _ _ _ _) (ih _ (o + 1))
theorem gb_cell {w w' : World} {b c j : Nat} (h : w.grownBy w' (some b)) (hc : c < w.heap.size) (hne : c ≠ b) : w'.cell? ⟨c, j, none⟩ = w.cell? ⟨c, j, none⟩ :=
  World.cell?_of_block (w := w) (h.block c hc (by intro e; exact hne (Option.some.inj e)))
theorem gb_frozen {w w' : World} {b c j : Nat} (h : w.grownBy w' (some b)) (hc : c < w.heap.size) (hne : c ≠ b) : w'.frozen? ⟨c, j, none⟩ = w.frozen? ⟨c, j, none⟩ :=
  World.frozen?_of_block (w := w) (h.block c hc (by intro e; exact hne (Option.some.inj e)))
theorem gb_arr {w w' : World} {b c n : Nat} {f : Nat → Value} (h : w.grownBy w' (some b)) (hne : c ≠ b) (hA : Arr w c (n + 1) f) : Arr w' c (n + 1) f := fun j hj =>
  ⟨(gb_cell h hA.lt hne).trans (hA.c j hj), (gb_frozen h hA.lt hne).trans (hA.z j hj)⟩
theorem gb_below {w W W' : World} {b : Nat} (h : Below w.heap.size w W) (hg : W.grownBy W' (some b)) (hb : w.heap.size ≤ b) : Below w.heap.size w W' :=
  h.grown hg h.size (fun k e => by cases e; exact hb)
theorem Cph.to {w w' b key d st T X last} (h : Cph w b key d st T X last) (hb : Below w.heap.size w w') : Cph w' b key d st T X last := Arr.to' h hb
theorem Cph.lt {w b key d st T X last} (h : Cph w b key d st T X last) : b < w.heap.size := Arr.lt h
theorem Cph.al {w b key d st T X last} (h : Cph w b key d st T X last) (o : Obj) : Cph (w.alloc o) b key d st T X last := Arr.al' h o
end Go.Proofs.YtjaljnfijhfkcaaGreatDoor
/- A range over a function whose iterator writes a block that was there, and tells its body more than what it hands out; the body may be left by an exit. -/
set_option linter.all false
namespace Go.Proofs.YtjaljnfijhfkcaaGreatDoor
open Go.RowKit Go.Shelf
variable {F : Fence} {n : Nat} {P : Program}
def SeqM {α : Type} (F : Fence) (n : Nat) (P : Program) (g : Nat) (lb : Array Value) (encs : α → Array Value) (Kp : World → World → Prop) (Mk : List α → α → World → Prop) (Bd S Sp : List α → Prop) (row : Option Nat) (Ed : World → Prop) (w : World) : Prop :=
  ∀ (l : Nat) (J Jx : List α → World → Prop) (W : World), Below w.heap.size w W → AbidesFrom W.heap.size J → AbidesFrom W.heap.size Jx → (∀ s A B, J s A → A.grownBy B row → J s B) → (∀ s A, J s A → Bd s) →
    (∀ pre x A, J pre A → Mk pre x A → YieldAt F (n - 1) P l (encs x) A fun e A' => (e = .returned (.bool true) ∧ J (pre ++ [x]) A' ∧ Kp A A') ∨ (e = .returned (.bool false) ∧ Jx (pre ++ [x]) A')) →
    J [] W → CallsIn F n P g (#[.func (.yield l) #[] #[]] ++ lb) W fun e A' => (∃ v, e = .returned v) ∧ ((∃ xs, S xs ∧ J xs A' ∧ Ed A') ∨ (∃ pre, Sp pre ∧ Jx pre A'))
/-- How a round may end. -/
def EndM {α : Type} (Kp : World → World → Prop) (I Ix : List α → World → Prop) (xs : List α) (W : World) : Exit → Act → World → Prop
  | .normal, _, W' => KeepsOthers W W' ∧ Kp W W' ∧ I xs W'
  | .exit id, _, W' => id = 0 ∧ KeepsOthers W W' ∧ Ix xs W'
  | _, _, _ => False
theorem Book.grown {w A B : World} {r : Loop} {row : Option Nat} (h : Book w r A) (hg : A.grownBy B row) (hr : ∀ k, row = some k → k < w.heap.size) : Book w r B :=
  ⟨(hg.block _ (Array.getElem?_eq_some_iff.1 h.1).1 (fun e => by have := hr _ e.symm; omega)).trans h.1, (hg.block _ (Array.getElem?_eq_some_iff.1 h.2).1 (fun e => by have := hr _ e.symm; omega)).trans h.2⟩
/-- One block that is no cells, of the loop's own, is turned. -/
def Upd (B : Nat) (W W' : World) : Prop := ∃ l o, W.heap[l]? = some o ∧ o.isCells = false ∧ B ≤ l ∧ W.grownBy W' (some l)
theorem Upd.own {β : Type} {B : Nat} {I : β → World → Prop} (hI : OwnFrom B I) {s : β} {W W' : World} (h : Upd B W W') (hi : I s W) : I s W' := by
  obtain ⟨l, o, h1, h2, h3, h4⟩ := h
  exact hI s W W' (some l) hi h4 (fun r e => by cases e; exact ⟨h3, o, h1, h2⟩)
theorem Upd.arr {B : Nat} {W W' : World} (h : Upd B W W') {b n : Nat} {f : Nat → Value} (hA : Arr W b n f) : Arr W' b n f := by
  obtain ⟨l, o, h1, h2, h3, h4⟩ := h
  exact arr_kept hA h4 (fun r e => by cases e; exact ⟨o, h1, h2⟩)
theorem wpIn_rangeFunc_made {α : Type} {g : Operand} {ps : Array Tmp} {assign body : Code} {Q : Exit → Act → World → Prop} {a : Act} {w : World}
    (hro : F.round = none) (h1 : 1 ≤ n) {gf : Nat} {lb : Array Value} (hg : a.eval g = .func (.func gf) #[] lb) (hFg : F.fn gf) (eg : ∀ args w, (callFunc gf args).run P w = .ok (.enter gf args) w)
    {encs : α → Array Value} {Kp : World → World → Prop} {Mk : List α → α → World → Prop} {Bd S Sp : List α → Prop} {row : Option Nat} {Ed : World → Prop} {w0 : World} (hseq : SeqM F (n - 1) P gf lb encs Kp Mk Bd S Sp row Ed w0)
    (hKt : ∀ {A B C : World}, Kp A B → Kp B C → Kp A C) (hKb : ∀ (W : World) (l : Nat) (o o' : Obj), w.heap.size ≤ l → W.heap[l]? = some o → o.isCells = false → Kp W (W.putObj l o')) (hKg : ∀ A B : World, A.grownBy B none → Kp A B) (hb0 : Below w0.heap.size w0 w) (hps : ∀ x, (encs x).size = ps.size)
    (hrow : ∀ k, row = some k → k < w.heap.size) (hMk : OwnFrom w.heap.size (fun (s : List α × α) W => Mk s.1 s.2 W)) (hEd : OwnFrom w.heap.size (fun (_ : Unit) W => Ed W))
    (I Ix : List α → World → Prop) (hI : OwnFrom w.heap.size I) (hIx : OwnFrom w.heap.size Ix) (hIg : ∀ s A B, I s A → A.grownBy B row → I s B) (hBd : ∀ s A, I s A → Bd s) (h0 : I [] w)
    (hround : ∀ (l : Nat) (pre : List α) (x : α) (W : World), I pre W → Mk pre x W →
      assign.wpIn (F.inRound l) (n - 1 - 1) P (Exit.then (fun a₁ W₁ => W.grownBy W₁ none ∧ ∀ W₂, Upd w.heap.size W₁ W₂ → I pre W₂ → Mk pre x W₂ → body.wpIn (F.inRound l) (n - 1 - 1) P (EndM Kp I Ix (pre ++ [x]) W₂) a₁ W₂) (fun _ _ _ => False))
        { tmps := (ps.zip (encs x)).foldl (fun t (p, v) => t.setIfInBounds p v) a.tmps, defers := [] } W)
    (hdone : ∀ (D : Nat) (xs : List α) (W : World), w.heap.size ≤ D → S xs → I xs W → Ed W → W.heap[D]? = some (.deferred (some [])) → Q .normal { a with defers := { target := .collected D, args := #[] } :: a.defers } W)
    (hstop : ∀ (D : Nat) (pre : List α) (W : World), w.heap.size ≤ D → Sp pre → Ix pre W → W.heap[D]? = some (.deferred (some [])) → (Code.exit 0).wpIn F n P Q { a with defers := { target := .collected D, args := #[] } :: a.defers } W) :
    (Code.rangeFunc g ps assign body).wpIn F n P Q a w := by
  refine wpIn_rangeFunc fun fn hfn => ?_
  rw [hro]
  obtain ⟨R, hR⟩ : ∃ R : LoopState → Option Code → Loop, R = fun st pe => { state := st, pending := pe, fn, tmps := a.tmps, params := ps, assign, body, defers := w.heap.size } := ⟨_, rfl⟩
  obtain ⟨V, hV⟩ : ∃ V, (w.alloc (.deferred (some []))).alloc (.loop (R .ready none)) = V := ⟨_, rfl⟩
  have bV : Book w (R .ready none) V := by
    rw [← hV]
    refine ⟨?_, (Below.heap_alloc _ _ _ (by simp)).trans (World.alloc_heap_new w _)⟩
    have := World.alloc_heap_new (w.alloc (.deferred (some []))) (.loop (R .ready none))
    rwa [World.size_alloc] at this
  have iV : I [] V := by rw [← hV]; exact hI.alloc _ (hI.alloc _ h0)
  have sV : w.heap.size ≤ V.heap.size := by rw [← hV]; simp; omega
  have cV : Below w0.heap.size w0 V := by
    rw [← hV]; exact hb0.trans ((((Below.refl _ w).alloc (Nat.le_refl _) _).alloc (by simp) _).mono hb0.size)
  refine ⟨w.heap.size + 1, [{ target := .collected w.heap.size, args := #[] }], V, { target := .fn (.func gf) lb, args := #[.func (.yield (w.heap.size + 1)) #[] #[]] }, V, gf,
    #[.func (.yield (w.heap.size + 1)) #[] #[]] ++ lb, V, by rw [← hV, hR]; exact run_enterLoop_outer _ _ _ _ _, by simp only [resolve, hg]; simp [go_sem], ?_, by simp [invoke, go_sem, eg], fun _ => h1, ?_⟩
  · intro f' hf'; simp [Target.leads] at hf'; subst hf'; exact hFg
  have far : ∀ {A : World} {rw : Option Nat}, (∀ r, rw = some r → V.heap.size ≤ r ∧ ∃ o : Obj, A.heap[r]? = some o ∧ o.isWalk = true) → (∀ r, rw = some r → w.heap.size ≤ r ∧ ∃ o : Obj, A.heap[r]? = some o ∧ o.isCells = false) := by
    intro A rw hr r e
    obtain ⟨hB, o, ho, hw⟩ := hr r e
    exact ⟨Nat.le_trans sV hB, o, ho, Obj.not_cells_of_walk hw⟩
  refine (hseq (w.heap.size + 1) (fun pre W => I pre W ∧ Book w (R .ready none) W) (fun pre W => Ix pre W ∧ Book w (R .done (some (.exit 0))) W) V cV ?_ ?_ ?_ (fun s A h => hBd s A h.1) ?_ ⟨iV, bV⟩).mono ?_
  · rintro s A B row' ⟨i, b⟩ hg' hr
    exact ⟨hI s A B row' i hg' (far hr), (grownBy_keeps hg' (fun r e => (hr r e).2) b.1 rfl).trans b.1, (grownBy_keeps hg' (fun r e => (hr r e).2) b.2 rfl).trans b.2⟩
  · rintro s A B row' ⟨i, b⟩ hg' hr
    exact ⟨hIx s A B row' i hg' (far hr), (grownBy_keeps hg' (fun r e => (hr r e).2) b.1 rfl).trans b.1, (grownBy_keeps hg' (fun r e => (hr r e).2) b.2 rfl).trans b.2⟩
  · rintro s A B ⟨i, b⟩ hg'
    exact ⟨hIg s A B i hg', b.grown hg' hrow⟩
  · rintro pre x W ⟨i, b⟩ hm
    have hy := run_yield (P := P) (args := encs x) b.1 (by rw [hR]; exact hps x)
    rw [hR] at hy
    refine ⟨fn, _, assign, body, hy, roundIn_of_wpIn hfn (wpIn_mono (hround _ pre x W i hm) ?_)⟩
    rintro e a1 W1 hp
    cases e with
    | normal =>
      obtain ⟨hg1, hb1⟩ := hp
      have none0 : ∀ r, (none : Option Nat) = some r → w.heap.size ≤ r ∧ ∃ o : Obj, W.heap[r]? = some o ∧ o.isCells = false := fun r e => by cases e
      have b1 : Book w (R .ready none) W1 := b.grown hg1 (fun k e => by cases e)
      have i1 := hI pre W W1 none i hg1 none0
      have m1 := hMk (pre, x) W W1 none hm hg1 none0
      have u1 : Upd w.heap.size W1 (W1.putObj (w.heap.size + 1) (.loop { R .ready none with state := .busy })) := ⟨w.heap.size + 1, _, b1.1, rfl, by omega, grownBy_putObj' _ _ _⟩
      have b2 := b1.put { R .ready none with state := .busy }
      refine ⟨_, run_beginRound b1.1 (by rw [hR]), ?_⟩
      have k2 : Kp W (W1.putObj (w.heap.size + 1) (.loop { R .ready none with state := .busy })) := hKt (hKg _ _ hg1) (hKb W1 (w.heap.size + 1) _ _ (by omega) b1.1 rfl)
      refine wpIn_mono (hb1 _ u1 (u1.own hI i1) (u1.own (s := (pre, x)) hMk m1)) ?_
      rintro e a3 W3 hp
      cases e with
      | normal =>
        obtain ⟨ko, kp, i3⟩ := hp
        have b3 := b2.keep ko
        have he := run_endRound (P := P) (none : Option Code) b3.1
        have b4 := b3.put (R .ready none)
        rw [hR] at he b4 b3
        refine ⟨_, _, he, .inl ⟨rfl, ⟨hI.putObj _ i3 (by omega) b3.1 rfl, ?_⟩, hKt (hKt (by rw [hR] at k2; exact k2) (by rw [hR] at kp; exact kp)) (hKb _ _ _ _ (by omega) b3.1 rfl)⟩⟩
        rw [hR]
        exact b4
      | exit id =>
        obtain ⟨rfl, ko, i3⟩ := hp
        have b3 := b2.keep ko
        have he := run_endRound (P := P) (some (Code.exit 0)) b3.1
        have b4 := b3.put (R .done (some (.exit 0)))
        rw [hR] at he b4 b3
        refine ⟨_, _, he, .inr ⟨rfl, hIx.putObj _ i3 (by omega) b3.1 rfl, ?_⟩⟩
        rw [hR]
        exact b4
      | ret => exact hp.elim
      | goto t => exact hp.elim
      | panic ch => exact hp.elim
      | outgrown => exact hp.elim
    | ret => exact hp.elim
    | exit id => exact hp.elim
    | goto t => exact hp.elim
    | panic ch => exact hp.elim
    | outgrown => exact hp.elim
  · rintro e W2 ⟨⟨v, rfl⟩, (⟨xs, hS, ⟨i, b⟩, ed⟩ | ⟨pre, hSp, i, b⟩)⟩
    · have he := run_endLoop (P := P) b.1 (by rw [hR]; simp)
      rw [hR] at he
      exact ⟨none, _, he, hdone _ xs _ (Nat.le_refl _) hS (hI.putObj _ i (by omega) b.1 rfl) (hEd.putObj (s := ()) _ ed (by omega) b.1 rfl) ((World.putObj_heap_other (by omega)).trans b.2)⟩
    · have he := run_endLoop (P := P) b.1 (by rw [hR]; simp)
      rw [hR] at he
      exact ⟨some (.exit 0), _, he, hstop _ pre _ (Nat.le_refl _) hSp (hIx.putObj _ i (by omega) b.1 rfl) ((World.putObj_heap_other (by omega)).trans b.2)⟩
end Go.Proofs.YtjaljnfijhfkcaaGreatDoor
