/- The reference's Read. -/
import Derived.Test.YtjdpeedghpblgaaGreatDoorJ18
set_option linter.all false
set_option maxRecDepth 100000
namespace Go.Proofs.YtjdpeedghpblgaaGreatDoor
open Go.RowKit Go.Sort Go.Lib
theorem results_cell3 {P : Program} {fn : Func} {p q r : Tmp} {ty : TypeId} {a : Addr} {v : Value} {w : World} (h : fn.results = #[.cell p ty, .tmp q, .tmp r]) (tmps : Array Value) (hp : tmps.getD p undef = .pointer (some a)) (hl : (loadVar ty a).run P w = .ok v w) :
    (results fn tmps).run P w = .ok (.tuple #[v, tmps.getD q undef, tmps.getD r undef]) w := by
  have hp' : tmps[p]?.getD undef = .pointer (some a) := by simpa using hp
  simp only [results, h]
  simp [Sem.run_bind, hp', asAddr, hl]
theorem bt_out (s : ByteArray) (i : Nat) (h : s.size ≤ i) : bt s i = 0 := by
  unfold bt
  rw [Array.getElem?_eq_none (by exact h)]
  rfl
/-- The length that a message tells. -/
def lnM (s : ByteArray) : Int := (bt s 1 * 256 + bt s 2) * 256 + bt s 3
def lnP (s : ByteArray) : Nat → Int
  | 0 => 0
  | 1 => 0
  | j + 2 => lnP s (j + 1) * 256 + bt s (j + 1)
theorem lnP_bd (s : ByteArray) (j : Nat) (h : j ≤ 4) : 0 ≤ lnP s j ∧ lnP s j < 16777216 := by
  have b1 := bt_bd s 1
  have b2 := bt_bd s 2
  have b3 := bt_bd s 3
  have : j = 0 ∨ j = 1 ∨ j = 2 ∨ j = 3 ∨ j = 4 := by omega
  rcases this with rfl | rfl | rfl | rfl | rfl <;> simp only [lnP, Nat.zero_add, Nat.reduceAdd] <;> omega
theorem lnP_4 (s : ByteArray) : lnP s 4 = lnM s := by unfold lnM; simp only [lnP, Nat.zero_add, Nat.reduceAdd]; omega
theorem lnP_s (s : ByteArray) (j : Nat) (h : 1 ≤ j) : lnP s (j + 1) = lnP s j * 256 + bt s j := by
  cases j with
  | zero => omega
  | succ j => rfl
/-- Read's errors but that of the body. -/
def hdE (s : ByteArray) : Int := if s.size = 0 then 11 else if kdB (bt s 0) = false then 23 else if 16384 < lnM s then 12 else if s.size < 4 ∨ (s.size : Int) < 4 + lnM s then 11 else 0
theorem kL0 : Cells (kL 0) 16 (noM.c nC) := kL_cells 0
theorem noM_v : noM.v nC = .agg (kL 0).toArray := by rw [Mg.v_l, kL_is]; rfl
theorem noM_ld {w : World} {b : Nat} (A : Arr w b 16 (noM.c nC)) : (loadVar 29 ⟨b, 0, none⟩).run Tryz.prog w = .ok (noM.v nC) w := by
  rw [noM_v]
  exact kL0.ld tM A 0 (by omega) (fun j _ => by rw [Nat.zero_add])
/-- What Read tells where it refuses. -/
abbrev rmN (E : Int) : Value := .tuple #[noM.v nC, .string nS, .int .i64 E]
set_option maxHeartbeats 1000000 in
theorem rRead_0 (w : World) : Calls Tryz.prog 11 #[.string nS] w fun e w' => e = .returned (rmN 11) ∧ Below w.heap.size w w' := by
  go_enter Tryz.func11, Tryz.ntmps11
  go_upto_region 1 with (fail)
  have A2 := newZ w _ rfl
  have hB : Below w.heap.size w (w.alloc (.cells z16 29)) := by go_grown
  have z2 := Arr.lt (n := 15) A2
  generalize w.alloc (.cells z16 29) = W at *
  go_upto_region 2 with (fail)
  refine wp_region_list ?_
  refine wpList_plain (by rfl) fun K1 hK1 => ?_
  have H1 : Hid _ := hK1
  clear hK1
  go_wp2_with fail
  refine H1.out _ _ ?_
  clear H1
  refine kL0.wst tM A2 (by rfl) (.tmp 2) (.tmp 12) (by rfl) (by rfl) (by rfl) ?_
  simp only [Act.put, List.setIfInBounds_toArray, List.set_cons_succ, List.set_cons_zero]
  have hB9 := below_setCells hB (b := w.heap.size) (Nat.le_refl _) (kL 0) 0
  have A9 := kL0.set A2
  generalize hWE : W.setCells w.heap.size 0 (kL 0) = WE at *
  go_wp2_with fail
  refine bodyPost_ret (results_cell3 rfl _ rfl (noM_ld A9)) rfl ⟨rfl, hB9⟩
set_option maxHeartbeats 1000000 in
theorem rRead_1 (s : ByteArray) (hs : s.size ≠ 0) (hz : s.size ≤ 1000000) (hk : kdB (bt s 0) = false) (w : World) : Calls Tryz.prog 11 #[.string s] w fun e w' => e = .returned (rmN 23) ∧ Below w.heap.size w w' := by
  have h1 : (s.toList == []) = false := by simpa using txt_ne (s := s) (t := nS) (fun e => hs (by rw [e]; rfl))
  have i0 := ix s 0 0 rfl (by omega)
  have b0 := bt_bd s 0
  have CK := known_b (bt s 0) false hk
  generalize bt s 0 = x at *
  go_enter Tryz.func11, Tryz.ntmps11
  go_upto_region 1 with (fail)
  have A2 := newZ w _ rfl
  have hB : Below w.heap.size w (w.alloc (.cells z16 29)) := by go_grown
  have z2 := Arr.lt (n := 15) A2
  generalize w.alloc (.cells z16 29) = W at *
  go_wp2_with fail
  refine (CK _).mono ?_
  rintro e W1 ⟨rfl, hb⟩
  replace A2 : Arr _ _ 16 _ := A2.to' (n := 15) hb
  replace hB := Bel.call hB hb
  go_upto_region 4 with (fail)
  refine wp_region_list ?_
  refine wpList_plain (by rfl) fun K1 hK1 => ?_
  have H1 : Hid _ := hK1
  clear hK1
  go_wp2_with fail
  refine H1.out _ _ ?_
  clear H1
  refine kL0.wst tM A2 (by rfl) (.tmp 2) (.tmp 18) (by rfl) (by rfl) (by rfl) ?_
  simp only [Act.put, List.setIfInBounds_toArray, List.set_cons_succ, List.set_cons_zero]
  have hB9 := below_setCells hB (b := w.heap.size) (Nat.le_refl _) (kL 0) 0
  have A9 := kL0.set A2
  generalize hWE : W1.setCells w.heap.size 0 (kL 0) = WE at *
  go_wp2_with fail
  refine bodyPost_ret (results_cell3 rfl _ rfl (noM_ld A9)) rfl ⟨rfl, hB9⟩
theorem run_store16 {L : List Value} {F : Nat → Value} (c : Cells L 16 F) {W : World} {b : Nat} {g : Nat → Value} (A : Arr W b 16 g) : (Instr.storeAt 29 (.pointer (some ⟨b, 0, none⟩)) (.agg L.toArray)).run Tryz.prog W = .ok () (W.setCells b 0 L) := by
  have hs : L.toArray.size = 16 := by rw [List.size_toArray]; exact c.len
  have := run_storeAt_mid (P := Tryz.prog) W b 0 29 L.toArray (by rw [hs]; exact A.there) (by rw [hs]; exact tM.i) (all_oneCell_toArray c.one)
  simpa using this
theorem gsC_size (f : Nat) : ∀ (x : ByteArray) (acc : List ByteArray) (N : Nat), x.size ≤ N → (∀ c ∈ acc, c.size ≤ N) → (∀ c ∈ gsC f x acc, c.size ≤ N) ∧ (gsC f x acc).length ≤ acc.length + f := by
  induction f with
  | zero => intro x acc N _ h; exact ⟨h, by rw [gsC]; omega⟩
  | succ f ih =>
    intro x acc N hx h
    rw [gsC]
    split
    · exact ⟨h, by omega⟩
    · have t := tk_size 3 x
      have b := bh_size (tkR 3 x) 2
      have := ih (bh (tkR 3 x) 2) (acc ++ [tkA 3 x]) N (by omega) (fun c hc => by
        rcases List.mem_append.1 hc with hc | hc
        · exact h c hc
        · simp at hc; subst hc; omega)
      rw [List.length_append] at this
      exact ⟨this.1, by have := this.2; simp at this; omega⟩
theorem gsM_fits (k : Int) (s : ByteArray) : (gsM k s).ok ∧ (gsM k s).cs.length ≤ 5 ∧ (∀ c ∈ (gsM k s).cs, c.size ≤ s.size) ∧ (gsM k s).nm.size ≤ s.size := by
  have z : (0 : Int) < top256 := by decide
  have o : ∀ m : Mg, m.x = 0 → m.y = 0 → m.ok := fun m h1 h2 => by unfold Mg.ok; rw [h1, h2]; exact ⟨by omega, z, by omega, z⟩
  unfold gsM
  split
  · have b34 := bh_size s 34
    have t1 := tk_size 1 (bh s 34)
    have c6 := bh_size (tkR 1 (bh s 34)) 6
    have cX := tk_size 2 (bh (tkR 1 (bh s 34)) 6)
    have zX : (gsX s).size ≤ s.size := by unfold gsX; omega
    have d2 := bh_size (gsX s) 2
    have dY := tk_size 2 (bh (gsX s) 2)
    have dZ := tk_size 2 (tkA 2 (bh (gsX s) 2))
    have e1 := bh_size (tkA 2 (tkA 2 (bh (gsX s) 2))) 1
    have e2 := tk_size 2 (bh (tkA 2 (tkA 2 (bh (gsX s) 2))) 1)
    have hnm : (tkA 2 (bh (tkA 2 (tkA 2 (bh (gsX s) 2))) 1)).size ≤ s.size := by omega
    clear b34 t1 c6 cX zX d2 dY dZ e1 e2
    generalize tkA 2 (bh (tkA 2 (tkA 2 (bh (gsX s) 2))) 1) = q1 at *
    generalize alO (bh (tkR 2 (bh (gsX s) 2)) 16) = q2 at *
    generalize fs (bh s 2) 32 = q3 at *
    generalize tkA 1 (bh s 34) = q4 at *
    generalize lsN (gsX s) 32 = q5 at *
    exact ⟨o _ rfl rfl, Nat.zero_le _, (fun c hc => by cases hc), hnm⟩
  split
  · exact ⟨o _ rfl rfl, Nat.zero_le _, (fun c hc => by cases hc), Nat.zero_le _⟩
  split
  · exact ⟨o _ rfl rfl, Nat.zero_le _, (fun c hc => by cases hc), Nat.zero_le _⟩
  split
  · have b1 := bh_size s 1
    have t3 := tk_size 3 (bh s 1)
    have := gsC_size 5 (tkA 3 (bh s 1)) [] s.size (by omega) (fun c hc => by cases hc)
    exact ⟨o _ rfl rfl, by simpa using this.2, this.1, Nat.zero_le _⟩
  split
  · have a := tiN_bd (boL (wiL (alL (tkA 2 (bh s 2)))) 0)
    have b := tiN_bd (boL (wiL (alL (tkA 2 (bh s 2)))) 1)
    exact ⟨⟨a.1, a.2, b.1, b.2⟩, Nat.zero_le _, (fun c hc => by cases hc), Nat.zero_le _⟩
  · exact ⟨o _ rfl rfl, Nat.zero_le _, (fun c hc => by cases hc), Nat.zero_le _⟩
theorem grown_setCells (w : World) (b : Nat) : ∀ (vs : List Value) (o : Nat), w.grownBy (w.setCells b o vs) (some b) := by
  intro vs
  induction vs generalizing w with
  | nil => intro o; exact ⟨rfl, rfl, rfl, Nat.le_refl _, fun _ _ _ => rfl⟩
  | cons v r ih =>
    intro o
    rw [World.setCells]
    have h1 := grown_setCell w b o v
    have h2 := ih (w.setCell ⟨b, o, none⟩ v) (o + 1)
    exact ⟨h2.os.trans h1.os, h2.tape.trans h1.tape, h2.output.trans h1.output, Nat.le_trans h1.size h2.size, fun k hk hne => (h2.block k (Nat.lt_of_lt_of_le hk h1.size) hne).trans (h1.block k hk hne)⟩
/-- One block may be written, once; all others stay. -/
def GB (b n : Nat) (F : Nat → Value) (W W' : World) : Prop := W.grownBy W' (some b) ∧ ((∀ f, Arr W b n f → Arr W' b n f) ∨ Arr W' b n F)
theorem GB.trans {b n : Nat} {F : Nat → Value} (x y z : World) (h : GB b n F x y) (g : GB b n F y z) : GB b n F x z := by
  refine ⟨⟨g.1.os.trans h.1.os, g.1.tape.trans h.1.tape, g.1.output.trans h.1.output, Nat.le_trans h.1.size g.1.size, fun k hk hne => (g.1.block k (Nat.lt_of_lt_of_le hk h.1.size) hne).trans (h.1.block k hk hne)⟩, ?_⟩
  rcases g.2 with g2 | g2
  · rcases h.2 with h2 | h2
    · exact Or.inl fun f hf => g2 f (h2 f hf)
    · exact Or.inr (g2 F h2)
  · exact Or.inr g2
theorem GB.refl {b n : Nat} {F : Nat → Value} (W : World) : GB b n F W W := ⟨⟨rfl, rfl, rfl, Nat.le_refl _, fun _ _ _ => rfl⟩, Or.inl fun f h => h⟩
theorem GB.drawn {b n : Nat} {F : Nat → Value} (W : World) (d : Nat) : GB b n F W { W with drawn := d } := ⟨⟨rfl, rfl, rfl, Nat.le_refl _, fun _ _ _ => rfl⟩, Or.inl fun f h => h⟩
theorem GB.arr {b n : Nat} {F f : Nat → Value} {W W' : World} (h : GB b n F W W') (hf : Arr W b n f) : ∃ g, Arr W' b n g := by
  rcases h.2 with h2 | h2
  · exact ⟨f, h2 f hf⟩
  · exact ⟨F, h2⟩
theorem txs_grown {W W' : World} {u : Value} {l : List ByteArray} {b c : Nat} (h : Txs W u l) (hF : Frs c u) (hb : b < c) (hg : W.grownBy W' (some b)) : Txs W' u l := by
  rcases h with h | ⟨a, cap, h1, h0, h2⟩
  · exact Or.inl h
  · obtain ⟨q, rfl, hq⟩ := hF a _ _ h1
    refine Or.inr ⟨_, cap, h1, h0, fun i s hi => hg.cell (h2 i s hi) ?_⟩
    rw [Addr.add_mid]
    intro e
    injection e with e
    simp only at e
    omega
def rlV (bk : Nat) (s R : ByteArray) (L : List Value) (F : Nat → Value) (n : Int) : Nat → Value → World → Prop
  | 0, v, _ => v = .agg L.toArray
  | 1, v, _ => v = .string s
  | 2, v, _ => v = .int .i64 n
  | 3, v, _ => v = .int .i64 (4 + n)
  | 4, v, _ => v = .string R
  | 5, _, W => Arr W bk 16 F
  | 6, v, _ => v = .string R
  | _, v, _ => v = .int .i64 0
theorem rlV.st (bk : Nat) (s R : ByteArray) (L : List Value) (F : Nat → Value) (n : Int) (i : Nat) (v : Value) (w w' : World) (h : rlV bk s R L F n i v w) (hb : GB bk 16 F w w') : rlV bk s R L F n i v w' := by
  match i, h with
  | 0, h | 1, h | 2, h | 3, h | 4, h | 6, h => exact h
  | 5, h =>
    rcases hb.2 with h2 | h2
    · exact h2 _ h
    · exact h2
  | n + 7, h => exact h
theorem txs_sets {W : World} {u : Value} {l : List ByteArray} {b p : Nat} {L : List Value} (h : Txs W u l) (hF : Frs b u) (A : Arr W p 16 (noM.c nC)) : Txs (W.setCells p 0 L) u l := by
  rcases h with h | ⟨a, cap, h1, h0, h2⟩
  · exact Or.inl h
  · obtain ⟨q, rfl, _⟩ := hF a _ _ h1
    refine Or.inr ⟨_, cap, h1, h0, fun i s hi => ?_⟩
    have c := h2 i s hi
    rw [Addr.add_mid, Nat.zero_add] at c ⊢
    have hl : 0 < l.length := by have := (List.getElem?_eq_some_iff.1 hi).1; omega
    have hne : p ≠ q := fun e => by
      subst e
      have c0 := h2 0 _ (List.getElem?_eq_getElem hl)
      rw [Addr.add_mid, Nat.zero_add] at c0
      rw [A.cv 0 (by omega) (.int .i64 0) rfl] at c0
      cases c0
    rw [cell_sets_other W p q i hne]
    exact c
/-- What the operations ahead of the guess give. -/
def grV (s B : ByteArray) (g : Mg) (b : Nat) (k n : Int) : Nat → Value → World → Prop
  | 0, v, _ => v = .string s
  | 1, v, _ => v = .int .u8 k
  | 2, v, _ => v = .int .i64 k
  | 3, v, _ => v = .string s
  | 4, v, _ => v = .int .i64 n
  | 5, v, _ => v = .int .i64 (4 + n)
  | 6, v, _ => v = .string B
  | 7, v, W => ∃ u, v = g.v u ∧ Txs W u g.cs ∧ Frs b u
  | _, v, W => ∃ p, v = .pointer (some ⟨p, 0, none⟩) ∧ b ≤ p ∧ Arr W p 16 (noM.c nC)
theorem grV.st (s B : ByteArray) (g : Mg) (b : Nat) (k n : Int) (i : Nat) (v : Value) (w w' : World) (h : grV s B g b k n i v w) (hb : Below w.heap.size w w') : grV s B g b k n i v w' := by
  match i, h with
  | 0, h | 1, h | 2, h | 3, h | 4, h | 5, h | 6, h => exact h
  | 7, ⟨u, h1, h2, h3⟩ => exact ⟨u, h1, h2.to hb, h3⟩
  | n + 8, ⟨p, h1, h2, h3⟩ => exact ⟨p, h1, h2, h3.to' (n := 15) hb⟩
set_option maxHeartbeats 4000000 in
theorem rRead_2 (s B X R : ByteArray) (g : Mg) (hs : s.size ≠ 0) (hz : s.size ≤ 1000000) (k : Int) (ek : bt s 0 = k) (hk : kdB k = true) (N : Int) (eN : lnM s = N) (E : Int) (O : Bool) (w : World)
    (hO : Hid ((16384 < N → E = 12) ∧ (¬ 16384 < N → s.size < 4 ∨ (s.size : Int) < 4 + N → E = 11) ∧ (¬ 16384 < N → 4 ≤ s.size → 4 + N ≤ (s.size : Int) → E = if O = true then 0 else 10)))
    (S1 : 4 ≤ s.size → 4 + N ≤ (s.size : Int) → ∀ W, (Instr.slice 9 (.string s) (some (.int .i64 4)) (some (.int .i64 (4 + N))) none).run Tryz.prog W = .ok (.string B) W)
    (S2 : 4 ≤ s.size → 4 + N ≤ (s.size : Int) → ∀ W, (Instr.slice 9 (.string s) none (some (.int .i64 (4 + N))) none).run Tryz.prog W = .ok (.string X) W)
    (S3 : 4 ≤ s.size → 4 + N ≤ (s.size : Int) → ∀ W, (Instr.slice 9 (.string s) (some (.int .i64 (4 + N))) none none).run Tryz.prog W = .ok (.string R) W)
    (C1 : ∀ W, Calls Tryz.prog 29 #[.int .i64 k, .string B] W fun e w' => (∃ v, e = .returned (g.v v) ∧ Txs w' v g.cs ∧ Frs W.heap.size v) ∧ Below W.heap.size W w')
    (C2 : ∀ W u, Txs W u g.cs → Calls Tryz.prog 9 #[g.v u] W fun e w' => e = .returned (wmR g) ∧ Below W.heap.size W w')
    (hG : O = (ftB g && decide (wrM g = X))) :
    Calls Tryz.prog 11 #[.string s] w fun e w' => ((E = 0 ∧ ∃ v, e = .returned (.tuple #[g.v v, .string R, .int .i64 0]) ∧ Txs w' v g.cs ∧ Frs w.heap.size v) ∨ (E ≠ 0 ∧ e = .returned (rmN E))) ∧ Below w.heap.size w w' := by
  have h1 : (s.toList == []) = false := by simpa using txt_ne (s := s) (t := nS) (fun e => hs (by rw [e]; rfl))
  have i0 := ix s 0 0 rfl (by omega)
  have b0 := bt_bd s 0
  have CK := known_b (bt s 0) true (by rw [ek]; exact hk)
  rw [ek] at i0 b0 CK
  have HP : Hid (lnP s 4 = N) := by show _ = _; rw [lnP_4, eN]
  have HG : Hid (O = (ftB g && decide (wrM g = X))) := hG
  clear ek hk eN hG
  go_enter Tryz.func11, Tryz.ntmps11
  go_upto_region 1 with (fail)
  have A2 := newZ w _ rfl
  have hB : Below w.heap.size w (w.alloc (.cells z16 29)) := by go_grown
  have z2 := Arr.lt (n := 15) A2
  generalize w.alloc (.cells z16 29) = W at *
  go_wp2_with fail
  refine (CK _).mono ?_
  rintro e W1 ⟨rfl, hb⟩
  replace A2 : Arr _ _ 16 _ := A2.to' (n := 15) hb
  replace hB := Bel.call hB hb
  clear hb CK z2
  go_wp2_with fail
  go_loop [5, 6] (fun n i => ∃ j : Nat, 1 ≤ j ∧ j ≤ 4 ∧ i = .int .i64 (j : Int) ∧ n = .int .i64 (lnP s j)) (fun _ i => 4 - (Go.RowKit.intOf i).toNat)
  case atStart => exact ⟨1, by omega, by omega, rfl, rfl⟩
  case round =>
    obtain ⟨j, j1, j4, rfl, rfl⟩ := hrel
    have bd := lnP_bd s j j4
    have jj : (0 : Int) ≤ (j : Int) := by omega
    by_cases hlt : j < 4
    · have jl : (j : Int) < 4 := by omega
      have HS : Hid (lnP s (j + 1) = lnP s j * 256 + bt s j) := lnP_s s j j1
      have bd2 := lnP_bd s (j + 1) (by omega)
      have bj := bt_bd s j
      by_cases hin : j < s.size
      · have jn : (j : Int) < (s.size : Int) := by omega
        have ij := fun W => idxS s j hin W
        clear hin bd2
        generalize lnP s j = p at *
        generalize bt s j = q at *
        go_wp2_with fail
        go_round
        case rel => exact ⟨j + 1, by omega, by omega, by go_num, by rw [HS.out]⟩
        case measure => simp [Go.RowKit.intOf]; omega
      · have jn : ¬ (j : Int) < (s.size : Int) := by omega
        have HS2 : Hid (lnP s (j + 1) = lnP s j * 256) := by show _ = _; rw [HS.out, bt_out s j (by omega)]; omega
        clear HS bd2 bj
        generalize lnP s j = p at *
        go_wp2_with fail
        go_round
        case rel => exact ⟨j + 1, by omega, by omega, by go_num, by rw [HS2.out]⟩
        case measure => simp [Go.RowKit.intOf]; omega
    · obtain rfl : j = 4 := by omega
      rw [HP.out] at bd ⊢
      clear jj hlt
      rw [show ((4 : Nat) : Int) = 4 from rfl]
      by_cases hN : 16384 < N
      · have HE : Hid (E = 12) := hO.out.1 hN
        clear S1 S2 S3 C1 C2 hO HG i0
        go_upto_region 13 with (fail)
        refine wp_region_list ?_
        refine wpList_plain (by rfl) fun K1 hK1 => ?_
        have H1 : Hid _ := hK1
        clear hK1
        go_wp2_with fail
        refine H1.out _ _ ?_
        clear H1
        refine kL0.wst tM A2 (by rfl) (.tmp 2) (.tmp 37) (by rfl) (by rfl) (by rfl) ?_
        simp only [Act.put, List.setIfInBounds_toArray, List.set_cons_succ, List.set_cons_zero]
        have hB9 := below_setCells hB (b := w.heap.size) (Nat.le_refl _) (kL 0) 0
        have A9 := kL0.set A2
        generalize hWE : W1.setCells w.heap.size 0 (kL 0) = WE at *
        go_wp2_with fail
        refine bodyPost_ret (results_cell3 rfl _ rfl (noM_ld A9)) rfl ⟨Or.inr ⟨by rw [HE.out]; decide, by rw [HE.out]; rfl⟩, hB9⟩
      by_cases hS : s.size < 4 ∨ (s.size : Int) < 4 + N
      · have HE : Hid (E = 11) := hO.out.2.1 (by omega) hS
        clear S1 S2 S3 C1 C2 hO HG i0
        by_cases h4 : s.size < 4
        · have h4' : (s.size : Int) < 4 := by omega
          go_upto_region 15 with (fail)
          refine wp_region_list ?_
          refine wpList_plain (by rfl) fun K1 hK1 => ?_
          have H1 : Hid _ := hK1
          clear hK1
          go_wp2_with fail
          refine H1.out _ _ ?_
          clear H1
          refine kL0.wst tM A2 (by rfl) (.tmp 2) (.tmp 48) (by rfl) (by rfl) (by rfl) ?_
          simp only [Act.put, List.setIfInBounds_toArray, List.set_cons_succ, List.set_cons_zero]
          have hB9 := below_setCells hB (b := w.heap.size) (Nat.le_refl _) (kL 0) 0
          have A9 := kL0.set A2
          generalize hWE : W1.setCells w.heap.size 0 (kL 0) = WE at *
          go_wp2_with fail
          refine bodyPost_ret (results_cell3 rfl _ rfl (noM_ld A9)) rfl ⟨Or.inr ⟨by rw [HE.out]; decide, by rw [HE.out]; rfl⟩, hB9⟩
        · have h4' : ¬ (s.size : Int) < 4 := by omega
          have h5 : (s.size : Int) < 4 + N := by omega
          have h4b : decide ((s.size : Int) < 4) = false := decide_eq_false h4'
          go_upto_region 15 with (fail)
          refine wp_region_list ?_
          refine wpList_plain (by rfl) fun K1 hK1 => ?_
          have H1 : Hid _ := hK1
          clear hK1
          go_wp2_with fail
          refine H1.out _ _ ?_
          clear H1
          refine kL0.wst tM A2 (by rfl) (.tmp 2) (.tmp 48) (by rfl) (by rfl) (by rfl) ?_
          simp only [Act.put, List.setIfInBounds_toArray, List.set_cons_succ, List.set_cons_zero]
          have hB9 := below_setCells hB (b := w.heap.size) (Nat.le_refl _) (kL 0) 0
          have A9 := kL0.set A2
          generalize hWE : W1.setCells w.heap.size 0 (kL 0) = WE at *
          go_wp2_with fail
          refine bodyPost_ret (results_cell3 rfl _ rfl (noM_ld A9)) rfl ⟨Or.inr ⟨by rw [HE.out]; decide, by rw [HE.out]; rfl⟩, hB9⟩
      have h4 : ¬ (s.size : Int) < 4 := by omega
      have h5 : ¬ (s.size : Int) < 4 + N := by omega
      have h4b : decide ((s.size : Int) < 4) = false := decide_eq_false h4
      have h5b : decide ((s.size : Int) < 4 + N) = false := decide_eq_false h5
      have HE : Hid (E = if O = true then 0 else 10) := hO.out.2.2 (by omega) (by omega) (by omega)
      have T1 := S1 (by omega) (by omega)
      have T2 := S2 (by omega) (by omega)
      have T3 := S3 (by omega) (by omega)
      clear S1 S2 S3 hO hS
      go_upto_region 16 with (fail)
      have wz : IntKind.i64.wrap (4 + N) = 4 + N := by rw [IntKind.wrap_i64]; omega
      have wk : IntKind.i64.wrap k = k := by rw [IntKind.wrap_i64]; omega
      refine wp_region_rel 9 (grV s B g W1.heap.size k N) (by kernel_rfl) (by kernel_rfl) (grV.st _ _ _ _ _ _) ?_ ?_
      · intro i o ρ W hi ho hW hP hS
        have ci : i = 0 ∨ i = 1 ∨ i = 2 ∨ i = 3 ∨ i = 4 ∨ i = 5 ∨ i = 6 ∨ i = 7 ∨ i = 8 := by omega
        have hc := hP.c
        have hf := hP.f
        rcases ci with rfl | rfl | rfl | rfl | rfl | rfl | rfl | rfl | rfl <;> cases ho
        · have h' : ρ (.tmp 0) = .string s := hS 0 (by kernel_rfl)
          exact Stp.val (by simp [execOp, h', go_sem] <;> rfl) rfl
        · have h' : ρ (.tmp 49) = .string s := hS 49 (by kernel_rfl)
          exact Stp.val (by simp [execOp, h', hc, go_sem, i0] <;> rfl) rfl
        · have h' : ρ (.tmp 50) = .int .u8 k := hS 50 (by kernel_rfl)
          exact Stp.val (by simp [execOp, h', go_sem, wk] <;> rfl) rfl
        · have h' : ρ (.tmp 0) = .string s := hS 0 (by kernel_rfl)
          exact Stp.val (by simp [execOp, h', go_sem] <;> rfl) rfl
        · have h' : ρ (.tmp 5) = .int .i64 N := hS 5 (by kernel_rfl)
          exact Stp.val (by simp [execOp, h', go_sem] <;> rfl) rfl
        · have h' : ρ (.tmp 53) = .int .i64 N := hS 53 (by kernel_rfl)
          exact Stp.val (by simp [execOp, h', hc, go_sem, wz] <;> rfl) rfl
        · have h1 : ρ (.tmp 52) = .string s := hS 52 (by kernel_rfl)
          have h2 : ρ (.tmp 54) = .int .i64 (4 + N) := hS 54 (by kernel_rfl)
          exact Stp.val (by simp [execOp, h1, h2, hc, go_sem, T1] <;> rfl) rfl
        · have h1 : ρ (.tmp 51) = .int .i64 k := hS 51 (by kernel_rfl)
          have h2 : ρ (.tmp 55) = .string B := hS 55 (by kernel_rfl)
          refine Stp.calls (f := 29) (args := #[.int .i64 k, .string B]) (by simp [execOp, h1, h2, hf, go_sem] <;> rfl) ((C1 W).mono ?_)
          rintro e w' ⟨⟨v, rfl, hT, hF⟩, hb⟩
          exact ⟨_, rfl, hb, v, rfl, hT, fun a n c h => by
            obtain ⟨q, e, hq⟩ := hF a n c h
            exact ⟨q, e, Nat.le_trans hW.size hq⟩⟩
        · exact Stp.new (w' := W.alloc (.cells z16 29)) (v := .pointer (some ⟨W.heap.size, 0, none⟩)) (by simp [execOp, go_sem] <;> rfl) ((Below.refl _ W).alloc (Nat.le_refl _) _) ⟨W.heap.size, rfl, hW.size, newZ W _ rfl⟩
      intro x W hW hV
      obtain ⟨u, h7, hT, hF⟩ : ∃ u, x 7 = g.v u ∧ Txs W u g.cs ∧ Frs W1.heap.size u := hV 7 (by omega)
      obtain ⟨p, h8, hp, A7⟩ : ∃ p, x 8 = .pointer (some ⟨p, 0, none⟩) ∧ W1.heap.size ≤ p ∧ Arr W p 16 (noM.c nC) := hV 8 (by omega)
      have z2 := Arr.lt (n := 15) A2
      replace A2 : Arr _ _ 16 _ := A2.to' (n := 15) hW
      have hz1 := hB.size
      replace hB := Bel.call hB hW
      clear hV hW C1 T1
      simp only [puts, List.take_succ_cons, List.take_zero, List.drop_succ_cons, List.drop_zero, Act.put, List.setIfInBounds_toArray, List.set_cons_succ, List.set_cons_zero]
      obtain ⟨uo, uc, hu⟩ : ∃ uo uc, u = .slice uo g.cs.length uc := by
        obtain ⟨a0, c0, e0, _⟩ := hT.form
        exact ⟨a0, c0, e0⟩
      have hC := g.cells u (by rw [hu]; rfl)
      rw [Mg.v_l] at h7
      rw [h7, h8]
      have HV : Hid (g.v u = .agg (g.l u).toArray) := rfl
      have C2' := fun W h => C2 W u h
      simp only [HV.out] at C2'
      have hT2 : Txs (W.setCells p 0 (g.l u)) u g.cs := txs_sets hT hF A7
      generalize g.l u = L at *
      refine hC.wst tM A7 (by rfl) (.tmp 7) (.tmp 56) (by rfl) (by rfl) (by rfl) ?_
      refine wpList_nil ?_
      replace A7 := hC.set A7
      replace A2 : Arr _ _ 16 _ := A2.setso (b' := p) (by omega) L 0
      replace hB := below_setCells hB (b := p) (by omega) L 0
      clear hT
      generalize W.setCells p 0 L = W3 at *
      go_upto_region 17 with (fail)
      refine wp_region_list ?_
      refine hC.wld tM A7 0 (by omega) (fun j _ => by rw [Nat.zero_add]) (by rfl) (.tmp 7) (by rfl) (by rfl) ?_
      simp only [Act.put, List.setIfInBounds_toArray, List.set_cons_succ, List.set_cons_zero]
      go_wp2_with fail
      refine (C2' _ hT2).mono ?_
      rintro e W4 ⟨rfl, hb⟩
      replace A2 : Arr _ _ 16 _ := A2.to' (n := 15) hb
      replace A7 : Arr _ _ 16 _ := A7.to' (n := 15) hb
      replace hB := Bel.call hB hb
      replace hT2 := hT2.to hb
      clear hb C2 C2'
      unfold wmR
      cases hft : ftB g
      · have HE2 : Hid (E = 10) := by show _ = _; rw [HE.out, HG.out, hft]; rfl
        rw [if_neg (by decide)]
        clear HE HG
        go_upto_region 19 with (fail)
        refine wp_region_list ?_
        refine wpList_plain (by rfl) fun K1 hK1 => ?_
        have H1 : Hid _ := hK1
        clear hK1
        go_wp2_with fail
        refine H1.out _ _ ?_
        clear H1
        refine kL0.wst tM A2 (by rfl) (.tmp 2) (.tmp 72) (by rfl) (by rfl) (by rfl) ?_
        simp only [Act.put, List.setIfInBounds_toArray, List.set_cons_succ, List.set_cons_zero]
        have hB9 := below_setCells hB (b := w.heap.size) (Nat.le_refl _) (kL 0) 0
        have A9 := kL0.set A2
        generalize hWE : W4.setCells w.heap.size 0 (kL 0) = WE at *
        go_wp2_with fail
        refine bodyPost_ret (results_cell3 rfl _ rfl (noM_ld A9)) rfl ⟨Or.inr ⟨by rw [HE2.out]; decide, by rw [HE2.out]; rfl⟩, hB9⟩
      · rw [if_pos rfl]
        by_cases hX : wrM g = X
        · have HE2 : Hid (E = 0) := by show _ = _; rw [HE.out, HG.out, hft, decide_eq_true hX]; rfl
          have hXX : (X.toList == X.toList) = true := by simp
          rw [hX]
          clear HE HG hX
          go_upto_region 20 with (fail)
          clear T2
          have z4 := Arr.lt (n := 15) A2
          have z7 := Arr.lt (n := 15) A7
          have hpb : p ≠ w.heap.size := by omega
          refine wp_region_all (GB w.heap.size 16 (g.c u)) (rlV w.heap.size s R L (g.c u) N) (by kernel_rfl) (by kernel_rfl) (fun d => GB.drawn _ d) GB.trans (fun i v w1 w2 h _ q => rlV.st _ s R L _ N i v w1 w2 h q) ?_ ?_
          · intro i o ρ W hi ho hW hP hS
            have ci : i = 0 ∨ i = 1 ∨ i = 2 ∨ i = 3 ∨ i = 4 ∨ i = 5 ∨ i = 6 ∨ i = 7 := by simp only [List.length_cons, List.length_nil] at hi; omega
            have hc := hP.c
            have AW : Arr W p 16 (g.c u) := A7.grown hW.1 z7 (by intro e; injection e with e; exact hpb e)
            rcases ci with rfl | rfl | rfl | rfl | rfl | rfl | rfl | rfl <;> cases ho
            · have h' : ρ (.tmp 7) = .pointer (some ⟨p, 0, none⟩) := hS 7 (by kernel_rfl)
              exact StG.val (by simp only [execOp, h', Instr.loadAt, Instr.sureAddr, Sem.run_bind, Sem.run_pure, Result.andThen_ok, hC.ld tM AW 0 (by omega) (fun j _ => by rw [Nat.zero_add])] <;> rfl) (GB.refl _) rfl
            · have h' : ρ (.tmp 0) = .string s := hS 0 (by kernel_rfl)
              exact StG.val (by simp [execOp, h', go_sem] <;> rfl) (GB.refl _) rfl
            · have h' : ρ (.tmp 5) = .int .i64 N := hS 5 (by kernel_rfl)
              exact StG.val (by simp [execOp, h', go_sem] <;> rfl) (GB.refl _) rfl
            · have h' : ρ (.tmp 75) = .int .i64 N := hS 75 (by kernel_rfl)
              exact StG.val (by simp [execOp, h', hc, go_sem, wz] <;> rfl) (GB.refl _) rfl
            · have h1 : ρ (.tmp 74) = .string s := hS 74 (by kernel_rfl)
              have h2 : ρ (.tmp 76) = .int .i64 (4 + N) := hS 76 (by kernel_rfl)
              exact StG.val (by simp [execOp, h1, h2, hc, go_sem, T3] <;> rfl) (GB.refl _) rfl
            · have h1 : ρ (.tmp 2) = .pointer (some ⟨w.heap.size, 0, none⟩) := hS 2 (by kernel_rfl)
              have h2 : ρ (.tmp 73) = .agg L.toArray := hS 73 (by kernel_rfl)
              obtain ⟨f, Af⟩ := hW.arr A2
              refine StG.put (w' := W.setCells w.heap.size 0 L) (by simp only [execOp, h1, h2, Sem.run_bind, run_store16 hC Af, Result.andThen_ok, Sem.run_pure] <;> rfl) ⟨grown_setCells W w.heap.size L 0, Or.inr (hC.set Af)⟩ (hC.set Af)
            · have h' : ρ (.tmp 77) = .string R := hS 77 (by kernel_rfl)
              exact StG.val (by simp [execOp, h', go_sem] <;> rfl) (GB.refl _) rfl
            · exact StG.val (by simp [execOp, hc, go_sem] <;> rfl) (GB.refl _) rfl
          intro x W hW hV
          have h5 : Arr W w.heap.size 16 (g.c u) := hV 5 (by decide)
          have h6 : x 6 = .string R := hV 6 (by decide)
          have h7' : x 7 = .int .i64 0 := hV 7 (by decide)
          have hTW : Txs W u g.cs := txs_grown hT2 hF (by omega) hW.1
          have hBW : Below w.heap.size w W := hB.grown hW.1 hB.size (fun q hq => by injection hq with hq; omega)
          clear hV hW A2 A7 T3 i0
          simp only [puts, Act.put, List.setIfInBounds_toArray, List.set_cons_succ, List.set_cons_zero, h6, h7']
          go_wp2_with fail
          refine bodyPost_ret (results_cell3 rfl _ rfl (hC.ld tM h5 0 (by omega) (fun j _ => by rw [Nat.zero_add]))) rfl ⟨Or.inl ⟨HE2.out, u, ?_, hTW, ?_⟩, hBW⟩
          · rw [HV.out]; rfl
          · intro a n c h
            obtain ⟨q, e, hq⟩ := hF a n c h
            exact ⟨q, e, by omega⟩
        · have hX2 := txt_ne hX
          have HE2 : Hid (E = 10) := by show _ = _; rw [HE.out, HG.out, hft, decide_eq_false hX]; rfl
          clear HE HG
          generalize wrM g = Y at *
          go_upto_region 19 with (fail)
          refine wp_region_list ?_
          refine wpList_plain (by rfl) fun K1 hK1 => ?_
          have H1 : Hid _ := hK1
          clear hK1
          go_wp2_with fail
          refine H1.out _ _ ?_
          clear H1
          refine kL0.wst tM A2 (by rfl) (.tmp 2) (.tmp 72) (by rfl) (by rfl) (by rfl) ?_
          simp only [Act.put, List.setIfInBounds_toArray, List.set_cons_succ, List.set_cons_zero]
          have hB9 := below_setCells hB (b := w.heap.size) (Nat.le_refl _) (kL 0) 0
          have A9 := kL0.set A2
          generalize hWE : W4.setCells w.heap.size 0 (kL 0) = WE at *
          go_wp2_with fail
          refine bodyPost_ret (results_cell3 rfl _ rfl (noM_ld A9)) rfl ⟨Or.inr ⟨by rw [HE2.out]; decide, by rw [HE2.out]; rfl⟩, hB9⟩
end Go.Proofs.YtjdpeedghpblgaaGreatDoor
