/- Texts joined: N2, N3, N4, N5, N6, N7, N8, NS, NL, QN, H1, H2, H3, C8, C9, H4, M1, H5, H6, R1, QB, QC, QD. -/
import Derived.Deep.MidRow
import Derived.Deep.Cut
import Derived.Laws.BytesString
import Derived.Lib.BufferWrite
import Derived.Lib.AppendStr
import Derived.RangeFuncBox
import Derived.WalkMore
import Derived.Shelf.Abstract
import Derived.Test.YtmkfnfencllfnaaDoorJ2
import Derived.Test.YtmkfnfencllfnaaDoorJ1
/- The reference of nego: Ask. -/
set_option linter.all false
set_option maxRecDepth 100000
namespace Go.Proofs.YtmkfnfencllfnaaDoor
open Go.RowKit Go.Shelf Go.Sort Go.Lib
theorem own_to' {w w' : World} {b e m n : Nat} {v : Value} {xs : List Value} (h : w.ownsRow b e m v n xs) (hb : Below w.heap.size w w') : w'.ownsRow b e m v n xs := by
  refine World.ownsRow.kept h (gby hb) ?_
  obtain ⟨ao, cv, rfl⟩ := own_frm h
  cases ao <;> simp [Value.ownBlock]
theorem ask_no (l : List Int) (h : ByteArray) (p : Int) (E : Int) (e : askE l h p = E) (h0 : E ≠ 0) : askL l h p = [] := by unfold askL; rw [if_neg (by rw [e]; exact h0)]
end Go.Proofs.YtmkfnfencllfnaaDoor
/- The reference of nego: Answer. -/
set_option linter.all false
set_option maxRecDepth 100000
namespace Go.Proofs.YtmkfnfencllfnaaDoor
open Go.RowKit Go.Shelf Go.Sort Go.Lib
theorem nm_len (l : List Ke) (kd : Int) : (nmR l kd).1.length ≤ 100000 := by
  unfold nmR
  split
  · split
    · rename_i r _ _
      have := tp_len r.s
      show (tpR r.s).length ≤ 100000
      omega
    · decide
  · decide
/-- A row of texts in memory. -/
def Sls (w : World) (v : Value) (l : List ByteArray) : Prop := ∃ (a : Option Addr) (c : Nat), v = .slice a l.length c ∧ ∀ (i : Nat) (s : ByteArray), l[i]? = some s → ∃ g o, a = some ⟨g, o, none⟩ ∧ g < w.heap.size ∧ w.cell? ⟨g, o + i, none⟩ = some (.string s)
theorem Sls.to {w w' : World} {v : Value} {l : List ByteArray} (h : Sls w v l) (hb : Below w.heap.size w w') : Sls w' v l := by
  obtain ⟨a, c, h1, h2⟩ := h
  refine ⟨a, c, h1, fun i r hi => ?_⟩
  obtain ⟨g, o, e, lt, c3⟩ := h2 i r hi
  exact ⟨g, o, e, Nat.lt_of_lt_of_le lt hb.size, (hb.cell (p := ⟨g, o + i, none⟩) lt).trans c3⟩
def kcV (c : Kc) (va vc : Value) : Value := .agg #[va, .string c.h, .int .i64 c.p, vc]
theorem kcC_at (va vc : Value) (h : ByteArray) (p : Int) : ∀ j, j < 4 → (#[va, Value.string h, .int .i64 p, vc] : Array Value)[j]? = some (([va, Value.string h, .int .i64 p, vc] : List Value).getD j undef) := fun j hj => by
  match j, hj with
  | 0, _ => rfl
  | 1, _ => rfl
  | 2, _ => rfl
  | 3, _ => rfl
theorem cks_take (l : List ByteArray) (j : Nat) (s : ByteArray) (h : l[j]? = some s) : cksL (l.take (j + 1)) = cksL (l.take j) ++ [⟨false, 5, s⟩] := by
  rw [take_snoc' l j s h]
  unfold cksL
  rw [List.map_append]
  rfl
theorem ch_take (l t : List Int) (j : Nat) (x : Int) (h : l[j]? = some x) : chA (l.take (j + 1)) t = if chA (l.take j) t = 0 then (if 0 < ksI x ∧ hasB t x = true then x else 0) else chA (l.take j) t := by
  rw [take_snoc' l j x h, chA_snoc]
theorem ch_end (l t : List Int) (j : Nat) (h : chA (l.take j) t ≠ 0) : chA l t = chA (l.take j) t := by
  have := chA_app (l.take j) (l.drop j) t h
  rwa [List.take_append_drop] at this
end Go.Proofs.YtmkfnfencllfnaaDoor
/- The reference of nego: Answer, a long way. -/
set_option linter.all false
set_option maxRecDepth 100000
namespace Go.Proofs.YtmkfnfencllfnaaDoor
open Go.RowKit Go.Shelf Go.Sort Go.Lib
end Go.Proofs.YtmkfnfencllfnaaDoor
/- The reference of nego: Answer, a long way. -/
set_option linter.all false
set_option maxRecDepth 100000
namespace Go.Proofs.YtmkfnfencllfnaaDoor
open Go.RowKit Go.Shelf Go.Sort Go.Lib
end Go.Proofs.YtmkfnfencllfnaaDoor
/- The reference of nego: Answer, a long way. -/
set_option linter.all false
set_option maxRecDepth 100000
namespace Go.Proofs.YtmkfnfencllfnaaDoor
open Go.RowKit Go.Shelf Go.Sort Go.Lib
end Go.Proofs.YtmkfnfencllfnaaDoor
/- The reference of nego: Answer, a long way. -/
set_option linter.all false
set_option maxRecDepth 100000
namespace Go.Proofs.YtmkfnfencllfnaaDoor
open Go.RowKit Go.Shelf Go.Sort Go.Lib
end Go.Proofs.YtmkfnfencllfnaaDoor
/- The reference of nego: Answer as a function. -/
set_option linter.all false
set_option maxRecDepth 100000
namespace Go.Proofs.YtmkfnfencllfnaaDoor
open Go.RowKit Go.Shelf Go.Sort Go.Lib
end Go.Proofs.YtmkfnfencllfnaaDoor
/- The reference of nego: Same. -/
set_option linter.all false
set_option maxRecDepth 100000
namespace Go.Proofs.YtmkfnfencllfnaaDoor
open Go.RowKit Go.Shelf Go.Sort Go.Lib
theorem map_ba : ∀ (l m : List ByteArray), l.map (fun s => s.data.toList) = m.map (fun s => s.data.toList) → l = m
  | [], [], _ => rfl
  | [], _ :: _, h => by cases h
  | _ :: _, [], h => by cases h
  | a :: l, b :: m, h => by
    simp only [List.map_cons, List.cons.injEq] at h
    rw [ba_ext h.1, map_ba l m h.2]
theorem dlB_iff (x y : Dl) : dlB x y = true ↔ x.a = y.a ∧ x.h = y.h ∧ x.p = y.p ∧ x.cs = y.cs := by
  unfold dlB
  rw [Bool.and_eq_true, Bool.and_eq_true, Bool.and_eq_true, decide_eq_true_iff, decide_eq_true_iff, decide_eq_true_iff, decide_eq_true_iff]
  exact ⟨fun ⟨h1, h2, h3, h4⟩ => ⟨h1, ba_ext h2, h3, map_ba _ _ h4⟩, fun ⟨h1, h2, h3, h4⟩ => ⟨h1, by rw [h2], h3, by rw [h4]⟩⟩
theorem dlB_no {x y : Dl} (h : ¬ (x.a = y.a ∧ x.h = y.h ∧ x.p = y.p ∧ x.cs = y.cs)) : dlB x y = false := by
  cases hq : dlB x y
  · rfl
  · exact absurd ((dlB_iff x y).1 hq) h
def dlV (x : Dl) (vc : Value) : Value := .agg #[.int .i64 x.a, vc, .string x.h, .int .i64 x.p]
theorem dlC_at (a : Int) (vc : Value) (h : ByteArray) (p : Int) : ∀ j, j < 4 → (#[Value.int .i64 a, vc, .string h, .int .i64 p] : Array Value)[j]? = some (([Value.int .i64 a, vc, .string h, .int .i64 p] : List Value).getD j undef) := fun j hj => by
  match j, hj with
  | 0, _ => rfl
  | 1, _ => rfl
  | 2, _ => rfl
  | 3, _ => rfl
end Go.Proofs.YtmkfnfencllfnaaDoor
/- The laws' own words: the program's contracts; awake. -/
set_option linter.all false
set_option maxRecDepth 100000
namespace Go.Proofs.YtmkfnfencllfnaaDoor
open Go.RowKit Go.Shelf Go.Sort Go.Lib
def CAs : Prop := ∀ (l : List Int) (h : ByteArray) (p : Int) (v : Value) (w : World), Nls w v l → l.length ≤ 100000 → h.size ≤ 9223372036854775807 → -9223372036854775808 ≤ p → p ≤ 9223372036854775807 →
  Calls Tryd.prog 13 #[v, .string h, .int .i64 p] w fun e w' => (∃ u, e = .returned (.tuple #[u, .int .i64 (askE l h p)]) ∧ Kls w' u (askL l h p)) ∧ Below w.heap.size w w'
def CAn : Prop := ∀ (c : Kc) (l : List Ke) (va vc vl : Value) (w : World), Nls w va c.ws → Sls w vc c.cs → Kls w vl l → l.length ≤ 100000 → c.ws.length ≤ 100000 → c.cs.length ≤ 100000 → c.h.size ≤ 9223372036854775807 → (∀ r ∈ l, r.s.size ≤ 9223372036854775807) → -9223372036854775808 ≤ c.p → c.p ≤ 9223372036854775807 →
  Calls Tryd.prog 14 #[kcV c va vc, vl] w fun e w' => (∃ u, e = .returned (.tuple #[u, .int .i64 (ansR c l).2]) ∧ Kls w' u (ansR c l).1) ∧ Below w.heap.size w w'
def CKz : Prop := ∀ (a : Int) (w : World), Calls Tryd.prog 6 #[.int .i64 a] w fun e w' => e = .returned (.int .i64 (ksI a)) ∧ Below w.heap.size w w'
/-- An end of no connection. -/
def zT : Value := .agg #[.int .i64 0, .string ⟨#[]⟩, .int .i64 0, .slice none 0 0, .slice none 0 0, .int .u64 0, .int .u64 0, .int .u64 0, .int .u64 0, .int .u64 0, .int .u64 0, .int .u64 0, .int .u64 0, .string ⟨#[]⟩, .string ⟨#[]⟩, .string ⟨#[]⟩, .string ⟨#[]⟩, .string ⟨#[]⟩, .string ⟨#[]⟩, .int .i64 0, .int .u64 0, .int .u64 0, .int .u64 0, .int .u64 0, .int .u64 0, .int .u64 0, .int .u64 0, .int .u64 0, .bool false, .string ⟨#[]⟩, .string ⟨#[]⟩, .string ⟨#[]⟩, .string ⟨#[]⟩, .string ⟨#[]⟩, .string ⟨#[]⟩, .string ⟨#[]⟩, .string ⟨#[]⟩, .string ⟨#[]⟩, .string ⟨#[]⟩, .int .u64 0, .string ⟨#[]⟩, .string ⟨#[]⟩, .int .u64 0, .int .i64 0]
def CK0 : Prop := ∀ (w : World), Calls Tryd.prog 4 #[zT, .int .i64 15] w fun e w' => e = .returned (.tuple #[.string ⟨#[]⟩, .string ⟨#[]⟩, .int .i64 14]) ∧ Below w.heap.size w w'
theorem rExp0 (w : World) : Calls Tryd.prog 12 #[zT, .string ⟨#[]⟩, .string ⟨#[]⟩, .int .i64 1] w fun e w' => e = .returned (.tuple #[.string ⟨#[]⟩, .int .i64 14]) ∧ Below w.heap.size w w' := by
  unfold zT
  go_enter Tryd.func12, Tryd.ntmps12
  go_wp2_with fail
  refine bodyPost_ret (v := .tuple #[.string ⟨#[]⟩, .int .i64 14]) (by simp [results, Tryd.results12, go_sem]) rfl ⟨rfl, by go_grown⟩
theorem Kls.grown {w W W' : World} {v : Value} {l : List Ke} {row : Option Nat} (h : Kls w v l) (hb : Below w.heap.size w W) (hg : W.grownBy W' row) (hr : ∀ r, row = some r → w.heap.size ≤ r) : Kls W' v l := by
  obtain ⟨a, c, e, f⟩ := h
  refine ⟨a, c, e, fun i r hi => ?_⟩
  obtain ⟨g, o, e1, lt, c3⟩ := f i r hi
  obtain ⟨q0, q1, q2⟩ := c3.to lt hb
  have ltW := Nat.lt_of_lt_of_le lt hb.size
  have bl : W'.heap[g]? = W.heap[g]? := hg.block g ltW (fun e => by have := hr g e.symm; omega)
  exact ⟨g, o, e1, Nat.lt_of_lt_of_le ltW hg.size, (World.cell?_of_block (a := ⟨g, _, none⟩) bl).trans q0, (World.cell?_of_block (a := ⟨g, _, none⟩) bl).trans q1, (World.cell?_of_block (a := ⟨g, _, none⟩) bl).trans q2⟩
theorem Sls.nil' (w : World) : Sls w (.slice none 0 0) [] := ⟨none, 0, rfl, fun i r h => by cases h⟩
theorem aw_a : askE [15] ⟨#[]⟩ 0 = 0 := by decide
theorem aw_l : askL [15] ⟨#[]⟩ 0 = askK [15] := (ask_0 [15] aw_a).1
def ckS : ByteArray := ⟨#[99, 111, 111, 107]⟩
theorem aw_c : chA [17, 15] [15] = 15 := by decide
theorem aw_1 : ansR ⟨[17, 15], ⟨#[]⟩, 0, [ckS]⟩ (askK [15]) = (okK 15 [ckS], 15) := by
  rw [ans_ask ⟨[17, 15], ⟨#[]⟩, 0, [ckS]⟩ [15] (by decide) (by decide) rfl rfl]
  show (if chA [17, 15] [15] = 0 then _ else (okK (chA [17, 15] [15]) [ckS], chA [17, 15] [15])) = _
  rw [aw_c]
  rfl
theorem aw_2 : ansR ⟨[], ⟨#[]⟩, 0, []⟩ (⟨true, 99, ⟨#[]⟩⟩ :: askK [15]) = ([⟨true, 2, tw 0⟩, endK], 0) := by
  unfold ansR
  rw [if_pos (by decide)]
theorem nls_new (W : World) (l : List Int) : Nls (W.alloc (.cells (l.map (Value.int .i64)).toArray 3)) (.slice (some ⟨W.heap.size, 0, none⟩) l.length l.length) l := by
  refine ⟨_, l.length, rfl, fun i n hi => ⟨W.heap.size, 0, rfl, by simp, ?_⟩⟩
  have := news_new W (l.map (Value.int .i64)) 3 i (.int .i64 n) (by rw [List.getElem?_map, hi]; rfl)
  rwa [Addr.add_mid] at this
theorem sls_new (W : World) (l : List ByteArray) : Sls (W.alloc (.cells (l.map Value.string).toArray 9)) (.slice (some ⟨W.heap.size, 0, none⟩) l.length l.length) l := by
  refine ⟨_, l.length, rfl, fun i n hi => ⟨W.heap.size, 0, rfl, by simp, ?_⟩⟩
  have := news_new W (l.map Value.string) 9 i (.string n) (by rw [List.getElem?_map, hi]; rfl)
  rwa [Addr.add_mid] at this
theorem flK_of (l : List Ke) : ∀ (j : Nat) (u : Value), (flK l)[j]? = some u → ∃ i r, l[i]? = some r ∧ ((j = i * 3 ∧ u = .bool r.c) ∨ (j = i * 3 + 1 ∧ u = .int .i64 r.k) ∨ (j = i * 3 + 2 ∧ u = .string r.s)) := by
  induction l with
  | nil => intro j u h; cases h
  | cons r l ih =>
    intro j u h
    match j, h with
    | 0, h => exact ⟨0, r, rfl, .inl ⟨rfl, by simpa [flK] using h.symm⟩⟩
    | 1, h => exact ⟨0, r, rfl, .inr (.inl ⟨rfl, by simpa [flK] using h.symm⟩)⟩
    | 2, h => exact ⟨0, r, rfl, .inr (.inr ⟨rfl, by simpa [flK] using h.symm⟩)⟩
    | j + 3, h =>
      obtain ⟨i, q, h1, h2⟩ := ih j u (by simpa [flK] using h)
      refine ⟨i + 1, q, h1, ?_⟩
      rcases h2 with ⟨a, b⟩ | ⟨a, b⟩ | ⟨a, b⟩
      · exact .inl ⟨by omega, b⟩
      · exact .inr (.inl ⟨by omega, b⟩)
      · exact .inr (.inr ⟨by omega, b⟩)
/-- The cells of a row of records, one behind the other. -/
theorem Kls.cells {W : World} {ad : Addr} {n c : Nat} {l : List Ke} (h : Kls W (.slice (some ad) n c) l) : ∀ j u, (flK l)[j]? = some u → W.cell? (ad.add j) = some u := by
  obtain ⟨a, c', e, f⟩ := h
  injection e with e1 e2 e3
  subst e1
  intro j u hj
  obtain ⟨i, r, h1, h2⟩ := flK_of l j u hj
  obtain ⟨g, o, e4, _, q0, q1, q2⟩ := f i r h1
  injection e4 with e4
  subst e4
  rw [Addr.add_mid]
  rcases h2 with ⟨rfl, rfl⟩ | ⟨rfl, rfl⟩ | ⟨rfl, rfl⟩
  · exact q0
  · rw [← Nat.add_assoc]; exact q1
  · rw [← Nat.add_assoc]; exact q2
theorem flK_one (l : List Ke) : ∀ u ∈ flK l, u.oneCell' = true := by
  induction l with
  | nil => intro u h; cases h
  | cons r l ih =>
    intro u h
    simp only [flK, List.mem_cons] at h
    rcases h with rfl | rfl | rfl | h
    · rfl
    · rfl
    · rfl
    · exact ih u h
set_option maxHeartbeats 2000000 in
theorem awake_any (CA : CAs) (CN : CAn) (CK : CK0) (w : World) : Calls Tryd.prog 8 #[] w fun e w' => e = .returned (.bool true) ∧ Below w.heap.size w w' := by
  obtain ⟨iK, hi, hz0, hz1, hz2⟩ := info_parts Tryd.infoK
  have C1 := fun (W : World) v h => CA [15] ⟨#[]⟩ 0 v W h (by decide) (by decide) (by decide) (by decide)
  rw [aw_a, aw_l] at C1
  have C2 := fun (W : World) va vc vl h1 h2 h3 => CN ⟨[17, 15], ⟨#[]⟩, 0, [ckS]⟩ (askK [15]) va vc vl W h1 h2 h3 (by decide) (by decide) (by decide) (by decide) (by decide) (by decide) (by decide)
  rw [aw_1] at C2
  have C3 := fun (W : World) va vc vl h1 h2 h3 => CN ⟨[], ⟨#[]⟩, 0, []⟩ (⟨true, 99, ⟨#[]⟩⟩ :: askK [15]) va vc vl W h1 h2 h3 (by decide) (by decide) (by decide) (by decide) (by decide) (by decide) (by decide)
  rw [aw_2] at C3
  unfold kcV at C2 C3
  simp only at C2 C3
  clear CA CN
  have K1 := nls_new w [15]
  have B1 := Bel.al (Below.refl w.heap.size w) (.cells #[.int .i64 15] 3)
  go_enter Tryd.func8, Tryd.ntmps8
  go_wp2_with fail
  refine (C1 _ _ K1).mono ?_
  rintro e w1 ⟨⟨u1, rfl, k1⟩, b1⟩
  replace B1 := Bel.call B1 b1
  clear C1 K1 b1
  obtain ⟨n3, hn3⟩ : ∃ n, (askK [15]).length = n := ⟨_, rfl⟩
  have K2 := nls_new w1 [17, 15]
  have K3 := sls_new (w1.alloc (.cells ([17, 15].map (Value.int .i64)).toArray 3)) [ckS]
  have b2 := Bel.al (Bel.al (Below.refl w1.heap.size w1) (.cells ([17, 15].map (Value.int .i64)).toArray 3)) (.cells ([ckS].map Value.string).toArray 9)
  replace K2 := K2.to (Bel.al (Below.refl _ _) (.cells ([ckS].map Value.string).toArray 9))
  have k1' := k1.to b2
  rw [World.size_alloc] at K3
  go_wp2_with fail
  refine (C2 _ _ _ _ K2 K3 k1').mono ?_
  rintro e w2 ⟨⟨u2, rfl, k2⟩, b2'⟩
  have B2 := Bel.call (Bel.call B1 b2) b2'
  have k1'' := k1'.to b2'
  clear C2 K2 K3 k1 k1' b2 b2' B1 hn3 n3
  have hu1 : ∃ g o c, u1 = .slice (some ⟨g, o, none⟩) 3 c := by
    obtain ⟨a, c, e, f⟩ := k1''
    obtain ⟨g, o, e1, _⟩ := f 0 _ rfl
    exact ⟨g, o, c, by rw [e, e1]; rfl⟩
  obtain ⟨g, o, c, rfl⟩ := hu1
  have O3 := own_newK w2 [⟨true, 99, ⟨#[]⟩⟩] B2.size (by decide)
  have B3 := Bel.al B2 (.cells (flK [⟨true, 99, ⟨#[]⟩⟩]).toArray 60)
  have KC := (k1''.to (Bel.al (Below.refl _ w2) (.cells (flK [⟨true, 99, ⟨#[]⟩⟩]).toArray 60))).cells
  clear k1''
  go_wp2_with (at_builtin; refine stopAt ?_)
  unfold Stop
  refine wpList_append_own _ rfl _ _ 51 rfl w.heap.size 60 iK (.agg #[.bool false, .int .i64 0, .string ⟨#[]⟩]) 3 32 Tryd.underlying51 hi hz0 hz1 hz2 rfl (by decide) _ _ _ rfl O3 ⟨g, o, none⟩ 3 c (flK (askK [15])) rfl rfl KC (flK_one _) (by unfold maxLen; decide) (by decide) B3.size ?_
  intro v3 x3 ho3 hg3 hn3
  have k3 : Kls x3 v3 (⟨true, 99, ⟨#[]⟩⟩ :: askK [15]) := Kls.own (b := w.heap.size) ho3
  have B4 : Below w.heap.size w x3 := B3.grown hg3 B3.size (fun q hq => (O3.lt q hq).1)
  have kk2 : Hid (Kls x3 u2 (okK 15 [ckS])) := k2.grown (Bel.al (Below.refl _ w2) _) hg3 (fun r e => by rw [← Option.some.inj (show some w2.heap.size = some r from e)]; exact Nat.le_refl _)
  clear k2
  clear hg3 ho3 hn3 O3 KC B2
  obtain ⟨a3, c3, rfl⟩ : ∃ a c, v3 = .slice a (⟨true, 99, ⟨#[]⟩⟩ :: askK [15] : List Ke).length c := by obtain ⟨a, c, e, _⟩ := k3; exact ⟨a, c, e⟩
  go_wp2_with fail
  refine (C3 _ _ _ _ (Nls.nil _) (Sls.nil' _) k3).mono ?_
  rintro e w4 ⟨⟨u4, rfl, k4⟩, b4⟩
  have B5 := Bel.call B4 b4
  have kk2' := kk2.out.to b4
  clear C3 k3 b4 B4 kk2
  have CK' := CK w4
  have CE := fun W => rExp0 W
  unfold zT at CK' CE
  clear CK
  go_wp2_with fail
  refine CK'.mono ?_
  rintro e w5 ⟨rfl, b5⟩
  replace B5 := Bel.call B5 b5
  replace k4 := k4.to b5
  replace kk2' := kk2'.to b5
  clear CK' b5
  go_wp2_with fail
  refine (CE _).mono ?_
  rintro e w6 ⟨rfl, b6⟩
  replace B5 := Bel.call B5 b6
  replace k4 := k4.to b6
  replace kk2' := kk2'.to b6
  clear CE b6
  obtain ⟨a4, c4, rfl, f4⟩ := k4
  obtain ⟨g4, o4, e4, _, p0, p1, p2⟩ := f4 0 _ rfl
  subst e4
  obtain ⟨a2, c2, rfl, f2⟩ := kk2'
  obtain ⟨g2, o2, e2, _, r0, r1, r2⟩ := f2 2 ⟨false, 5, ckS⟩ rfl
  subst e2
  have ht : tw 0 = ⟨#[0, 0]⟩ := rfl
  rw [ht] at p2
  simp only [Nat.zero_mul, Nat.add_zero] at p1 p2
  have hl : (okK 15 [ckS]).length = 4 := rfl
  unfold ckS at r2
  clear f4 f2 p0 r0 r1 ht
  rw [hl]
  go_wp2_with fail
  go_ret
  exact ⟨rfl, B5⟩
end Go.Proofs.YtmkfnfencllfnaaDoor
/- The program nego: Keys, of an end that tells an error. -/
set_option linter.all false
set_option maxRecDepth 100000
namespace Go.Proofs.YtmkfnfencllfnaaDoor
open Go.RowKit Go.Shelf Go.Sort
/-- A type of n cells by value. -/
structure Ty (T : TypeId) (n : Nat) : Prop where
  u : ∃ d, Tryd.prog.underlying T = some d ∧ d.isRow = true
  i : (Tryd.prog.info? T).map (·.size) = some n
/-- n cells, as a letter. -/
structure Cells (L : List Value) (n : Nat) (F : Nat → Value) : Prop where
  len : L.length = n
  at_ : ∀ j, j < n → L[j]? = some (F j)
theorem Arr.sub {w : World} {b N : Nat} {G : Nat → Value} (A : Arr w b N G) {L : List Value} {n : Nat} {F : Nat → Value} (c : Cells L n F) (o : Nat) (ho : o + n ≤ N) (e : ∀ j, j < n → G (o + j) = F j) : w.rangeAt b o L := fun j v hv => by
  have hj : j < n := by rw [← c.len]; exact (List.getElem?_eq_some_iff.1 hv).1
  rw [(A (o + j) (by omega)).1, e j hj, ← c.at_ j hj]
  exact hv
theorem Cells.ld {L : List Value} {n : Nat} {F : Nat → Value} (c : Cells L n F) {T : TypeId} (t : Ty T n) {w : World} {b N : Nat} {G : Nat → Value} (A : Arr w b N G) (o : Nat) (ho : o + n ≤ N) (e : ∀ j, j < n → G (o + j) = F j) :
    (loadVar T ⟨b, o, none⟩).run Tryd.prog w = .ok (.agg L.toArray) w := by
  obtain ⟨d, hu, hd⟩ := t.u
  exact run_loadVar_mid w b o T L d (A.sub c o ho e) hu hd (by rw [c.len]; exact t.i)
theorem Cells.new {L : List Value} {n : Nat} {F : Nat → Value} (c : Cells L n F) (w : World) (T : TypeId) (b : Nat) (hb : b = w.heap.size) : Arr (w.alloc (.cells L.toArray T)) b n F :=
  Arr.new w _ T b hb _ n (fun j hj => by rw [List.getElem?_toArray]; exact c.at_ j hj)
theorem tT44 : Ty 35 44 := ⟨⟨_, Tryd.underlying35, rfl⟩, by kernel_rfl⟩
theorem Cells.of (L : List Value) (n : Nat) (hl : L.length = n) : Cells L n (fun j => L.getD j undef) :=
  ⟨hl, fun j hj => by rw [List.getD_eq_getElem?_getD, List.getElem?_eq_getElem (by omega)]; rfl⟩
def GB (W W' : World) : Prop := Below W.heap.size W W'
theorem GB.refl (W : World) : GB W W := Below.refl _ _
theorem GB.trans (x y z : World) (h : GB x y) (g : GB y z) : GB x z := Bel.call h g
theorem GB.drawn (W : World) (d : Nat) : GB W { W with drawn := d } := ⟨rfl, rfl, rfl, Nat.le_refl _, fun _ _ => rfl⟩
theorem StG.callR {P : Program} {w : World} {φ : Value → World → Prop} {r : Result Next} {f : FuncId} {args : Array Value} (h : r = .ok (.enter f args) w) (c : Calls P f args w fun e w' => (∃ v, e = .returned v ∧ φ v w') ∧ Below w.heap.size w w') : StG P GB w φ r := by
  rw [h]
  exact ⟨rfl, c.mono fun e w' ⟨⟨v, h1, h2⟩, h3⟩ => ⟨v, h1, h3, h2⟩⟩
theorem StG.callB {P : Program} {w : World} {φ : Value → World → Prop} {r : Result Next} {v : Value} {f : FuncId} {args : Array Value} (h : r = .ok (.enter f args) w) (c : Calls P f args w fun e w' => e = .returned v ∧ Below w.heap.size w w') (hv : ∀ w', φ v w') : StG P GB w φ r := by
  rw [h]
  exact ⟨rfl, c.mono fun e w' ⟨h1, h3⟩ => ⟨v, h1, h3, hv w'⟩⟩
/-- The exporter's label. -/
def exN : ByteArray := ⟨#[69, 88, 80, 79, 82, 84, 69, 82, 45, 110, 101, 116, 119, 111, 114, 107, 45, 116, 105, 109, 101, 45, 115, 101, 99, 117, 114, 105, 116, 121]⟩
/-- An end that is not open tells no keys. -/
theorem tExp_no (L : List Value) (F : Nat → Value) (hL : Cells L 44 F) (st : Int) (h0 : F 0 = .int .i64 st) (hs : st ≠ 3) (a b : ByteArray) (n : Int) (w : World) :
    Calls Tryd.prog 9 #[.agg L.toArray, .string a, .string b, .int .i64 n] w fun e w' => e = .returned (.tuple #[.string ⟨#[]⟩, .int .i64 14]) ∧ Below w.heap.size w w' := by
  have q : (st != 3) = true := by simpa using hs
  have A : Arr _ _ 44 _ := hL.new w 35 _ rfl
  have hB : Below w.heap.size w (w.alloc (.cells L.toArray 35)) := by go_grown
  have c0 := A.cv 0 (by decide) _ h0
  clear A h0 hs
  go_enter Tryd.func9, Tryd.ntmps9
  go_upto_region 1 with (fail)
  generalize w.alloc (.cells L.toArray 35) = W0 at *
  go_wp2_with fail
  exact bodyPost_ret (v := .tuple #[.string ⟨#[]⟩, .int .i64 14]) (by simp [results, Tryd.results9, go_sem]) rfl ⟨rfl, hB⟩
theorem at1u (v : Value) : ∀ j, j < 1 → (#[v] : Array Value)[j]? = some (([v] : List Value).getD j undef) := fun j hj => by
  match j, hj with
  | 0, _ => rfl
/-- What the operations of Keys' round give. -/
def kyV (L : List Value) (n tn : Int) (P T C : ByteArray) (sz : Int) (S : ByteArray) (E : Int) (i : Nat) (v : Value) (W : World) : Prop := match i, v, W with
  | 0, v, _ => v = .agg L.toArray
  | 1, v, _ => v = .int .i64 n
  | 2, v, W => ∃ b, v = .slice (some ⟨b, 0, none⟩) 2 2 ∧ Nls W v [0, n]
  | 3, v, _ => v = .string P
  | 4, v, _ => v = .int .i64 tn
  | 5, v, _ => v = .int .u8 tn
  | 6, v, W => ∃ b, v = .slice (some ⟨b, 0, none⟩) 1 1 ∧ b < W.heap.size ∧ W.cell? ⟨b, 0, none⟩ = some (.int .u8 tn)
  | 7, v, _ => v = .string T
  | 8, v, _ => v = .string C
  | 9, v, _ => v = .int .i64 sz
  | 10, v, _ => v = .tuple #[.string S, .int .i64 E]
  | 11, v, _ => v = .tuple #[.string S, .int .i64 E]
  | 12, v, _ => v = .string S
  | 13, v, _ => v = .int .i64 E
  | 14, v, _ => v = .string S
  | 15, v, _ => v = .int .i64 E
  | _, _, _ => True
theorem kyV.st (L : List Value) (n tn : Int) (P T C : ByteArray) (sz : Int) (S : ByteArray) (E : Int) (i : Nat) (v : Value) (w w' : World) (h : kyV L n tn P T C sz S E i v w) (hb : GB w w') : kyV L n tn P T C sz S E i v w' := by
  unfold kyV at h ⊢
  split at h
  case h_3 => obtain ⟨b, h1, h2⟩ := h; exact ⟨b, h1, Nls.to h2 hb⟩
  case h_7 => obtain ⟨b, h1, h2, h3⟩ := h; exact ⟨b, h1, Nat.lt_of_lt_of_le h2 hb.size, (hb.cell (p := ⟨b, 0, none⟩) h2).trans h3⟩
  all_goals first | exact h | trivial
theorem conv1 (W : World) (b : Nat) (k : Int) (hc : W.cell? ⟨b, 0, none⟩ = some (.int .u8 k)) : (convert 47 9 (.slice (some ⟨b, 0, none⟩) 1 1)).run Tryd.prog W = .ok (.string ⟨#[UInt8.ofNat k.toNat]⟩) W := by
  rw [run_convert_bytes_string W 47 9 5 _ 1 1 Tryd.underlying47 Tryd.underlying5 Tryd.underlying9]
  refine run_bytesToString W ⟨b, 0, none⟩ 1 1 [k] ?_
  exact run_loadCells_list (P := Tryd.prog) W ⟨b, 0, none⟩ [.int .u8 k] (by
    intro j v hv
    match j, hv with
    | 0, hv => rw [Addr.add_mid]; cases hv; exact hc)
set_option maxHeartbeats 8000000 in
theorem pKeys_err (L : List Value) (F : Nat → Value) (hL : Cells L 44 F) (n sz : Int) (P C S : ByteArray) (E : Int) (hk : ksI n = sz) (hz : sz ≠ 0) (hP : prS [0, n] = P) (p9 : P.size ≤ 1000) (hC : P ++ ⟨#[0]⟩ = C) (hE : E ≠ 0)
    (CE : ∀ W, Calls Tryd.prog 9 #[.agg L.toArray, .string exN, .string C, .int .i64 sz] W fun e w' => e = .returned (.tuple #[.string S, .int .i64 E]) ∧ Below W.heap.size W w') (w : World) :
    Calls Tryd.prog 4 #[.agg L.toArray, .int .i64 n] w fun e w' => e = .returned (.tuple #[.string ⟨#[]⟩, .string ⟨#[]⟩, .int .i64 E]) ∧ Below w.heap.size w w' := by
  have CK := fun W => pKeySize_any n W
  rw [hk] at CK
  have CP := fun v (W : World) H => ppaired_any [0, n] v W H (by simp)
  rw [hP] at CP
  have q : (sz == 0) = false := by simpa using hz
  have qE : (E != 0) = true := by simpa using hE
  have A : Arr _ _ 44 _ := hL.new w 35 _ rfl
  have hB : Below w.heap.size w (w.alloc (.cells L.toArray 35)) := by go_grown
  have p0 : (P.size : Int) ≤ 1000 := by omega
  clear hk hz hP hE p9
  unfold exN at CE
  go_enter Tryd.func4, Tryd.ntmps4
  go_upto_region 1 with (fail)
  generalize w.alloc (.cells L.toArray 35) = W0 at *
  go_wp2_with fail
  refine (CK _).mono ?_
  rintro e w1 ⟨rfl, rfl⟩
  clear CK
  have A2 := Arr.al' (n := 43) A (.cells #[.string ⟨#[]⟩, .string ⟨#[]⟩] 43)
  have B2 := Bel.al hB (.cells #[.string ⟨#[]⟩, .string ⟨#[]⟩] 43)
  go_upto_region 5 with (fail)
  generalize w1.alloc (.cells #[.string ⟨#[]⟩, .string ⟨#[]⟩] 43) = w2 at *
  generalize w1.heap.size = b1 at *
  clear A hB
  go_wp2_with fail
  go_loopw [16] (fun i wr => i = .int .i64 0 ∧ Below w2.heap.size w2 wr) (fun i _ => 0)
  case atStart => exact ⟨rfl, Below.refl _ _⟩
  case round =>
    obtain ⟨rfl, hr⟩ := hrel
    have A3 : Arr _ _ 44 _ := Arr.to' (n := 43) A2 hr
    have B3 := Bel.call B2 hr
    clear A2 B2 hr
    go_upto_region 8 with (fail)
    refine wp_region_all GB (kyV L n 0 P ⟨#[0]⟩ C sz S E) (by kernel_rfl) (by kernel_rfl) (fun d => GB.drawn _ d) GB.trans (fun i v w1 w2 h _ g => kyV.st _ _ _ _ _ _ _ _ _ i v w1 w2 h g) ?_ ?_
    · intro i o ρ W hi ho hW hP hS
      have ci : i = 0 ∨ i = 1 ∨ i = 2 ∨ i = 3 ∨ i = 4 ∨ i = 5 ∨ i = 6 ∨ i = 7 ∨ i = 8 ∨ i = 9 ∨ i = 10 ∨ i = 11 ∨ i = 12 ∨ i = 13 ∨ i = 14 ∨ i = 15 := by simp only [List.length_cons, List.length_nil] at hi; omega
      have hc := hP.c
      have hf := hP.f
      rcases ci with rfl | rfl | rfl | rfl | rfl | rfl | rfl | rfl | rfl | rfl | rfl | rfl | rfl | rfl | rfl | rfl <;> cases ho
      · have h2 : ρ (.tmp 2) = .pointer (some ⟨w.heap.size, 0, none⟩) := hS 2 (by kernel_rfl)
        have AW : Arr W w.heap.size 44 F := A3.to' (n := 43) hW
        have := hL.ld tT44 AW 0 (by omega) (fun j _ => by rw [Nat.zero_add])
        exact StG.val (by unfold execOp; simp only [h2, Instr.loadAt, Instr.sureAddr, Sem.run_bind, Sem.run_pure, Result.andThen_ok, this]) (GB.refl _) rfl
      · have h1 : ρ (.tmp 1) = .int .i64 n := hS 1 (by kernel_rfl)
        exact StG.val (by simp [execOp, hc, go_sem, h1] <;> rfl) (GB.refl _) rfl
      · have h21 : ρ (.tmp 21) = .int .i64 n := hS 21 (by kernel_rfl)
        exact StG.new (w' := W.alloc (.cells #[.int .i64 0, .int .i64 n] 3)) (by simp [execOp, hc, go_sem, h21] <;> rfl) ((Below.refl _ W).alloc (Nat.le_refl _) _) ⟨W.heap.size, rfl, nls_new W [0, n]⟩
      · obtain ⟨b, h22, hN⟩ : ∃ b, ρ (.tmp 22) = .slice (some ⟨b, 0, none⟩) 2 2 ∧ Nls W (ρ (.tmp 22)) [0, n] := hS 22 (by kernel_rfl)
        rw [h22] at hN
        exact StG.callB (f := 10) (args := #[.slice (some ⟨b, 0, none⟩) 2 2]) (by simp [execOp, hc, hf, go_sem, h22] <;> rfl) (CP _ W hN) (fun _ => rfl)
      · have h9 : ρ (.tmp 9) = .int .i64 0 := hS 9 (by kernel_rfl)
        exact StG.val (by simp [execOp, hc, go_sem, h9] <;> rfl) (GB.refl _) rfl
      · have h24 : ρ (.tmp 24) = .int .i64 0 := hS 24 (by kernel_rfl)
        exact StG.val (by simp [execOp, hc, go_sem, h24] <;> rfl) (GB.refl _) rfl
      · have h25 : ρ (.tmp 25) = .int .u8 0 := hS 25 (by kernel_rfl)
        exact StG.new (w' := W.alloc (.cells #[.int .u8 0] 5)) (by simp [execOp, hc, go_sem, h25] <;> rfl) ((Below.refl _ W).alloc (Nat.le_refl _) _) ⟨W.heap.size, rfl, by simp, (Arr.new W #[Value.int .u8 0] 5 _ rfl _ 1 (at1u _)).cv 0 (by decide) _ rfl⟩
      · obtain ⟨b, h26, _, hN⟩ : ∃ b, ρ (.tmp 26) = .slice (some ⟨b, 0, none⟩) 1 1 ∧ b < W.heap.size ∧ W.cell? ⟨b, 0, none⟩ = some (.int .u8 0) := hS 26 (by kernel_rfl)
        have := conv1 W b 0 hN
        exact StG.val (by simp [execOp, hc, h26, Sem.run_bind, Sem.run_pure, this] <;> rfl) (GB.refl _) rfl
      · have h23 : ρ (.tmp 23) = .string P := hS 23 (by kernel_rfl)
        have h27 : ρ (.tmp 27) = .string ⟨#[0]⟩ := hS 27 (by kernel_rfl)
        exact StG.val (by simp [execOp, hc, go_sem, h23, h27] <;> first | omega | rfl) (GB.refl _) (congrArg Value.string hC)
      · have h7 : ρ (.tmp 7) = .int .i64 sz := hS 7 (by kernel_rfl)
        exact StG.val (by simp [execOp, hc, go_sem, h7] <;> rfl) (GB.refl _) rfl
      · have h20 : ρ (.tmp 20) = .agg L.toArray := hS 20 (by kernel_rfl)
        have h28 : ρ (.tmp 28) = .string C := hS 28 (by kernel_rfl)
        have h29 : ρ (.tmp 29) = .int .i64 sz := hS 29 (by kernel_rfl)
        exact StG.callB (f := 9) (args := #[.agg L.toArray, .string ⟨#[69, 88, 80, 79, 82, 84, 69, 82, 45, 110, 101, 116, 119, 111, 114, 107, 45, 116, 105, 109, 101, 45, 115, 101, 99, 117, 114, 105, 116, 121]⟩, .string C, .int .i64 sz]) (by simp [execOp, hc, hf, go_sem, h20, h28, h29] <;> rfl) (CE W) (fun _ => rfl)
      · have h30 : ρ (.tmp 30) = .tuple #[.string S, .int .i64 E] := hS 30 (by kernel_rfl)
        exact StG.val (by simp [execOp, hc, go_sem, h30] <;> rfl) (GB.refl _) rfl
      · have h19 : ρ (.tmp 19) = .tuple #[.string S, .int .i64 E] := hS 19 (by kernel_rfl)
        exact StG.val (by simp [execOp, hc, go_sem, h19] <;> rfl) (GB.refl _) rfl
      · have h19 : ρ (.tmp 19) = .tuple #[.string S, .int .i64 E] := hS 19 (by kernel_rfl)
        exact StG.val (by simp [execOp, hc, go_sem, h19] <;> rfl) (GB.refl _) rfl
      · have h31 : ρ (.tmp 31) = .string S := hS 31 (by kernel_rfl)
        exact StG.val (by simp [execOp, hc, go_sem, h31] <;> rfl) (GB.refl _) rfl
      · have h32 : ρ (.tmp 32) = .int .i64 E := hS 32 (by kernel_rfl)
        exact StG.val (by simp [execOp, hc, go_sem, h32] <;> rfl) (GB.refl _) rfl
    intro x W hW hV
    have h15 : x 15 = .int .i64 E := hV 15 (by decide)
    have h14 : x 14 = .string S := hV 14 (by decide)
    have B4 : Below _ w W := Bel.call B3 hW
    clear hV hW A3 B3 CP CE hC
    simp only [puts, Act.put, List.setIfInBounds_toArray, List.set_cons_succ, List.set_cons_zero, h14, h15]
    go_wp2_with fail
    exact bodyPost_ret (v := .tuple #[.string ⟨#[]⟩, .string ⟨#[]⟩, .int .i64 E]) (by simp [results, Tryd.results4, go_sem]) rfl ⟨rfl, B4⟩
theorem tK : CK0 := fun w => by
  have e : zT = .agg (List.toArray [.int .i64 0, .string ⟨#[]⟩, .int .i64 0, .slice none 0 0, .slice none 0 0, .int .u64 0, .int .u64 0, .int .u64 0, .int .u64 0, .int .u64 0, .int .u64 0, .int .u64 0, .int .u64 0, .string ⟨#[]⟩, .string ⟨#[]⟩, .string ⟨#[]⟩, .string ⟨#[]⟩, .string ⟨#[]⟩, .string ⟨#[]⟩, .int .i64 0, .int .u64 0, .int .u64 0, .int .u64 0, .int .u64 0, .int .u64 0, .int .u64 0, .int .u64 0, .int .u64 0, .bool false, .string ⟨#[]⟩, .string ⟨#[]⟩, .string ⟨#[]⟩, .string ⟨#[]⟩, .string ⟨#[]⟩, .string ⟨#[]⟩, .string ⟨#[]⟩, .string ⟨#[]⟩, .string ⟨#[]⟩, .string ⟨#[]⟩, .int .u64 0, .string ⟨#[]⟩, .string ⟨#[]⟩, .int .u64 0, .int .i64 0]) := rfl
  rw [e]
  exact pKeys_err _ _ (Cells.of _ 44 rfl) 15 32 ⟨#[0, 0, 0, 15]⟩ ⟨#[0, 0, 0, 15, 0]⟩ ⟨#[]⟩ 14 rfl (by decide) (by decide) (by decide) (by decide) (by decide)
    (fun W => tExp_no _ _ (Cells.of _ 44 rfl) 0 rfl (by decide) _ _ _ W) w
end Go.Proofs.YtmkfnfencllfnaaDoor
/- hkdf's small functions: byteOf, counted; what they answer. -/
set_option linter.all false
set_option maxRecDepth 100000
namespace Go.Proofs.YtmkfnfencllfnaaDoor
open Go.RowKit Go.Sort
/-- A number's lowest byte as a text. -/
def by1 (n : Int) : ByteArray := mkS [n % 256]
theorem by1_size (n : Int) : (by1 n).size = 1 := by unfold by1; rw [mkS_size]; rfl
theorem byteOf_any (n : Int) (w : World) : Calls Tryd.prog 64 #[.int .i64 n] w fun e w' => e = .returned (.string (by1 n)) ∧ Below w.heap.size w w' := by
  have cv := convC (w.alloc (.cells #[.int .u8 (n % 256)] 5)) w.heap.size 1 1 [n % 256] rfl (news_new w [.int .u8 (n % 256)] 5)
  unfold by1
  generalize mkS [n % 256] = S at *
  go_enter Tryd.func64, Tryd.ntmps64
  go_wp2_with fail
  go_ret
  exact ⟨rfl, by go_grown⟩
/-- A text with a byte ahead that tells its length. -/
def ctS (s : ByteArray) : ByteArray := by1 s.size ++ s
theorem ctS_size (s : ByteArray) : (ctS s).size = 1 + s.size := by unfold ctS; rw [ByteArray.size_append, by1_size]
theorem counted_any (s : ByteArray) (hs : s.size ≤ 100000) (w : World) : Calls Tryd.prog 65 #[.string s] w fun e w' => e = .returned (.string (ctS s)) ∧ Below w.heap.size w w' := by
  have C := fun W => byteOf_any (s.size : Int) W
  have z := by1_size (s.size : Int)
  unfold ctS
  generalize by1 (s.size : Int) = b at *
  go_enter Tryd.func65, Tryd.ntmps65
  go_wp2_with (go_at_call 64; refine (C _).mono ?_; rintro e w1 ⟨rfl, hb⟩)
  go_ret
  exact ⟨rfl, hb⟩
end Go.Proofs.YtmkfnfencllfnaaDoor
/- hkdf.Info and the reference's, by letters and as they are. -/
set_option linter.all false
set_option maxRecDepth 100000
namespace Go.Proofs.YtmkfnfencllfnaaDoor
open Go.RowKit Go.Sort
/-- "tls13 ". -/
def tls : ByteArray := ⟨#[116, 108, 115, 49, 51, 32]⟩
theorem tls_size : tls.size = 6 := rfl
theorem info_num (l c : ByteArray) (n : Int) (hn : n < 0 ∨ 65535 < n) (w : World) : Calls Tryd.prog 50 #[.string l, .string c, .int .i64 n] w fun e w' => e = .returned (.tuple #[.string ⟨#[]⟩, .int .i64 13]) ∧ Below w.heap.size w w' := by
  rcases hn with h | h
  · go_enter Tryd.func50, Tryd.ntmps50
    go_wp2_with fail
    refine bodyPost_ret (v := .tuple #[.string ⟨#[]⟩, .int .i64 13]) (by simp [results, Tryd.results50, go_sem]) rfl ?_
    exact ⟨rfl, Below.refl _ _⟩
  · go_enter Tryd.func50, Tryd.ntmps50
    go_wp2_with fail
    refine bodyPost_ret (v := .tuple #[.string ⟨#[]⟩, .int .i64 13]) (by simp [results, Tryd.results50, go_sem]) rfl ?_
    exact ⟨rfl, Below.refl _ _⟩
theorem info_long (l c : ByteArray) (hl : l.size ≤ maxLen) (hc : c.size ≤ maxLen) (n : Int) (h0 : 0 ≤ n) (h1 : n ≤ 65535) (h : 249 < l.size ∨ 255 < c.size) (w : World) : Calls Tryd.prog 50 #[.string l, .string c, .int .i64 n] w fun e w' => e = .returned (.tuple #[.string ⟨#[]⟩, .int .i64 12]) ∧ Below w.heap.size w w' := by
  unfold maxLen at hl hc
  rcases h with h | h
  · have i1 : (249 : Int) < (l.size : Int) := by omega
    go_enter Tryd.func50, Tryd.ntmps50
    go_wp2_with fail
    refine bodyPost_ret (v := .tuple #[.string ⟨#[]⟩, .int .i64 12]) (by simp [results, Tryd.results50, go_sem]) rfl ?_
    exact ⟨rfl, Below.refl _ _⟩
  · have i1 : (255 : Int) < (c.size : Int) := by omega
    by_cases i2 : (249 : Int) < (l.size : Int)
    · go_enter Tryd.func50, Tryd.ntmps50
      go_wp2_with fail
      refine bodyPost_ret (v := .tuple #[.string ⟨#[]⟩, .int .i64 12]) (by simp [results, Tryd.results50, go_sem]) rfl ?_
      exact ⟨rfl, Below.refl _ _⟩
    · go_enter Tryd.func50, Tryd.ntmps50
      go_wp2_with fail
      refine bodyPost_ret (v := .tuple #[.string ⟨#[]⟩, .int .i64 12]) (by simp [results, Tryd.results50, go_sem]) rfl ?_
      exact ⟨rfl, Below.refl _ _⟩
set_option maxHeartbeats 1000000 in
theorem info_core (l c a b d f T : ByteArray) (hT : tls ++ l = T) (n : Int) (h0 : 0 ≤ n) (h1 : n ≤ 65535) (hl : l.size ≤ 249) (hc : c.size ≤ 255) (w : World)
    (ha : a.size = 1) (hb : b.size = 1) (hd : d.size ≤ 1000) (hf : f.size ≤ 1000)
    (C1 : ∀ W, Calls Tryd.prog 64 #[.int .i64 (n / 256)] W fun e w' => e = .returned (.string a) ∧ Below W.heap.size W w')
    (C2 : ∀ W, Calls Tryd.prog 64 #[.int .i64 n] W fun e w' => e = .returned (.string b) ∧ Below W.heap.size W w')
    (C3 : ∀ W, Calls Tryd.prog 65 #[.string T] W fun e w' => e = .returned (.string d) ∧ Below W.heap.size W w')
    (C4 : ∀ W, Calls Tryd.prog 65 #[.string c] W fun e w' => e = .returned (.string f) ∧ Below W.heap.size W w') :
    Calls Tryd.prog 50 #[.string l, .string c, .int .i64 n] w fun e w' => e = .returned (.tuple #[.string (a ++ b ++ d ++ f), .int .i64 0]) ∧ Below w.heap.size w w' := by
  unfold tls at hT
  have i1 : ¬ (249 : Int) < (l.size : Int) := by omega
  have i2 : ¬ (255 : Int) < (c.size : Int) := by omega
  go_enter Tryd.func50, Tryd.ntmps50
  go_wp2_with (first | (go_at_call 64; refine (C1 _).mono ?_; clear C1; rintro e w1 ⟨rfl, hb1⟩) | (go_at_call 64; refine (C2 _).mono ?_; clear C2; rintro e w2 ⟨rfl, hb2⟩) | (go_at_call 65; refine (C3 _).mono ?_; clear C3; rintro e w3 ⟨rfl, hb3⟩) | (go_at_call 65; refine (C4 _).mono ?_; clear C4; rintro e w4 ⟨rfl, hb4⟩))
  refine bodyPost_ret (v := .tuple #[.string (a ++ b ++ d ++ f), .int .i64 0]) (by simp [results, Tryd.results50, go_sem]) rfl ?_
  exact ⟨rfl, Bel.call (Bel.call (Bel.call hb1 hb2) hb3) hb4⟩
end Go.Proofs.YtmkfnfencllfnaaDoor
/- The reference's Info; both as one. -/
set_option linter.all false
set_option maxRecDepth 100000
namespace Go.Proofs.YtmkfnfencllfnaaDoor
open Go.RowKit Go.Sort
theorem rinfo_num (l c : ByteArray) (n : Int) (hn : n < 0 ∨ 65535 < n) (w : World) : Calls Tryd.prog 56 #[.string l, .string c, .int .i64 n] w fun e w' => e = .returned (.tuple #[.string ⟨#[]⟩, .int .i64 13]) ∧ Below w.heap.size w w' := by
  rcases hn with h | h
  · go_enter Tryd.func56, Tryd.ntmps56
    go_wp2_with fail
    refine bodyPost_ret (v := .tuple #[.string ⟨#[]⟩, .int .i64 13]) (by simp [results, Tryd.results56, go_sem]) rfl ?_
    exact ⟨rfl, Below.refl _ _⟩
  · go_enter Tryd.func56, Tryd.ntmps56
    go_wp2_with fail
    refine bodyPost_ret (v := .tuple #[.string ⟨#[]⟩, .int .i64 13]) (by simp [results, Tryd.results56, go_sem]) rfl ?_
    exact ⟨rfl, Below.refl _ _⟩
theorem rinfo_long (l c : ByteArray) (hl : l.size ≤ maxLen) (hc : c.size ≤ maxLen) (n : Int) (h0 : 0 ≤ n) (h1 : n ≤ 65535) (h : 249 < l.size ∨ 255 < c.size) (w : World) : Calls Tryd.prog 56 #[.string l, .string c, .int .i64 n] w fun e w' => e = .returned (.tuple #[.string ⟨#[]⟩, .int .i64 12]) ∧ Below w.heap.size w w' := by
  unfold maxLen at hl hc
  rcases h with h | h
  · have i1 : (249 : Int) < (l.size : Int) := by omega
    go_enter Tryd.func56, Tryd.ntmps56
    go_wp2_with fail
    refine bodyPost_ret (v := .tuple #[.string ⟨#[]⟩, .int .i64 12]) (by simp [results, Tryd.results56, go_sem]) rfl ?_
    exact ⟨rfl, Below.refl _ _⟩
  · have i1 : (255 : Int) < (c.size : Int) := by omega
    by_cases i2 : (249 : Int) < (l.size : Int)
    · go_enter Tryd.func56, Tryd.ntmps56
      go_wp2_with fail
      refine bodyPost_ret (v := .tuple #[.string ⟨#[]⟩, .int .i64 12]) (by simp [results, Tryd.results56, go_sem]) rfl ?_
      exact ⟨rfl, Below.refl _ _⟩
    · go_enter Tryd.func56, Tryd.ntmps56
      go_wp2_with fail
      refine bodyPost_ret (v := .tuple #[.string ⟨#[]⟩, .int .i64 12]) (by simp [results, Tryd.results56, go_sem]) rfl ?_
      exact ⟨rfl, Below.refl _ _⟩
set_option maxHeartbeats 1000000 in
theorem rinfo_core (l c A B : ByteArray) (n : Int) (h0 : 0 ≤ n) (h1 : n ≤ 65535) (hl : l.size ≤ 249) (hc : c.size ≤ 255) (w : World)
    (hA : A = mkS [n / 256, n % 256, (l.size : Int) + 6]) (hB : B = mkS [(c.size : Int)]) :
    Calls Tryd.prog 56 #[.string l, .string c, .int .i64 n] w fun e w' => e = .returned (.tuple #[.string (A ++ tls ++ l ++ B ++ c), .int .i64 0]) ∧ Below w.heap.size w w' := by
  have i1 : ¬ (249 : Int) < (l.size : Int) := by omega
  have i2 : ¬ (255 : Int) < (c.size : Int) := by omega
  have zA : A.size = 3 := by rw [hA, mkS_size]; rfl
  have zB : B.size = 1 := by rw [hB, mkS_size]; rfl
  have cA := convC (w.alloc (.cells #[.int .u8 (n / 256), .int .u8 (n % 256), .int .u8 ((l.size : Int) + 6)] 5)) w.heap.size 3 3 [n / 256, n % 256, (l.size : Int) + 6] rfl (news_new w [.int .u8 (n / 256), .int .u8 (n % 256), .int .u8 ((l.size : Int) + 6)] 5)
  have cB := convC ((w.alloc (.cells #[.int .u8 (n / 256), .int .u8 (n % 256), .int .u8 ((l.size : Int) + 6)] 5)).alloc (.cells #[.int .u8 (c.size : Int)] 5)) (w.heap.size + 1) 1 1 [(c.size : Int)] rfl (by have := news_new (w.alloc (.cells #[.int .u8 (n / 256), .int .u8 (n % 256), .int .u8 ((l.size : Int) + 6)] 5)) [.int .u8 (c.size : Int)] 5; rwa [World.size_alloc] at this)
  rw [← hA] at cA
  rw [← hB] at cB
  clear hA hB
  unfold tls
  go_enter Tryd.func56, Tryd.ntmps56
  go_wp2_with fail

  refine bodyPost_ret (v := .tuple #[.string (A ++ ⟨#[116, 108, 115, 49, 51, 32]⟩ ++ l ++ B ++ c), .int .i64 0]) (by simp [results, Tryd.results56, go_sem]) rfl ?_
  exact ⟨rfl, by go_grown⟩
/-- What Info answers: its text and its error. -/
def infE (l c : ByteArray) (n : Int) : Int := if n < 0 ∨ 65535 < n then 13 else if 249 < l.size ∨ 255 < c.size then 12 else 0
def infT (l c : ByteArray) (n : Int) : ByteArray := by1 (n / 256) ++ by1 n ++ ctS (tls ++ l) ++ ctS c
def infS (l c : ByteArray) (n : Int) : ByteArray := if infE l c n = 0 then infT l c n else ⟨#[]⟩
theorem infE_cases (l c : ByteArray) (n : Int) : ((n < 0 ∨ 65535 < n) ∧ infE l c n = 13 ∧ infS l c n = ⟨#[]⟩) ∨ (0 ≤ n ∧ n ≤ 65535 ∧ (249 < l.size ∨ 255 < c.size) ∧ infE l c n = 12 ∧ infS l c n = ⟨#[]⟩) ∨ (0 ≤ n ∧ n ≤ 65535 ∧ l.size ≤ 249 ∧ c.size ≤ 255 ∧ infE l c n = 0 ∧ infS l c n = infT l c n) := by
  by_cases h : n < 0 ∨ 65535 < n
  · have e : infE l c n = 13 := by unfold infE; rw [if_pos h]
    exact .inl ⟨h, e, by unfold infS; rw [e]; rfl⟩
  · by_cases h2 : 249 < l.size ∨ 255 < c.size
    · have e : infE l c n = 12 := by unfold infE; rw [if_neg h, if_pos h2]
      exact .inr (.inl ⟨by omega, by omega, h2, e, by unfold infS; rw [e]; rfl⟩)
    · have e : infE l c n = 0 := by unfold infE; rw [if_neg h, if_neg h2]
      exact .inr (.inr ⟨by omega, by omega, by omega, by omega, e, by unfold infS; rw [if_pos e]⟩)
theorem info_any (l c : ByteArray) (hl : l.size ≤ maxLen) (hc : c.size ≤ maxLen) (n : Int) (w : World) : Calls Tryd.prog 50 #[.string l, .string c, .int .i64 n] w fun e w' => e = .returned (.tuple #[.string (infS l c n), .int .i64 (infE l c n)]) ∧ Below w.heap.size w w' := by
  rcases infE_cases l c n with ⟨h, e1, e2⟩ | ⟨a, b, h, e1, e2⟩ | ⟨a, b, p, q, e1, e2⟩
  · rw [e1, e2]; exact info_num l c n h w
  · rw [e1, e2]; exact info_long l c hl hc n a b h w
  · rw [e1, e2]
    unfold infT
    have z := ctS_size (tls ++ l)
    rw [ByteArray.size_append, tls_size] at z
    have z2 := ctS_size c
    exact info_core l c _ _ _ _ _ rfl n a b p q w (by1_size _) (by1_size _) (by omega) (by omega) (fun W => byteOf_any _ W) (fun W => byteOf_any _ W) (fun W => counted_any _ (by rw [ByteArray.size_append, tls_size]; omega) W) (fun W => counted_any _ (by omega) W)
theorem infT_list (l c : ByteArray) (n : Int) : (infT l c n).data.toList = [UInt8.ofNat (n / 256 % 256).toNat, UInt8.ofNat (n % 256).toNat, UInt8.ofNat (((6 + l.size : Nat) : Int) % 256).toNat] ++ tls.data.toList ++ l.data.toList ++ [UInt8.ofNat ((c.size : Int) % 256).toNat] ++ c.data.toList := by
  unfold infT ctS by1
  simp only [ByteArray.data_append, Array.toList_append, mkS_list, List.map_cons, List.map_nil, List.append_assoc, ByteArray.size_append, tls_size]
  rfl
theorem rinfo_any (l c : ByteArray) (hl : l.size ≤ maxLen) (hc : c.size ≤ maxLen) (n : Int) (w : World) : Calls Tryd.prog 56 #[.string l, .string c, .int .i64 n] w fun e w' => e = .returned (.tuple #[.string (infS l c n), .int .i64 (infE l c n)]) ∧ Below w.heap.size w w' := by
  rcases infE_cases l c n with ⟨h, e1, e2⟩ | ⟨a, b, h, e1, e2⟩ | ⟨a, b, p, q, e1, e2⟩
  · rw [e1, e2]; exact rinfo_num l c n h w
  · rw [e1, e2]; exact rinfo_long l c hl hc n a b h w
  · rw [e1, e2]
    have e : infT l c n = mkS [n / 256, n % 256, (l.size : Int) + 6] ++ tls ++ l ++ mkS [(c.size : Int)] ++ c := by
      apply ba_ext
      rw [infT_list, show n / 256 % 256 = n / 256 by omega, show ((6 + l.size : Nat) : Int) % 256 = (l.size : Int) + 6 by omega, show (c.size : Int) % 256 = (c.size : Int) by omega]
      simp only [ByteArray.data_append, Array.toList_append, mkS_list, List.map_cons, List.map_nil, List.append_assoc]
    rw [e]
    exact rinfo_core l c _ _ n a b p q w rfl rfl
end Go.Proofs.YtmkfnfencllfnaaDoor
/- What sha.Write, Sum, Of and Block answer. -/
set_option linter.all false
set_option maxRecDepth 100000
namespace Go.Proofs.YtmkfnfencllfnaaDoor
open Go.RowKit Go.Sort
theorem Arr.ten {w : World} {b : Nat} {h : Nat → Int} {L : ByteArray} {n : Int} (A : Arr w b 10 (hx h L n)) :
    (∀ j, j < 8 → w.cell? ⟨b, j, none⟩ = some (.int .u32 (h j))) ∧ w.cell? ⟨b, 8, none⟩ = some (.string L) ∧ w.cell? ⟨b, 9, none⟩ = some (.int .u64 n) := by
  refine ⟨fun j hj => ?_, A.c 8 (by omega), A.c 9 (by omega)⟩
  rw [A.c j (by omega)]
  have : j = 0 ∨ j = 1 ∨ j = 2 ∨ j = 3 ∨ j = 4 ∨ j = 5 ∨ j = 6 ∨ j = 7 := by omega
  rcases this with rfl | rfl | rfl | rfl | rfl | rfl | rfl | rfl <;> rfl
set_option maxHeartbeats 4000000 in
theorem write_core (h g : Nat → Int) (L s R S : ByteArray) (n c : Int) (hs : s.size ≤ 1000000) (hL : L.size ≤ 1000000) (hc : IntKind.u64.wrap (n + (s.size : Int)) = c) (w : World) (hT : Tab w)
    (C24 : ∀ W, Tab W → Calls Tryd.prog 59 #[w8 h, .string (L ++ s)] W fun e w' => e = .returned (w8 g) ∧ Below W.heap.size W w')
    (C32 : ∀ W, Calls Tryd.prog 63 #[.string (L ++ s)] W fun e w' => e = .returned (.string R) ∧ Below W.heap.size W w')
    (C31 : ∀ W, Calls Tryd.prog 62 #[.string R] W fun e w' => e = .returned (.string S) ∧ Below W.heap.size W w') :
    Calls Tryd.prog 48 #[hv h L n, .string s] w fun e w' => e = .returned (hv g S c) ∧ Below w.heap.size w w' := by
  unfold hv w8 at *
  go_enter Tryd.func48, Tryd.ntmps48
  go_wp2_with fail
  have A0 := (Arr.new w #[.int .u32 (h 0), .int .u32 (h 1), .int .u32 (h 2), .int .u32 (h 3), .int .u32 (h 4), .int .u32 (h 5), .int .u32 (h 6), .int .u32 (h 7), .string L, .int .u64 n] 102 _ rfl _ 10 (hx_at h L n)).al' (.cells #[.int .u32 0, .int .u32 0, .int .u32 0, .int .u32 0, .int .u32 0, .int .u32 0, .int .u32 0, .int .u32 0, .string ⟨#[]⟩, .int .u64 0] 102)
  have A1 := Arr.new (w.alloc (.cells #[.int .u32 (h 0), .int .u32 (h 1), .int .u32 (h 2), .int .u32 (h 3), .int .u32 (h 4), .int .u32 (h 5), .int .u32 (h 6), .int .u32 (h 7), .string L, .int .u64 n] 102)) #[.int .u32 0, .int .u32 0, .int .u32 0, .int .u32 0, .int .u32 0, .int .u32 0, .int .u32 0, .int .u32 0, .string ⟨#[]⟩, .int .u64 0] 102 (w.heap.size + 1) (by simp) (hx (fun _ => 0) ⟨#[]⟩ 0) 10 (hx_at (fun _ => 0) ⟨#[]⟩ 0)
  have hB : Below w.heap.size w ((w.alloc (.cells #[.int .u32 (h 0), .int .u32 (h 1), .int .u32 (h 2), .int .u32 (h 3), .int .u32 (h 4), .int .u32 (h 5), .int .u32 (h 6), .int .u32 (h 7), .string L, .int .u64 n] 102)).alloc (.cells #[.int .u32 0, .int .u32 0, .int .u32 0, .int .u32 0, .int .u32 0, .int .u32 0, .int .u32 0, .int .u32 0, .string ⟨#[]⟩, .int .u64 0] 102)) := by go_grown
  generalize ((w.alloc (.cells #[.int .u32 (h 0), .int .u32 (h 1), .int .u32 (h 2), .int .u32 (h 3), .int .u32 (h 4), .int .u32 (h 5), .int .u32 (h 6), .int .u32 (h 7), .string L, .int .u64 n] 102)).alloc (.cells #[.int .u32 0, .int .u32 0, .int .u32 0, .int .u32 0, .int .u32 0, .int .u32 0, .int .u32 0, .int .u32 0, .string ⟨#[]⟩, .int .u64 0] 102)) = W at *
  have tR := fun ds os => (hT.bel hB).bel (below_regrown W ds os)
  obtain ⟨k0, k8, k9⟩ := A0.ten
  have r := fun j hj ds os => cell_regrown (k0 j hj) ds os
  have r0 := r 0 (by omega)
  have r1 := r 1 (by omega)
  have r2 := r 2 (by omega)
  have r3 := r 3 (by omega)
  have r4 := r 4 (by omega)
  have r5 := r 5 (by omega)
  have r6 := r 6 (by omega)
  have r7 := r 7 (by omega)
  have r8 := fun ds os => cell_regrown k8 ds os
  have r9 := fun ds os => cell_regrown k9 ds os
  clear r k0 k8 k9 hT
  generalize L ++ s = T at *
  refine wp_region_below_tail 14 (by kernel_rfl) (by kernel_rfl) ?_
  simp only [List.take_succ_cons, List.take_zero, List.drop_succ_cons, List.drop_zero]
  repeat (go_big_quiet_step (first | (go_at_call 59; exact Calls.regrown_of (C24 _ (tR _ _))) | (go_at_call 63; exact Calls.regrown_of (C32 _)) | (go_at_call 62; exact Calls.regrown_of (C31 _))))
  refine wpQuiet_nil ?_
  intro w1 hw'
  obtain ⟨⟨dq, osq⟩, hw''⟩ := hw'
  have hb := below_of hw''
  clear hw'' r0 r1 r2 r3 r4 r5 r6 r7 r8 r9 tR C24 C32 C31
  have B1 := A1.to' hb
  have hB' := Bel.call hB hb
  obtain ⟨k0, k8, k9⟩ := B1.ten
  have z := B1.z
  clear A0 A1 hB hb
  go_wp2_with fail
  refine bodyPost_ret (v := .agg #[.int .u32 (g 0), .int .u32 (g 1), .int .u32 (g 2), .int .u32 (g 3), .int .u32 (g 4), .int .u32 (g 5), .int .u32 (g 6), .int .u32 (g 7), .string S, .int .u64 c]) (by simp [results, Tryd.results48, go_sem, k0, k8, k9, hc]) rfl ⟨rfl, ?_⟩
  go_grown
set_option maxHeartbeats 4000000 in
theorem sum_core (h g : Nat → Int) (L E S : ByteArray) (n : Int) (hL : L.size ≤ 1000000) (hE : E.size ≤ 1000) (w : World) (hT : Tab w)
    (C33 : ∀ W, Calls Tryd.prog 60 #[hv h L n] W fun e w' => e = .returned (.string E) ∧ Below W.heap.size W w')
    (C24 : ∀ W, Tab W → Calls Tryd.prog 59 #[w8 h, .string (L ++ E)] W fun e w' => e = .returned (w8 g) ∧ Below W.heap.size W w')
    (C34 : ∀ bk W, Arr W bk 8 (fun j => .int .u32 (g j)) → Calls Tryd.prog 61 #[.slice (some ⟨bk, 0, none⟩) 8 8] W fun e w' => e = .returned (.string S) ∧ Below W.heap.size W w') :
    Calls Tryd.prog 47 #[hv h L n] w fun e w' => e = .returned (.string S) ∧ Below w.heap.size w w' := by
  unfold hv w8 at *
  go_enter Tryd.func47, Tryd.ntmps47
  go_wp2_with fail
  have A0 := Arr.new w #[.int .u32 (h 0), .int .u32 (h 1), .int .u32 (h 2), .int .u32 (h 3), .int .u32 (h 4), .int .u32 (h 5), .int .u32 (h 6), .int .u32 (h 7), .string L, .int .u64 n] 102 _ rfl _ 10 (hx_at h L n)
  have hB : Below w.heap.size w (w.alloc (.cells #[.int .u32 (h 0), .int .u32 (h 1), .int .u32 (h 2), .int .u32 (h 3), .int .u32 (h 4), .int .u32 (h 5), .int .u32 (h 6), .int .u32 (h 7), .string L, .int .u64 n] 102)) := by go_grown
  generalize (w.alloc (.cells #[.int .u32 (h 0), .int .u32 (h 1), .int .u32 (h 2), .int .u32 (h 3), .int .u32 (h 4), .int .u32 (h 5), .int .u32 (h 6), .int .u32 (h 7), .string L, .int .u64 n] 102)) = W at *
  apply wp_region_alloc_tail 8 (by kernel_rfl) (by kernel_rfl) (by kernel_rfl) (.cells #[.int .u32 0, .int .u32 0, .int .u32 0, .int .u32 0, .int .u32 0, .int .u32 0, .int .u32 0, .int .u32 0] 100) _ rfl (fun _ _ => by simp [go_sem])
  · intro U hU
    have tR := fun ds os => ((hT.bel hB).bel hU).bel (below_regrown U ds os)
    obtain ⟨k0, k8, k9⟩ := (A0.to' hU).ten
    have r := fun j hj ds os => cell_regrown (k0 j hj) ds os
    have r0 := r 0 (by omega)
    have r1 := r 1 (by omega)
    have r2 := r 2 (by omega)
    have r3 := r 3 (by omega)
    have r4 := r 4 (by omega)
    have r5 := r 5 (by omega)
    have r6 := r 6 (by omega)
    have r7 := r 7 (by omega)
    have r8 := fun ds os => cell_regrown k8 ds os
    have r9 := fun ds os => cell_regrown k9 ds os
    clear r k0 k8 k9
    simp only [List.take_succ_cons, List.take_zero]
    repeat (go_big_quiet_step (first | (go_at_call 60; exact Calls.regrown_of (C33 _)) | (go_at_call 59; exact Calls.regrown_of (C24 _ (tR _ _)))))
    exact wpQuiet_nil rfl
  intro u1 w2 hb1 hb2
  simp only [List.drop_succ_cons, List.drop_zero, Act.put, List.setIfInBounds_toArray, List.set_cons_succ, List.set_cons_zero]
  have hB1 := Bel.call hB hb1
  have Bn := (Arr.new u1 #[.int .u32 0, .int .u32 0, .int .u32 0, .int .u32 0, .int .u32 0, .int .u32 0, .int .u32 0, .int .u32 0] 100 _ rfl _ 8 z8_at).to' hb2
  have hB2 := Bel.call (Bel.al hB1 (.cells #[.int .u32 0, .int .u32 0, .int .u32 0, .int .u32 0, .int .u32 0, .int .u32 0, .int .u32 0, .int .u32 0] 100)) hb2
  have c := Bn.c
  have z := Bn.z
  have lt := hB1.size
  clear A0 hB hb1 hb2 hB1 C33 C24
  go_wp2_with fail
  refine (C34 _ _ (Arr.st8 Bn g)).mono ?_
  rintro e w3 ⟨rfl, hb3⟩
  have hB3 := Bel.call (Bel.st8 hB2 (b := u1.heap.size) lt g) hb3
  clear hb3 C34 c z Bn
  go_wp2_with fail
  go_ret
  exact ⟨rfl, hB3⟩
theorem app_size (a b : ByteArray) : (a ++ b).size = a.size + b.size := ByteArray.size_append
/-- What Write makes. -/
def wrH (h : Nat → Int) (L s : ByteArray) : Nat → Int := madeF h (L ++ s)
def wrL (L s : ByteArray) : ByteArray := lefB (L ++ s)
def wrN (n : Int) (s : ByteArray) : Int := (n + (s.size : Int)) % 18446744073709551616
theorem write_any (h : Nat → Int) (L s : ByteArray) (n : Int) (hs : s.size ≤ 1000000) (hL : L.size ≤ 1000000) (w : World) (hT : Tab w) :
    Calls Tryd.prog 48 #[hv h L n, .string s] w fun e w' => e = .returned (hv (wrH h L s) (wrL L s) (wrN n s)) ∧ Below w.heap.size w w' := by
  have z := app_size L s
  exact write_core h _ L s _ _ n _ hs hL (by rw [IntKind.wrap_u64]; rfl) w hT (fun W hW => made_any h (L ++ s) (by omega) W hW) (fun W => left_any (L ++ s) (by omega) W)
    (fun W => clone_any _ W (by rw [lefB_size]; omega))
theorem endS_size (L : ByteArray) (n : Int) : (endS L n).size = 9 + zc L := by
  unfold endS
  rw [app_size, app_size, rep_size, mkS_size, hfL_len]
  show 1 + zc L + 8 = _
  omega
/-- The digest that Sum tells. -/
def sumS (h : Nat → Int) (L : ByteArray) (n : Int) : ByteArray := mkS (hfL (madeF h (L ++ endS L n)) 8)
theorem sumS_size (h : Nat → Int) (L : ByteArray) (n : Int) : (sumS h L n).size = 32 := by unfold sumS; rw [mkS_size, hfL_len]
theorem sum_any (h : Nat → Int) (L : ByteArray) (n : Int) (hL : L.size ≤ 1000000) (w : World) (hT : Tab w) :
    Calls Tryd.prog 47 #[hv h L n] w fun e w' => e = .returned (.string (sumS h L n)) ∧ Below w.heap.size w w' := by
  have e := endS_size L n
  have z : zc L < 64 := by unfold zc; omega
  have za := app_size L (endS L n)
  exact sum_core h _ L (endS L n) _ n hL (by omega) w hT (fun W => end_any h L n (by unfold maxLen; omega) W) (fun W hW => made_any h _ (by omega) W hW) (fun bk W hA => high_core _ 8 bk (by omega) (by omega) _ rfl W hA)
/-- A text's digest. -/
def ofS (s : ByteArray) : ByteArray := sumS (wrH bgn ⟨#[]⟩ s) (wrL ⟨#[]⟩ s) (wrN 0 s)
theorem ofS_size (s : ByteArray) : (ofS s).size = 32 := sumS_size _ _ _
theorem wrL_lt (L s : ByteArray) : (wrL L s).size < 64 := by unfold wrL; rw [lefB_size]; omega
set_option maxHeartbeats 1000000 in
theorem of_core (s S : ByteArray) (a b : Value) (w : World) (hT : Tab w)
    (C16 : ∀ W, Tab W → Calls Tryd.prog 49 #[] W fun e w' => e = .returned a ∧ Below W.heap.size W w')
    (C20 : ∀ W, Tab W → Calls Tryd.prog 48 #[a, .string s] W fun e w' => e = .returned b ∧ Below W.heap.size W w')
    (C22 : ∀ W, Tab W → Calls Tryd.prog 47 #[b] W fun e w' => e = .returned (.string S) ∧ Below W.heap.size W w') :
    Calls Tryd.prog 34 #[.string s] w fun e w' => e = .returned (.string S) ∧ Below w.heap.size w w' := by
  go_enter Tryd.func34, Tryd.ntmps34
  go_wp2_with fail
  refine (C16 _ hT).mono ?_
  rintro e w1 ⟨rfl, hb⟩
  have hT1 := hT.to hb
  go_wp2_with fail
  refine (C20 _ hT1).mono ?_
  rintro e w2 ⟨rfl, hb2⟩
  have hT2 := hT1.to hb2
  have hB := Bel.call hb hb2
  clear hb hb2
  go_wp2_with fail
  refine (C22 _ hT2).mono ?_
  rintro e w3 ⟨rfl, hb⟩
  have hB' := Bel.call hB hb
  clear hb hB
  go_wp2_with fail
  go_ret
  exact ⟨rfl, hB'⟩
theorem of_any (s : ByteArray) (hs : s.size ≤ 1000000) (w : World) (hT : Tab w) : Calls Tryd.prog 34 #[.string s] w fun e w' => e = .returned (.string (ofS s)) ∧ Below w.heap.size w w' :=
  of_core s _ _ _ w hT (fun W hW => new_any W hW) (fun W hW => write_any bgn ⟨#[]⟩ s 0 hs (by decide) W hW) (fun W hW => sum_any _ _ _ (by have := wrL_lt ⟨#[]⟩ s; omega) W hW)
/-- What Block answers. -/
def blkV (h : Nat → Int) (s : ByteArray) : Value := if s.size = 64 then .tuple #[w8 (madeF h s), .int .i64 0] else .tuple #[w8 (fun _ => 0), .int .i64 10]
end Go.Proofs.YtmkfnfencllfnaaDoor
/- What sha.masked and Mac answer. -/
set_option linter.all false
set_option maxRecDepth 100000
namespace Go.Proofs.YtmkfnfencllfnaaDoor
open Go.RowKit Go.Sort
theorem Tryd.size5 : (Tryd.prog.info? 5).map (·.size) = some 1 := by kernel_rfl
theorem copy_gen (w : World) (M : Array Value) (hM : M.size = 64) (hz : ∀ j, j < 64 → M[j]? = some (.int .u8 0)) (key : ByteArray) (hk : key.size ≤ 64) : ∃ W : World, (Builtin.copy_ #[47, 9] 3 #[.slice (some ⟨w.heap.size, 0, none⟩) 64 64, .string key]).run Tryd.prog (w.alloc (.cells M 142)) = .ok (goInt key.size) W ∧
    Below w.heap.size w W ∧ Arr W w.heap.size 64 (fun j => .int .u8 (bt key j)) := by
  have sz : key.data.toList.length = key.size := by rw [Array.length_toList]; rfl
  have hcp := Lib.run_copy_row_string (P := Tryd.prog) (w.alloc (.cells M 142)) 47 9 3 5 w.heap.size 0 64 64 key M 142 Tryd.underlying47 Tryd.size5 (heap_alloc_new w _) hk (by omega)
  obtain ⟨Y, hY⟩ : ∃ Y, Y = (M.toList.take 0 ++ Lib.byteCells key.data.toList ++ M.toList.drop (0 + key.size)).toArray := ⟨_, rfl⟩
  rw [← hY] at hcp
  refine ⟨_, hcp, ?_, ?_⟩
  · have hb1 : Below w.heap.size w (w.alloc (.cells M 142)) := (Below.refl _ w).alloc (Nat.le_refl _) _
    exact hb1.trans ⟨rfl, rfl, rfl, by simp, fun k hk => setRow_other _ _ _ _ (by omega)⟩
  · have hgY : ((w.alloc (.cells M 142)).setRow w.heap.size Y).heap[w.heap.size]? = some (.cells Y 142 (0, 0)) := setRow_heap _ _ M _ 142 (0, 0) (heap_alloc_new w _)
    generalize (w.alloc (.cells M 142)).setRow w.heap.size Y = V at *
    intro j hj
    refine ⟨?_, by unfold World.frozen?; rw [hgY]; simp⟩
    have e : Y[j]? = some (.int .u8 (bt key j)) := by
      rw [hY, List.getElem?_toArray, List.take_zero, List.nil_append]
      by_cases c : j < key.size
      · rw [List.getElem?_append_left (by rw [Lib.byteCells_length]; omega)]
        unfold Lib.byteCells bt
        rw [List.getElem?_map, Array.getElem?_toList, Array.getElem?_eq_getElem (show j < key.data.size from c)]
        rfl
      · rw [List.getElem?_append_right (by rw [Lib.byteCells_length]; omega), Lib.byteCells_length, sz]
        have b0 : bt key j = 0 := by
          unfold bt
          rw [Array.getElem?_eq_none (by show key.size ≤ j; omega)]
          rfl
        rw [b0, List.getElem?_drop, Array.getElem?_toList, ← hz j hj]
        congr 1
        omega
    unfold World.cell?
    rw [hgY]
    simp [e]
theorem zb_at (j : Nat) (hj : j < 64) : (#[.int .u8 0, .int .u8 0, .int .u8 0, .int .u8 0, .int .u8 0, .int .u8 0, .int .u8 0, .int .u8 0, .int .u8 0, .int .u8 0, .int .u8 0, .int .u8 0, .int .u8 0, .int .u8 0, .int .u8 0, .int .u8 0, .int .u8 0, .int .u8 0, .int .u8 0, .int .u8 0, .int .u8 0, .int .u8 0, .int .u8 0, .int .u8 0, .int .u8 0, .int .u8 0, .int .u8 0, .int .u8 0, .int .u8 0, .int .u8 0, .int .u8 0, .int .u8 0, .int .u8 0, .int .u8 0, .int .u8 0, .int .u8 0, .int .u8 0, .int .u8 0, .int .u8 0, .int .u8 0, .int .u8 0, .int .u8 0, .int .u8 0, .int .u8 0, .int .u8 0, .int .u8 0, .int .u8 0, .int .u8 0, .int .u8 0, .int .u8 0, .int .u8 0, .int .u8 0, .int .u8 0, .int .u8 0, .int .u8 0, .int .u8 0, .int .u8 0, .int .u8 0, .int .u8 0, .int .u8 0, .int .u8 0, .int .u8 0, .int .u8 0, .int .u8 0] : Array Value)[j]? = some (.int .u8 0) := by
  have e : (#[.int .u8 0, .int .u8 0, .int .u8 0, .int .u8 0, .int .u8 0, .int .u8 0, .int .u8 0, .int .u8 0, .int .u8 0, .int .u8 0, .int .u8 0, .int .u8 0, .int .u8 0, .int .u8 0, .int .u8 0, .int .u8 0, .int .u8 0, .int .u8 0, .int .u8 0, .int .u8 0, .int .u8 0, .int .u8 0, .int .u8 0, .int .u8 0, .int .u8 0, .int .u8 0, .int .u8 0, .int .u8 0, .int .u8 0, .int .u8 0, .int .u8 0, .int .u8 0, .int .u8 0, .int .u8 0, .int .u8 0, .int .u8 0, .int .u8 0, .int .u8 0, .int .u8 0, .int .u8 0, .int .u8 0, .int .u8 0, .int .u8 0, .int .u8 0, .int .u8 0, .int .u8 0, .int .u8 0, .int .u8 0, .int .u8 0, .int .u8 0, .int .u8 0, .int .u8 0, .int .u8 0, .int .u8 0, .int .u8 0, .int .u8 0, .int .u8 0, .int .u8 0, .int .u8 0, .int .u8 0, .int .u8 0, .int .u8 0, .int .u8 0, .int .u8 0] : Array Value) = (List.replicate 64 (Value.int .u8 0)).toArray := rfl
  rw [e, List.getElem?_toArray, List.getElem?_replicate, if_pos hj]
theorem copy_row (w : World) (key : ByteArray) (hk : key.size ≤ 64) : ∃ W : World, (Builtin.copy_ #[47, 9] 3 #[.slice (some ⟨w.heap.size, 0, none⟩) 64 64, .string key]).run Tryd.prog (w.alloc (.cells #[.int .u8 0, .int .u8 0, .int .u8 0, .int .u8 0, .int .u8 0, .int .u8 0, .int .u8 0, .int .u8 0, .int .u8 0, .int .u8 0, .int .u8 0, .int .u8 0, .int .u8 0, .int .u8 0, .int .u8 0, .int .u8 0, .int .u8 0, .int .u8 0, .int .u8 0, .int .u8 0, .int .u8 0, .int .u8 0, .int .u8 0, .int .u8 0, .int .u8 0, .int .u8 0, .int .u8 0, .int .u8 0, .int .u8 0, .int .u8 0, .int .u8 0, .int .u8 0, .int .u8 0, .int .u8 0, .int .u8 0, .int .u8 0, .int .u8 0, .int .u8 0, .int .u8 0, .int .u8 0, .int .u8 0, .int .u8 0, .int .u8 0, .int .u8 0, .int .u8 0, .int .u8 0, .int .u8 0, .int .u8 0, .int .u8 0, .int .u8 0, .int .u8 0, .int .u8 0, .int .u8 0, .int .u8 0, .int .u8 0, .int .u8 0, .int .u8 0, .int .u8 0, .int .u8 0, .int .u8 0, .int .u8 0, .int .u8 0, .int .u8 0, .int .u8 0] 142)) = .ok (goInt key.size) W ∧
    Below w.heap.size w W ∧ Arr W w.heap.size 64 (fun j => .int .u8 (bt key j)) := copy_gen w _ rfl zb_at key hk
/-- A key's block, each byte altered. -/
def mkL (key : ByteArray) (c : Int) : List Int := (List.range 64).map fun j => bits .xor .u8 (bt key j) c
def mskS (key : ByteArray) (c : Int) : ByteArray := mkS (mkL key c)
theorem mskS_size (key : ByteArray) (c : Int) : (mskS key c).size = 64 := by unfold mskS mkL; rw [mkS_size]; simp
set_option maxHeartbeats 2000000 in
theorem masked_core (k0 key S : ByteArray) (c : Int) (hk : key.size ≤ 64) (hk0 : k0.size ≤ maxLen) (hS : S = mskS key c) (w : World)
    (hc : (k0.size ≤ 64 ∧ k0 = key) ∨ (64 < k0.size ∧ ∀ W, Below w.heap.size w W → Calls Tryd.prog 34 #[.string k0] W fun e w' => e = .returned (.string key) ∧ Below W.heap.size W w')) :
    Calls Tryd.prog 89 #[.string k0, .int .u8 c] w fun e w' => e = .returned (.string S) ∧ Below w.heap.size w w' := by
  unfold maxLen at hk0
  go_enter Tryd.func89, Tryd.ntmps89
  rcases hc with ⟨h64, rfl⟩ | ⟨h64, C12⟩
  · have i64 : ¬ (64 : Int) < (k0.size : Int) := by omega
    obtain ⟨W, hcp, hB, A⟩ := copy_row w k0 hk
    have lw : w.heap.size ≤ w.heap.size := Nat.le_refl _
    go_wp2_with fail
    clear hcp
    go_loopw [15] (fun i wr => ∃ k : Nat, k ≤ 64 ∧ i = .int .i64 k ∧ Below w.heap.size w wr ∧ Arr wr w.heap.size 64 (fun j => .int .u8 (if j < k then bits .xor .u8 (bt k0 j) c else bt k0 j)))
      (fun i _ => 64 - (RowKit.intOf i).toNat)
    case atStart => exact ⟨0, by omega, rfl, hB, A.congr (by intro j hj; rw [if_neg (by omega)])⟩
    case round =>
      have lw : w.heap.size ≤ w.heap.size := lw
      clear A hB
      obtain ⟨k, hk, rfl, hB, A⟩ := hrel
      by_cases hlt : k < 64
      · have q0 : (0 : Int) ≤ (k : Int) := by omega
        have k64 : (k : Int) < 64 := by omega
        have r := A.cv k hlt (.int .u8 (bt k0 k)) (by rw [if_neg (by omega)])
        have z := A.z k hlt
        clear hS
        go_wp2_with fail
        refine ⟨⟨k + 1, by omega, by go_num, Bel.st hB lw _, (A.set k hlt _).congr ?_⟩, by simp [RowKit.intOf]; omega⟩
        intro j hj
        by_cases e : j = k
        · subst e; simp
        · simp only [if_neg e]
          by_cases e2 : j < k
          · rw [if_pos e2, if_pos (by omega)]
          · rw [if_neg e2, if_neg (by omega)]
      · have e : k = 64 := by omega
        subst e
        have cv := convC wr w.heap.size 64 64 (mkL k0 c) (by simp [mkL]) (by
          intro j u hu
          rw [Addr.add_mid, Nat.zero_add]
          have hj : j < 64 := by have := (List.getElem?_eq_some_iff.1 hu).1; simpa [mkL] using this
          rw [A.c j hj, if_pos hj, ← hu]
          simp [mkL, hj])
        rw [show mkS (mkL k0 c) = S from hS.symm] at cv
        clear A hS
        go_wp2_with fail
        go_ret
        exact ⟨rfl, hB⟩
  · have i64 : (64 : Int) < (k0.size : Int) := by omega
    go_wp2_with fail
    refine (C12 _ (Below.refl _ _)).mono ?_
    rintro e w1 ⟨rfl, hb⟩
    obtain ⟨W, hcp, hB1, A⟩ := copy_row w1 key hk
    have lw := hb.size
    have hB := Bel.call hb hB1
    clear hb hB1 C12
    go_wp2_with fail
    clear hcp
    go_loopw [15] (fun i wr => ∃ k : Nat, k ≤ 64 ∧ i = .int .i64 k ∧ Below w.heap.size w wr ∧ Arr wr w1.heap.size 64 (fun j => .int .u8 (if j < k then bits .xor .u8 (bt key j) c else bt key j)))
      (fun i _ => 64 - (RowKit.intOf i).toNat)
    case atStart => exact ⟨0, by omega, rfl, hB, A.congr (by intro j hj; rw [if_neg (by omega)])⟩
    case round =>
      have lw : w.heap.size ≤ w1.heap.size := lw
      clear A hB
      obtain ⟨k, hk, rfl, hB, A⟩ := hrel
      by_cases hlt : k < 64
      · have q0 : (0 : Int) ≤ (k : Int) := by omega
        have k64 : (k : Int) < 64 := by omega
        have r := A.cv k hlt (.int .u8 (bt key k)) (by rw [if_neg (by omega)])
        have z := A.z k hlt
        clear hS
        go_wp2_with fail
        refine ⟨⟨k + 1, by omega, by go_num, Bel.st hB lw _, (A.set k hlt _).congr ?_⟩, by simp [RowKit.intOf]; omega⟩
        intro j hj
        by_cases e : j = k
        · subst e; simp
        · simp only [if_neg e]
          by_cases e2 : j < k
          · rw [if_pos e2, if_pos (by omega)]
          · rw [if_neg e2, if_neg (by omega)]
      · have e : k = 64 := by omega
        subst e
        have cv := convC wr w1.heap.size 64 64 (mkL key c) (by simp [mkL]) (by
          intro j u hu
          rw [Addr.add_mid, Nat.zero_add]
          have hj : j < 64 := by have := (List.getElem?_eq_some_iff.1 hu).1; simpa [mkL] using this
          rw [A.c j hj, if_pos hj, ← hu]
          simp [mkL, hj])
        rw [show mkS (mkL key c) = S from hS.symm] at cv
        clear A hS
        go_wp2_with fail
        go_ret
        exact ⟨rfl, hB⟩
/-- The key that is masked. -/
def kyS (key : ByteArray) : ByteArray := if 64 < key.size then ofS key else key
theorem kyS_size (key : ByteArray) : (kyS key).size ≤ 64 := by
  unfold kyS
  split
  · rw [ofS_size]; omega
  · omega
theorem masked_any (key : ByteArray) (c : Int) (hk : key.size ≤ 1000000) (w : World) (hT : Tab w) :
    Calls Tryd.prog 89 #[.string key, .int .u8 c] w fun e w' => e = .returned (.string (mskS (kyS key) c)) ∧ Below w.heap.size w w' := by
  refine masked_core key (kyS key) _ c (kyS_size key) (by unfold maxLen; omega) rfl w ?_
  by_cases h : 64 < key.size
  · refine .inr ⟨h, fun W hW => ?_⟩
    have e : kyS key = ofS key := by unfold kyS; rw [if_pos h]
    rw [e]
    exact of_any key hk W (hT.bel hW)
  · refine .inl ⟨by omega, ?_⟩
    unfold kyS; rw [if_neg h]
set_option maxHeartbeats 4000000 in
theorem mac_core (key s M1 M2 D S : ByteArray) (g1 g2 : Nat → Int) (L1 L2 : ByteArray) (n1 n2 : Int) (a b c : Value) (w : World) (hT : Tab w)
    (C16 : ∀ W, Tab W → Calls Tryd.prog 49 #[] W fun e w' => e = .returned a ∧ Below W.heap.size W w')
    (C28 : ∀ W, Tab W → Calls Tryd.prog 89 #[.string key, .int .u8 54] W fun e w' => e = .returned (.string M1) ∧ Below W.heap.size W w')
    (D28 : ∀ W, Tab W → Calls Tryd.prog 89 #[.string key, .int .u8 92] W fun e w' => e = .returned (.string M2) ∧ Below W.heap.size W w')
    (C20 : ∀ W, Tab W → Calls Tryd.prog 48 #[a, .string M1] W fun e w' => e = .returned (hv g1 L1 n1) ∧ Below W.heap.size W w')
    (D20 : ∀ W, Tab W → Calls Tryd.prog 48 #[a, .string M2] W fun e w' => e = .returned (hv g2 L2 n2) ∧ Below W.heap.size W w')
    (E20 : ∀ W, Tab W → Calls Tryd.prog 48 #[hv g1 L1 n1, .string s] W fun e w' => e = .returned b ∧ Below W.heap.size W w')
    (E22 : ∀ W, Tab W → Calls Tryd.prog 47 #[b] W fun e w' => e = .returned (.string D) ∧ Below W.heap.size W w')
    (F20 : ∀ W, Tab W → Calls Tryd.prog 48 #[hv g2 L2 n2, .string D] W fun e w' => e = .returned c ∧ Below W.heap.size W w')
    (F22 : ∀ W, Tab W → Calls Tryd.prog 47 #[c] W fun e w' => e = .returned (.string S) ∧ Below W.heap.size W w') :
    Calls Tryd.prog 78 #[.string key, .string s] w fun e w' => e = .returned (.string S) ∧ Below w.heap.size w w' := by
  unfold hv at *
  go_enter Tryd.func78, Tryd.ntmps78
  go_wp2_with fail
  refine (C16 _ hT).mono ?_
  rintro e w1 ⟨rfl, hb1⟩
  have T1 := hT.to hb1
  go_wp2_with fail
  refine (C28 _ T1).mono ?_
  rintro e w2 ⟨rfl, hb2⟩
  have T2 := T1.to hb2
  have B2 := Bel.call hb1 hb2
  clear hb1 hb2 T1 C28
  go_wp2_with fail
  refine (C20 _ T2).mono ?_
  rintro e w3 ⟨rfl, hb3⟩
  have T3 := T2.to hb3
  have B3 := Bel.call B2 hb3
  clear hb3 B2 T2 C20
  go_wp2_with fail
  have A1 := Arr.new w3 #[.int .u32 (g1 0), .int .u32 (g1 1), .int .u32 (g1 2), .int .u32 (g1 3), .int .u32 (g1 4), .int .u32 (g1 5), .int .u32 (g1 6), .int .u32 (g1 7), .string L1, .int .u64 n1] 102 _ rfl _ 10 (hx_at g1 L1 n1)
  have T4 := T3.al (.cells #[.int .u32 (g1 0), .int .u32 (g1 1), .int .u32 (g1 2), .int .u32 (g1 3), .int .u32 (g1 4), .int .u32 (g1 5), .int .u32 (g1 6), .int .u32 (g1 7), .string L1, .int .u64 n1] 102)
  have B4 := Bel.al B3 (.cells #[.int .u32 (g1 0), .int .u32 (g1 1), .int .u32 (g1 2), .int .u32 (g1 3), .int .u32 (g1 4), .int .u32 (g1 5), .int .u32 (g1 6), .int .u32 (g1 7), .string L1, .int .u64 n1] 102)
  generalize (w3.alloc (.cells #[.int .u32 (g1 0), .int .u32 (g1 1), .int .u32 (g1 2), .int .u32 (g1 3), .int .u32 (g1 4), .int .u32 (g1 5), .int .u32 (g1 6), .int .u32 (g1 7), .string L1, .int .u64 n1] 102)) = W4 at *
  refine (C16 _ T4).mono ?_
  rintro e w5 ⟨rfl, hb5⟩
  have T5 := T4.to hb5
  have B5 := Bel.call B4 hb5
  have A5 := A1.to' hb5
  clear hb5 T4 B4 A1 C16
  go_wp2_with fail
  refine (D28 _ T5).mono ?_
  rintro e w6 ⟨rfl, hb6⟩
  have T6 := T5.to hb6
  have B6 := Bel.call B5 hb6
  have A6 := A5.to' hb6
  clear hb6 T5 B5 A5 D28
  go_wp2_with fail
  refine (D20 _ T6).mono ?_
  rintro e w7 ⟨rfl, hb7⟩
  have T7 := T6.to hb7
  have B7 := Bel.call B6 hb7
  have A7 := A6.to' hb7
  clear hb7 T6 B6 A6 D20
  go_wp2_with fail
  have A8 := A7.al' (.cells #[.int .u32 (g2 0), .int .u32 (g2 1), .int .u32 (g2 2), .int .u32 (g2 3), .int .u32 (g2 4), .int .u32 (g2 5), .int .u32 (g2 6), .int .u32 (g2 7), .string L2, .int .u64 n2] 102)
  have A9 := Arr.new w7 #[.int .u32 (g2 0), .int .u32 (g2 1), .int .u32 (g2 2), .int .u32 (g2 3), .int .u32 (g2 4), .int .u32 (g2 5), .int .u32 (g2 6), .int .u32 (g2 7), .string L2, .int .u64 n2] 102 _ rfl _ 10 (hx_at g2 L2 n2)
  have T8 := T7.al (.cells #[.int .u32 (g2 0), .int .u32 (g2 1), .int .u32 (g2 2), .int .u32 (g2 3), .int .u32 (g2 4), .int .u32 (g2 5), .int .u32 (g2 6), .int .u32 (g2 7), .string L2, .int .u64 n2] 102)
  have B8 := Bel.al B7 (.cells #[.int .u32 (g2 0), .int .u32 (g2 1), .int .u32 (g2 2), .int .u32 (g2 3), .int .u32 (g2 4), .int .u32 (g2 5), .int .u32 (g2 6), .int .u32 (g2 7), .string L2, .int .u64 n2] 102)
  generalize (w7.alloc (.cells #[.int .u32 (g2 0), .int .u32 (g2 1), .int .u32 (g2 2), .int .u32 (g2 3), .int .u32 (g2 4), .int .u32 (g2 5), .int .u32 (g2 6), .int .u32 (g2 7), .string L2, .int .u64 n2] 102)) = W8 at *
  have tR := fun ds os => T8.bel (below_regrown W8 ds os)
  obtain ⟨j0, j8, j9⟩ := A8.ten
  obtain ⟨k0, k8, k9⟩ := A9.ten
  have rj0 := fun ds os => cell_regrown (j0 0 (by omega)) ds os
  have rj1 := fun ds os => cell_regrown (j0 1 (by omega)) ds os
  have rj2 := fun ds os => cell_regrown (j0 2 (by omega)) ds os
  have rj3 := fun ds os => cell_regrown (j0 3 (by omega)) ds os
  have rj4 := fun ds os => cell_regrown (j0 4 (by omega)) ds os
  have rj5 := fun ds os => cell_regrown (j0 5 (by omega)) ds os
  have rj6 := fun ds os => cell_regrown (j0 6 (by omega)) ds os
  have rj7 := fun ds os => cell_regrown (j0 7 (by omega)) ds os
  have rj8 := fun ds os => cell_regrown j8 ds os
  have rj9 := fun ds os => cell_regrown j9 ds os
  have rk0 := fun ds os => cell_regrown (k0 0 (by omega)) ds os
  have rk1 := fun ds os => cell_regrown (k0 1 (by omega)) ds os
  have rk2 := fun ds os => cell_regrown (k0 2 (by omega)) ds os
  have rk3 := fun ds os => cell_regrown (k0 3 (by omega)) ds os
  have rk4 := fun ds os => cell_regrown (k0 4 (by omega)) ds os
  have rk5 := fun ds os => cell_regrown (k0 5 (by omega)) ds os
  have rk6 := fun ds os => cell_regrown (k0 6 (by omega)) ds os
  have rk7 := fun ds os => cell_regrown (k0 7 (by omega)) ds os
  have rk8 := fun ds os => cell_regrown k8 ds os
  have rk9 := fun ds os => cell_regrown k9 ds os
  clear j0 j8 j9 k0 k8 k9 A7 A8 A9
  refine wp_region_quiet_below (by kernel_rfl) (by kernel_rfl) ?_
  repeat (go_big_quiet_step (first | (go_at_call 48; with_reducible first | exact Calls.regrown_of (E20 _ (tR _ _)) | exact Calls.regrown_of (F20 _ (tR _ _))) | (go_at_call 47; with_reducible first | exact Calls.regrown_of (E22 _ (tR _ _)) | exact Calls.regrown_of (F22 _ (tR _ _)))))
  refine wpQuiet_nil ?_
  intro w9 hw'
  obtain ⟨⟨dq, osq⟩, hw''⟩ := hw'
  have hb := below_of hw''
  clear hw'' tR
  have B9 := Bel.call B8 hb
  go_wp2_with fail
  go_ret
  exact ⟨rfl, B9⟩
/-- A text's digest by a key. -/
def macS (key s : ByteArray) : ByteArray :=
  let m1 := mskS (kyS key) 54
  let m2 := mskS (kyS key) 92
  let d := sumS (wrH (wrH bgn ⟨#[]⟩ m1) (wrL ⟨#[]⟩ m1) s) (wrL (wrL ⟨#[]⟩ m1) s) (wrN (wrN 0 m1) s)
  sumS (wrH (wrH bgn ⟨#[]⟩ m2) (wrL ⟨#[]⟩ m2) d) (wrL (wrL ⟨#[]⟩ m2) d) (wrN (wrN 0 m2) d)
theorem macS_size (key s : ByteArray) : (macS key s).size = 32 := sumS_size _ _ _
theorem mac_any (key s : ByteArray) (hk : key.size ≤ 1000000) (hs : s.size ≤ 1000000) (w : World) (hT : Tab w) :
    Calls Tryd.prog 78 #[.string key, .string s] w fun e w' => e = .returned (.string (macS key s)) ∧ Below w.heap.size w w' := by
  have e1 := mskS_size (kyS key) 54
  have e2 := mskS_size (kyS key) 92
  have l1 := wrL_lt ⟨#[]⟩ (mskS (kyS key) 54)
  have l2 := wrL_lt ⟨#[]⟩ (mskS (kyS key) 92)
  refine mac_core key s _ _ _ _ _ _ _ _ _ _ _ _ _ w hT (fun W hW => new_any W hW) (fun W hW => masked_any key 54 hk W hW) (fun W hW => masked_any key 92 hk W hW)
    (fun W hW => write_any bgn ⟨#[]⟩ _ 0 (by omega) (by decide) W hW) (fun W hW => write_any bgn ⟨#[]⟩ _ 0 (by omega) (by decide) W hW) (fun W hW => write_any _ _ s _ hs (by omega) W hW)
    (fun W hW => sum_any _ _ _ ?_ W hW) (fun W hW => write_any _ _ _ _ ?_ (by omega) W hW) (fun W hW => sum_any _ _ _ ?_ W hW)
  · have := wrL_lt (wrL ⟨#[]⟩ (mskS (kyS key) 54)) s; omega
  · rw [sumS_size]; omega
  · exact Nat.le_trans (Nat.le_of_lt (wrL_lt _ _)) (by omega)
end Go.Proofs.YtmkfnfencllfnaaDoor
/- hkdf.blocks hands out what a key is expanded to. -/
set_option linter.all false
set_option maxRecDepth 100000
namespace Go.Proofs.YtmkfnfencllfnaaDoor
open Go.RowKit Go.Shelf Go.Sort
attribute [local go_sem] Oper.semAt_some
theorem Tab.lo {w W : World} {m : Nat} (h : Tab w) (hb : Below m w W) (h1 : 1 < m) : Tab W :=
  ⟨fun j hj => (hb.cell (p := ⟨0, j, none⟩) (Nat.lt_trans Nat.zero_lt_one h1)).trans (h.1 j hj), fun j hj => (hb.cell (p := ⟨1, j, none⟩) h1).trans (h.2.1 j hj), Nat.lt_of_lt_of_le h.2.2 hb.size⟩
/-- A block of a key's bytes. -/
abbrev Blk32 : Type := { x : ByteArray // x.size = 32 }
def upT (T : Nat → ByteArray) (k : Nat) : List ByteArray := (List.range k).map (fun j => T (j + 1))
theorem upT_succ (T : Nat → ByteArray) (k : Nat) : upT T (k + 1) = upT T k ++ [T (k + 1)] := by simp [upT, List.range_succ]
theorem upT_len (T : Nat → ByteArray) (k : Nat) : (upT T k).length = k := by simp [upT]
theorem upT_pre (T : Nat → ByteArray) {j k : Nat} (h : j ≤ k) : upT T j <+: upT T k := by
  obtain ⟨d, rfl⟩ := Nat.exists_eq_add_of_le h
  induction d with
  | zero => exact List.prefix_refl _
  | succ d ih => rw [← Nat.add_assoc, upT_succ]; exact (ih (by omega)).trans (List.prefix_append _ _)
set_option maxHeartbeats 4000000 in
theorem hblocks1_in (T B : Nat → ByteArray) (prk info : ByteArray) (n l bp bi n₀ : Nat) (hn : 1 ≤ n) (Jv Jx : List Blk32 → World → Prop) {b : Nat}
    (hT0 : (T 0).size = 0) (hT32 : ∀ k, (T (k + 1)).size = 32) (hB1 : ∀ k, (B k).size = 1) (hi : info.size ≤ 10000) (hJ : AbidesFrom b Jv)
    (C24 : ∀ (k : Nat) W, Calls Tryd.prog 64 #[.int .i64 ((k : Int) + 1)] W fun e w' => e = .returned (.string (B (k + 1))) ∧ Below W.heap.size W w')
    (C23 : ∀ k W, Tab W → Calls Tryd.prog 78 #[.string prk, .string (T k ++ info ++ B (k + 1))] W fun e w' => e = .returned (.string (T (k + 1))) ∧ Below W.heap.size W w')
    (hY : ∀ pre (x : Blk32) W, Jv pre W → pre.length < 255 → YieldAt Fence.wide (n - 1) Tryd.prog l #[.string x.1] W fun e W' =>
      (e = .returned (.bool true) ∧ Jv (pre ++ [x]) W' ∧ Below n₀ W W') ∨ (e = .returned (.bool false) ∧ Jx (pre ++ [x]) W'))
    (W : World) (hTab : Tab W) (h1 : 1 < n₀) (hpl : bp < n₀) (hil : bi < n₀) (hsz : n₀ ≤ W.heap.size)
    (cp : W.cell? ⟨bp, 0, none⟩ = some (.string prk)) (ci : W.cell? ⟨bi, 0, none⟩ = some (.string info)) (h0 : Jv [] W) :
    CallsIn Fence.wide n Tryd.prog 77 #[.func (.yield l) #[] #[], .pointer (some ⟨bp, 0, none⟩), .pointer (some ⟨bi, 0, none⟩)] W fun e W' => (∃ v, e = .returned v) ∧
      ((∃ ys : List Blk32, ys.map (·.1) = upT T 255 ∧ Jv ys W') ∨ (∃ pre : List Blk32, pre.map (·.1) <+: upT T 255 ∧ Jx pre W')) := by
  have hd : 1 ≤ n := hn
  refine callsIn_of_wp Tryd.func77 rfl trivial ?_ rfl
  simp only [Tryd.ntmps77, List.size_toArray, List.length_cons, List.length_nil, Nat.reduceAdd, Nat.reduceSub, Array.replicate_succ, Array.replicate_zero, List.push_toArray, List.append_toArray, List.nil_append, List.cons_append]
  have e0 : T 0 = ⟨#[]⟩ := by apply ba_ext; exact List.eq_nil_of_length_eq_zero (by rw [Array.length_toList]; exact hT0)
  gi_wp2
  gi_loopw [4, 5] (fun s i wr => ∃ (k : Nat) (ys : List Blk32), k ≤ 255 ∧ s = .string (T k) ∧ i = .int .i64 ((k : Int) + 1) ∧ ys.map (·.1) = upT T k ∧ Jv ys wr ∧ Below n₀ W wr) (fun _ i _ => 256 - (RowKit.intOf i).toNat)
  case atStart => exact ⟨0, [], by omega, by rw [e0], rfl, rfl, h0, Below.refl _ _⟩
  case round =>
    clear h0 e0
    obtain ⟨k, ys, hk, rfl, rfl, hys, hJs, hW⟩ := hrel
    have k0 : (0 : Int) ≤ (k : Int) := by omega
    have ylen : ys.length = k := by have := congrArg List.length hys; rwa [List.length_map, upT_len] at this
    have tk : (T k).size ≤ 32 := by
      cases k with
      | zero => omega
      | succ k => rw [hT32]; omega
    by_cases hlt : k < 255
    · have k1 : (k : Int) + 1 ≤ 255 := by omega
      have cp1 := (hW.cell (p := ⟨bp, 0, none⟩) hpl).trans cp
      have ci1 := (hW.cell (p := ⟨bi, 0, none⟩) hil).trans ci
      have t1 := hTab.lo hW h1
      have tR := fun ds os => t1.bel (below_regrown wr ds os)
      have rp := fun ds os => cell_regrown cp1 ds os
      have ri := fun ds os => cell_regrown ci1 ds os
      have c24 := C24 k
      have c23 := C23 k
      have b1 := hB1 (k + 1)
      have t32 := hT32 k
      have HU : Hid (upT T (k + 1) = upT T k ++ [T (k + 1)]) := upT_succ T k
      have HY : Hid (ys.map (·.1) = upT T k) := hys
      have HP : Hid (upT T (k + 1) <+: upT T 255) := upT_pre T (by omega)
      clear C24 C23 hys
      obtain ⟨tn, htn⟩ : ∃ x, T (k + 1) = x := ⟨_, rfl⟩
      rw [htn] at c23 t32 HU
      have HN : Hid (T (k + 1) = tn) := htn
      clear htn
      generalize B (k + 1) = bn at *
      generalize T k = tc at *
      gi_wp2
      refine wpIn_wide.2 ?_
      refine wp_region_quiet_below (by kernel_rfl) (by kernel_rfl) ?_
      repeat (go_big_quiet_step (first | (go_at_call 64; exact Calls.regrown_of (c24 _)) | (go_at_call 78; exact Calls.regrown_of (c23 _ (tR _ _)))))
      refine wpQuiet_nil ?_
      intro w1 hw'
      obtain ⟨⟨dq, osq⟩, hw''⟩ := hw'
      have hb := below_of hw''
      clear hw'' rp ri tR c24 c23
      have hJ1 := hJ ys wr w1 none hJs (gby hb) (fun r e => by cases e)
      have hW1 : Below n₀ W w1 := hW.trans (hb.mono (Nat.le_trans hsz hW.size))
      obtain ⟨fn, tmps, assign, body, hy, hR⟩ := hY ys ⟨tn, t32⟩ w1 hJ1 (by omega)
      gi_wp2
      refine hR.mono ?_
      rintro e W3 (⟨rfl, hJ3, hb3⟩ | ⟨rfl, hJx3⟩)
      · gi_wp2
        refine ⟨⟨k + 1, ys ++ [⟨tn, t32⟩], by omega, ?_, by go_num, ?_, hJ3, hW1.trans hb3⟩, by simp [RowKit.intOf]; omega⟩
        · rw [HN.out]
        · rw [List.map_append, HY.out, HU.out]; rfl
      · gi_wp2
        refine bodyPost_ret (results_none rfl _ _ _) rfl ?_
        refine ⟨⟨_, rfl⟩, .inr ⟨ys ++ [⟨tn, t32⟩], ?_, hJx3⟩⟩
        have := HP.out
        rw [HU.out, ← HY.out] at this
        rw [List.map_append]
        exact this
    · have k1 : ¬ (k : Int) + 1 ≤ 255 := by omega
      gi_wp2
      go_end0
      refine ⟨⟨_, rfl⟩, .inl ⟨ys, ?_, hJs⟩⟩
      show ys.map (·.1) = _
      rw [hys, show k = 255 by omega]
theorem hblocks_seq (T B : Nat → ByteArray) (prk info : ByteArray) (n bp bi n₀ : Nat) (hn : 1 ≤ n)
    (hT0 : (T 0).size = 0) (hT32 : ∀ k, (T (k + 1)).size = 32) (hB1 : ∀ k, (B k).size = 1) (hi : info.size ≤ 10000)
    (C24 : ∀ (k : Nat) W, Calls Tryd.prog 64 #[.int .i64 ((k : Int) + 1)] W fun e w' => e = .returned (.string (B (k + 1))) ∧ Below W.heap.size W w')
    (C23 : ∀ k W, Tab W → Calls Tryd.prog 78 #[.string prk, .string (T k ++ info ++ B (k + 1))] W fun e w' => e = .returned (.string (T (k + 1))) ∧ Below W.heap.size W w')
    (w0 : World) (hTab : Tab w0) (h1 : 1 < n₀) (hpl : bp < n₀) (hil : bi < n₀) (hsz : n₀ ≤ w0.heap.size)
    (cp : w0.cell? ⟨bp, 0, none⟩ = some (.string prk)) (ci : w0.cell? ⟨bi, 0, none⟩ = some (.string info)) :
    SeqStopsK Fence.wide n Tryd.prog 77 #[.pointer (some ⟨bp, 0, none⟩), .pointer (some ⟨bi, 0, none⟩)] (fun x : Blk32 => #[.string x.1]) (Below n₀) (fun ys => ys.map (·.1) = upT T 255) (fun pre => pre.map (·.1) <+: upT T 255) 255 w0 :=
  fun l Jv Jx W hW hJ _ hY h0 => hblocks1_in T B prk info n l bp bi n₀ hn Jv Jx hT0 hT32 hB1 hi hJ C24 C23 hY W (hTab.to hW) h1 hpl hil (Nat.le_trans hsz hW.size)
    ((hW.cell (p := ⟨bp, 0, none⟩) (Nat.lt_of_lt_of_le hpl hsz)).trans cp) ((hW.cell (p := ⟨bi, 0, none⟩) (Nat.lt_of_lt_of_le hil hsz)).trans ci) h0
set_option maxHeartbeats 1000000 in
theorem hblocks_any (prk info : ByteArray) (w : World) : Calls Tryd.prog 67 #[.string prk, .string info] w fun e w' => e = .returned (.func (.func 77) #[] #[.pointer (some ⟨w.heap.size, 0, none⟩), .pointer (some ⟨w.heap.size + 1, 0, none⟩)]) ∧ w' = (w.alloc (.cells #[.string prk] 9)).alloc (.cells #[.string info] 9) := by
  go_enter Tryd.func67, Tryd.ntmps67
  go_wp2
  go_ret
  exact ⟨rfl, rfl⟩
end Go.Proofs.YtmkfnfencllfnaaDoor
/- What is written twice is written at once. -/
set_option linter.all false
namespace Go.Proofs.YtmkfnfencllfnaaDoor
theorem cutB_list (s : ByteArray) (k : Nat) : (cutB s k).data.toList = (s.data.toList.drop (64 * k)).take 64 := by
  unfold cutB
  rw [ext_list]
  congr 1
  omega
theorem lefB_list (s : ByteArray) : (lefB s).data.toList = s.data.toList.drop (64 * (s.size / 64)) := by
  unfold lefB
  rw [ext_list, List.take_of_length_le (by rw [List.length_drop, len_list]; omega)]
  congr 1
  omega
theorem cut_lo (T b : ByteArray) (k : Nat) (h : 64 * k + 64 ≤ T.size) : cutB (T ++ b) k = cutB T k := by
  apply ba_ext
  rw [cutB_list, cutB_list, ap_list, List.drop_append_of_le_length (by rw [len_list]; omega), List.take_append_of_le_length (by rw [List.length_drop, len_list]; omega)]
theorem cut_hi (T b : ByteArray) (j : Nat) : cutB (T ++ b) (T.size / 64 + j) = cutB (lefB T ++ b) j := by
  apply ba_ext
  rw [cutB_list, cutB_list, ap_list, ap_list, lefB_list, Nat.mul_add, ← List.drop_drop, List.drop_append_of_le_length (by rw [len_list]; omega)]
theorem upB_add (s : ByteArray) (q r : Nat) : upB s (q + r) = upB s q ++ (List.range r).map (fun j => cutB s (q + j)) := by
  unfold upB
  rw [List.range_add, List.map_append, List.map_map]
  rfl
theorem made_twice (h : Nat → Int) (T b : ByteArray) : madeF (madeF h T) (lefB T ++ b) = madeF h (T ++ b) := by
  unfold madeF
  have e : (T ++ b).size / 64 = T.size / 64 + (lefB T ++ b).size / 64 := by
    rw [app_size, app_size, lefB_size]
    omega
  rw [e, upB_add, List.foldl_append]
  have e1 : upB (T ++ b) (T.size / 64) = upB T (T.size / 64) := by
    unfold upB
    refine List.map_congr_left fun k hk => cut_lo T b k ?_
    have := List.mem_range.1 hk
    omega
  have e2 : (List.range ((lefB T ++ b).size / 64)).map (fun j => cutB (T ++ b) (T.size / 64 + j)) = upB (lefB T ++ b) ((lefB T ++ b).size / 64) := by
    unfold upB
    exact List.map_congr_left fun j _ => cut_hi T b j
  rw [e1, e2]
theorem lef_twice (T b : ByteArray) : lefB (lefB T ++ b) = lefB (T ++ b) := by
  apply ba_ext
  rw [lefB_list, lefB_list, ap_list, ap_list, lefB_list]
  have e : 64 * ((T ++ b).size / 64) = 64 * (T.size / 64) + 64 * ((lefB T ++ b).size / 64) := by
    rw [app_size, app_size, lefB_size]
    omega
  rw [e, ← List.drop_drop, List.drop_append_of_le_length (l₁ := T.data.toList) (by rw [len_list]; omega)]
theorem wrH_twice (h : Nat → Int) (L a b : ByteArray) : wrH (wrH h L a) (wrL L a) b = wrH h L (a ++ b) := by
  unfold wrH wrL
  rw [made_twice, ap_assoc]
theorem wrL_twice (L a b : ByteArray) : wrL (wrL L a) b = wrL L (a ++ b) := by
  unfold wrL
  rw [lef_twice, ap_assoc]
theorem wrN_twice (n : Int) (a b : ByteArray) : wrN (wrN n a) b = wrN n (a ++ b) := by
  unfold wrN
  rw [app_size]
  omega
/-- Nothing is left of whole blocks. -/
theorem made_one (h : Nat → Int) (s : ByteArray) (hs : s.size = 64) : madeF h s = mixF h s := by
  unfold madeF
  rw [hs]
  have e : cutB s 0 = s := by
    apply ba_ext
    rw [cutB_list, Nat.mul_zero, List.drop_zero, List.take_of_length_le (by rw [len_list]; omega)]
  show mixF h (cutB s 0) = mixF h s
  rw [e]
end Go.Proofs.YtmkfnfencllfnaaDoor
/- hkdf.first: the first bytes of what is handed out. -/
set_option linter.all false
set_option maxRecDepth 100000
namespace Go.Proofs.YtmkfnfencllfnaaDoor
open Go.RowKit Go.Shelf Go.Sort Go.Lib
attribute [local go_sem] Oper.semAt_some
/-- Blocks, one behind the other. -/
def ctB (l : List ByteArray) : ByteArray := l.foldl (· ++ ·) ⟨#[]⟩
theorem ctB_snoc (l : List ByteArray) (x : ByteArray) : ctB (l ++ [x]) = ctB l ++ x := by unfold ctB; rw [List.foldl_append]; rfl
theorem ctB_acc (l : List ByteArray) : ∀ a : ByteArray, l.foldl (· ++ ·) a = a ++ ctB l := by
  induction l with
  | nil =>
    intro a
    apply ba_ext
    show _ = (a ++ ⟨#[]⟩ : ByteArray).data.toList
    rw [ap_list]
    show _ = _ ++ []
    rw [List.append_nil]
    rfl
  | cons x l ih => intro a; unfold ctB; rw [List.foldl_cons, List.foldl_cons, ih, ih (_ ++ x), ap_nil, ap_assoc]
theorem ctB_app (l m : List ByteArray) : ctB (l ++ m) = ctB l ++ ctB m := by
  show List.foldl _ _ _ = _
  rw [List.foldl_append, ctB_acc m]
  rfl
theorem ctB_size (l : List Blk32) : (ctB (l.map (·.1))).size = 32 * l.length := by
  induction l with
  | nil => rfl
  | cons x l ih =>
    show (ctB ([x.1] ++ l.map (·.1))).size = _
    rw [ctB_app, ByteArray.size_append, ih, show ctB [x.1] = x.1 from ap_nil _, x.2, List.length_cons]
    omega
theorem ctB_pre {l m : List ByteArray} (h : l <+: m) (n : Nat) (hn : n ≤ (ctB l).size) : (ctB m).extract 0 n = (ctB l).extract 0 n := by
  obtain ⟨t, rfl⟩ := h
  rw [ctB_app, ext_app_lo _ _ _ hn]
end Go.Proofs.YtmkfnfencllfnaaDoor
/- hkdf.first, walked. -/
set_option linter.all false
set_option maxRecDepth 100000
namespace Go.Proofs.YtmkfnfencllfnaaDoor
open Go.RowKit Go.Shelf Go.Sort Go.Lib
attribute [local go_sem] Oper.semAt_some
/-- Between two rounds: what out holds, and the number. -/
def IF (w : World) (m : Nat) (pre : List Blk32) (W : World) : Prop :=
  ((∃ v, Boxed W (w.heap.size + 1) 47 v ∧ W.ownsRow w.heap.size 5 1 v (32 * pre.length) (strCells (ctB (pre.map (·.1)))) ∧ (pre = [] ∨ 32 * pre.length < m)) ∧ Boxed W w.heap.size 3 (.int .i64 (m : Int))) ∧ Below w.heap.size w W
/-- Behind the round that was left. -/
def IX (w : World) (m : Nat) (c : Code) (pre : List Blk32) (W : World) : Prop :=
  (∃ v, Boxed W (w.heap.size + 1) 47 v ∧ W.ownsRow w.heap.size 5 1 v m (strCells ((ctB (pre.map (·.1))).extract 0 m)) ∧ (c = .exit 0 ∧ m ≤ 32 * pre.length)) ∧ Below w.heap.size w W
theorem IF_own (w : World) (m B : Nat) (hB : w.heap.size ≤ B) : OwnFrom B (IF w m) := by
  have h1 : OwnFrom B _ := Own.from (holdsRow_own w.heap.size (w.heap.size + 1) 47 5 1 (fun pre : List Blk32 => 32 * pre.length) (fun pre => strCells (ctB (pre.map (·.1)))) (fun pre _ => pre = [] ∨ 32 * pre.length < m)) _
  have h2 : OwnFrom B _ := Own.from (boxed_own w.heap.size 3 (fun _ : List Blk32 => .int .i64 (m : Int))) _
  have h3 : OwnFrom B (fun (_ : List Blk32) W => Below w.heap.size w W) := ownFrom_below (Nat.le_refl _) hB
  exact fun s A A' row hs hg hr => ⟨⟨h1 s A A' row hs.1.1 hg hr, h2 s A A' row hs.1.2 hg hr⟩, h3 s A A' row hs.2 hg hr⟩
theorem IX_own (w : World) (m B : Nat) (hB : w.heap.size ≤ B) (c : Code) : OwnFrom B (IX w m c) := by
  have h1 : OwnFrom B _ := Own.from (holdsRow_own w.heap.size (w.heap.size + 1) 47 5 1 (fun pre : List Blk32 => m) (fun pre => strCells ((ctB (pre.map (·.1))).extract 0 m)) (fun pre _ => c = .exit 0 ∧ m ≤ 32 * pre.length)) _
  have h3 : OwnFrom B (fun (_ : List Blk32) W => Below w.heap.size w W) := ownFrom_below (Nat.le_refl _) hB
  exact fun s A A' row hs hg hr => ⟨h1 s A A' row hs.1 hg hr, h3 s A A' row hs.2 hg hr⟩
set_option maxHeartbeats 4000000 in
theorem first_core (T : Nat → ByteArray) (m : Nat) (hm : m ≤ 8160) (bp bi : Nat) (w : World)
    (hseq : ∀ (W : World), Below w.heap.size w W → SeqStopsK Fence.wide (8 - 1) Tryd.prog 77 #[.pointer (some ⟨bp, 0, none⟩), .pointer (some ⟨bi, 0, none⟩)] (fun x : Blk32 => #[.string x.1]) (Below w.heap.size) (fun ys => ys.map (·.1) = upT T 255) (fun pre => pre.map (·.1) <+: upT T 255) 255 W) :
    Calls Tryd.prog 66 #[.int .i64 (m : Int), .func (.func 77) #[] #[.pointer (some ⟨bp, 0, none⟩), .pointer (some ⟨bi, 0, none⟩)]] w fun e w' => e = .returned (.string ((ctB (upT T 255)).extract 0 m)) ∧ Below w.heap.size w w' := by
  obtain ⟨i0, hi, hz0, hz1, hz2⟩ := info_parts Tryd.info5
  refine (callsIn_wide (n := 8)).1 ?_
  refine callsIn_of_wp_marks Tryd.func66 rfl trivial ?_ rfl
  simp only [Tryd.ntmps66, List.size_toArray, List.length_cons, List.length_nil, Nat.reduceAdd, Nat.reduceSub, Array.replicate_succ, Array.replicate_zero, List.push_toArray, List.append_toArray, List.nil_append, List.cons_append]
  gi_wp2
  refine wpIn_wide.2 (wp_scope_straight ?_)
  go_wp2_with fail
  go_step3
  go_wp2_with fail
  refine (wpIn_wide (n := 8)).1 ?_
  have bN : Boxed ((w.alloc (.cells #[.int .i64 (m : Int)] 3)).alloc (.cells #[.slice none 0 0] 47)) w.heap.size 3 (.int .i64 (m : Int)) := (Boxed.new w 3 _).alloc _
  have bO : Boxed ((w.alloc (.cells #[.int .i64 (m : Int)] 3)).alloc (.cells #[.slice none 0 0] 47)) (w.heap.size + 1) 47 (.slice none 0 0) := by have := Boxed.new (w.alloc (.cells #[.int .i64 (m : Int)] 3)) 47 (.slice none 0 0); rwa [World.size_alloc] at this
  have hB0 : Below w.heap.size w ((w.alloc (.cells #[.int .i64 (m : Int)] 3)).alloc (.cells #[.slice none 0 0] 47)) := by go_grown
  refine wpIn_rangeFunc_ownF rfl (by omega) (gf := 77) (lb := #[.pointer (some ⟨bp, 0, none⟩), .pointer (some ⟨bi, 0, none⟩)]) rfl trivial (enters_of Tryd.func77 (by kernel_rfl) rfl)
    (hseq _ hB0) belowK_t (belowK_b (by simp; omega)) (Below.refl _ _) (fun _ => rfl)
    (IF w m)
    (IX w m)
    (IF_own w m _ (by simp; omega))
    (IX_own w m _ (by simp; omega))
    ⟨⟨⟨_, bO, World.ownsRow_nil _ _ _ _, .inl rfl⟩, bN⟩, hB0⟩
    (fun x => { tmps := #[.int .i64 (m : Int), .func (.func 77) #[] #[.pointer (some ⟨bp, 0, none⟩), .pointer (some ⟨bi, 0, none⟩)], .pointer (some ⟨w.heap.size, 0, none⟩), undef, .string ⟨#[]⟩, .pointer (some ⟨w.heap.size + 1, 0, none⟩), .string x.1, undef, .func (.func 77) #[] #[.pointer (some ⟨bp, 0, none⟩), .pointer (some ⟨bi, 0, none⟩)], .string x.1, undef, undef, undef, undef, undef, undef, undef, undef, undef, undef, undef, undef, undef, undef, undef, undef, undef, undef, undef], defers := [] }) ?assign ?body ?done ?stop
  case assign =>
    intro l x W K hK
    gi_wp2
    exact hK
  case body =>
    clear bN bO hB0 hseq
    rintro l pre x W ⟨⟨⟨v, hv, hrow, hpre⟩, hbn⟩, hB⟩ hlt
    obtain ⟨ao, cv, rfl⟩ := own_form hrow
    have hc := hv.cell
    have hcn := hbn.cell
    have hd : 1 ≤ 8 - 1 - 1 := by omega
    have sz := ctB_size pre
    have EX : Hid (ctB ((pre ++ [x]).map (·.1)) = ctB (pre.map (·.1)) ++ x.1) := by
      show _ = _
      rw [List.map_append, List.map_cons, List.map_nil, ctB_snoc]
    have el : (pre ++ [x]).length = pre.length + 1 := by simp
    have HR : Hid (W.ownsRow w.heap.size 5 1 (.slice ao (32 * pre.length) cv) (32 * pre.length) (strCells (ctB (pre.map (·.1))))) := hrow
    have HV : Hid (Boxed W (w.heap.size + 1) 47 (.slice ao (32 * pre.length) cv)) := hv
    have HN : Hid (Boxed W w.heap.size 3 (.int .i64 (m : Int))) := hbn
    have HE : Hid ((pre ++ [x]).length = pre.length + 1) := el
    obtain ⟨xb, x32⟩ := x
    dsimp only at *
    clear hrow hv hbn el
    generalize hU : ctB (pre.map (·.1)) = U at *
    obtain ⟨q, hq⟩ : ∃ q : Nat, pre.length = q := ⟨_, rfl⟩
    have HP : Hid (pre = [] ∨ 32 * pre.length < m) := hpre
    have HQ : Hid (pre.length = q) := hq
    have HS : Hid (U.size = 32 * pre.length) := sz
    rw [hq] at HR HV HE HS
    rw [hq] at hc
    obtain ⟨u, hu⟩ : ∃ u : Nat, 32 * q = u := ⟨_, rfl⟩
    rw [hu] at hc HR HV HS
    have HU : Hid (32 * q = u) := hu
    have q255 : q < 255 := by omega
    have u0 : (0 : Int) ≤ (u : Int) := by omega
    have u1 : (u : Int) < 8160 := by omega
    have x0 : (xb.size : Int) = 32 := by omega
    have hsz := hB.size
    have HX : Hid (xb.size = 32) := x32
    have hu' : u ≤ m := by
      rcases hpre with h | h
      · subst h
        have : q = 0 := by rw [← hq]; rfl
        omega
      · omega
    clear hpre hq sz hU hu hlt HP
    by_cases hmiss : u + 32 < m
    · have i1 : (32 : Int) < (m : Int) - (u : Int) := by omega
      have i2 : (m : Int) ≤ 8160 := by omega
      gi_wp2_with (gi_at_builtin; refine wpListIn_append_own_string _ rfl _ _ 47 9 rfl w.heap.size 5 i0 Tryd.underlying47 Tryd.underlying9 hi hz0 hz1 hz2 _ _ _ rfl HR.out xb rfl (by unfold maxLen; omega) (by omega) hsz ?_; intro v' w1 hown' hgrow; obtain ⟨ao', cv', rfl⟩ := own_form hown'; obtain ⟨hv1, hv2, hr2, hk2, hb2⟩ := boxed_app HV.out (by decide) HR.out hsz (by omega) hown' hgrow; have hc1 := hv1.cell; have hf1 := hv1.frozen; have hn2 := (HN.out.kept hgrow (HN.out.not_row (by decide) HR.out)).other (B' := w.heap.size + 1) (by omega) (.slice ao' (u + xb.size) cv'); clear hown' hgrow hv1)
      rw [HX.out] at hv2 hr2 hk2 hb2 hn2
      have o1 := HU.out
      refine ⟨hk2, hb2, ⟨⟨⟨_, hv2, ?_, .inr ?_⟩, hn2⟩, hB.trans hb2⟩⟩
      · rw [HE.out, EX.out, strCells_app, show 32 * (q + 1) = u + 32 by omega]; exact hr2
      · rw [HE.out]; omega
    · have i1 : (m : Int) - (u : Int) ≤ 32 := by omega
      have i2 : (0 : Int) ≤ (m : Int) - (u : Int) := by omega
      have i3 : (m : Int) ≤ 8160 := by omega
      gi_wp2
      have r := fun ds os => cell_regrown hc ds os
      refine wpIn_region_below_tail 4 (by kernel_rfl) (by kernel_rfl) ?_
      simp only [List.take_succ_cons, List.take_zero, List.drop_succ_cons, List.drop_zero]
      repeat (go_big_quiet_step (fail))
      refine wpQuiet_nil ?_
      intro w5 hw'
      obtain ⟨⟨dq, osq⟩, hw''⟩ := hw'
      have hb := below_of hw''
      clear hw'' r
      have HR5 : Hid (w5.ownsRow w.heap.size 5 1 (.slice ao u cv) u (strCells U)) := World.ownsRow.kept HR.out (gby hb) (by cases ao <;> simp [Value.ownBlock])
      have HV5 : Hid (Boxed w5 (w.heap.size + 1) 47 (.slice ao u cv)) := HV.out.kept (gby hb) (by simp)
      have hsz5 : w.heap.size ≤ w5.heap.size := Nat.le_trans hsz hb.size
      gi_wp2_with (gi_at_builtin; refine wpListIn_append_own_string _ rfl _ _ 47 9 rfl w.heap.size 5 i0 Tryd.underlying47 Tryd.underlying9 hi hz0 hz1 hz2 _ _ _ rfl HR5.out (xb.extract 0 (m - u)) rfl (by rw [ByteArray.size_extract]; unfold maxLen; omega) (by rw [ByteArray.size_extract]; omega) hsz5 ?_; intro v' w1 hown' hgrow; obtain ⟨ao', cv', rfl⟩ := own_form hown'; obtain ⟨hv1, hv2, hr2, hk2, hb2⟩ := boxed_app HV5.out (by decide) HR5.out hsz5 (by omega) hown' hgrow; have hc1 := hv1.cell; have hf1 := hv1.frozen; clear hown' hgrow hv1)
      have em : u + min (m - u) 32 = m := by omega
      have es : u + (xb.extract 0 (m - u)).size = m := by rw [ByteArray.size_extract, HX.out]; omega
      rw [es] at hv2 hr2 hk2 hb2
      rw [em]
      have o1 := HU.out
      refine ⟨(ko_below hb).trans hk2, ⟨⟨_, hv2, ?_, rfl, ?_⟩, (Bel.call hB hb).trans hb2⟩⟩
      · rw [EX.out, ext_app_hi _ _ _ (by rw [HS.out]; omega), strCells_app, HS.out]; exact hr2
      · rw [HE.out]; omega
  case done =>
    rintro De ys W hD hS ⟨⟨⟨v, hv, hrow, hpre⟩, hbn⟩, hB⟩ hK
    exfalso
    have yl : ys.length = 255 := by have := congrArg List.length hS; rwa [List.length_map, upT_len] at this
    rcases hpre with h | h
    · rw [h] at yl; simp at yl
    · omega
  case stop =>
    clear bN bO hB0 hseq
    rintro De c pre W hD hS ⟨⟨v, hv, hrow, rfl, hle⟩, hB⟩ hK
    obtain ⟨ao, cv, rfl⟩ := own_form hrow
    have hc := hv.cell
    have sz := ctB_size pre
    have cvt := convR W _ m _ _ hrow (by rw [ByteArray.size_extract]; omega)
    rw [← ctB_pre hS m (by omega)] at cvt
    obtain ⟨R, hR⟩ : ∃ R, (ctB (upT T 255)).extract 0 m = R := ⟨_, rfl⟩
    rw [hR] at cvt
    have HRR : Hid ((ctB (upT T 255)).extract 0 m = R) := hR
    clear hrow hS sz hR
    gi_wp2
    go_wp2_with fail
    try rw [Exit.noGoto_ret]
    refine ⟨by simp, .inl ⟨_, _, rfl, run_takeDeferred hK, ?_⟩⟩
    exact ⟨_, results_tmp rfl _ _ _, by rw [HRR.out]; rfl, hB.trans (belowK_b (w := w) (Nat.le_refl _) W De _ _ (by simp at hD; omega) hK rfl rfl)⟩
/-- What is expanded: the blocks. -/
def tB (prk info : ByteArray) : Nat → ByteArray
  | 0 => ⟨#[]⟩
  | k + 1 => macS prk (tB prk info k ++ info ++ by1 ((k : Int) + 1))
theorem tB_size (prk info : ByteArray) (k : Nat) : (tB prk info (k + 1)).size = 32 := macS_size _ _
theorem tB_le (prk info : ByteArray) (k : Nat) : (tB prk info k).size ≤ 32 := by
  cases k with
  | zero => show (⟨#[]⟩ : ByteArray).size ≤ 32; decide
  | succ k => rw [tB_size]; omega
/-- All 8160 bytes of a key, and the first of them. -/
def allS (prk info : ByteArray) : ByteArray := ctB (upT (tB prk info) 255)
def expS (prk info : ByteArray) (m : Nat) : ByteArray := (allS prk info).extract 0 m
theorem upT_blk (prk info : ByteArray) (k : Nat) : (ctB (upT (tB prk info) k)).size = 32 * k := by
  have := ctB_size ((List.range k).map (fun j => (⟨tB prk info (j + 1), tB_size prk info j⟩ : Blk32)))
  rw [List.map_map, List.length_map, List.length_range] at this
  exact this
theorem expS_size (prk info : ByteArray) (m : Nat) (hm : m ≤ 8160) : (expS prk info m).size = m := by
  unfold expS allS
  rw [ByteArray.size_extract, upT_blk]
  omega
set_option maxHeartbeats 2000000 in
theorem expand_yes (prk info : ByteArray) (hp : prk.size ≤ 1000000) (hi : info.size ≤ 10000) (m : Nat) (hm : m ≤ 8160) (w : World) (hT : Tab w) :
    Calls Tryd.prog 51 #[.string prk, .string info, .int .i64 (m : Int)] w fun e w' => e = .returned (.tuple #[.string (expS prk info m), .int .i64 0]) ∧ Below w.heap.size w w' := by
  have i0 : (0 : Int) ≤ (m : Int) := by omega
  have i1 : (m : Int) ≤ 8160 := by omega
  have C21 := hblocks_any prk info w
  have hT2 : Tab ((w.alloc (.cells #[.string prk] 9)).alloc (.cells #[.string info] 9)) := (hT.al _).al _
  have cp : ((w.alloc (.cells #[.string prk] 9)).alloc (.cells #[.string info] 9)).cell? ⟨w.heap.size, 0, none⟩ = some (.string prk) := ((Boxed.new w 9 (.string prk)).alloc _).cell
  have ci : ((w.alloc (.cells #[.string prk] 9)).alloc (.cells #[.string info] 9)).cell? ⟨w.heap.size + 1, 0, none⟩ = some (.string info) := by
    have := (Boxed.new (w.alloc (.cells #[.string prk] 9)) 9 (.string info)).cell
    rwa [World.size_alloc] at this
  have hb2 : Below w.heap.size w ((w.alloc (.cells #[.string prk] 9)).alloc (.cells #[.string info] 9)) := by go_grown
  have hs2 : ((w.alloc (.cells #[.string prk] 9)).alloc (.cells #[.string info] 9)).heap.size = w.heap.size + 2 := by simp
  generalize (w.alloc (.cells #[.string prk] 9)).alloc (.cells #[.string info] 9) = w2 at *
  have C20 := first_core (tB prk info) m hm w.heap.size (w.heap.size + 1) w2 (fun W hW => hblocks_seq (tB prk info) (fun k => by1 (k : Int)) prk info (8 - 1) w.heap.size (w.heap.size + 1) w2.heap.size (by omega) rfl (tB_size prk info) (fun k => by1_size _) hi
    (fun k A => byteOf_any _ A) (fun k A hA => mac_any prk _ hp (by rw [app_size, app_size, by1_size]; have := tB_le prk info k; omega) A hA) W (hT2.to hW) hT2.2.2 (by omega) (by omega) hW.size
    ((hW.cell (p := ⟨w.heap.size, 0, none⟩) (by show w.heap.size < _; omega)).trans cp) ((hW.cell (p := ⟨w.heap.size + 1, 0, none⟩) (by show w.heap.size + 1 < _; omega)).trans ci))
  have ee : (ctB (upT (tB prk info) 255)).extract 0 m = expS prk info m := rfl
  rw [ee] at C20
  generalize expS prk info m = S at *
  clear ee
  go_enter Tryd.func51, Tryd.ntmps51
  go_wp2_with (first | (go_at_call 67; refine C21.mono ?_; rintro e w3 ⟨rfl, rfl⟩) | (go_at_call 66; refine C20.mono ?_; rintro e w3 ⟨rfl, hb3⟩))
  refine bodyPost_ret (v := .tuple #[.string S, .int .i64 0]) (by simp [results, Tryd.results51, go_sem]) rfl ?_
  exact ⟨rfl, hb2.trans (hb3.mono (by omega))⟩
theorem expand_no (prk info : ByteArray) (n : Int) (hn : n < 0 ∨ 8160 < n) (w : World) :
    Calls Tryd.prog 51 #[.string prk, .string info, .int .i64 n] w fun e w' => e = .returned (.tuple #[.string ⟨#[]⟩, .int .i64 13]) ∧ Below w.heap.size w w' := by
  rcases hn with h | h
  · go_enter Tryd.func51, Tryd.ntmps51
    go_wp2_with fail
    refine bodyPost_ret (v := .tuple #[.string ⟨#[]⟩, .int .i64 13]) (by simp [results, Tryd.results51, go_sem]) rfl ?_
    exact ⟨rfl, Below.refl _ _⟩
  · go_enter Tryd.func51, Tryd.ntmps51
    go_wp2_with fail
    refine bodyPost_ret (v := .tuple #[.string ⟨#[]⟩, .int .i64 13]) (by simp [results, Tryd.results51, go_sem]) rfl ?_
    exact ⟨rfl, Below.refl _ _⟩
/-- What Expand answers. -/
def exE (n : Int) : Int := if n < 0 ∨ 8160 < n then 13 else 0
def exS (prk info : ByteArray) (n : Int) : ByteArray := if n < 0 ∨ 8160 < n then ⟨#[]⟩ else expS prk info n.toNat
theorem expand_any (prk info : ByteArray) (hp : prk.size ≤ 1000000) (hi : info.size ≤ 10000) (n : Int) (w : World) (hT : Tab w) :
    Calls Tryd.prog 51 #[.string prk, .string info, .int .i64 n] w fun e w' => e = .returned (.tuple #[.string (exS prk info n), .int .i64 (exE n)]) ∧ Below w.heap.size w w' := by
  unfold exS exE
  by_cases h : n < 0 ∨ 8160 < n
  · rw [if_pos h, if_pos h]; exact expand_no prk info n h w
  · rw [if_neg h, if_neg h]
    have e : ((n.toNat : Nat) : Int) = n := by omega
    have := expand_yes prk info hp hi n.toNat (by omega) w hT
    rwa [e] at this
end Go.Proofs.YtmkfnfencllfnaaDoor
/- What the reference's constants, beginning, New, Fit and Block answer. -/
set_option linter.all false
set_option maxRecDepth 100000
namespace Go.Proofs.YtmkfnfencllfnaaDoor
open Go.RowKit Go.Sort
set_option maxHeartbeats 2000000 in
theorem rconst_any (w : World) : Calls Tryd.prog 79 #[] w fun e w' => e = .returned (.slice (some ⟨w.heap.size, 0, none⟩) 64 64) ∧ w' = w.alloc (.cells kkL.toArray 99) := by
  have e : kkL.toArray = #[.int .u32 1116352408, .int .u32 1899447441, .int .u32 3049323471, .int .u32 3921009573, .int .u32 961987163, .int .u32 1508970993, .int .u32 2453635748, .int .u32 2870763221, .int .u32 3624381080, .int .u32 310598401, .int .u32 607225278, .int .u32 1426881987, .int .u32 1925078388, .int .u32 2162078206, .int .u32 2614888103, .int .u32 3248222580, .int .u32 3835390401, .int .u32 4022224774, .int .u32 264347078, .int .u32 604807628, .int .u32 770255983, .int .u32 1249150122, .int .u32 1555081692, .int .u32 1996064986, .int .u32 2554220882, .int .u32 2821834349, .int .u32 2952996808, .int .u32 3210313671, .int .u32 3336571891, .int .u32 3584528711, .int .u32 113926993, .int .u32 338241895, .int .u32 666307205, .int .u32 773529912, .int .u32 1294757372, .int .u32 1396182291, .int .u32 1695183700, .int .u32 1986661051, .int .u32 2177026350, .int .u32 2456956037, .int .u32 2730485921, .int .u32 2820302411, .int .u32 3259730800, .int .u32 3345764771, .int .u32 3516065817, .int .u32 3600352804, .int .u32 4094571909, .int .u32 275423344, .int .u32 430227734, .int .u32 506948616, .int .u32 659060556, .int .u32 883997877, .int .u32 958139571, .int .u32 1322822218, .int .u32 1537002063, .int .u32 1747873779, .int .u32 1955562222, .int .u32 2024104815, .int .u32 2227730452, .int .u32 2361852424, .int .u32 2428436474, .int .u32 2756734187, .int .u32 3204031479, .int .u32 3329325298] := rfl
  rw [e]
  clear e
  go_enter Tryd.func79, Tryd.ntmps79
  go_wp2
  go_ret
  exact ⟨rfl, rfl⟩
set_option maxHeartbeats 2000000 in
theorem rbeg_any (w : World) : Calls Tryd.prog 70 #[] w fun e w' => e = .returned (w8 bgn) ∧ Below w.heap.size w w' := by
  have e : w8 bgn = .agg #[.int .u32 1779033703, .int .u32 3144134277, .int .u32 1013904242, .int .u32 2773480762, .int .u32 1359893119, .int .u32 2600822924, .int .u32 528734635, .int .u32 1541459225] := rfl
  rw [e]
  clear e
  go_enter Tryd.func70, Tryd.ntmps70
  go_wp2
  refine bodyPost_ret (v := .agg #[.int .u32 1779033703, .int .u32 3144134277, .int .u32 1013904242, .int .u32 2773480762, .int .u32 1359893119, .int .u32 2600822924, .int .u32 528734635, .int .u32 1541459225]) (by simp [results, Tryd.results70, go_sem]) rfl ⟨rfl, ?_⟩
  go_grown
set_option maxHeartbeats 2000000 in
theorem rnew_core (g : Nat → Int) (w : World) (C30 : ∀ W, Calls Tryd.prog 70 #[] W fun e w' => e = .returned (w8 g) ∧ Below W.heap.size W w') :
    Calls Tryd.prog 55 #[] w fun e w' => e = .returned (hv g ⟨#[]⟩ 0) ∧ Below w.heap.size w w' := by
  unfold hv w8 at *
  go_enter Tryd.func55, Tryd.ntmps55
  go_wp2_with fail
  have A := Arr.new w #[.int .u32 0, .int .u32 0, .int .u32 0, .int .u32 0, .int .u32 0, .int .u32 0, .int .u32 0, .int .u32 0, .string ⟨#[]⟩, .int .u64 0] 102 _ rfl (hx (fun _ => 0) ⟨#[]⟩ 0) 10 (hx_at (fun _ => 0) ⟨#[]⟩ 0)
  refine (C30 _).mono ?_
  rintro e w1 ⟨rfl, hb⟩
  obtain ⟨k0, k8, k9⟩ := (A.to' hb).ten
  have z := (A.to' hb).z
  have hB : Below w.heap.size w w1 := Bel.call (by go_grown) hb
  clear hb A C30
  go_wp2_with fail
  refine bodyPost_ret (v := .agg #[.int .u32 (g 0), .int .u32 (g 1), .int .u32 (g 2), .int .u32 (g 3), .int .u32 (g 4), .int .u32 (g 5), .int .u32 (g 6), .int .u32 (g 7), .string ⟨#[]⟩, .int .u64 0]) (by simp [results, Tryd.results55, go_sem, k0, k8, k9]) rfl ⟨rfl, ?_⟩
  go_grown
theorem rnew_any (w : World) : Calls Tryd.prog 55 #[] w fun e w' => e = .returned (hv bgn ⟨#[]⟩ 0) ∧ Below w.heap.size w w' := rnew_core bgn w (fun W => rbeg_any W)
end Go.Proofs.YtmkfnfencllfnaaDoor
/- The program nego: questions (unless, atMost, atLeast, each), what is asked of Bodies, firstError. -/
set_option linter.all false
set_option maxRecDepth 100000
namespace Go.Proofs.YtmkfnfencllfnaaDoor
open Go.RowKit Go.Shelf Go.Sort
/-- A question: a closure that answers e, from a world on. -/
def Qs (W : World) (v : Value) (e : Int) : Prop := ∃ f cs, v = .func (.func f) #[] cs ∧ (∀ a w, Sem.run Tryd.prog (callFunc f a) w = .ok (.enter f a) w) ∧ ∀ w', Below W.heap.size W w' → Calls Tryd.prog f cs w' fun x w'' => x = .returned (.int .i64 e) ∧ Below w'.heap.size w' w''
theorem Qs.to {W W' : World} {v : Value} {e : Int} (h : Qs W v e) (hb : Below W.heap.size W W') : Qs W' v e := by
  obtain ⟨f, cs, h1, h2, h3⟩ := h
  exact ⟨f, cs, h1, h2, fun w' b => h3 w' (Bel.call hb b)⟩
theorem Qs.cg {W : World} {v : Value} {e e' : Int} (h : Qs W v e) (he : e = e') : Qs W v e' := he ▸ h
/-- What is asked of a Body. -/
def Fs (W : World) (v : Value) (p : ByteArray → Bool) : Prop := ∃ f cs, v = .func (.func f) #[] cs ∧ (cs = #[] ∨ ∃ x, cs = #[x]) ∧ (∀ a w, Sem.run Tryd.prog (callFunc f a) w = .ok (.enter f a) w) ∧ ∀ (s : ByteArray) w', s.size ≤ 9223372036854775807 → Below W.heap.size W w' → Calls Tryd.prog f (#[.string s] ++ cs) w' fun x w'' => x = .returned (.bool (p s)) ∧ Below w'.heap.size w' w''
theorem Fs.to {W W' : World} {v : Value} {p : ByteArray → Bool} (h : Fs W v p) (hb : Below W.heap.size W W') : Fs W' v p := by
  obtain ⟨f, cs, h1, h2, h3, h4⟩ := h
  exact ⟨f, cs, h1, h2, h3, fun s w' hs b => h4 s w' hs (Bel.call hb b)⟩
theorem oneAt (v : Value) : ∀ j, j < 1 → (#[v] : Array Value)[j]? = some (([v] : List Value).getD j undef) := fun j hj => by
  match j, hj with
  | 0, _ => rfl
theorem unl1 (b : Bool) (e : Int) (g1 g2 : Nat) (w : World) (h1 : w.cell? ⟨g1, 0, none⟩ = some (.bool b)) (h2 : w.cell? ⟨g2, 0, none⟩ = some (.int .i64 e)) :
    Calls Tryd.prog 42 #[.pointer (some ⟨g1, 0, none⟩), .pointer (some ⟨g2, 0, none⟩)] w fun x w' => x = .returned (.int .i64 (if b = true then 0 else e)) ∧ Below w.heap.size w w' := by
  cases b
  · go_enter Tryd.func42, Tryd.ntmps42
    go_wp2_with fail
    go_ret
    exact ⟨rfl, Below.refl _ _⟩
  · go_enter Tryd.func42, Tryd.ntmps42
    go_wp2_with fail
    go_ret
    exact ⟨rfl, Below.refl _ _⟩
theorem en_unl1 (a : Array Value) (W : World) : Sem.run Tryd.prog (callFunc 42 a) W = .ok (.enter 42 a) W := enters_of Tryd.func42 (by kernel_rfl) rfl a W
theorem en_ask1 (a : Array Value) (W : World) : Sem.run Tryd.prog (callFunc 20 a) W = .ok (.enter 20 a) W := enters_of Tryd.func20 (by kernel_rfl) rfl a W
theorem en_host (a : Array Value) (W : World) : Sem.run Tryd.prog (callFunc 21 a) W = .ok (.enter 21 a) W := enters_of Tryd.func21 (by kernel_rfl) rfl a W
theorem fs_host (W : World) : Fs W (.func (.func 21) #[] #[]) hostB := ⟨_, _, rfl, .inl rfl, en_host, fun s w' hs _ => (pisHost_any s hs w').mono fun e w2 ⟨h1, h2⟩ => ⟨h1, by subst h2; exact Below.refl _ _⟩⟩
theorem punless_any (b : Bool) (e : Int) (w : World) : Calls Tryd.prog 19 #[.bool b, .int .i64 e] w fun x w' => (∃ v, x = .returned v ∧ Qs w' v (if b = true then 0 else e)) ∧ Below w.heap.size w w' := by
  have A1 := Arr.al' (n := 0) (Arr.new w #[Value.bool b] 4 _ rfl _ 1 (oneAt _)) (.cells #[.int .i64 e] 33)
  have A2 := Arr.new (w.alloc (.cells #[.bool b] 4)) #[Value.int .i64 e] 33 _ rfl _ 1 (oneAt _)
  have B2 := Bel.al (Bel.al (Below.refl w.heap.size w) (.cells #[.bool b] 4)) (.cells #[.int .i64 e] 33)
  rw [World.size_alloc] at A2
  have Q : Hid (Qs ((w.alloc (.cells #[.bool b] 4)).alloc (.cells #[.int .i64 e] 33)) (.func (.func 42) #[] #[.pointer (some ⟨w.heap.size, 0, none⟩), .pointer (some ⟨w.heap.size + 1, 0, none⟩)]) (if b = true then 0 else e)) :=
    ⟨_, _, rfl, en_unl1, fun w' hb => unl1 b e _ _ w' ((Arr.to' (n := 0) A1 hb).cv 0 (by omega) (.bool b) rfl) ((Arr.to' (n := 0) A2 hb).cv 0 (by omega) (.int .i64 e) rfl)⟩
  clear A1 A2
  generalize (if b = true then 0 else e) = E at *
  go_enter Tryd.func19, Tryd.ntmps19
  go_wp2_with fail
  go_ret
  exact ⟨⟨_, rfl, Q.out⟩, B2⟩
/-- Whether a Body is a way that was offered. -/
def wayB (ws : List Int) (s : ByteArray) : Bool := (snB s).2 && (decide (0 < ksI (snB s).1) && hasB ws (snB s).1)
end Go.Proofs.YtmkfnfencllfnaaDoor
/- The program nego: firstError. -/
set_option linter.all false
set_option maxRecDepth 100000
namespace Go.Proofs.YtmkfnfencllfnaaDoor
open Go.RowKit Go.Shelf Go.Sort
/-- The first of a row of errors that is not 0. -/
def fstL : List Int → Int
  | [] => 0
  | e :: l => if e = 0 then fstL l else e
theorem fst_at : ∀ (es : List Int) (k : Nat), k < es.length → (∀ j, j < k → es.getD j 0 = 0) → es.getD k 0 ≠ 0 → fstL es = es.getD k 0
  | [], k, h, _, _ => absurd h (by simp)
  | e :: l, 0, _, _, hx => by
    show (if e = 0 then _ else e) = e
    rw [if_neg (by simpa using hx)]
  | e :: l, k + 1, hk, h0, hx => by
    have e0 : e = 0 := by simpa using h0 0 (by omega)
    show (if e = 0 then fstL l else e) = _
    rw [if_pos e0]
    exact fst_at l k (by simpa using hk) (fun j hj => by simpa using h0 (j + 1) (by omega)) (by simpa using hx)
theorem fst_none : ∀ (es : List Int), (∀ j, j < es.length → es.getD j 0 = 0) → fstL es = 0
  | [], _ => rfl
  | e :: l, h => by
    have e0 : e = 0 := by simpa using h 0 (by simp)
    show (if e = 0 then fstL l else e) = _
    rw [if_pos e0]
    exact fst_none l fun j hj => by simpa using h (j + 1) (by simpa using hj)
set_option maxHeartbeats 4000000 in
theorem pfirst_any (es : List Int) (vs : List Value) (g : Nat) (w : World) (hn : es.length ≤ 16) (hg : g < w.heap.size) (Ag : Arr w g es.length (fun j => vs.getD j undef)) (H : ∀ j, j < es.length → Qs w (vs.getD j undef) (es.getD j 0)) :
    Calls Tryd.prog 18 #[.slice (some ⟨g, 0, none⟩) es.length es.length] w fun x w' => x = .returned (.int .i64 (fstL es)) ∧ Below w.heap.size w w' := by
  have HA : Hid (∀ k, k < es.length → (∀ j, j < k → es.getD j 0 = 0) → es.getD k 0 ≠ 0 → fstL es = es.getD k 0) := fst_at es
  have HN : Hid ((∀ j, j < es.length → es.getD j 0 = 0) → fstL es = 0) := fst_none es
  have HQ : Hid (∀ j, j < es.length → Qs w (vs.getD j undef) (es.getD j 0)) := H
  clear H
  generalize fstL es = D at *
  generalize hL : es.length = n at *
  clear hL
  go_enter Tryd.func18, Tryd.ntmps18
  go_wp2
  go_loopw [8] (fun i wr => ∃ k : Nat, k ≤ n ∧ i = .int .i64 k ∧ Hid (∀ j, j < k → es.getD j 0 = 0) ∧ Below w.heap.size w wr) (fun i _ => n - (RowKit.intOf i).toNat)
  case atStart => exact ⟨0, by omega, rfl, fun j hj => absurd hj (Nat.not_lt_zero _), Below.refl _ _⟩
  case round =>
    obtain ⟨k, hk, rfl, h0, hB⟩ := hrel
    have k0 : (0 : Int) ≤ (k : Int) := by omega
    by_cases hlt : k < n
    · have k1 : (k : Int) < (n : Int) := by omega
      have hc := (Ag.below hB hg).c k hlt
      obtain ⟨f, cs, hv, HE, HP⟩ := HQ.out k hlt
      rw [hv] at hc
      have HP := HP wr hB
      have HAk : Hid ((∀ j, j < k → es.getD j 0 = 0) → es.getD k 0 ≠ 0 → D = es.getD k 0) := HA.out k hlt
      clear HQ HA hv
      by_cases e : es.getD k 0 = 0
      · have h0' : Hid (∀ j, j < k + 1 → es.getD j 0 = 0) := fun j hj => by
          by_cases q : j = k
          · subst q; exact e
          · exact h0.out j (by omega)
        rw [e] at HP
        clear HAk h0 e
        go_wp2_with fail
        refine HP.mono ?_
        rintro y w1 ⟨rfl, hb⟩
        have hb2 := Bel.call hB hb
        clear HP hb
        go_wp2_with fail
        exact ⟨⟨k + 1, by omega, by go_num, h0', hb2⟩, by simp [RowKit.intOf]; omega⟩
      · have HD : Hid (D = es.getD k 0) := HAk.out h0.out e
        clear HAk h0 HN
        generalize es.getD k 0 = x at *
        have e1 : (x == 0) = false := by simpa using e
        have e2 : (x != 0) = true := by simpa using e
        go_wp2_with fail
        refine HP.mono ?_
        rintro y w1 ⟨rfl, hb⟩
        have hb2 := Bel.call hB hb
        clear HP hb
        go_wp2_with fail
        go_ret
        exact ⟨by rw [HD.out]; rfl, hb2⟩
    · have hkn : k = n := by omega
      subst hkn
      have HD : Hid (D = 0) := HN.out h0.out
      clear HN HA HQ h0
      go_wp2_with fail
      go_ret
      exact ⟨by rw [HD.out]; rfl, hB⟩
end Go.Proofs.YtmkfnfencllfnaaDoor
/- The program nego: numbersOf, liked, refusal, granted. -/
set_option linter.all false
set_option maxRecDepth 100000
namespace Go.Proofs.YtmkfnfencllfnaaDoor
open Go.RowKit Go.Shelf Go.Sort
theorem i64_and16 (n : Int) : bits .and .i64 n 65535 = n % 65536 := by
  show IntKind.i64.wrap ((BitVec.ofInt 64 n &&& BitVec.ofInt 64 65535).toNat : Int) = _
  have h : ((BitVec.ofInt 64 n &&& BitVec.ofInt 64 65535).toNat : Int) = n % 65536 := by
    rw [BitVec.toNat_and, show (BitVec.ofInt 64 65535).toNat = 2 ^ 16 - 1 by decide, Nat.and_two_pow_sub_one_eq_mod, BitVec.toNat_ofInt]
    omega
  rw [h, IntKind.wrap_i64]
  omega
theorem pair1 (n : Int) (h0 : 0 ≤ n) (h1 : n ≤ 65535) (W : World) : Calls Tryd.prog 10 #[.slice (some ⟨W.heap.size, 0, none⟩) 1 1] (W.alloc (.cells #[.int .i64 n] 3)) fun e w' => e = .returned (.string (tw n)) ∧ Below W.heap.size W w' := by
  rw [(twL_in n h0 h1).1]
  exact (ppaired_any [n] _ _ (nls_new W [n]) (by simp)).mono fun e w' ⟨a, b⟩ => ⟨a, Bel.call (Bel.al (Below.refl _ _) _) b⟩
set_option maxHeartbeats 2000000 in
theorem pnumbersOf_any (l : List Ke) (kd : Int) (v : Value) (w : World) (H : Kls w v l) (h9 : l.length ≤ 100000) (hs : ∀ r ∈ l, r.s.size ≤ 9223372036854775807) :
    Calls Tryd.prog 28 #[v, .int .i64 kd] w fun e w' => (∃ u, e = .returned (.tuple #[u, .bool (nmR l kd).2]) ∧ Nls w' u (nmR l kd).1) ∧ Below w.heap.size w w' := by
  have C1 := tF l kd v w H h9
  have hfl := fdL_len l kd
  have hm : ∀ r, fdL l kd = [r] → r.s.size ≤ 9223372036854775807 := fun r e => hs r (List.mem_filter.1 (show r ∈ fdL l kd by rw [e]; exact List.mem_singleton.2 rfl)).1
  obtain ⟨a, c, rfl, _⟩ := H
  by_cases h1 : (fdL l kd).length = 1
  case neg =>
    rw [(nm_0 l kd h1).1]
    have i1 : (((fdL l kd).length : Int) == 1) = false := by simpa using (show ¬ ((fdL l kd).length : Int) = 1 by omega)
    have i3 : (((fdL l kd).length : Int) != 1) = true := by simpa using (show ¬ ((fdL l kd).length : Int) = 1 by omega)
    have i2 : ((fdL l kd).length : Int) ≤ 100000 := by omega
    clear hm hfl
    go_enter Tryd.func28, Tryd.ntmps28
    go_wp2_with fail
    refine C1.mono ?_
    rintro e w1 ⟨⟨u, rfl, k1⟩, b1⟩
    obtain ⟨a1, c1, rfl, _⟩ := k1
    clear C1
    generalize ((fdL l kd).length : Nat) = m at *
    go_wp2_with fail
    refine bodyPost_ret (v := .tuple #[.slice none 0 0, .bool false]) (by simp [results, Tryd.results28, go_sem]) rfl ⟨⟨_, rfl, Nls.nil _⟩, b1⟩
  obtain ⟨r, hr⟩ := one_of _ h1
  have hrs := hm r hr
  rw [nm_1 l kd r hr]
  rw [hr] at C1
  have C2 := fun W => tT r.s W hrs
  clear hm h1 hfl
  cases hc : r.c
  · rw [if_neg (by decide)]
    go_enter Tryd.func28, Tryd.ntmps28
    go_wp2_with fail
    refine C1.mono ?_
    rintro e w1 ⟨⟨u, rfl, k1⟩, b1⟩
    obtain ⟨a1, c1, rfl, f1⟩ := k1
    obtain ⟨g, o, rfl, lt, r0, r1, r2⟩ := f1 0 r rfl
    rw [hc, Nat.zero_mul, Nat.add_zero] at r0
    clear C1 f1 r1 r2
    go_wp2_with fail
    refine bodyPost_ret (v := .tuple #[.slice none 0 0, .bool false]) (by simp [results, Tryd.results28, go_sem]) rfl ⟨⟨_, rfl, Nls.nil _⟩, b1⟩
  · rw [if_pos rfl]
    have tl := tp_len r.s
    have z : 0 < (tpR r.s).length → tpE r.s.size = 0 := fun h => by
      unfold tpR at h
      split at h
      · assumption
      · exact absurd h (by decide)
    generalize tpE r.s.size = E at *
    generalize tpR r.s = T at *
    go_enter Tryd.func28, Tryd.ntmps28
    go_wp2_with fail
    refine C1.mono ?_
    rintro e w1 ⟨⟨u, rfl, k1⟩, b1⟩
    obtain ⟨a1, c1, rfl, f1⟩ := k1
    obtain ⟨g, o, rfl, lt, r0, r1, r2⟩ := f1 0 r rfl
    rw [hc, Nat.zero_mul, Nat.add_zero] at r0
    rw [Nat.zero_mul, Nat.add_zero] at r2
    clear C1 f1 r1
    go_wp2_with fail
    refine (C2 _).mono ?_
    rintro e w2 ⟨⟨u2, rfl, k2⟩, b2⟩
    have B2 := Bel.call b1 b2
    obtain ⟨a2, c2, rfl, f2⟩ := k2
    have K2 : Hid (Nls w2 (.slice a2 T.length c2) T) := ⟨a2, c2, rfl, f2⟩
    clear C2 f2 b1 b2
    by_cases hE : E = 0
    · subst hE
      by_cases hT : 0 < T.length
      · have i0 : (0 : Int) < (T.length : Int) := by omega
        have ED : Hid (decide (0 < T.length) = true) := decide_eq_true hT
        clear z
        go_wp2_with fail
        refine bodyPost_ret (v := .tuple #[.slice a2 T.length c2, .bool true]) (by simp [results, Tryd.results28, go_sem]) rfl ⟨⟨_, by rw [ED.out], K2.out⟩, B2⟩
      · have i0 : T.length = 0 := by omega
        have ED : Hid (decide (0 < T.length) = false) := decide_eq_false hT
        clear z hT
        have KZ : Hid (Nls w2 (.slice a2 0 c2) T) := by have := K2.out; rwa [i0] at this
        rw [i0]
        go_wp2_with fail
        refine bodyPost_ret (v := .tuple #[.slice a2 0 c2, .bool false]) (by simp [results, Tryd.results28, go_sem]) rfl ⟨⟨_, by rw [ED.out], KZ.out⟩, B2⟩
    · have iE : (E == 0) = false := by simpa using hE
      have ED : Hid (decide (0 < T.length) = false) := decide_eq_false fun h => hE (z h)
      clear z
      go_wp2_with fail
      refine bodyPost_ret (v := .tuple #[.slice a2 T.length c2, .bool false]) (by simp [results, Tryd.results28, go_sem]) rfl ⟨⟨_, by rw [ED.out], K2.out⟩, B2⟩
set_option maxHeartbeats 2000000 in
theorem pliked_any (ws N4 : List Int) (va vn : Value) (w : World) (HA : Nls w va ws) (HN4 : Nls w vn N4) (ha : ws.length ≤ 100000) (hn4 : N4.length ≤ 100000) :
    Calls Tryd.prog 30 #[va, vn] w fun e w' => e = .returned (.int .i64 (chA ws N4)) ∧ w' = w := by
  have CHA := fun x => pContains_any N4 x vn w HN4 (by omega)
  have CKA := fun x => pKeySize_any x w
  obtain ⟨an, cn, rfl, _⟩ := HN4
  obtain ⟨aa, ca, rfl, fa⟩ := HA
  obtain ⟨n, hn⟩ : ∃ n, ws.length = n := ⟨_, rfl⟩
  have HN : Hid (ws.length = n) := hn
  have n0 : (n : Int) ≤ 100000 := by omega
  have FA : Hid (∀ (i : Nat) (m : Int), ws[i]? = some m → ∃ g o, aa = some ⟨g, o, none⟩ ∧ g < w.heap.size ∧ w.cell? ⟨g, o + i, none⟩ = some (.int .i64 m)) := fa
  obtain ⟨X, hX⟩ : ∃ X, chA ws N4 = X := ⟨_, rfl⟩
  have HX : Hid (chA ws N4 = X) := hX
  rw [hn, hX]
  clear fa hn hX ha
  generalize hq : (N4.length : Nat) = mN at *
  clear hq
  go_enter Tryd.func30, Tryd.ntmps30
  go_wp2_with fail
  go_loop [9] (fun i => ∃ (j : Nat), j ≤ n ∧ i = .int .i64 (j : Int) ∧ Hid (chA (ws.take j) N4 = 0)) (fun i => n - (RowKit.intOf i).toNat)
  case atStart => exact ⟨0, by omega, rfl, rfl⟩
  case round =>
    obtain ⟨j, hj, rfl, hY⟩ := hrel
    have j0 : (0 : Int) ≤ (j : Int) := by omega
    by_cases hlt : j < n
    · have j1 : (j : Int) < (n : Int) := by omega
      obtain ⟨x, hx⟩ : ∃ x, ws[j]? = some x := ⟨_, List.getElem?_eq_getElem (by rw [HN.out]; exact hlt)⟩
      obtain ⟨g, o, rfl, lt, e0⟩ := FA.out j x hx
      have ht := ch_take ws N4 j x hx
      rw [hY.out, if_pos rfl] at ht
      have CK := CKA x
      have CH2 := CHA x
      by_cases hk : 0 < ksI x
      · cases hh2 : hasB N4 x
        · rw [hh2, if_neg (fun q => by simp at q)] at ht
          rw [hh2] at CH2
          have HT : Hid (chA (ws.take (j + 1)) N4 = 0) := ht
          clear ht hx FA HN hY hh2 CHA CKA HX
          generalize ksI x = ks at *
          go_wp2_with fail
          refine CK.mono ?_
          rintro e w8 ⟨rfl, rfl⟩
          go_wp2_with fail
          refine CH2.mono ?_
          rintro e w8 ⟨rfl, rfl⟩
          go_wp2_with fail
          exact ⟨⟨j + 1, by omega, by go_num, HT⟩, by simp [RowKit.intOf]; omega⟩
        · rw [if_pos ⟨hk, hh2⟩] at ht
          rw [hh2] at CH2
          have nz : x ≠ 0 := fun e => by rw [e] at hk; exact absurd hk (by decide)
          have HT : Hid (x = X) := by
            have := ch_end ws N4 (j + 1) (by rw [ht]; exact nz)
            rw [ht] at this
            exact this.symm.trans HX.out
          clear ht hx FA HN hY hh2 CHA CKA HX nz
          generalize ksI x = ks at *
          go_wp2_with fail
          refine CK.mono ?_
          rintro e w8 ⟨rfl, rfl⟩
          go_wp2_with fail
          refine CH2.mono ?_
          rintro e w8 ⟨rfl, rfl⟩
          go_wp2_with fail
          go_ret
          exact ⟨by rw [← HT.out]; rfl, rfl⟩
      · rw [if_neg (fun q => hk q.1)] at ht
        have HT : Hid (chA (ws.take (j + 1)) N4 = 0) := ht
        clear ht hx FA HN hY CHA CKA CH2 HX
        generalize ksI x = ks at *
        go_wp2_with fail
        refine CK.mono ?_
        rintro e w8 ⟨rfl, rfl⟩
        go_wp2_with fail
        exact ⟨⟨j + 1, by omega, by go_num, HT⟩, by simp [RowKit.intOf]; omega⟩
    · have ej : j = n := by omega
      subst ej
      have : ws.take j = ws := List.take_of_length_le (by rw [HN.out]; omega)
      have HT : Hid (X = 0) := by show _ = _; rw [← HX.out, ← this]; exact hY.out
      clear this hY FA HN CHA CKA HX
      go_wp2_with fail
      go_ret
      exact ⟨by rw [HT.out]; rfl, rfl⟩
theorem pend_any (w : World) : Calls Tryd.prog 25 #[] w fun e w' => e = .returned (.agg #[.bool true, .int .i64 0, .string ⟨#[]⟩]) ∧ Below w.heap.size w w' := by
  have C := fun W => pmust_any 0 ⟨#[]⟩ W
  go_enter Tryd.func25, Tryd.ntmps25
  go_wp2_with fail
  refine (C _).mono ?_
  rintro e w1 ⟨rfl, b1⟩
  have A1 := Arr.to' (n := 2) (Arr.new w #[Value.bool false, .int .i64 0, .string ⟨#[]⟩] 60 _ rfl _ 3 (keC_at ⟨false, 0, ⟨#[]⟩⟩)) b1
  have B1 := Bel.call (Bel.al (Below.refl w.heap.size w) (.cells #[.bool false, .int .i64 0, .string ⟨#[]⟩] 60)) b1
  clear C b1
  have A2 := ((A1.set 0 (by omega) (.bool true)).set 1 (by omega) (.int .i64 0)).set 2 (by omega) (.string ⟨#[]⟩)
  have c0 := A2.cv 0 (by omega) (.bool true) rfl
  have c1 := A2.cv 1 (by omega) (.int .i64 0) rfl
  have c2 := A2.cv 2 (by omega) (.string ⟨#[]⟩) rfl
  have B2 : Below w.heap.size w (((w1.setCell ⟨w.heap.size, 0, none⟩ (.bool true)).setCell ⟨w.heap.size, 1, none⟩ (.int .i64 0)).setCell ⟨w.heap.size, 2, none⟩ (.string ⟨#[]⟩)) := ((B1.setCell (p := ⟨w.heap.size, 0, none⟩) (Nat.le_refl _) _).setCell (p := ⟨w.heap.size, 1, none⟩) (Nat.le_refl _) _).setCell (p := ⟨w.heap.size, 2, none⟩) (Nat.le_refl _) _
  have d0 := A1.cv 0 (by omega) (.bool false) rfl
  have d1 := A1.cv 1 (by omega) (.int .i64 0) rfl
  have d2 := A1.cv 2 (by omega) (.string ⟨#[]⟩) rfl
  have z0 := A1.z 0 (by omega)
  have z1 := A1.z 1 (by omega)
  have z2 := A1.z 2 (by omega)
  clear A2
  have BH : Hid _ := B2
  clear B2 B1
  go_wp2_with fail
  refine bodyPost_ret (v := .agg #[.bool true, .int .i64 0, .string ⟨#[]⟩]) (by simp [results, Tryd.results25, go_sem, c0, c1, c2]) rfl ⟨rfl, BH.out⟩
set_option maxHeartbeats 1000000 in
theorem prefusal_any (n : Int) (h0 : 0 ≤ n) (h1 : n ≤ 65535) (w : World) : Calls Tryd.prog 27 #[.int .i64 n] w fun e w' => (∃ v, e = .returned v ∧ Kls w' v [⟨true, 2, tw n⟩, endK]) ∧ Below w.heap.size w w' := by
  have C1 := fun W => pair1 n h0 h1 W
  have C2 := fun W => pmust_any 2 (tw n) W
  have C3 := fun W => pend_any W
  unfold endK
  generalize tw n = T at *
  have KN := fun (W : World) => Kls.own (own_newK W [⟨true, 2, T⟩, ⟨true, 0, ⟨#[]⟩⟩] (Nat.zero_le _) (by simp))
  go_enter Tryd.func27, Tryd.ntmps27
  go_wp2_with fail
  refine (C1 _).mono ?_
  rintro e w1 ⟨rfl, b1⟩
  clear C1
  go_wp2_with fail
  refine (C2 _).mono ?_
  rintro e w2 ⟨rfl, b2⟩
  clear C2
  go_wp2_with fail
  refine (C3 _).mono ?_
  rintro e w3 ⟨rfl, b3⟩
  have B3 := Bel.call (Bel.call b1 b2) b3
  clear C3 b1 b2 b3
  have K2 : Hid _ := KN w3
  clear KN
  go_wp2_with fail
  go_ret
  exact ⟨⟨_, rfl, K2.out⟩, Bel.al B3 _⟩
end Go.Proofs.YtmkfnfencllfnaaDoor
