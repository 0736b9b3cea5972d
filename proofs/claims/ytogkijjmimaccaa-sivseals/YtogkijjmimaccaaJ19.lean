/- Texts joined: V7, V8, F2. -/
import Derived.SliceStrings
import Derived.Test.YtogkijjmimaccaaJ18
import Derived.Test.YtogkijjmimaccaaJ15
import Derived.Test.YtogkijjmimaccaaJ10
/- The tag of a text. -/
set_option linter.all false
set_option maxRecDepth 100000
namespace Go.Proofs.Ytogkijjmimaccaa
open Go.RowKit Go.Shelf Go.Sort Lin
attribute [local go_sem] Oper.semAt_some
/-- A block turned by the key. -/
def en (key : ByteArray) (f : Nat → By) : Nat → By := bF (encS key (tx f))
theorem sencrypted_any (key : ByteArray) (hk : Key key) (f : Nat → By) (w : World) : Calls Try.prog 41 #[.agg (tL key (k1 key) (k2 key)).toArray, bB f] w fun e w' => e = .returned (bB (en key f)) ∧ Below w.heap.size w w' := by
  have C39 := fun W => encrypt_any key (tx f) W
  rw [rfs_16 key (tx f) (tx_size f), kE_0.2 hk, if_pos rfl] at C39
  exact sencrypted_core _ _ _ key (tx f) (encS key (tx f)) _ _ f 0 (tgr key _ _) (blk f) _ (blk _) w (fun W => stext_any f W) C39 (fun W => sblockOf_any _ W)
/-- Blocks tagged. -/
def tgF (key : ByteArray) (xs : List (Nat → By)) : Nat → By := xs.foldl (fun c x => en key (pl c x)) (fun _ => 0)
theorem tgF_app (key : ByteArray) (xs : List (Nat → By)) (x : Nat → By) : tgF key (xs ++ [x]) = en key (pl (tgF key xs) x) := by unfold tgF; rw [List.foldl_append]; rfl
/-- A text's tag. -/
def cm (key s : ByteArray) : Nat → By := tgF key (BL key s)
/-- What the rounds keep. -/
structure IT (w : World) (key : ByteArray) (q0 q1 q2 : Nat) (f : Nat → By) (W : World) : Prop where
  b : Below w.heap.size w W
  t : Arr W q0 33 (tC key (k1 key) (k2 key))
  z : Arr W q1 16 (vc (fun _ => 0))
  s : Arr W q2 16 (vc f)
def ITx (w : World) (key : ByteArray) (q0 q1 q2 : Nat) (pre : List (Nat → By)) (W : World) : Prop := IT w key q0 q1 q2 (tgF key pre) W
theorem bel_of {w W : World} (hg : w.grownBy W none) : Below w.heap.size w W := ⟨hg.os, hg.tape, hg.output, hg.size, fun k hk => hg.block k hk (by intro e; cases e)⟩
theorem IT.own {w A A' : World} {key : ByteArray} {q0 q1 q2 : Nat} {f : Nat → By} {row : Option Nat} (h : IT w key q0 q1 q2 f A) (hg : A.grownBy A' row) (hr : ∀ r, row = some r → w.heap.size ≤ r ∧ ∃ o : Obj, A.heap[r]? = some o ∧ o.isCells = false) : IT w key q0 q1 q2 f A' := by
  obtain ⟨h1, h2, h3, h4⟩ := h
  have hr' : ∀ r, row = some r → ∃ o : Obj, A.heap[r]? = some o ∧ o.isCells = false := fun r e => (hr r e).2
  refine ⟨?_, arr_kept h2 hg hr', arr_kept h3 hg hr', arr_kept h4 hg hr'⟩
  cases row with
  | none => exact Bel.call h1 (bel_of hg)
  | some r => exact bel_of (gb_new (gby h1) (hr r rfl).1 hg)
theorem ITx_own (w : World) (key : ByteArray) (q0 q1 q2 B : Nat) (hB : w.heap.size ≤ B) : OwnFrom B (ITx w key q0 q1 q2) :=
  fun s A A' row h hg hr => IT.own h hg (fun r e => ⟨Nat.le_trans hB (hr r e).1, (hr r e).2⟩)
theorem TrB_own (B : Nat) : OwnFrom B (fun (s : List (Nat → By) × (Nat → By)) (W : World) => True) := fun s A A' row h _ _ => trivial
theorem TrU_own (B : Nat) : OwnFrom B (fun (_ : Unit) (W : World) => True) := fun _ _ _ _ _ _ _ => trivial
def INoB (_ : List (Nat → By)) (_ : World) : Prop := False
theorem INoB_own (B : Nat) : OwnFrom B INoB := fun _ _ _ _ h _ _ => h.elim
theorem ko_sets (b : Nat) : ∀ (L : List Value) (o : Nat) (W : World), KeepsOthers W (W.setCells b o L) := by
  intro L
  induction L with
  | nil => intro o W; exact ko_below (Below.refl _ _)
  | cons v r ih => intro o W; rw [World.setCells]; exact (KeepsOthers.setCell _ _ _).trans (ih _ _)
theorem KC.sets (b : Nat) (L : List Value) (o : Nat) (W : World) : KC b b b W (W.setCells b o L) := fun c n f h _ _ A => A.setso (fun e => h e.symm) L o
set_option maxHeartbeats 1000000 in
theorem stag_core (key s : ByteArray) (TL : List Value) (hT : Tgr TL key (k1 key) (k2 key)) (hs : s.size ≤ 1000000) (w : World)
    (C40 : ∀ W, Calls Try.prog 40 #[.agg TL.toArray, .string s] W fun e w' => e = .returned (.func (.func 51) #[] #[.pointer (some ⟨W.heap.size + 1, 0, none⟩), .pointer (some ⟨W.heap.size, 0, none⟩)]) ∧ w' = (W.alloc (.cells TL.toArray 45)).alloc (.cells #[.string s] 9))
    (C42 : ∀ f g W, Calls Try.prog 42 #[bB f, bB g] W fun e w' => e = .returned (bB (pl f g)) ∧ Below W.heap.size W w')
    (C41 : ∀ f W, Calls Try.prog 41 #[.agg TL.toArray, bB f] W fun e w' => e = .returned (bB (en key f)) ∧ Below W.heap.size W w') :
    Calls Try.prog 21 #[.agg TL.toArray, .string s] w fun e w' => e = .returned (bB (cm key s)) ∧ Below w.heap.size w w' := by
  refine (callsIn_wide (n := 8)).1 ?_
  refine callsIn_of_wp_marks Try.func21 rfl trivial ?_ rfl
  simp only [Try.ntmps21, List.size_toArray, List.length_cons, List.length_nil, Nat.reduceAdd, Nat.reduceSub, Array.replicate_succ, Array.replicate_zero, List.push_toArray, List.append_toArray, List.nil_append, List.cons_append]
  gi_upto_region 2 with (fail)
  have P0 : Arr _ _ 33 _ := (hT.new w 45 _ rfl).al' (n := 32) (.cells z16c 43)
  replace P0 : Arr _ _ 33 _ := P0.al' (n := 32) (.cells z16c 43)
  have Z1 : Arr _ _ 16 _ := (new0 (w.alloc (.cells TL.toArray 45)) (w.heap.size + 1) (by simp)).al' (n := 15) (.cells z16c 43)
  have S2 := new0 ((w.alloc (.cells TL.toArray 45)).alloc (.cells z16c 43)) (w.heap.size + 1 + 1) (by simp)
  have hB : Below w.heap.size w (((w.alloc (.cells TL.toArray 45)).alloc (.cells z16c 43)).alloc (.cells z16c 43)) := by go_grown
  have hz : (((w.alloc (.cells TL.toArray 45)).alloc (.cells z16c 43)).alloc (.cells z16c 43)).heap.size = w.heap.size + 1 + 1 + 1 := by simp
  generalize (((w.alloc (.cells TL.toArray 45)).alloc (.cells z16c 43)).alloc (.cells z16c 43)) = W3 at *
  refine wpIn_region_list ?_
  refine hT.wldIn t45 P0 0 (by omega) (fun j _ => by rw [Nat.zero_add]) (by rfl) (.tmp 2) (by rfl) (by rfl) ?_
  gi_wp2_with (refine ⟨trivial, ?_⟩; gi_at_call 40; refine (callsIn_wide.2 (C40 _)).mono ?_; rintro e w3 ⟨rfl, rfl⟩)
  clear C40
  replace P0 : Arr _ _ 33 _ := (P0.al' (n := 32) (.cells TL.toArray 45))
  replace P0 : Arr _ _ 33 _ := P0.al' (n := 32) (.cells #[.string s] 9)
  replace Z1 : Arr _ _ 16 _ := (Z1.al' (n := 15) (.cells TL.toArray 45))
  replace Z1 : Arr _ _ 16 _ := Z1.al' (n := 15) (.cells #[.string s] 9)
  replace S2 : Arr _ _ 16 _ := (S2.al' (n := 15) (.cells TL.toArray 45))
  replace S2 : Arr _ _ 16 _ := S2.al' (n := 15) (.cells #[.string s] 9)
  have X3 : Arr _ _ 33 _ := (hT.new W3 45 _ rfl).al' (n := 32) (.cells #[.string s] 9)
  have X4 := Arr.new (W3.alloc (.cells TL.toArray 45)) #[.string s] 9 (W3.heap.size + 1) (by simp) _ 1 (fun j hj => one_at _ j hj)
  replace hB := Bel.al (Bel.al hB (.cells TL.toArray 45)) (.cells #[.string s] 9)
  generalize (W3.alloc (.cells TL.toArray 45)).alloc (.cells #[.string s] 9) = w4 at *
  have sz : w.heap.size ≤ w4.heap.size := hB.size
  unfold bB at C41 C42
  rw [hz] at X3 X4
  refine wpIn_rangeFunc_made rfl (by omega) (gf := 51) (lb := #[.pointer (some ⟨w.heap.size + 1 + 1 + 1 + 1, 0, none⟩), .pointer (some ⟨w.heap.size + 1 + 1 + 1, 0, none⟩)]) rfl trivial (enters_of Try.func51 (by kernel_rfl) rfl)
    (sblocks_seq key s hs _ (w.heap.size + 1 + 1) (w.heap.size + 1 + 1 + 1 + 1) (w.heap.size + 1 + 1 + 1) (by omega) w4 (by omega) (by omega) X4 X3) KC.t (fun W l o o' _ h1 h2 => KC.b W l o o' h1 h2) KC.g (Below.refl _ _) (fun _ => rfl)
    (fun k e => by cases e) (TrB_own _) (TrU_own _)
    (ITx w key w.heap.size (w.heap.size + 1) (w.heap.size + 1 + 1)) INoB (ITx_own w key _ _ _ _ sz) (INoB_own _) (fun s A B h hg => IT.own h hg (fun r e => by cases e)) (fun _ _ _ => trivial)
    ⟨hB, P0, Z1, S2⟩ ?round ?done ?stop
  case round =>
    clear P0 Z1 S2 X3 X4 hB
    rintro l pre x W hI -
    have hx := blk x
    unfold bB
    obtain ⟨L, hx'⟩ : ∃ L, L = vL x := ⟨_, rfl⟩
    rw [← hx'] at hx ⊢
    have HX : Hid (L = vL x) := hx'
    clear hx'
    refine wpIn_region_list ?_
    refine wpListIn_plain (by rfl) fun K1 hK1 => ?_
    have H1 : Hid _ := hK1
    clear hK1
    gi_wp2
    refine H1.out _ _ ?_
    clear H1
    refine hx.wstIn t43 (new0 W _ rfl) (by rfl) (.tmp 6) (.tmp 10) (by rfl) (by rfl) (by rfl) ?_
    refine wpListIn_nil ?_
    refine ⟨gby (below_setCells (Bel.al (Below.refl _ W) (.cells z16c 43)) (Nat.le_refl _) L 0), ?_⟩
    intro W2 hU hI2 _
    have JK := hU.arr (hx.set (new0 W _ rfl))
    have t1 : w.heap.size + 1 + 1 < W.heap.size := Arr.lt (n := 15) hI.s
    clear hU hI
    generalize W.heap.size = p at *
    unfold ITx at hI2
    have HO : Hid (tgF key (pre ++ [x]) = en key (pl (tgF key pre) x)) := tgF_app key pre x
    have hc := blk (tgF key pre)
    have hd := blk (pl (tgF key pre) x)
    have ho := blk (en key (pl (tgF key pre) x))
    have D42 := fun A => C42 (tgF key pre) x A
    have D41 := fun A => C41 (pl (tgF key pre) x) A
    rw [← HX.out] at D42
    have hd1 : 1 ≤ 8 - 1 - 1 := by omega
    generalize vL (tgF key pre) = Lc at *
    generalize vL (pl (tgF key pre) x) = Ld at *
    generalize vL (en key (pl (tgF key pre) x)) = Lo at *
    generalize en key (pl (tgF key pre) x) = o at *
    generalize tgF key pre = c at *
    obtain ⟨jB, JT, JZ, JS⟩ := hI2
    gi_wp2
    refine wpIn_region_below_tail 5 (by kernel_rfl) (by kernel_rfl) ?_
    simp only [List.take_succ_cons, List.take_zero, List.drop_succ_cons, List.drop_zero]
    refine hT.qld (N := 32) t45 JT 0 (by omega) (fun j _ => by rw [Nat.zero_add]) (fun W hW => cw_bel hW) (by rfl) (.tmp 2) (by rfl) (by rfl) ?_
    simp only [Act.put, List.setIfInBounds_toArray, List.set_cons_succ, List.set_cons_zero]
    refine hc.qld (N := 15) t43 JS 0 (by omega) (fun j _ => by rw [Nat.zero_add]) (fun W hW => cw_bel hW) (by rfl) (.tmp 5) (by rfl) (by rfl) ?_
    simp only [Act.put, List.setIfInBounds_toArray, List.set_cons_succ, List.set_cons_zero]
    refine hx.qld (N := 15) t43 JK 0 (by omega) (fun j _ => by rw [Nat.zero_add]) (fun W hW => cw_bel hW) (by rfl) (.tmp 6) (by rfl) (by rfl) ?_
    simp only [Act.put, List.setIfInBounds_toArray, List.set_cons_succ, List.set_cons_zero]
    go_big_quiet_step ((go_at_call 42; exact Calls.regrown_of (D42 _)))
    go_big_quiet_step ((go_at_call 41; exact Calls.regrown_of (D41 _)))
    refine wpQuiet_nil ?_
    intro w1 hw'
    obtain ⟨⟨dq, osq⟩, hw''⟩ := hw'
    have hb := below_of hw''
    clear hw'' D42 D41 C42 C41
    have LS : Arr _ _ 16 _ := JS.to' (n := 15) hb
    have LZ : Arr _ _ 16 _ := JZ.to' (n := 15) hb
    have LT : Arr _ _ 33 _ := JT.to' (n := 32) hb
    have lB := Bel.call jB hb
    clear JS JZ JT jB JK
    refine ho.wstIn t43 LS (by rfl) (.tmp 5) (.tmp 15) (by rfl) (by rfl) (by rfl) ?_
    refine wpListIn_nil ?_
    refine ⟨(ko_below hb).trans (ko_sets _ _ _ _), KC.t (KC.g _ _ (gby hb)) (KC.sets _ _ _ _), ?_⟩
    show IT w key w.heap.size (w.heap.size + 1) (w.heap.size + 1 + 1) (tgF key (pre ++ [x])) _
    rw [HO.out]
    exact ⟨below_setCells lB (by omega) _ _, LT.setso (by omega) _ _, LZ.setso (by omega) _ _, ho.set LS⟩
  case done =>
    clear P0 Z1 S2 X3 X4 hB C41 C42
    rintro De ys W hD hS hI _ hK
    rw [show ys = BL key s from hS] at hI
    unfold ITx at hI
    have HG : Hid (tgF key (BL key s) = cm key s) := rfl
    have ho := blk (tgF key (BL key s))
    have HV : Hid (.agg (vL (tgF key (BL key s))).toArray = bB (cm key s)) := rfl
    generalize vL (tgF key (BL key s)) = Lo at *
    generalize tgF key (BL key s) = o at *
    obtain ⟨jB, JT, JZ, JS⟩ := hI
    have KS := (ko_sets (w.heap.size + 1) Lo 0 W).same De _ hK rfl
    have H6 := arr_kept (ho.set JZ) (grownBy_putObj' _ De (.deferred none)) (fun r e => by cases e; exact ⟨_, KS, rfl⟩)
    have LV : Hid _ := ho.ld t43 H6 0 (by omega) (fun j _ => by rw [Nat.zero_add])
    have HB : Hid _ := gb_new (gby (below_setCells jB (b := w.heap.size + 1) (by omega) Lo 0)) (Nat.le_trans sz hD) (grownBy_putObj' (W.setCells (w.heap.size + 1) 0 Lo) De (.deferred none))
    have HK : Hid _ := KS
    clear KS H6 hK
    gi_upto_region 5 with (fail)
    refine wpIn_region_list ?_
    refine ho.wldIn t43 JS 0 (by omega) (fun j _ => by rw [Nat.zero_add]) (by rfl) (.tmp 5) (by rfl) (by rfl) ?_
    refine ho.wstIn t43 JZ (by rfl) (.tmp 4) (.tmp 16) (by rfl) (by rfl) (by rfl) ?_
    refine wpListIn_nil ?_
    clear JS JZ JT jB
    gi_wp2
    refine ⟨by simp, .inl ⟨_, _, rfl, run_takeDeferred HK.out, ?_⟩⟩
    exact ⟨.agg Lo.toArray, results_cell1 Try.results21 _ (by rfl) LV.out, by rw [HV.out], bel_of HB.out⟩
  case stop =>
    rintro D pre W _ _ h
    exact h.elim
theorem stag_any (key s : ByteArray) (hk : Key key) (hs : s.size ≤ 1000000) (w : World) : Calls Try.prog 21 #[.agg (tL key (k1 key) (k2 key)).toArray, .string s] w fun e w' => e = .returned (bB (cm key s)) ∧ Below w.heap.size w w' :=
  stag_core key s _ (tgr key _ _) hs w (fun W => sblocks_any _ s W) (fun f g W => splus_any f g W) (fun f W => sencrypted_any key hk f W)
end Go.Proofs.Ytogkijjmimaccaa
/- The tag of a row of texts. -/
set_option linter.all false
set_option maxRecDepth 100000
namespace Go.Proofs.Ytogkijjmimaccaa
open Go.RowKit Go.Sort Lin
/-- A row of texts. -/
def Txs (w : World) (v : Value) (l : List ByteArray) : Prop := (v = .slice none 0 0 ∧ l = []) ∨ ∃ (a : Addr) (cap : Nat), v = .slice (some a) l.length cap ∧ l.length ≤ cap ∧ ∀ (i : Nat) (s : ByteArray), l[i]? = some s → w.cell? (a.add i) = some (.string s)
theorem Txs.to {w w' : World} {v : Value} {l : List ByteArray} (h : Txs w v l) (hb : Below w.heap.size w w') : Txs w' v l := by
  rcases h with h | ⟨a, cap, h1, h0, h2⟩
  · exact .inl h
  · exact .inr ⟨a, cap, h1, h0, fun i s hi => (hb.cell (block_lt_of_cell (h2 i s hi))).trans (h2 i s hi)⟩
def f1 (j : Nat) : By := if j = 15 then 1 else 0
/-- 15 bytes 0 and a byte 1. -/
def oS : ByteArray := tx f1
set_option maxHeartbeats 1000000 in
theorem snoRow_core (TL L1 K : List Value) (key T : ByteArray) (f g k : Nat → By) (hT : Tgr TL key f g) (h1 : Blk L1 f1) (e1 : L1 = vL f1) (hK : Blk K k) (w : World)
    (C22 : ∀ W, Calls Try.prog 22 #[.agg L1.toArray] W fun e w' => e = .returned (.string T) ∧ Below W.heap.size W w')
    (C21 : ∀ W, Calls Try.prog 21 #[.agg TL.toArray, .string T] W fun e w' => e = .returned (.agg K.toArray) ∧ Below W.heap.size W w') :
    Calls Try.prog 25 #[.agg TL.toArray] w fun e w' => e = .returned (.agg K.toArray) ∧ Below w.heap.size w w' := by
  have HE : Hid (L1 = vL f1) := e1
  clear e1
  go_enter Try.func25, Try.ntmps25
  go_upto_region 1 with (fail)
  have A1 : Arr _ _ 33 _ := (hT.new w 45 _ rfl).al' (n := 32) (.cells z16c 43)
  have A3 := new0 (w.alloc (.cells TL.toArray 45)) (w.heap.size + 1) (by simp)
  have hB : Below w.heap.size w ((w.alloc (.cells TL.toArray 45)).alloc (.cells z16c 43)) := by go_grown
  generalize ((w.alloc (.cells TL.toArray 45)).alloc (.cells z16c 43)) = W at *
  refine wp_region_below_tail 4 (by kernel_rfl) (by kernel_rfl) ?_
  simp only [List.take_succ_cons, List.take_zero, List.drop_succ_cons, List.drop_zero]
  refine hT.qld (N := 32) t45 A1 0 (by omega) (fun j _ => by rw [Nat.zero_add]) (fun W hW => cw_bel hW) (by rfl) (.tmp 1) (by rfl) (by rfl) ?_
  simp only [Act.put, List.setIfInBounds_toArray, List.set_cons_succ, List.set_cons_zero]
  refine qval (.agg L1.toArray) (by rfl) (fun W => by rw [HE.out]; kernel_rfl) ?_
  simp only [Act.put, List.setIfInBounds_toArray, List.set_cons_succ, List.set_cons_zero]
  go_big_quiet_step ((go_at_call 22; exact Calls.regrown_of (C22 _)))
  go_big_quiet_step ((go_at_call 21; exact Calls.regrown_of (C21 _)))
  refine wpQuiet_nil ?_
  intro w1 hw'
  obtain ⟨⟨dq, osq⟩, hw''⟩ := hw'
  have hb := below_of hw''
  clear hw'' C22 C21
  replace hB := Bel.call hB hb
  replace A3 : Arr _ _ 16 _ := A3.to' (n := 15) hb
  clear A1 hb
  have LV : Hid _ := hK.ld t43 (hK.set A3) 0 (by omega) (fun j _ => by rw [Nat.zero_add])
  refine hK.wst t43 A3 (by rfl) (.tmp 2) (.tmp 6) (by rfl) (by rfl) (by rfl) ?_
  refine wpList_nil ?_
  go_wp2_with fail
  exact bodyPost_ret (v := .agg K.toArray) (results_cell1 Try.results25 _ (by rfl) LV.out) rfl ⟨rfl, below_setCells hB (by omega) _ _⟩
theorem oS_size : oS.size = 16 := tx_size _
theorem snoRow_any (key : ByteArray) (hk : Key key) (w : World) : Calls Try.prog 25 #[.agg (tL key (k1 key) (k2 key)).toArray] w fun e w' => e = .returned (bB (cm key oS)) ∧ Below w.heap.size w w' :=
  snoRow_core _ _ _ key oS _ _ _ (tgr key _ _) (blk f1) rfl (blk _) w (fun W => stext_any f1 W) (fun W => stag_any key oS hk (by rw [oS_size]; decide) W)
/-- What Cmac tells. -/
def cmR (key s : ByteArray) : ByteArray := if kE key = 0 then tx (cm key s) else ⟨#[]⟩
set_option maxHeartbeats 1000000 in
theorem sCmac_no (key s : ByteArray) (r : Int) (hr : ¬ r = 0) (TL : List Value) (f g : Nat → By) (k : ByteArray) (hT : Tgr TL k f g) (w : World)
    (C20 : ∀ W, Calls Try.prog 20 #[.string key] W fun e w' => e = .returned (.tuple #[.agg TL.toArray, .int .i64 r]) ∧ Below W.heap.size W w') :
    Calls Try.prog 10 #[.string key, .string s] w fun e w' => e = .returned (.tuple #[.string ⟨#[]⟩, .int .i64 r]) ∧ Below w.heap.size w w' := by
  go_enter Try.func10, Try.ntmps10
  go_upto_region 1 with (fail)
  refine wp_region_list ?_
  refine wpList_plain (by rfl) fun K1 hK1 => ?_
  have H1 : Hid _ := hK1
  clear hK1
  go_wp2_with fail
  refine H1.out _ _ ?_
  clear H1
  refine wpList_plain (by rfl) fun K1 hK1 => ?_
  have H1 : Hid _ := hK1
  clear hK1
  go_wp2_with fail
  refine (C20 _).mono ?_
  rintro e w1 ⟨rfl, hb⟩
  refine H1.out _ _ ?_
  clear H1
  refine wpList_plain (by rfl) fun K1 hK1 => ?_
  have H1 : Hid _ := hK1
  clear hK1
  go_wp2_with fail
  refine H1.out _ _ ?_
  clear H1
  refine wpList_plain (by rfl) fun K1 hK1 => ?_
  have H1 : Hid _ := hK1
  clear hK1
  go_wp2_with fail
  refine H1.out _ _ ?_
  clear H1
  refine wpList_plain (by rfl) fun K1 hK1 => ?_
  have H1 : Hid _ := hK1
  clear hK1
  go_wp2_with fail
  refine H1.out _ _ ?_
  clear H1
  refine wpList_plain (by rfl) fun K1 hK1 => ?_
  have H1 : Hid _ := hK1
  clear hK1
  go_wp2_with fail
  refine H1.out _ _ ?_
  clear H1
  have A := new33 w1 _ rfl
  refine hT.wst t45 A (by rfl) (.tmp 6) (.tmp 11) (by rfl) (by rfl) (by rfl) ?_
  replace hb := below_setCells (Bel.al hb (.cells z33 45)) (b := w1.heap.size) (hb.size) TL 0
  generalize (w1.alloc (.cells z33 45)).setCells w1.heap.size 0 TL = W2 at *
  clear A C20
  go_wp2_with fail
  exact bodyPost_ret (v := .tuple #[.string ⟨#[]⟩, .int .i64 r]) (by simp [results, Try.results10, go_sem]) rfl ⟨rfl, hb⟩
set_option maxHeartbeats 1000000 in
theorem sCmac_yes (key s T : ByteArray) (TL K : List Value) (f g k : Nat → By) (hT : Tgr TL key f g) (w : World)
    (C20 : ∀ W, Calls Try.prog 20 #[.string key] W fun e w' => e = .returned (.tuple #[.agg TL.toArray, .int .i64 0]) ∧ Below W.heap.size W w')
    (C21 : ∀ W, Calls Try.prog 21 #[.agg TL.toArray, .string s] W fun e w' => e = .returned (.agg K.toArray) ∧ Below W.heap.size W w')
    (C22 : ∀ W, Calls Try.prog 22 #[.agg K.toArray] W fun e w' => e = .returned (.string T) ∧ Below W.heap.size W w') :
    Calls Try.prog 10 #[.string key, .string s] w fun e w' => e = .returned (.tuple #[.string T, .int .i64 0]) ∧ Below w.heap.size w w' := by
  go_enter Try.func10, Try.ntmps10
  go_upto_region 1 with (fail)
  refine wp_region_list ?_
  refine wpList_plain (by rfl) fun K1 hK1 => ?_
  have H1 : Hid _ := hK1
  clear hK1
  go_wp2_with fail
  refine H1.out _ _ ?_
  clear H1
  refine wpList_plain (by rfl) fun K1 hK1 => ?_
  have H1 : Hid _ := hK1
  clear hK1
  go_wp2_with fail
  refine (C20 _).mono ?_
  rintro e w1 ⟨rfl, hb⟩
  refine H1.out _ _ ?_
  clear H1
  refine wpList_plain (by rfl) fun K1 hK1 => ?_
  have H1 : Hid _ := hK1
  clear hK1
  go_wp2_with fail
  refine H1.out _ _ ?_
  clear H1
  refine wpList_plain (by rfl) fun K1 hK1 => ?_
  have H1 : Hid _ := hK1
  clear hK1
  go_wp2_with fail
  refine H1.out _ _ ?_
  clear H1
  refine wpList_plain (by rfl) fun K1 hK1 => ?_
  have H1 : Hid _ := hK1
  clear hK1
  go_wp2_with fail
  refine H1.out _ _ ?_
  clear H1
  refine wpList_plain (by rfl) fun K1 hK1 => ?_
  have H1 : Hid _ := hK1
  clear hK1
  go_wp2_with fail
  refine H1.out _ _ ?_
  clear H1
  have A := new33 w1 _ rfl
  refine hT.wst t45 A (by rfl) (.tmp 6) (.tmp 11) (by rfl) (by rfl) (by rfl) ?_
  replace hb := below_setCells (Bel.al hb (.cells z33 45)) (b := w1.heap.size) (hb.size) TL 0
  replace A := hT.set A
  generalize (w1.alloc (.cells z33 45)).setCells w1.heap.size 0 TL = W2 at *
  generalize w1.heap.size = b at *
  clear C20
  go_upto_region 4 with (fail)
  refine wp_region_list ?_
  refine hT.wld t45 A 0 (by omega) (fun j _ => by rw [Nat.zero_add]) (by rfl) (.tmp 6) (by rfl) (by rfl) ?_
  go_wp2_with fail
  refine (C21 _).mono ?_
  rintro e w3 ⟨rfl, hb3⟩
  replace hb := Bel.call hb hb3
  clear hb3 C21 A
  go_wp2_with fail
  refine (C22 _).mono ?_
  rintro e w4 ⟨rfl, hb3⟩
  replace hb := Bel.call hb hb3
  clear hb3 C22
  go_wp2_with fail
  exact bodyPost_ret (v := .tuple #[.string T, .int .i64 0]) (by simp [results, Try.results10, go_sem]) rfl ⟨rfl, hb⟩
theorem sCmac_any (key s : ByteArray) (hs : s.size ≤ 1000000) (w : World) : Calls Try.prog 10 #[.string key, .string s] w fun e w' => e = .returned (.tuple #[.string (cmR key s), .int .i64 (kE key)]) ∧ Below w.heap.size w w' := by
  have C20 := fun W => staggerOf_any key W
  unfold tgV at C20
  unfold cmR
  by_cases h : kE key = 0
  · rw [if_pos h, h]
    rw [if_pos h, h] at C20
    exact sCmac_yes key s _ _ _ _ _ (cm key s) (tgr key _ _) w C20 (fun W => stag_any key s (kE_0.1 h) hs W) (fun W => stext_any _ W)
  · rw [if_neg h]
    rw [if_neg h] at C20
    exact sCmac_no key s _ h _ _ _ _ (tgr _ _ _) w C20
end Go.Proofs.Ytogkijjmimaccaa
/- Rows of texts as arguments, opened. -/
set_option linter.all false
set_option maxRecDepth 100000
namespace Go.Proofs.Ytogkijjmimaccaa
open Go.ChangeShapes Go.WideShapes Go.ChangeAt Go.RowKit
theorem Try.cl9 : Try.prog.cellsOf 9 = 1 := by kernel_rfl
theorem open_txs {H : Type} {enc : TypeId × Value → H} {W : World} {base : Nat} {v : Value} {d : DataW H} {ps : List MemPlace} (hval : Value.okWide Try.prog W .any base 22 v) (hd : DataW.Trod enc Try.prog W 0 (fun _ => true) true 22 v d ps) :
    ∃ l : List ByteArray, Txs W v l ∧ l.length ≤ maxLen ∧ ∀ s ∈ l, s.size ≤ maxLen := by
  obtain ⟨a0, len, cap, rfl⟩ := okWide_slice Try.underlying22 hval
  obtain ⟨fuel, hf⟩ := hd
  rcases open_strings Try.underlying22 Try.underlying9 Try.cl9 hf with ⟨hcs, hx⟩ | ⟨a, len', cap', ss, hcs, _, hl, hm, hz, hx, hcell, hws⟩
  · simp [Value.cells] at hcs
    obtain ⟨rfl, rfl, rfl⟩ := hcs
    exact ⟨[], .inl ⟨rfl, rfl⟩, Nat.zero_le _, fun s hs => by cases hs⟩
  · simp [Value.cells] at hcs
    obtain ⟨rfl, rfl, rfl⟩ := hcs
    simp only [if_true] at hz
    have hlen : (ss.take len).length = len := by rw [List.length_take]; omega
    refine ⟨ss.take len, .inr ⟨a, cap, by rw [hlen], by rw [hlen]; exact hl, fun i s hi => ?_⟩, by rw [hlen]; omega, fun s hs => hws s (List.mem_of_mem_take hs)⟩
    have hi' := (List.getElem?_eq_some_iff.1 hi).1
    rw [hlen] at hi'
    rw [List.getElem?_take, if_pos hi'] at hi
    have e := hcell i (by omega)
    rw [List.getD_eq_getElem?_getD, hi] at e
    exact e
end Go.Proofs.Ytogkijjmimaccaa
