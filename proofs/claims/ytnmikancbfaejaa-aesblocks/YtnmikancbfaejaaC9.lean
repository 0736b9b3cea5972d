/- Blocks turned back by a key: the program's. -/
import Derived.Test.YtnmikancbfaejaaC7
import Derived.Test.YtnmikancbfaejaaC8
set_option linter.all false
set_option maxRecDepth 100000
namespace Go.Proofs.Ytnmikancbfaejaa
open Go.RowKit Go.Shelf Go.Sort
attribute [local go_sem] Oper.semAt_some
/-- A round back, behind its key. -/
def rdD (key : ByteArray) (i : Nat) (f : Nat → By) : Nat → By := if i = 0 then f else if i = nkO key + 6 then beF bk (utF f) else beF bk (utF (mxF 14 11 13 9 f))
/-- What i round keys, the last first, make of a block. -/
def dS (key : ByteArray) (f : Nat → By) : Nat → Nat → By
  | 0 => f
  | i + 1 => rdD key (nkO key + 6 - i) (plF (dS key f i) (rk key (nkO key + 6 - i)))
def decF (key : ByteArray) (f : Nat → By) : Nat → By := dS key f (nkO key + 7)
theorem TabAt.of_arr {w : World} {b : Nat} {f : By → By} (h : Arr w b 256 (fun j => .int .u8 ((f (Fin.ofNat 256 j)).val : Int))) : TabAt w b 0 f := fun a => by
  rw [Nat.zero_add, h.c a.val a.2]
  congr
  exact Fin.ext (by simp [Nat.mod_eq_of_lt a.2])
/-- What the rounds keep. -/
structure ID (w : World) (b q0 q1 q2 q3 : Nat) (y : Nat → Int) (W : World) : Prop where
  g : w.grownBy W (some b)
  p : Arr W q0 1 (fun _ => .pointer (some ⟨b, 0, none⟩))
  s : Arr W q1 4 (fun j => .int .u32 (y j))
  z : Arr W q2 4 (fun _ => .int .u32 0)
  t : Arr W q3 256 (fun j => .int .u8 ((bk (Fin.ofNat 256 j)).val : Int))
def IDx (w : World) (b q0 q1 q2 q3 : Nat) (Y : Nat → Nat → Int) (pre : List Nat) (W : World) : Prop := ID w b q0 q1 q2 q3 (Y pre.length) W
theorem ID.own {w A A' : World} {b q0 q1 q2 q3 : Nat} {y : Nat → Int} {row : Option Nat} (h : ID w b q0 q1 q2 q3 y A) (hg : A.grownBy A' row) (hr : ∀ r, row = some r → w.heap.size ≤ r ∧ ∃ o : Obj, A.heap[r]? = some o ∧ o.isCells = false) : ID w b q0 q1 q2 q3 y A' := by
  have hr' : ∀ r, row = some r → ∃ o : Obj, A.heap[r]? = some o ∧ o.isCells = false := fun r e => (hr r e).2
  have E := IE.own ⟨h.g, h.p, h.s, h.z⟩ hg hr
  exact ⟨E.g, E.p, E.s, E.z, arr_kept h.t hg hr'⟩
theorem IDx_own (w : World) (b q0 q1 q2 q3 : Nat) (Y : Nat → Nat → Int) (B : Nat) (hB : w.heap.size ≤ B) : OwnFrom B (IDx w b q0 q1 q2 q3 Y) :=
  fun s A A' row h hg hr => ID.own h hg (fun r e => ⟨Nat.le_trans hB (hr r e).1, (hr r e).2⟩)
theorem IDx_gb (w : World) (b q0 q1 q2 q3 : Nat) (h0 : q0 ≠ b) (h1 : q1 ≠ b) (h2 : q2 ≠ b) (h3 : q3 ≠ b) (Y : Nat → Nat → Int) (s : List Nat) (A B : World) (h : IDx w b q0 q1 q2 q3 Y s A) (hg : A.grownBy B (some b)) : IDx w b q0 q1 q2 q3 Y s B :=
  ⟨gb_trans h.g hg, gb_arr hg h0 h.p, gb_arr hg h1 h.s, gb_arr hg h2 h.z, gb_arr hg h3 h.t⟩
set_option maxHeartbeats 8000000 in
theorem decrypted_core (key : ByteArray) (hk : Key key) (b : Nat) (Y P : Nat → Nat → Int) (w : World) (hE : Either w b key) (TL : List Value) (HTL : Hid (TL = tbL bk)) (M : Nat) (hM6 : Hid (nkO key + 6 = M))
    (C46 : ∀ i, i ≤ M → ∀ W, Calls Try.prog 46 #[bv (Y (M - i)), bv (col (rk key i))] W fun e w' => e = .returned (bv (P i)) ∧ Below W.heap.size W w')
    (h0 : Y (M + 1) = P 0) (U1 U2 U3 : Nat → Nat → Int)
    (C51 : ∀ i W, Calls Try.prog 51 #[bv (P i)] W fun e w' => e = .returned (bv (U1 i)) ∧ Below W.heap.size W w')
    (C50 : ∀ i W, Calls Try.prog 50 #[bv (U1 i)] W fun e w' => e = .returned (bv (U2 i)) ∧ Below W.heap.size W w')
    (C43 : ∀ i, 0 < i → i < M → ∀ d W, TabAt W d 0 bk → Calls Try.prog 43 #[bv (U2 i), .pointer (some ⟨d, 0, none⟩)] W fun e w' => e = .returned (bv (Y (M + 1 - i))) ∧ Below W.heap.size W w')
    (CL50 : ∀ W, Calls Try.prog 50 #[bv (P M)] W fun e w' => e = .returned (bv (U3 0)) ∧ Below W.heap.size W w')
    (CL43 : ∀ d W, TabAt W d 0 bk → Calls Try.prog 43 #[bv (U3 0), .pointer (some ⟨d, 0, none⟩)] W fun e w' => e = .returned (bv (Y 1)) ∧ Below W.heap.size W w')
    (C48 : ∀ W, TabAt W b 4 sb → Calls Try.prog 48 #[.pointer (some ⟨b, 4, none⟩)] W fun e w' => e = .returned (.agg TL.toArray) ∧ Below W.heap.size W w') :
    Calls Try.prog 33 #[.pointer (some ⟨b, 0, none⟩), bv (Y 0)] w fun e w' => e = .returned (bv (Y (M + 1))) ∧ w.grownBy w' (some b) ∧ Made w' b key := by
  refine (callsIn_wide (n := 8)).1 ?_
  refine callsIn_of_wp_marks Try.func33 rfl trivial ?_ rfl
  unfold bv at *
  simp only [Try.ntmps33, List.size_toArray, List.length_cons, List.length_nil, Nat.reduceAdd, Nat.reduceSub, Array.replicate_succ, Array.replicate_zero, List.push_toArray, List.append_toArray, List.nil_append, List.cons_append]
  refine wpIn_wide.2 ?_
  have bl := hE.lt
  have P0 : Arr (((w.alloc (.cells #[.pointer (some ⟨b, 0, none⟩)] 84)).alloc (.cells #[.int .u32 (Y 0 0), .int .u32 (Y 0 1), .int .u32 (Y 0 2), .int .u32 (Y 0 3)] 68)).alloc (.cells #[.int .u32 0, .int .u32 0, .int .u32 0, .int .u32 0] 68)) w.heap.size 1 (fun _ => .pointer (some ⟨b, 0, none⟩)) := ((Arr.new w _ 84 _ rfl _ 1 (fun j hj => one_at _ j hj)).al' _).al' _
  have S1 : Arr (((w.alloc (.cells #[.pointer (some ⟨b, 0, none⟩)] 84)).alloc (.cells #[.int .u32 (Y 0 0), .int .u32 (Y 0 1), .int .u32 (Y 0 2), .int .u32 (Y 0 3)] 68)).alloc (.cells #[.int .u32 0, .int .u32 0, .int .u32 0, .int .u32 0] 68)) (w.heap.size + 1) 4 (fun j => .int .u32 (Y 0 j)) := (Arr.new _ _ 68 _ (by simp) _ 4 (h4_at (Y 0))).al' _
  have Z2 : Arr (((w.alloc (.cells #[.pointer (some ⟨b, 0, none⟩)] 84)).alloc (.cells #[.int .u32 (Y 0 0), .int .u32 (Y 0 1), .int .u32 (Y 0 2), .int .u32 (Y 0 3)] 68)).alloc (.cells #[.int .u32 0, .int .u32 0, .int .u32 0, .int .u32 0] 68)) (w.heap.size + 1 + 1) 4 (fun _ => .int .u32 0) := Arr.new _ _ 68 _ (by simp) _ 4 z4_at
  have hB : Below w.heap.size w (((w.alloc (.cells #[.pointer (some ⟨b, 0, none⟩)] 84)).alloc (.cells #[.int .u32 (Y 0 0), .int .u32 (Y 0 1), .int .u32 (Y 0 2), .int .u32 (Y 0 3)] 68)).alloc (.cells #[.int .u32 0, .int .u32 0, .int .u32 0, .int .u32 0] 68)) := by go_grown
  have hE4 := hE.to hB
  have mk := made_any key hk b _ hE4
  go_upto_region 1 with (fail)
  generalize (((w.alloc (.cells #[.pointer (some ⟨b, 0, none⟩)] 84)).alloc (.cells #[.int .u32 (Y 0 0), .int .u32 (Y 0 1), .int .u32 (Y 0 2), .int .u32 (Y 0 3)] 68)).alloc (.cells #[.int .u32 0, .int .u32 0, .int .u32 0, .int .u32 0] 68)) = w3 at P0 S1 Z2 hB mk hE4 ⊢
  obtain ⟨q0, e0⟩ : ∃ q, w.heap.size = q := ⟨_, rfl⟩
  obtain ⟨q1, e1⟩ : ∃ q, w.heap.size + 1 = q := ⟨_, rfl⟩
  obtain ⟨q2, e2⟩ : ∃ q, w.heap.size + 1 + 1 = q := ⟨_, rfl⟩
  rw [e2] at Z2 ⊢
  rw [e1] at S1 ⊢
  rw [e0] at P0 ⊢
  have HQ : Hid (q0 = w.heap.size ∧ q1 = q0 + 1 ∧ q2 = q0 + 2 ∧ b < q0) := ⟨by omega, by omega, by omega, by omega⟩
  clear e0 e1 e2 bl hE hE4
  have n0 : q0 ≠ b := by have := HQ.out; omega
  have n1 : q1 ≠ b := by have := HQ.out; omega
  have n2 : q2 ≠ b := by have := HQ.out; omega
  refine wp_region_list ?_
  refine wpList_plain (by rfl) fun K1 hK1 => ?_
  have H1 : Hid _ := hK1
  clear hK1
  have c0 := P0.c 0 (by omega)
  go_wp2_with fail
  refine H1.out _ _ ?_
  clear H1 c0
  refine wpList_plain (by rfl) fun K1 hK1 => ?_
  have H1 : Hid _ := hK1
  clear hK1
  go_wp2_with fail
  refine mk.mono ?_
  rintro e w4 ⟨rfl, hG4, M4⟩
  refine H1.out _ _ ?_
  clear H1 mk
  have P4 := gb_arr hG4 n0 P0
  have S4 := gb_arr hG4 n1 S1
  have Z4 := gb_arr hG4 n2 Z2
  have G4 := gb_trans (gb_of (r := some b) hB) hG4
  clear P0 S1 Z2 hB hG4
  refine wpList_plain (by rfl) fun K1 hK1 => ?_
  have H1 : Hid _ := hK1
  clear hK1
  have c0 := Arr.c M4 0 (by omega)
  go_wp2_with fail
  refine H1.out _ _ ?_
  clear H1
  refine wpList_plain (by rfl) fun K1 hK1 => ?_
  have H1 : Hid _ := hK1
  clear hK1
  go_wp2_with fail
  refine H1.out _ _ ?_
  clear H1 c0
  refine wpList_plain (by rfl) fun K1 hK1 => ?_
  have H1 : Hid _ := hK1
  clear hK1
  go_wp2_with fail
  refine (C48 _ (Cph.tab M4)).mono ?_
  rintro e w5 ⟨rfl, hb5⟩
  refine H1.out _ _ ?_
  clear H1 C48
  have P5 := P4.to' hb5
  have S5 := S4.to' hb5
  have Z5 := Z4.to' hb5
  have M5 := M4.to hb5
  have G5 := gb_trans G4 (gb_of hb5)
  clear P4 S4 Z4 M4 G4 hb5
  refine wpList_plain (by rfl) fun K1 hK1 => ?_
  have H1 : Hid _ := hK1
  clear hK1
  go_wp2_with fail
  refine H1.out _ _ ?_
  clear H1
  have T6 : Arr (w5.alloc (.cells Try.zeroCells46 46)) w5.heap.size 256 (fun _ => .int .u8 0) := Arr.new _ _ _ _ rfl _ 256 (zeros8 256)
  have HS : TL.toArray.size = 256 := by rw [HTL.out, List.size_toArray, tbL_len]
  refine wpList_store_mid (by rfl) 46 (.tmp 5) (.tmp 12) (by rfl) _ _ TL.toArray (by rfl) (by rfl) (by rw [HS]; exact T6.there) (by rw [HS]; exact Try.info46) (by rw [HTL.out]; exact all_oneCell_toArray (tbL_one bk)) ?_
  refine wpList_nil ?_
  have eL : TL.toArray.toList = TL := rfl
  rw [eL]
  clear eL HS
  have T7 : Arr ((w5.alloc (.cells Try.zeroCells46 46)).setCells w5.heap.size 0 TL) w5.heap.size 256 (fun j => .int .u8 ((bk (Fin.ofNat 256 j)).val : Int)) := by
    rw [HTL.out]
    exact T6.sets (tbL bk) (tbL_len bk) _ (tbL_at bk)
  have l0 := P5.lt
  have l1 := S5.lt
  have l2 := Z5.lt
  have lb := M5.lt
  have P7 := (P5.al' (.cells Try.zeroCells46 46)).setso (b' := w5.heap.size) (by omega) TL 0
  have S7 := (S5.al' (.cells Try.zeroCells46 46)).setso (b' := w5.heap.size) (by omega) TL 0
  have Z7 := (Z5.al' (.cells Try.zeroCells46 46)).setso (b' := w5.heap.size) (by omega) TL 0
  have M7 : Made ((w5.alloc (.cells Try.zeroCells46 46)).setCells w5.heap.size 0 TL) b key := Arr.setso (Arr.al' M5 (.cells Try.zeroCells46 46)) (b' := w5.heap.size) (by omega) TL 0
  have G7 := gb_new (gb_trans G5 (World.grownBy_alloc w5 (.cells Try.zeroCells46 46) (some b))) (Nat.le_trans (by have := G5.size; omega) (Nat.le_refl w5.heap.size)) (gb_sets (w5.alloc (.cells Try.zeroCells46 46)) w5.heap.size TL 0)
  have sz7 : w.heap.size ≤ ((w5.alloc (.cells Try.zeroCells46 46)).setCells w5.heap.size 0 TL).heap.size := G7.size
  have t7 : w5.heap.size < ((w5.alloc (.cells Try.zeroCells46 46)).setCells w5.heap.size 0 TL).heap.size := by rw [size_sets]; simp
  generalize (w5.alloc (.cells Try.zeroCells46 46)).setCells w5.heap.size 0 TL = w7 at P7 S7 Z7 M7 G7 T7 sz7 t7 ⊢
  have HT : Hid (q0 < w5.heap.size ∧ q1 < w5.heap.size ∧ q2 < w5.heap.size ∧ b < w5.heap.size ∧ w.heap.size ≤ w5.heap.size) := ⟨l0, l1, l2, lb, by have := G5.size; omega⟩
  clear P5 S5 Z5 M5 G5 T6 l0 l1 l2 lb
  generalize w5.heap.size = q3 at T7 HT t7 ⊢
  have c0 := P7.c 0 (by omega)
  go_wp2_with (go_at_call 49; refine (backward_any _ _).mono ?_; rintro e w8 ⟨rfl, rfl⟩)
  clear c0
  have P8 := P7.al' (.cells #[.pointer (some ⟨b, 0, none⟩)] 84)
  have S8 := S7.al' (.cells #[.pointer (some ⟨b, 0, none⟩)] 84)
  have Z8 := Z7.al' (.cells #[.pointer (some ⟨b, 0, none⟩)] 84)
  have T8 := T7.al' (.cells #[.pointer (some ⟨b, 0, none⟩)] 84)
  have M8 : Made (w7.alloc (.cells #[.pointer (some ⟨b, 0, none⟩)] 84)) b key := Arr.al' M7 _
  have X8 : Arr (w7.alloc (.cells #[.pointer (some ⟨b, 0, none⟩)] 84)) w7.heap.size 1 (fun _ => .pointer (some ⟨b, 0, none⟩)) := Arr.new _ _ 84 _ rfl _ 1 (fun j hj => one_at _ j hj)
  have G8 := gb_trans G7 (World.grownBy_alloc w7 (.cells #[.pointer (some ⟨b, 0, none⟩)] 84) (some b))
  have sz : w.heap.size ≤ (w7.alloc (.cells #[.pointer (some ⟨b, 0, none⟩)] 84)).heap.size := G8.size
  clear P7 S7 Z7 T7 M7 G7
  generalize w7.alloc (.cells #[.pointer (some ⟨b, 0, none⟩)] 84) = w8 at P8 S8 Z8 T8 M8 X8 G8 sz ⊢
  have HT7 : Hid (q3 < w7.heap.size ∧ w.heap.size ≤ w7.heap.size) := ⟨t7, sz7⟩
  clear t7 sz7
  generalize w7.heap.size = q4 at X8 HT7 ⊢
  have n3 : q3 ≠ b := by have := HT.out; omega
  have n4 : q4 ≠ b := by have := HT.out; have := HT7.out; omega
  have n13 : q1 ≠ q3 := by have := HT.out; omega
  have n14 : q1 ≠ q4 := by have := HT.out; have := HT7.out; omega
  refine (wpIn_wide (n := 8)).1 ?_
  refine wpIn_rangeFunc_made rfl (by omega) (gf := 59) (lb := #[.pointer (some ⟨q4, 0, none⟩)]) rfl trivial (enters_of Try.func59 (by kernel_rfl) rfl)
    (backward_seq key hk _ b q4 (by omega) n4 w8 (.inr M8) X8) KM.t (fun W l o o' _ h1 h2 => KM.b W l o o' h1 h2) KM.g (Below.refl _ _) (fun _ => rfl)
    (fun k e => by cases e; exact M8.lt) (MkB_own key b _) (Made_own key b _)
    (IDx w b q0 q1 q2 q3 Y) INo (IDx_own w b q0 q1 q2 q3 Y _ sz) (INo_own _) (IDx_gb w b q0 q1 q2 q3 n0 n1 n2 n3 Y) (fun _ _ _ => trivial)
    ⟨G8, P8, S8, Z8, T8⟩ ?round ?done ?stop
  case round =>
    clear P8 S8 Z8 T8 X8 G8 M8
    rintro l pre x W hI hMk
    obtain ⟨hM, hx, hx7, hpre⟩ := hMk
    have HX : Hid (x + pre.length = nkO key + 6) := hx
    clear hx hpre
    unfold encK bv
    gi_wp2
    refine ⟨World.grownBy_alloc W _ none, ?_⟩
    intro W2 hU hI2 hM2
    have K1 : Arr (W.alloc (.cells #[.int .u32 (col (rk key x) 0), .int .u32 (col (rk key x) 1), .int .u32 (col (rk key x) 2), .int .u32 (col (rk key x) 3)] 68)) W.heap.size 4 (fun j => .int .u32 (col (rk key x) j)) := Arr.new _ _ 68 _ rfl _ 4 (h4_at _)
    have JK := hU.arr K1
    have t1 : q1 < W.heap.size := hI.s.lt
    have MM := hM2.1
    clear hU K1 hM2 hM
    generalize W.heap.size = t at *
    have nt : q1 ≠ t := by omega
    unfold IDx at hI2
    rw [show pre.length = M - x by have := HX.out; have := hM6.out; omega] at hI2
    obtain ⟨jGW2, JPW2, JSW2, JZW2, JTW2⟩ := hI2
    have n10 : q1 ≠ q0 := by have := HQ.out; omega
    have n12 : q1 ≠ q2 := by have := HQ.out; omega
    have hd : 1 ≤ 8 - 1 - 1 := by omega
    have x6 : x ≤ M := by have := hM6.out; omega
    have c46 := C46 x x6
    have x0 : (0 : Int) ≤ (x : Int) := by omega
    have KOW2 : KeepsOthers W2 W2 := KeepsOthers.refl _
    have KKW2 : KM b q4 W2 W2 := ⟨fun f h => h, fun f h => h⟩
    clear hI C46
    have d0 := JSW2.c
    have dk := JK.c
    obtain ⟨kx, hkx⟩ : ∃ k, col (rk key x) = k := ⟨_, rfl⟩
    rw [hkx] at c46 dk ⊢
    clear hkx
    by_cases hx0 : x = 0
    · have hxi : (x : Int) = 0 := by omega
      have eP : P x = Y (M + 1) := by rw [hx0]; exact h0.symm
      have HE : Hid (P x = Y (M + 1 - x)) := by show _ = _; rw [eP, hx0]; rfl
      clear h0 C51 C50 C43 CL50 CL43 eP MM hx0
      gi_wp2_with (refine ⟨trivial, ?_⟩; gi_at_call 46; refine (CallsIn.inRound l (callsIn_wide.2 (c46 _))).mono ?_; rintro e v ⟨rfl, hbv⟩; have JSv := JSW2.to' hbv; have JTv := JTW2.to' hbv; have dv := JSv.c; have zv := JSv.z; clear d0 dk)
      have JPv := JPW2.to' hbv
      have JZv := JZW2.to' hbv
      have jGv := gb_trans jGW2 (gb_of hbv)
      have KOv := KOW2.trans (ko_below hbv)
      have KKv := KKW2.t (KM.below hbv)
      have JSa := JSv.st4 (P x)
      have JTa := JTv.st4o n13 (P x)
      have JPa := JPv.st4o n10 (P x)
      have JZa := JZv.st4o n12 (P x)
      have jGa := gb_new jGv (by have := HQ.out; omega) (gb_st4 v q1 (P x))
      have KOa := KOv.trans (ko_st4 v q1 (P x))
      have KKa := KKv.t (KM.st4 n1 n14 v (P x))
      refine ⟨KOa, KKa, ?_⟩
      show ID w b q0 q1 q2 q3 (Y (pre ++ [x]).length) _
      rw [List.length_append, List.length_singleton, show pre.length + 1 = M + 1 - x by have := HX.out; have := hM6.out; omega]
      rw [← HE.out]
      exact ⟨jGa, JPa, JSa, JZa, JTa⟩
    · have hxi : ¬ (x : Int) = 0 := by omega
      have cl := Arr.c MM 320 (by omega)
      rw [cph_l, hM6.out] at cl
      have c00 := Arr.c MM 0 (by omega)
      have cp := JPW2.c 0 (by omega)
      by_cases hxl : x = M
      · have hxj : (x : Int) = (M : Int) := by omega
        rw [← hxj] at cl
        rw [← hxl] at CL50
        have HXL : Hid (x = M) := hxl
        clear h0 C51 C50 C43 hxj hxl
        gi_wp2_with (refine ⟨trivial, ?_⟩; gi_at_call 46; refine (CallsIn.inRound l (callsIn_wide.2 (c46 _))).mono ?_; rintro e v ⟨rfl, hbv⟩; have JSv := JSW2.to' hbv; have JTv := JTW2.to' hbv; have JPv := JPW2.to' hbv; have dv := JSv.c; have zv := JSv.z; have clv := (hbv.cell (p := ⟨b, 320, none⟩) MM.lt).trans cl; have c00v := (hbv.cell (p := ⟨b, 0, none⟩) MM.lt).trans c00; have cpv := JPv.c 0 (by omega); clear d0 dk cl c00 cp)
        have JZv := JZW2.to' hbv
        have jGv := gb_trans jGW2 (gb_of hbv)
        have KOv := KOW2.trans (ko_below hbv)
        have KKv := KKW2.t (KM.below hbv)
        have JSs := JSv.st4 (P x)
        have JTs := JTv.st4o n13 (P x)
        have JPs := JPv.st4o n10 (P x)
        have JZs := JZv.st4o n12 (P x)
        have jGs := gb_new jGv (by have := HQ.out; omega) (gb_st4 v q1 (P x))
        have KOs := KOv.trans (ko_st4 v q1 (P x))
        have KKs := KKv.t (KM.st4 n1 n14 v (P x))
        clear c46
        gi_wp2_with (refine ⟨trivial, ?_⟩; gi_at_call 50; refine stopAt ?_)
        unfold Stop
        refine (CallsIn.inRound l (callsIn_wide.2 (CL50 _))).mono ?_
        rintro e u ⟨rfl, hbu⟩
        have JSu := JSs.to' hbu
        have JTu := JTs.to' hbu
        have JPu := JPs.to' hbu
        have JZu := JZs.to' hbu
        have jGu := gb_trans jGs (gb_of hbu)
        have KOu := KOs.trans (ko_below hbu)
        have KKu := KKs.t (KM.below hbu)
        have du := JSu.c
        have zu := JSu.z
        gi_wp2_with (refine ⟨trivial, ?_⟩; gi_at_call 43; refine stopAt ?_)
        unfold Stop
        refine (CallsIn.inRound l (callsIn_wide.2 (CL43 q3 _ (TabAt.of_arr JTu)))).mono ?_
        rintro e p ⟨rfl, hbp⟩
        have JSp := JSu.to' hbp
        have JTp := JTu.to' hbp
        have JPp := JPu.to' hbp
        have JZp := JZu.to' hbp
        have jGp := gb_trans jGu (gb_of hbp)
        have KOp := KOu.trans (ko_below hbp)
        have KKp := KKu.t (KM.below hbp)
        have dp := JSp.c
        have zp := JSp.z
        gi_wp2
        have JSa := JSp.st4 (Y 1)
        have JTa := JTp.st4o n13 (Y 1)
        have JPa := JPp.st4o n10 (Y 1)
        have JZa := JZp.st4o n12 (Y 1)
        have jGa := gb_new jGp (by have := HQ.out; omega) (gb_st4 p q1 (Y 1))
        have KOa := KOp.trans (ko_st4 p q1 (Y 1))
        have KKa := KKp.t (KM.st4 n1 n14 p (Y 1))
        refine ⟨KOa, KKa, ?_⟩
        show ID w b q0 q1 q2 q3 (Y (pre ++ [x]).length) _
        rw [List.length_append, List.length_singleton, show pre.length + 1 = M + 1 - x by have := HX.out; have := hM6.out; omega]
        rw [show M + 1 - x = 1 by have := HXL.out; omega]
        exact ⟨jGa, JPa, JSa, JZa, JTa⟩
      · have hxj : ¬ (x : Int) = (M : Int) := by omega
        have c51 := C51 x
        have c50 := C50 x
        have c43 := C43 x (by omega) (by omega)
        clear h0 C51 C50 C43 CL50 CL43 hxl
        gi_wp2_with (refine ⟨trivial, ?_⟩; gi_at_call 46; refine (CallsIn.inRound l (callsIn_wide.2 (c46 _))).mono ?_; rintro e v ⟨rfl, hbv⟩; have JSv := JSW2.to' hbv; have JTv := JTW2.to' hbv; have JPv := JPW2.to' hbv; have dv := JSv.c; have zv := JSv.z; have clv := (hbv.cell (p := ⟨b, 320, none⟩) MM.lt).trans cl; have c00v := (hbv.cell (p := ⟨b, 0, none⟩) MM.lt).trans c00; have cpv := JPv.c 0 (by omega); clear d0 dk cl c00 cp)
        have JZv := JZW2.to' hbv
        have jGv := gb_trans jGW2 (gb_of hbv)
        have KOv := KOW2.trans (ko_below hbv)
        have KKv := KKW2.t (KM.below hbv)
        have JSs := JSv.st4 (P x)
        have JTs := JTv.st4o n13 (P x)
        have JPs := JPv.st4o n10 (P x)
        have JZs := JZv.st4o n12 (P x)
        have jGs := gb_new jGv (by have := HQ.out; omega) (gb_st4 v q1 (P x))
        have KOs := KOv.trans (ko_st4 v q1 (P x))
        have KKs := KKv.t (KM.st4 n1 n14 v (P x))
        clear c46
        gi_wp2_with (refine ⟨trivial, ?_⟩; gi_at_call 51; refine stopAt ?_)
        unfold Stop
        refine (CallsIn.inRound l (callsIn_wide.2 (c51 _))).mono ?_
        rintro e u ⟨rfl, hbu⟩
        have JSu := JSs.to' hbu
        have JTu := JTs.to' hbu
        have JPu := JPs.to' hbu
        have JZu := JZs.to' hbu
        have jGu := gb_trans jGs (gb_of hbu)
        have KOu := KOs.trans (ko_below hbu)
        have KKu := KKs.t (KM.below hbu)
        have du := JSu.c
        have zu := JSu.z
        gi_wp2_with (refine ⟨trivial, ?_⟩; gi_at_call 50; refine stopAt ?_)
        unfold Stop
        refine (CallsIn.inRound l (callsIn_wide.2 (c50 _))).mono ?_
        rintro e r ⟨rfl, hbr⟩
        have JSr := JSu.to' hbr
        have JTr := JTu.to' hbr
        have JPr := JPu.to' hbr
        have JZr := JZu.to' hbr
        have jGr := gb_trans jGu (gb_of hbr)
        have KOr := KOu.trans (ko_below hbr)
        have KKr := KKu.t (KM.below hbr)
        have dr := JSr.c
        have zr := JSr.z
        gi_wp2_with (refine ⟨trivial, ?_⟩; gi_at_call 43; refine stopAt ?_)
        unfold Stop
        refine (CallsIn.inRound l (callsIn_wide.2 (c43 q3 _ (TabAt.of_arr JTr)))).mono ?_
        rintro e p ⟨rfl, hbp⟩
        have JSp := JSr.to' hbp
        have JTp := JTr.to' hbp
        have JPp := JPr.to' hbp
        have JZp := JZr.to' hbp
        have jGp := gb_trans jGr (gb_of hbp)
        have KOp := KOr.trans (ko_below hbp)
        have KKp := KKr.t (KM.below hbp)
        have dp := JSp.c
        have zp := JSp.z
        gi_wp2
        have JSa := JSp.st4 (Y (M + 1 - x))
        have JTa := JTp.st4o n13 (Y (M + 1 - x))
        have JPa := JPp.st4o n10 (Y (M + 1 - x))
        have JZa := JZp.st4o n12 (Y (M + 1 - x))
        have jGa := gb_new jGp (by have := HQ.out; omega) (gb_st4 p q1 (Y (M + 1 - x)))
        have KOa := KOp.trans (ko_st4 p q1 (Y (M + 1 - x)))
        have KKa := KKp.t (KM.st4 n1 n14 p (Y (M + 1 - x)))
        refine ⟨KOa, KKa, ?_⟩
        show ID w b q0 q1 q2 q3 (Y (pre ++ [x]).length) _
        rw [List.length_append, List.length_singleton, show pre.length + 1 = M + 1 - x by have := HX.out; have := hM6.out; omega]
        exact ⟨jGa, JPa, JSa, JZa, JTa⟩
  case done =>
    clear P8 S8 Z8 T8 X8 G8 M8 C51 C50 C43 C46 CL50 CL43 h0
    rintro De ys W hD hS hI hMd hK
    have hlen : ys.length = M + 1 := by rw [show ys = _ from hS, List.length_map, List.length_range]; have := hM6.out; omega
    unfold IDx at hI
    rw [hlen] at hI
    clear hS hlen
    obtain ⟨jG, JP, JS, JZ, JT⟩ := hI
    obtain ⟨g, hg⟩ : ∃ g, Y (M + 1) = g := ⟨_, rfl⟩
    rw [hg] at JS
    have HG : Hid (Y (M + 1) = g) := hg
    clear hg
    have cs := JS.c
    have cz := JZ.c
    have zz := JZ.z
    gi_wp2
    go_wp2_with fail
    try rw [Exit.noGoto_ret]
    have hK' := (ko_st4 W q2 g).same De _ hK rfl
    have H6 := arr_kept (JZ.st4 g) (grownBy_putObj' _ De (.deferred none)) (fun r e => by cases e; exact ⟨_, hK', rfl⟩)
    have M6 := Made.kept (Arr.st4o hMd n2 g) (grownBy_putObj' (st4 W q2 g) De (.deferred none)) (fun r e => by cases e; exact ⟨_, hK', rfl⟩)
    refine ⟨by simp, .inl ⟨_, _, rfl, run_takeDeferred hK', ?_⟩⟩
    have ch := H6.c
    simp only [st4] at ch
    refine ⟨bv g, by simp [bv, results, Try.results33, go_sem, ch], by rw [HG.out]; rfl, ?_, M6⟩
    exact gb_new (gb_new jG (by have := HQ.out; omega) (gb_st4 W q2 g)) (Nat.le_trans sz hD) (grownBy_putObj' _ De _)
  case stop =>
    rintro D pre W _ _ h
    exact h.elim
theorem decrypted_any (key : ByteArray) (hk : Key key) (b : Nat) (f : Nat → By) (w : World) (hE : Either w b key) :
    Calls Try.prog 33 #[.pointer (some ⟨b, 0, none⟩), bv (col f)] w fun e w' => e = .returned (bv (col (decF key f))) ∧ w.grownBy w' (some b) ∧ Made w' b key := by
  have eS1 : ∀ i, i ≤ nkO key + 6 → dS key f (nkO key + 6 + 1 - i) = rdD key i (plF (dS key f (nkO key + 6 - i)) (rk key i)) := fun i hi => by
    rw [show nkO key + 6 + 1 - i = (nkO key + 6 - i) + 1 by omega]
    show rdD key (nkO key + 6 - (nkO key + 6 - i)) (plF (dS key f (nkO key + 6 - i)) (rk key (nkO key + 6 - (nkO key + 6 - i)))) = _
    rw [show nkO key + 6 - (nkO key + 6 - i) = i by omega]
  refine decrypted_core key hk b (fun i => col (dS key f i)) (fun i => col (plF (dS key f (nkO key + 6 - i)) (rk key i))) w hE (tbL bk) rfl (nkO key + 6) rfl (fun i _ W => plus_any _ _ W) ?_
    (fun i => col (mxF 14 11 13 9 (plF (dS key f (nkO key + 6 - i)) (rk key i)))) (fun i => col (utF (mxF 14 11 13 9 (plF (dS key f (nkO key + 6 - i)) (rk key i))))) (fun _ => col (utF (plF (dS key f (nkO key + 6 - (nkO key + 6))) (rk key (nkO key + 6)))))
    (fun i W => unmixed_any _ W) (fun i W => unturned_any _ W) (fun i h0 hM d W hW => ?_) (fun W => unturned_any _ W) (fun d W hW => ?_) (fun W hW => undone_any b 4 W hW)
  · have := eS1 0 (by omega)
    rw [Nat.sub_zero] at this
    show col (dS key f (nkO key + 6 + 1)) = col _
    rw [this]
    rfl
  · have := become_any bk d 0 (utF (mxF 14 11 13 9 (plF (dS key f (nkO key + 6 - i)) (rk key i)))) W hW
    rw [eS1 i (by omega)]
    unfold rdD
    rw [if_neg (by omega), if_neg (by omega)]
    exact this
  · have := become_any bk d 0 (utF (plF (dS key f (nkO key + 6 - (nkO key + 6))) (rk key (nkO key + 6)))) W hW
    have e := eS1 (nkO key + 6) (by omega)
    rw [show nkO key + 6 + 1 - (nkO key + 6) = 1 by omega] at e
    rw [e]
    unfold rdD
    rw [if_neg (by omega), if_pos rfl]
    exact this
end Go.Proofs.Ytnmikancbfaejaa
