/- Keys: the program's. -/
import Derived.Test.YtnmikancbfaejaaR9
import Derived.Test.YtnmikancbfaejaaD4
set_option linter.all false
set_option maxRecDepth 100000
namespace Go.Proofs.Ytnmikancbfaejaa
open Go.RowKit Go.Shelf Go.Sort Go.Lib
attribute [local go_sem] Oper.semAt_some
set_option maxHeartbeats 1000000 in
theorem keys_no (key : ByteArray) (h : isK key = false) (w : World) :
    Calls Try.prog 13 #[.string key] w fun e w' => e = .returned (.tuple #[.slice none 0 0, .int .i64 13]) ∧ w' = w := by
  have C23 := fun W => isKey_any key W
  rw [h] at C23
  have hnot : ∀ (x : Bool) (w : World), (Op.unary .not (.bool x)).run Try.prog w = .ok (.bool (!x)) w := fun _ _ => rfl
  go_enter Try.func13, Try.ntmps13
  go_wp2_with fail
  refine (C23 _).mono ?_
  rintro e w1 ⟨rfl, rfl⟩
  go_wp2_with fail
  refine bodyPost_ret (v := .tuple #[.slice none 0 0, .int .i64 13]) (by simp [results, Try.results13, go_sem]) rfl ?_
  exact ⟨rfl, rfl⟩
theorem row9_kept {W W' : World} {base n : Nat} {v : Value} {xs : List Value} {row : Option Nat} (h : W.ownsRow base 9 1 v n xs) (hg : W.grownBy W' row) (hr : ∀ r, row = some r → ∃ o : Obj, W.heap[r]? = some o ∧ o.isCells = false) : W'.ownsRow base 9 1 v n xs := by
  refine h.kept hg ?_
  rcases h.2 with ⟨h, _⟩ | ⟨g', cap', cur, hv, _, hh, _⟩
  · subst h; exact .inl rfl
  · subst hv
    refine .inr ?_
    intro e
    obtain ⟨o, ho, hc⟩ := hr g' (by rw [← e]; rfl)
    rw [hh] at ho
    cases ho
    cases hc
theorem row9_other {W W' : World} {base n x : Nat} {v : Value} {xs : List Value} (h : W.ownsRow base 9 1 v n xs) (hg : W.grownBy W' (some x)) (hx : x < base) : W'.ownsRow base 9 1 v n xs := by
  refine h.kept hg ?_
  rcases h.2 with ⟨h, _⟩ | ⟨g', cap', cur, hv, hb, _⟩
  · subst h; exact .inl rfl
  · subst hv
    exact .inr (by simp [Value.ownBlock]; omega)
theorem stepIn_append {F : Fence} {n' : Nat} {P : Program} {ops : Array Oper} {o : Oper} {a : Act} {w : World} {K : Act → World → Prop} {Q : Exit → Act → World → Prop} {E : Prop} (hgd : o.guard = none) (sl x : Operand) (t : TypeId)
    (ho : o.op = .call { callee := .builtin .append, args := #[sl, x], argTypes := #[t, t] }) (v xv : Value) (hs : a.eval sl = v) (hx : a.eval x = xv) (v' : Value) (w' : World) (hr : (Builtin.append_ #[t, t] o.type #[v, xv]).run P w = .ok v' w')
    (hK : K (a.put o.dst v') w') : if Region.wanted o (yielded ops a.tmps) = true then Oper.wpIn F n' P o a w K Q else E := by
  have hw : Region.wanted o (yielded ops a.tmps) = true := by simp [Region.wanted, hgd]
  rw [if_pos hw]
  unfold Oper.wpIn
  refine ⟨?_, ?_⟩
  · simp [Oper.about, ho, resolve, Target.leads, Sem.run_pure]
  · rw [Oper.semAt_plain F _ _ (by rw [ho]; intro c hc'; cases hc')]
    simp [execOp, ho, resolve, invoke, builtin, hs, hx, hr, Result.andThen]
    exact hK
theorem fin6 {W2 u5 w6 : World} {v : Value} {S : ByteArray} {n4 b q3 k : Nat} {xs : List Value} (hb5 : Below W2.heap.size W2 u5) (B6 : Below n4 (u5.alloc (.cells #[.string S] 9)) w6) (JR : W2.ownsRow n4 9 1 v k xs) (jn : n4 ≤ W2.heap.size) (hb : b < n4) (hq : q3 < n4)
    (hG6 : (u5.alloc (.cells #[.string S] 9)).grownBy w6 v.ownBlock) (R5 : u5.ownsRow n4 9 1 v k xs) : Below n4 W2 w6 ∧ KeepsOthers W2 w6 ∧ KM b q3 W2 w6 := by
  have BB : Below n4 W2 w6 := ((hb5.mono jn).alloc (by have := hb5.size; omega) _).trans B6
  refine ⟨BB, ?_, ⟨fun f h => h.below BB hb, fun f h => h.below BB hq⟩⟩
  refine ((ko_below hb5).trans (ko_below ((Below.refl _ u5).alloc (Nat.le_refl _) _))).trans (KeepsOthers.of_grownBy hG6 fun j o e ho => ?_)
  rcases (R5.alloc (.cells #[.string S] 9)).2 with ⟨h, _⟩ | ⟨g', cap', cur, hv, _, hh, _⟩
  · subst h; cases e
  · subst hv
    obtain rfl : g' = j := by simpa [Value.ownBlock] using e
    rw [hh] at ho
    cases ho
    rfl
def IKx (w : World) (key : ByteArray) (n4 p5 : Nat) (pre : List Nat) (W : World) : Prop := ∃ v, Below w.heap.size w W ∧ Arr W p5 1 (fun _ => v) ∧ W.ownsRow n4 9 1 v pre.length (rkL key pre.length) ∧ n4 ≤ W.heap.size
theorem IKx_own (w : World) (key : ByteArray) (n4 p5 B : Nat) (hB : w.heap.size ≤ B) : OwnFrom B (IKx w key n4 p5) := by
  rintro s A A' row ⟨v, h1, h2, h3, h4⟩ hg hr
  have hr' : ∀ r, row = some r → ∃ o : Obj, A.heap[r]? = some o ∧ o.isCells = false := fun r e => (hr r e).2
  exact ⟨v, h1.grown hg h1.size (fun r e => Nat.le_trans hB (hr r e).1), arr_kept h2 hg hr', row9_kept h3 hg hr', Nat.le_trans h4 hg.size⟩
theorem IKx_gb (w : World) (key : ByteArray) (n4 p5 b : Nat) (hb : w.heap.size ≤ b) (hbn : b < n4) (hne : p5 ≠ b) (s : List Nat) (A B : World) (h : IKx w key n4 p5 s A) (hg : A.grownBy B (some b)) : IKx w key n4 p5 s B := by
  obtain ⟨v, h1, h2, h3, h4⟩ := h
  exact ⟨v, h1.grown hg h1.size (fun r e => by cases e; exact hb), gb_arr hg hne h2, row9_other h3 hg hbn, Nat.le_trans h4 hg.size⟩
set_option maxHeartbeats 8000000 in
theorem keys_core (key : ByteArray) (hk : Key key) (L : List Value) (w : World) (HL : Hid (L = frL key))
    (C23 : ∀ W, Calls Try.prog 23 #[.string key] W fun e w' => e = .returned (.bool true) ∧ w' = W) :
    Calls Try.prog 13 #[.string key] w fun e w' => ∃ v, e = .returned (.tuple #[v, .int .i64 0]) ∧ w'.ownsRow w.heap.size 9 1 v (nkO key + 7) (rkL key (nkO key + 7)) ∧ Below w.heap.size w w' := by
  obtain ⟨i0, hi, hz0, hz1, hz2⟩ := info_parts Try.info9
  have hnot : ∀ (x : Bool) (w : World), (Op.unary .not (.bool x)).run Try.prog w = .ok (.bool (!x)) w := fun _ _ => rfl
  have nb := nk_bd hk
  refine (callsIn_wide (n := 8)).1 ?_
  refine callsIn_of_wp_marks Try.func13 rfl trivial ?_ rfl
  simp only [Try.ntmps13, List.size_toArray, List.length_cons, List.length_nil, Nat.reduceAdd, Nat.reduceSub, Array.replicate_succ, Array.replicate_zero, List.push_toArray, List.append_toArray, List.nil_append, List.cons_append]
  refine wpIn_wide.2 ?_
  go_wp2_with fail
  refine (C23 _).mono ?_
  rintro e w1 ⟨rfl, rfl⟩
  clear C23
  go_upto_region 3 with (fail)
  refine wp_region_list ?_
  refine wpList_plain (by rfl) fun K1 hK1 => ?_
  have H1 : Hid _ := hK1
  clear hK1
  go_wp2_with fail
  refine H1.out _ _ ?_
  clear H1
  refine wpList_plain (by rfl) fun K1 hK1 => ?_
  have H1 : Hid _ := hK1
  clear hK1
  go_wp2_with fail
  refine H1.out _ _ ?_
  clear H1
  rw [frL_is, ← HL.out]
  have HS : L.toArray.size = 321 := by rw [HL.out, List.size_toArray, frL_len]
  refine wpList_plain (by rfl) fun K1 hK1 => ?_
  have H1 : Hid _ := hK1
  clear hK1
  go_wp2_with fail
  refine H1.out _ _ ?_
  clear H1
  refine wpList_store_mid (by rfl) 63 (.tmp 4) (.tmp 12) (by rfl) _ _ L.toArray (by rfl) (by rfl) (by rw [HS]; exact (fresh_zero _).there) (by rw [HS]; exact Try.info63) (by rw [HL.out]; exact all_oneCell_toArray (frL_one key)) ?_
  refine wpList_nil ?_
  have F := fresh_new w1 key
  have B := fresh_below w1 key
  have sz3 := fresh_size w1 key
  have eL : L.toArray.toList = L := rfl
  rw [eL]
  rw [← HL.out] at F B sz3
  clear eL HS
  generalize (w1.alloc (.cells Try.zeroCells63 63)).setCells w1.heap.size 0 L = w3 at F B sz3 ⊢
  go_wp2_with (go_at_call 24; refine (forward_any _ _).mono ?_; rintro e w4 ⟨rfl, rfl⟩)
  have F5 : Fresh ((w3.alloc (.cells #[.slice none 0 0] 26)).alloc (.cells #[.pointer (some ⟨w1.heap.size, 0, none⟩)] 84)) w1.heap.size key := Arr.al' (Arr.al' F _) _
  have X5 : Arr ((w3.alloc (.cells #[.slice none 0 0] 26)).alloc (.cells #[.pointer (some ⟨w1.heap.size, 0, none⟩)] 84)) (w1.heap.size + 1) 1 (fun _ => .slice none 0 0) := (Arr.new _ _ 26 _ sz3.symm _ 1 (fun j hj => one_at _ j hj)).al' _
  have Q5 : Arr ((w3.alloc (.cells #[.slice none 0 0] 26)).alloc (.cells #[.pointer (some ⟨w1.heap.size, 0, none⟩)] 84)) (w1.heap.size + 1 + 1) 1 (fun _ => .pointer (some ⟨w1.heap.size, 0, none⟩)) := Arr.new _ _ 84 _ (by simp [sz3]) _ 1 (fun j hj => one_at _ j hj)
  have B5 : Below w1.heap.size w1 ((w3.alloc (.cells #[.slice none 0 0] 26)).alloc (.cells #[.pointer (some ⟨w1.heap.size, 0, none⟩)] 84)) := Bel.al (Bel.al B _) _
  have s5 : ((w3.alloc (.cells #[.slice none 0 0] 26)).alloc (.cells #[.pointer (some ⟨w1.heap.size, 0, none⟩)] 84)).heap.size = w1.heap.size + 3 := by simp [sz3]
  generalize ((w3.alloc (.cells #[.slice none 0 0] 26)).alloc (.cells #[.pointer (some ⟨w1.heap.size, 0, none⟩)] 84)) = w5 at F5 X5 Q5 B5 s5 ⊢
  obtain ⟨b, eb⟩ : ∃ q, w1.heap.size = q := ⟨_, rfl⟩
  obtain ⟨p5, e5⟩ : ∃ q, w1.heap.size + 1 = q := ⟨_, rfl⟩
  obtain ⟨q3, e3⟩ : ∃ q, w1.heap.size + 1 + 1 = q := ⟨_, rfl⟩
  rw [e3] at Q5 ⊢
  rw [e5] at X5 ⊢
  rw [eb] at F5 Q5 ⊢
  have HO : Hid (w1.heap.size = b ∧ p5 = b + 1 ∧ q3 = b + 2 ∧ w5.heap.size = b + 3) := ⟨eb, by omega, by omega, by omega⟩
  have sz : w1.heap.size ≤ w5.heap.size := B5.size
  clear eb e5 e3 F B sz3 s5
  have np : p5 ≠ b := by have := HO.out; omega
  have nq : q3 ≠ b := by have := HO.out; omega
  have npq : p5 ≠ q3 := by have := HO.out; omega
  refine (wpIn_wide (n := 8)).1 ?_
  refine wpIn_rangeFunc_made rfl (by omega) (gf := 40) (lb := #[.pointer (some ⟨q3, 0, none⟩)]) rfl trivial (enters_of Try.func40 (by kernel_rfl) rfl)
    (forward_seq key hk _ b q3 (by omega) nq w5 (.inl F5) Q5) KM.t (fun W l o o' _ h1 h2 => KM.b W l o o' h1 h2) KM.g (Below.refl _ _) (fun _ => rfl)
    (fun k e => by cases e; exact F5.lt) (MkF_own key b _) (Made_own key b _)
    (IKx w1 key w5.heap.size p5) INo (IKx_own w1 key w5.heap.size p5 _ sz) (INo_own _) (IKx_gb w1 key w5.heap.size p5 b (by have := HO.out; omega) (by have := HO.out; omega) np) (fun _ _ _ => trivial)
    ⟨.slice none 0 0, B5, X5, World.ownsRow_nil _ _ _ _, Nat.le_refl _⟩ ?round ?done ?stop
  case round =>
    clear F5 X5 Q5 B5
    rintro l pre x W hI hMk
    obtain ⟨hM, hx, hx7, hpre⟩ := hMk
    have HX : Hid (x = pre.length) := hx
    clear hx hpre
    unfold encK bv
    gi_wp2
    refine ⟨World.grownBy_alloc W _ none, ?_⟩
    intro W2 hU hI2 hM2
    have K1 : Arr (W.alloc (.cells #[.int .u32 (col (rk key x) 0), .int .u32 (col (rk key x) 1), .int .u32 (col (rk key x) 2), .int .u32 (col (rk key x) 3)] 68)) W.heap.size 4 (fun j => .int .u32 (col (rk key x) j)) := Arr.new _ _ 68 _ rfl _ 4 (h4_at _)
    have JK := hU.arr K1
    clear hU K1 hM2 hM hI
    generalize W.heap.size = t at *
    obtain ⟨v, jB, JX, JR, jn⟩ := hI2
    rw [← HX.out] at JR
    have c10 := JX.c 0 (by omega)
    have dk := JK.c
    have hd : 1 ≤ 8 - 1 - 1 := by omega
    have TX := fun A => text_b (rk key x) A
    change ∀ A, Calls Try.prog 25 #[bv (col (rk key x))] A fun e w' => e = .returned (.string (rkT key x)) ∧ Below A.heap.size A w' at TX
    unfold bv at TX
    have HS : Hid (rkL key (x + 1) = rkL key x ++ [.string (rkT key x)]) := rkL_succ key x
    generalize rkT key x = S at *
    gi_wp2
    refine wpIn_region_any (by kernel_rfl) ?_
    try (change wpAnyIn _ _ _ _ _ _ _ _ _ (World.drew _))
    refine wpAnyIn_ready (rs := [0, 1]) (by kernel_rfl) (by simp) ?_
    refine AllReadyIn.cons rfl (fun K hK => ?_) ?_
    · go_simp
      refine hK _ _ ?_
      clear hK K
      refine wpAnyIn_ready (rs := [1]) (by kernel_rfl) (by simp) ?_
      refine AllReadyIn.cons rfl (fun K hK => ?_) ?_
      · go_simp
        refine hK _ _ ?_
        clear hK K
        refine wpAnyIn_ready (rs := [2]) (by kernel_rfl) (by simp) ?_
        refine AllReadyIn.cons rfl (fun K hK => ?_) ?_
        · go_simp
          gi_wp2_with (refine ⟨trivial, ?_⟩; gi_at_call 25; refine (CallsIn.inRound l (callsIn_wide.2 (TX _))).mono ?_; rintro e u5 ⟨rfl, hb5'⟩; have hb5 : Below W2.heap.size W2 u5 := (by first | exact hb5' | exact ⟨hb5'.os, hb5'.tape, hb5'.output, hb5'.size, hb5'.block⟩); have X5 := JX.to' hb5; have c10' := (X5.al' (.cells #[.string S] 9)).c 0 (by omega); have c10'' := X5.c 0 (by omega))
          try (refine hK _ _ ?_)
          try clear hK
          try clear K
          refine wpAnyIn_ready (rs := [3]) (by kernel_rfl) (by simp) ?_
          refine AllReadyIn.cons rfl (fun K hK => ?_) ?_
          · go_simp
            refine hK _ _ ?_
            clear hK K
            refine wpAnyIn_ready (rs := [4]) (by kernel_rfl) (by simp) ?_
            refine AllReadyIn.cons rfl (fun K hK => ?_) ?_
            · have R5 := row9_kept JR (gby hb5) (fun r e => by cases e)
              obtain ⟨v6, w6, hrun, R6, hG6, _⟩ := run_append_own (P := Try.prog) (u5.alloc (.cells #[.string S] 9)) w5.heap.size 26 26 9 i0 (.string ⟨#[]⟩) 1 16 Try.underlying26 hi hz0 hz1 hz2 rfl (by decide) v _ _ (R5.alloc (.cells #[.string S] 9)) ⟨u5.heap.size, 0, none⟩ 1 1 [.string S] rfl (news_new u5 [.string S] 9) (by simp [Value.oneCell']) (by unfold maxLen; omega) (by omega) (by simp; have := hb5.size; omega)
              have B6 : Below w5.heap.size (u5.alloc (.cells #[.string S] 9)) w6 := (Below.refl _ _).grown hG6 (by simp; have := hb5.size; omega) (fun q hq => ((R5.alloc (.cells #[.string S] 9)).lt q hq).1)
              have X6 := (X5.al' (.cells #[.string S] 9)).below B6 (by have := HO.out; omega)
              have z6 := X6.z 0 (by omega)
              have c6 := X6.c 0 (by omega)
              refine stepIn_append rfl (.tmp 16) (.tmp 19) 26 rfl v (.slice (some ⟨u5.heap.size, 0, none⟩) 1 1) rfl rfl v6 w6 hrun ?_
              refine hK _ _ ?_
              clear hK K hrun
              obtain ⟨ao6, cc6, hv6⟩ := own9_form R6
              subst hv6
              refine wpAnyIn_ready (rs := [5]) (by kernel_rfl) (by simp) ?_
              refine AllReadyIn.cons rfl (fun K hK => ?_) ?_
              · go_simp
                refine hK _ _ ?_
                clear hK K
                refine wpAnyIn_done (by kernel_rfl) ?_ _
                obtain ⟨BB, KO, KK⟩ : Below w5.heap.size W2 w6 ∧ KeepsOthers W2 w6 ∧ KM b q3 W2 w6 := fin6 hb5 B6 JR jn (show b < w5.heap.size by have := HO.out; omega) (show q3 < w5.heap.size by have := HO.out; omega) hG6 R5
                refine ⟨KO.trans (KeepsOthers.setCell _ _ _), KK.t ⟨fun f h => h.other (by omega) _, fun f h => h.other (by omega) _⟩, .slice ao6 (x + 1) cc6, ?_, ?_, ?_, ?_⟩
                · exact (jB.trans (BB.mono sz)).setCell (p := ⟨p5, 0, none⟩) (by have := HO.out; show w1.heap.size ≤ p5; omega) _
                · exact (X6.set 0 (by omega) _).congr (fun j hj => by rw [if_pos (by omega)])
                · rw [List.length_append, List.length_singleton, ← HX.out, HS.out]
                  exact row9_other R6 (gb_set w6 p5 0 _) (by have := HO.out; omega)
                · rw [size_set]
                  have := BB.size
                  omega
              exact AllReadyIn.nil
            exact AllReadyIn.nil
          exact AllReadyIn.nil
        exact AllReadyIn.nil
      exact AllReadyIn.nil
    refine AllReadyIn.cons rfl (fun K hK => ?_) ?_
    · go_simp
      refine hK _ _ ?_
      clear hK K
      refine wpAnyIn_ready (rs := [0, 2]) (by kernel_rfl) (by simp) ?_
      refine AllReadyIn.cons rfl (fun K hK => ?_) ?_
      · go_simp
        refine hK _ _ ?_
        clear hK K
        refine wpAnyIn_ready (rs := [2]) (by kernel_rfl) (by simp) ?_
        refine AllReadyIn.cons rfl (fun K hK => ?_) ?_
        · go_simp
          gi_wp2_with (refine ⟨trivial, ?_⟩; gi_at_call 25; refine (CallsIn.inRound l (callsIn_wide.2 (TX _))).mono ?_; rintro e u5 ⟨rfl, hb5'⟩; have hb5 : Below W2.heap.size W2 u5 := (by first | exact hb5' | exact ⟨hb5'.os, hb5'.tape, hb5'.output, hb5'.size, hb5'.block⟩); have X5 := JX.to' hb5; have c10' := (X5.al' (.cells #[.string S] 9)).c 0 (by omega); have c10'' := X5.c 0 (by omega))
          try (refine hK _ _ ?_)
          try clear hK
          try clear K
          refine wpAnyIn_ready (rs := [3]) (by kernel_rfl) (by simp) ?_
          refine AllReadyIn.cons rfl (fun K hK => ?_) ?_
          · go_simp
            refine hK _ _ ?_
            clear hK K
            refine wpAnyIn_ready (rs := [4]) (by kernel_rfl) (by simp) ?_
            refine AllReadyIn.cons rfl (fun K hK => ?_) ?_
            · have R5 := row9_kept JR (gby hb5) (fun r e => by cases e)
              obtain ⟨v6, w6, hrun, R6, hG6, _⟩ := run_append_own (P := Try.prog) (u5.alloc (.cells #[.string S] 9)) w5.heap.size 26 26 9 i0 (.string ⟨#[]⟩) 1 16 Try.underlying26 hi hz0 hz1 hz2 rfl (by decide) v _ _ (R5.alloc (.cells #[.string S] 9)) ⟨u5.heap.size, 0, none⟩ 1 1 [.string S] rfl (news_new u5 [.string S] 9) (by simp [Value.oneCell']) (by unfold maxLen; omega) (by omega) (by simp; have := hb5.size; omega)
              have B6 : Below w5.heap.size (u5.alloc (.cells #[.string S] 9)) w6 := (Below.refl _ _).grown hG6 (by simp; have := hb5.size; omega) (fun q hq => ((R5.alloc (.cells #[.string S] 9)).lt q hq).1)
              have X6 := (X5.al' (.cells #[.string S] 9)).below B6 (by have := HO.out; omega)
              have z6 := X6.z 0 (by omega)
              have c6 := X6.c 0 (by omega)
              refine stepIn_append rfl (.tmp 16) (.tmp 19) 26 rfl v (.slice (some ⟨u5.heap.size, 0, none⟩) 1 1) rfl rfl v6 w6 hrun ?_
              refine hK _ _ ?_
              clear hK K hrun
              obtain ⟨ao6, cc6, hv6⟩ := own9_form R6
              subst hv6
              refine wpAnyIn_ready (rs := [5]) (by kernel_rfl) (by simp) ?_
              refine AllReadyIn.cons rfl (fun K hK => ?_) ?_
              · go_simp
                refine hK _ _ ?_
                clear hK K
                refine wpAnyIn_done (by kernel_rfl) ?_ _
                obtain ⟨BB, KO, KK⟩ : Below w5.heap.size W2 w6 ∧ KeepsOthers W2 w6 ∧ KM b q3 W2 w6 := fin6 hb5 B6 JR jn (show b < w5.heap.size by have := HO.out; omega) (show q3 < w5.heap.size by have := HO.out; omega) hG6 R5
                refine ⟨KO.trans (KeepsOthers.setCell _ _ _), KK.t ⟨fun f h => h.other (by omega) _, fun f h => h.other (by omega) _⟩, .slice ao6 (x + 1) cc6, ?_, ?_, ?_, ?_⟩
                · exact (jB.trans (BB.mono sz)).setCell (p := ⟨p5, 0, none⟩) (by have := HO.out; show w1.heap.size ≤ p5; omega) _
                · exact (X6.set 0 (by omega) _).congr (fun j hj => by rw [if_pos (by omega)])
                · rw [List.length_append, List.length_singleton, ← HX.out, HS.out]
                  exact row9_other R6 (gb_set w6 p5 0 _) (by have := HO.out; omega)
                · rw [size_set]
                  have := BB.size
                  omega
              exact AllReadyIn.nil
            exact AllReadyIn.nil
          exact AllReadyIn.nil
        exact AllReadyIn.nil
      refine AllReadyIn.cons rfl (fun K hK => ?_) ?_
      · go_simp
        gi_wp2_with (refine ⟨trivial, ?_⟩; gi_at_call 25; refine (CallsIn.inRound l (callsIn_wide.2 (TX _))).mono ?_; rintro e u5 ⟨rfl, hb5'⟩; have hb5 : Below W2.heap.size W2 u5 := (by first | exact hb5' | exact ⟨hb5'.os, hb5'.tape, hb5'.output, hb5'.size, hb5'.block⟩); have X5 := JX.to' hb5; have c10' := (X5.al' (.cells #[.string S] 9)).c 0 (by omega); have c10'' := X5.c 0 (by omega))
        try (refine hK _ _ ?_)
        try clear hK
        try clear K
        refine wpAnyIn_ready (rs := [0, 3]) (by kernel_rfl) (by simp) ?_
        refine AllReadyIn.cons rfl (fun K hK => ?_) ?_
        · go_simp
          refine hK _ _ ?_
          clear hK K
          refine wpAnyIn_ready (rs := [3]) (by kernel_rfl) (by simp) ?_
          refine AllReadyIn.cons rfl (fun K hK => ?_) ?_
          · go_simp
            refine hK _ _ ?_
            clear hK K
            refine wpAnyIn_ready (rs := [4]) (by kernel_rfl) (by simp) ?_
            refine AllReadyIn.cons rfl (fun K hK => ?_) ?_
            · have R5 := row9_kept JR (gby hb5) (fun r e => by cases e)
              obtain ⟨v6, w6, hrun, R6, hG6, _⟩ := run_append_own (P := Try.prog) (u5.alloc (.cells #[.string S] 9)) w5.heap.size 26 26 9 i0 (.string ⟨#[]⟩) 1 16 Try.underlying26 hi hz0 hz1 hz2 rfl (by decide) v _ _ (R5.alloc (.cells #[.string S] 9)) ⟨u5.heap.size, 0, none⟩ 1 1 [.string S] rfl (news_new u5 [.string S] 9) (by simp [Value.oneCell']) (by unfold maxLen; omega) (by omega) (by simp; have := hb5.size; omega)
              have B6 : Below w5.heap.size (u5.alloc (.cells #[.string S] 9)) w6 := (Below.refl _ _).grown hG6 (by simp; have := hb5.size; omega) (fun q hq => ((R5.alloc (.cells #[.string S] 9)).lt q hq).1)
              have X6 := (X5.al' (.cells #[.string S] 9)).below B6 (by have := HO.out; omega)
              have z6 := X6.z 0 (by omega)
              have c6 := X6.c 0 (by omega)
              refine stepIn_append rfl (.tmp 16) (.tmp 19) 26 rfl v (.slice (some ⟨u5.heap.size, 0, none⟩) 1 1) rfl rfl v6 w6 hrun ?_
              refine hK _ _ ?_
              clear hK K hrun
              obtain ⟨ao6, cc6, hv6⟩ := own9_form R6
              subst hv6
              refine wpAnyIn_ready (rs := [5]) (by kernel_rfl) (by simp) ?_
              refine AllReadyIn.cons rfl (fun K hK => ?_) ?_
              · go_simp
                refine hK _ _ ?_
                clear hK K
                refine wpAnyIn_done (by kernel_rfl) ?_ _
                obtain ⟨BB, KO, KK⟩ : Below w5.heap.size W2 w6 ∧ KeepsOthers W2 w6 ∧ KM b q3 W2 w6 := fin6 hb5 B6 JR jn (show b < w5.heap.size by have := HO.out; omega) (show q3 < w5.heap.size by have := HO.out; omega) hG6 R5
                refine ⟨KO.trans (KeepsOthers.setCell _ _ _), KK.t ⟨fun f h => h.other (by omega) _, fun f h => h.other (by omega) _⟩, .slice ao6 (x + 1) cc6, ?_, ?_, ?_, ?_⟩
                · exact (jB.trans (BB.mono sz)).setCell (p := ⟨p5, 0, none⟩) (by have := HO.out; show w1.heap.size ≤ p5; omega) _
                · exact (X6.set 0 (by omega) _).congr (fun j hj => by rw [if_pos (by omega)])
                · rw [List.length_append, List.length_singleton, ← HX.out, HS.out]
                  exact row9_other R6 (gb_set w6 p5 0 _) (by have := HO.out; omega)
                · rw [size_set]
                  have := BB.size
                  omega
              exact AllReadyIn.nil
            exact AllReadyIn.nil
          exact AllReadyIn.nil
        refine AllReadyIn.cons rfl (fun K hK => ?_) ?_
        · go_simp
          refine hK _ _ ?_
          clear hK K
          refine wpAnyIn_ready (rs := [0]) (by kernel_rfl) (by simp) ?_
          refine AllReadyIn.cons rfl (fun K hK => ?_) ?_
          · go_simp
            refine hK _ _ ?_
            clear hK K
            refine wpAnyIn_ready (rs := [4]) (by kernel_rfl) (by simp) ?_
            refine AllReadyIn.cons rfl (fun K hK => ?_) ?_
            · have R5 := row9_kept JR (gby hb5) (fun r e => by cases e)
              obtain ⟨v6, w6, hrun, R6, hG6, _⟩ := run_append_own (P := Try.prog) (u5.alloc (.cells #[.string S] 9)) w5.heap.size 26 26 9 i0 (.string ⟨#[]⟩) 1 16 Try.underlying26 hi hz0 hz1 hz2 rfl (by decide) v _ _ (R5.alloc (.cells #[.string S] 9)) ⟨u5.heap.size, 0, none⟩ 1 1 [.string S] rfl (news_new u5 [.string S] 9) (by simp [Value.oneCell']) (by unfold maxLen; omega) (by omega) (by simp; have := hb5.size; omega)
              have B6 : Below w5.heap.size (u5.alloc (.cells #[.string S] 9)) w6 := (Below.refl _ _).grown hG6 (by simp; have := hb5.size; omega) (fun q hq => ((R5.alloc (.cells #[.string S] 9)).lt q hq).1)
              have X6 := (X5.al' (.cells #[.string S] 9)).below B6 (by have := HO.out; omega)
              have z6 := X6.z 0 (by omega)
              have c6 := X6.c 0 (by omega)
              refine stepIn_append rfl (.tmp 16) (.tmp 19) 26 rfl v (.slice (some ⟨u5.heap.size, 0, none⟩) 1 1) rfl rfl v6 w6 hrun ?_
              refine hK _ _ ?_
              clear hK K hrun
              obtain ⟨ao6, cc6, hv6⟩ := own9_form R6
              subst hv6
              refine wpAnyIn_ready (rs := [5]) (by kernel_rfl) (by simp) ?_
              refine AllReadyIn.cons rfl (fun K hK => ?_) ?_
              · go_simp
                refine hK _ _ ?_
                clear hK K
                refine wpAnyIn_done (by kernel_rfl) ?_ _
                obtain ⟨BB, KO, KK⟩ : Below w5.heap.size W2 w6 ∧ KeepsOthers W2 w6 ∧ KM b q3 W2 w6 := fin6 hb5 B6 JR jn (show b < w5.heap.size by have := HO.out; omega) (show q3 < w5.heap.size by have := HO.out; omega) hG6 R5
                refine ⟨KO.trans (KeepsOthers.setCell _ _ _), KK.t ⟨fun f h => h.other (by omega) _, fun f h => h.other (by omega) _⟩, .slice ao6 (x + 1) cc6, ?_, ?_, ?_, ?_⟩
                · exact (jB.trans (BB.mono sz)).setCell (p := ⟨p5, 0, none⟩) (by have := HO.out; show w1.heap.size ≤ p5; omega) _
                · exact (X6.set 0 (by omega) _).congr (fun j hj => by rw [if_pos (by omega)])
                · rw [List.length_append, List.length_singleton, ← HX.out, HS.out]
                  exact row9_other R6 (gb_set w6 p5 0 _) (by have := HO.out; omega)
                · rw [size_set]
                  have := BB.size
                  omega
              exact AllReadyIn.nil
            exact AllReadyIn.nil
          exact AllReadyIn.nil
        exact AllReadyIn.nil
      exact AllReadyIn.nil
    exact AllReadyIn.nil
  case done =>
    clear F5 X5 Q5 B5
    rintro De ys W hD hS hI hMd hK
    obtain ⟨v, jB, JX, JR, jn⟩ := hI
    have hlen : ys.length = nkO key + 7 := by rw [show ys = _ from hS]; simp
    rw [hlen] at JR
    have c10 := JX.c 0 (by omega)
    obtain ⟨ao, cc, hv⟩ := own9_form JR
    subst hv
    have HJ : Hid _ := JR
    clear hS hlen JX JR hMd
    gi_wp2
    go_wp2_with fail
    try rw [Exit.noGoto_ret]
    refine ⟨by simp, .inl ⟨_, _, rfl, run_takeDeferred hK, ?_⟩⟩
    refine ⟨.tuple #[.slice ao (nkO key + 7) cc, .int .i64 0], by simp [results, Try.results13, go_sem], .slice ao (nkO key + 7) cc, rfl, ?_, ?_⟩
    · have h := row9_kept HJ.out (grownBy_putObj' W De (.deferred none)) (fun r e => by cases e; exact ⟨_, hK, rfl⟩)
      refine ⟨h.1, ?_⟩
      rcases h.2 with h | ⟨g, c, cur, e1, e2, e3⟩
      · exact .inl h
      · exact .inr ⟨g, c, cur, e1, by omega, e3⟩
    · exact jB.trans (belowK_b (w := w1) (Nat.le_refl _) W De _ _ (Nat.le_trans sz hD) hK rfl rfl)
  case stop =>
    rintro D pre W _ _ h
    exact h.elim
theorem keys_any (key : ByteArray) (hk : Key key) (w : World) :
    Calls Try.prog 13 #[.string key] w fun e w' => ∃ v, e = .returned (.tuple #[v, .int .i64 0]) ∧ w'.ownsRow w.heap.size 9 1 v (nkO key + 7) (rkL key (nkO key + 7)) ∧ Below w.heap.size w w' := by
  have C23 := fun W => isKey_any key W
  rw [(isK_iff key).2 hk] at C23
  exact keys_core key hk (frL key) w rfl C23
end Go.Proofs.Ytnmikancbfaejaa
