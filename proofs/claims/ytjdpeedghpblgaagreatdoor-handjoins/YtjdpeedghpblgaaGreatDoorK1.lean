/- Texts joined: T30, T31, IC, ID. -/
import Derived.Test.YtjdpeedghpblgaaGreatDoorJ20
import Derived.Test.YtjdpeedghpblgaaGreatDoorJ34
/- HandJoins, by what the program's functions do. -/
set_option linter.all false
set_option maxRecDepth 100000
namespace Go.Proofs.YtjdpeedghpblgaaGreatDoor
open Go.RowKit Go.Sort Go.Lib
/-- A load of many cells in the midst of a block. -/
theorem wld_r {L : List Value} {n : Nat} {F : Nat → Value} (c : Cells L n F) {T : TypeId} (t : Ty T n) {w : World} {b o : Nat} (hr : w.rangeAt b o L)
    {ops : Array Oper} {rest : List Oper} {op : Oper} {a : Act} {Q : Exit → Act → World → Prop} (hgd : op.guard = none) (x : Operand) (hop : op.op = .load T x) (hx : a.eval x = .pointer (some ⟨b, o, none⟩))
    (h : wpList Tryz.prog ops Q rest (a.put op.dst (.agg L.toArray)) w) : wpList Tryz.prog ops Q (op :: rest) a w := by
  obtain ⟨d, hu, hd⟩ := t.u
  exact wpList_load_mid hgd T x hop b o hx L d hr hu hd (by rw [c.len]; exact t.i) h
/-- Messages one behind the other. -/
def ctM (l : List Mg) : ByteArray := l.foldl (fun x m => x ++ wrM m) nS
theorem ctM_snoc (l : List Mg) (m : Mg) : ctM (l ++ [m]) = ctM l ++ wrM m := by unfold ctM; rw [List.foldl_append]; rfl
theorem ctM_grow (l : List Mg) (h : ∀ m ∈ l, ftB m = true) : ∀ x : ByteArray, (l.foldl (fun x m => x ++ wrM m) x).size ≤ x.size + 8304 * l.length := by
  induction l with
  | nil => intro x; exact Nat.le_refl _
  | cons m l ih =>
    intro x
    have := ih (fun y hy => h y (List.mem_cons_of_mem _ hy)) (x ++ wrM m)
    have z := wrM_size (h m (List.mem_cons_self ..))
    rw [ap_size] at this
    rw [List.foldl_cons, List.length_cons]
    omega
theorem ctM_size (l : List Mg) (h : ∀ m ∈ l, ftB m = true) : (ctM l).size ≤ 8304 * l.length := by
  have := ctM_grow l h nS
  have z : nS.size = 0 := rfl
  unfold ctM
  omega
def lnOfV : Value → Nat
  | .slice _ n _ => n
  | _ => 0
def cpOfV : Value → Nat
  | .slice _ _ c => c
  | _ => 0
theorem Mgs.take {w : World} {a : Option Addr} {c : Nat} {x l k : List Mg} (h : Mgs w (.slice a x.length c) x) (e : x = l ++ k) : Mgs w (.slice a l.length c) l := by
  obtain ⟨a', c', h1, h2⟩ := h
  injection h1 with h1 _ h3
  subst h1 h3
  refine ⟨a, c, rfl, fun i m hi => h2 i m ?_⟩
  rw [e, List.getElem?_append_left (List.getElem?_eq_some_iff.1 hi).1]
  exact hi
theorem Mgs.drop {w : World} {a : Option Addr} {c : Nat} {x l k : List Mg} (h : Mgs w (.slice a x.length c) x) (e : x = l ++ k) (hc : x.length ≤ c) : Mgs w (sliced a l.length x.length c 16) k := by
  obtain ⟨a', c', h1, h2⟩ := h
  injection h1 with h1 _ h3
  subst h1 h3
  have hl : x.length = l.length + k.length := by rw [e, List.length_append]
  refine ⟨_, c - l.length, by unfold sliced; rw [show x.length - l.length = k.length by omega], fun i m hi => ?_⟩
  have hk : i < k.length := (List.getElem?_eq_some_iff.1 hi).1
  obtain ⟨g, o, u, e1, lt, r, t⟩ := h2 (l.length + i) m (by rw [e, List.getElem?_append_right (by omega), show l.length + i - l.length = i by omega]; exact hi)
  subst e1
  refine ⟨g, o + l.length * 16, u, ?_, lt, ?_, t⟩
  · rw [if_neg (by omega), Option.map_some, Addr.add_mid]
  · rw [show o + l.length * 16 + i * 16 = o + (l.length + i) * 16 by rw [Nat.add_mul]; omega]
    exact r
set_option maxHeartbeats 8000000 in
theorem HandJoins_yes (l c x : List Mg) (s D Y : ByteArray) (F G : Int) (n : Nat) (hn : l.length = n) (n8 : n ≤ 8) (cl : c.length ≤ 1000000) (xl : x.length ≤ 1000000) (fits : Hid (∀ m ∈ l, m.fits)) (hs : s.size ≤ 20000) (v0 : Value) (w : World) (H0 : Mgs w v0 l)
    (C8 : Hid (∀ (m : Mg) u W, m.fits → Txs W u m.cs → Calls Tryz.prog 8 #[m.v u] W fun e w' => e = .returned (wmR m) ∧ Below W.heap.size W w'))
    (C16 : Hid ((∀ m ∈ l, ftB m = true) → ∀ W, Calls Tryz.prog 16 #[.string (ctM l)] W fun e w' => (∃ v, e = .returned (.tuple #[v, .string nS, .int .i64 0]) ∧ Mgs w' v l) ∧ Below W.heap.size W w'))
    (C16s : Hid ((∀ m ∈ l, ftB m = true) → ∀ W, Calls Tryz.prog 16 #[.string s] W fun e w' => (∃ v, e = .returned (.tuple #[v, .string D, .int .i64 F]) ∧ Mgs w' v c) ∧ Below W.heap.size W w'))
    (C16t : Hid ((∀ m ∈ l, ftB m = true) → ∀ W, Calls Tryz.prog 16 #[.string (ctM l ++ s)] W fun e w' => (∃ v, e = .returned (.tuple #[v, .string Y, .int .i64 G]) ∧ Mgs w' v x ∧ x.length ≤ cpOfV v) ∧ Below W.heap.size W w'))
    (CM : Hid (∀ (a b : List Mg) u v W, a.length ≤ 1000000 → b.length ≤ 1000000 → (a = l ∨ a = c) → (b = l ∨ b = c) → Mgs W u a → Mgs W v b → Calls Tryz.prog 18 #[u, v] W fun e w' => e = .returned (.bool (mgB a b)) ∧ Below W.heap.size W w'))
    (hG : Hid ((∀ m ∈ l, ftB m = true) → (F ≠ 0 → G ≠ 0) ∧ (F = 0 → c.length + n ≤ 32 → G = 0 ∧ Y = D ∧ x = l ++ c)))
    (C7 : ∀ W, Calls Tryz.prog 7 #[] W fun e w' => e = .returned (.bool true) ∧ Below W.heap.size W w') :
    Calls Tryz.prog 6 #[v0, .string s] w fun e w' => e = .returned (.bool true) ∧ Below w.heap.size w w' := by
  obtain ⟨a0, c0, rfl, f0⟩ := H0
  rw [hn]
  have HN : Hid (l.length = n) := hn
  have HF0 : Hid (∀ (i : Nat) (m : Mg), l[i]? = some m → ∃ g o u, a0 = some ⟨g, o, none⟩ ∧ g < w.heap.size ∧ w.rangeAt g (o + i * 16) (m.l u) ∧ Txs w u m.cs) := f0
  have H0 : Hid (Mgs w (.slice a0 n c0) l) := ⟨a0, c0, by rw [hn], f0⟩
  clear hn f0
  have n1 : ¬ (8 : Int) < (n : Int) := by omega
  have n1b : decide ((8 : Int) < (n : Int)) = false := decide_eq_false n1
  have s1 : ¬ (20000 : Int) < (s.size : Int) := by omega
  go_enter Tryz.func6, Tryz.ntmps6
  go_wp2_with fail
  go_loopw [5, 6, 31] (fun t k i wr => ∃ j : Nat, j ≤ n ∧ i = .int .i64 (j : Int) ∧ k = .int .i64 (j : Int) ∧ t = .string (ctM (l.take j)) ∧ Below w.heap.size w wr ∧ Hid (∀ m ∈ l.take j, ftB m = true)) (fun _ _ i _ => n - (Go.RowKit.intOf i).toNat)
  case atStart => exact ⟨0, by omega, rfl, rfl, by rw [List.take_zero]; rfl, Below.refl _ _, fun m hm => by rw [List.take_zero] at hm; cases hm⟩
  case round =>
    obtain ⟨j, hj, rfl, rfl, rfl, hB, ht⟩ := hrel
    have j0 : (0 : Int) ≤ (j : Int) := by omega
    by_cases hlt : j < n
    · have j1 : (j : Int) < (n : Int) := by omega
      obtain ⟨m, hm⟩ : ∃ m, l[j]? = some m := ⟨_, List.getElem?_eq_getElem (by rw [HN.out]; exact hlt)⟩
      obtain ⟨g, o, u, e0, lt0, r0, t0⟩ := HF0.out j m hm
      subst e0
      have mf := fits.out m (List.mem_of_getElem? hm)
      have KK : Cells (m.l u) 16 (m.c u) := m.cells u (by obtain ⟨a, c, e, _⟩ := t0.form; rw [e]; rfl)
      have R1 := range_to r0 lt0 hB
      have HV : Hid (m.v u = .agg (m.l u).toArray) := rfl
      have CW := fun W (hb : Below w.heap.size w W) => C8.out m u W mf (t0.to hb)
      have CF := fun W (hb : Below w.heap.size w W) => rFit_any m mf.ok u mf.ln mf.tl mf.nl W (t0.to hb)
      simp only [HV.out] at CW CF
      generalize m.l u = L at *
      clear r0 t0 HV
      go_upto_region 6 with (fail)
      refine wp_region_list ?_
      refine wpList_plain (by rfl) fun K1 hK1 => ?_
      have H1 : Hid _ := hK1
      clear hK1
      go_wp2_with fail
      refine H1.out _ _ ?_
      clear H1
      refine wld_r KK tM R1 (by rfl) (.tmp 33) (by rfl) (by rfl) ?_
      simp only [Act.put, List.setIfInBounds_toArray, List.set_cons_succ, List.set_cons_zero]
      refine wpList_plain (by rfl) fun K1 hK1 => ?_
      have H1 : Hid _ := hK1
      clear hK1
      go_wp2_with fail
      refine H1.out _ _ ?_
      clear H1
      have A8 := newZ wr _ rfl
      refine KK.wst tM A8 (by rfl) (.tmp 8) (.tmp 34) (by rfl) (by rfl) (by rfl) ?_
      refine wpList_nil ?_
      replace A8 := KK.set A8
      have hz := hB.size
      replace hB : Below w.heap.size w ((wr.alloc (.cells z16 29)).setCells wr.heap.size 0 L) := below_setCells (Bel.al hB _) (b := wr.heap.size) hz L 0
      generalize (wr.alloc (.cells z16 29)).setCells wr.heap.size 0 L = W2 at *
      generalize wr.heap.size = b8 at *
      clear R1
      cases hf : ftB m
      · have e1 : wmR m = .tuple #[.string nS, .int .i64 10] := by unfold wmR; rw [hf]; rfl
        rw [e1] at CW
        rw [hf] at CF
        clear ht hm
        go_upto_region 7 with (fail)
        refine wp_region_list ?_
        refine KK.wld tM A8 0 (by omega) (fun j _ => by rw [Nat.zero_add]) (by rfl) (.tmp 8) (by rfl) (by rfl) ?_
        simp only [Act.put, List.setIfInBounds_toArray, List.set_cons_succ, List.set_cons_zero]
        go_wp2_with fail
        refine (CW _ hB).mono ?_
        rintro e W3 ⟨rfl, hb⟩
        replace A8 : Arr _ _ 16 _ := A8.to' (n := 15) hb
        replace hB := Bel.call hB hb
        clear hb
        go_upto_region 9 with (fail)
        refine wp_region_list ?_
        refine KK.wld tM A8 0 (by omega) (fun j _ => by rw [Nat.zero_add]) (by rfl) (.tmp 8) (by rfl) (by rfl) ?_
        simp only [Act.put, List.setIfInBounds_toArray, List.set_cons_succ, List.set_cons_zero]
        refine wpList_plain (by rfl) fun K1 hK1 => ?_
        have H1 : Hid _ := hK1
        clear hK1
        go_wp2_with fail
        refine (CF _ hB).mono ?_
        rintro e W4 ⟨rfl, hb⟩
        refine H1.out _ _ ?_
        clear H1
        replace A8 : Arr _ _ 16 _ := A8.to' (n := 15) hb
        replace hB := Bel.call hB hb
        clear hb
        refine wpList_plain (by rfl) fun K1 hK1 => ?_
        have H1 : Hid _ := hK1
        clear hK1
        go_wp2_with fail
        refine H1.out _ _ ?_
        clear H1
        refine wpList_plain (by rfl) fun K1 hK1 => ?_
        have H1 : Hid _ := hK1
        clear hK1
        go_wp2_with fail
        refine H1.out _ _ ?_
        clear H1
        refine BigFrame.wpList_want (by rfl) fun K1 hK1 => ?_
        have H1 : Hid _ := hK1
        clear hK1
        go_wp2_with fail
        refine (C7 _).mono ?_
        rintro e W5 ⟨rfl, hb⟩
        refine H1.out _ _ ?_
        clear H1
        replace A8 : Arr _ _ 16 _ := A8.to' (n := 15) hb
        replace hB := Bel.call hB hb
        clear hb
        refine wpList_plain (by rfl) fun K1 hK1 => ?_
        have H1 : Hid _ := hK1
        clear hK1
        go_wp2_with fail
        refine H1.out _ _ ?_
        clear H1
        refine wpList_plain (by rfl) fun K1 hK1 => ?_
        have H1 : Hid _ := hK1
        clear hK1
        go_wp2_with fail
        refine H1.out _ _ ?_
        clear H1
        refine wpList_nil ?_
        go_wp2_with fail
        go_ret
        exact ⟨rfl, hB⟩
      · have e1 : wmR m = .tuple #[.string (wrM m), .int .i64 0] := by unfold wmR; rw [if_pos hf]
        rw [e1] at CW
        have HT : Hid (∀ x ∈ l.take (j + 1), ftB x = true) := fun x hx => by
          rw [List.take_add_one, hm] at hx
          rcases List.mem_append.1 hx with hx | hx
          · exact ht.out x hx
          · simp at hx; subst hx; exact hf
        have HC : Hid (ctM (l.take (j + 1)) = ctM (l.take j) ++ wrM m) := by
          show _ = _
          rw [List.take_add_one, hm]
          exact ctM_snoc _ _
        have zt := ctM_size (l.take j) (fun x hx => ht.out x hx)
        have zl : (l.take j).length ≤ j := List.length_take_le _ _
        have zw := wrM_size hf
        have AD := fun W => add_s (ctM (l.take j)) (wrM m) (by omega) W
        clear ht hm zt zl zw hf
        generalize ctM (l.take j) ++ wrM m = T2 at *
        generalize ctM (l.take j) = T1 at *
        generalize wrM m = Wm at *
        go_upto_region 7 with (fail)
        refine wp_region_list ?_
        refine KK.wld tM A8 0 (by omega) (fun j _ => by rw [Nat.zero_add]) (by rfl) (.tmp 8) (by rfl) (by rfl) ?_
        simp only [Act.put, List.setIfInBounds_toArray, List.set_cons_succ, List.set_cons_zero]
        go_wp2_with fail
        refine (CW _ hB).mono ?_
        rintro e W3 ⟨rfl, hb⟩
        replace A8 : Arr _ _ 16 _ := A8.to' (n := 15) hb
        replace hB := Bel.call hB hb
        clear hb
        clear A8 CW CF
        go_wp2_with fail
        exact ⟨⟨j + 1, by omega, by go_num, by go_num, by rw [HC.out], hB, HT⟩, by simp [Go.RowKit.intOf]; omega⟩
    · obtain rfl : j = n := by omega
      have j1 : ¬ (j : Int) < (j : Int) := by omega
      have et : l.take j = l := List.take_of_length_le (by rw [HN.out]; omega)
      rw [et] at ht ⊢
      have Q1 := C16.out ht.out
      have Q2 := C16s.out ht.out
      have Q3 := C16t.out ht.out
      have HGG : Hid ((F ≠ 0 → G ≠ 0) ∧ (F = 0 → c.length + j ≤ 32 → G = 0 ∧ Y = D ∧ x = l ++ c)) := hG.out ht.out
      have zt := ctM_size l ht.out
      have ln := HN.out
      have AD := fun W => add_s (ctM l) s (by rw [ln] at zt; omega) W
      have HL : Hid (l.length = j) := ln
      clear C16 C16s C16t hG ht C8 fits HF0 zt et HN ln
      generalize ctM l ++ s = TS at *
      generalize ctM l = TT at *
      go_wp2_with fail
      refine (Q1 _).mono ?_
      rintro e w1 ⟨⟨v1, rfl, h1⟩, hb⟩
      replace hB := Bel.call hB hb
      clear hb Q1
      obtain ⟨a1, c1, rfl, f1⟩ := h1
      have H1 : Hid (Mgs w1 (.slice a1 l.length c1) l) := ⟨a1, c1, rfl, f1⟩
      clear f1
      have M1 := CM.out l l (.slice a1 l.length c1) (.slice a0 j c0) w1 (by rw [HL.out]; omega) (by rw [HL.out]; omega) (Or.inl rfl) (Or.inl rfl) H1.out (H0.out.to hB)
      rw [(mgB_iff l l).2 rfl] at M1
      clear H1
      rw [HL.out] at M1 ⊢
      go_wp2_with fail
      refine M1.mono ?_
      rintro e w2 ⟨rfl, hb⟩
      replace hB := Bel.call hB hb
      clear hb M1
      go_wp2_with fail
      refine (Q2 _).mono ?_
      rintro e w3 ⟨⟨v2, rfl, h2⟩, hb⟩
      replace hB := Bel.call hB hb
      clear hb Q2
      obtain ⟨a2, c2, rfl, f2⟩ := h2
      have H2 : Hid (Mgs w3 (.slice a2 c.length c2) c) := ⟨a2, c2, rfl, f2⟩
      clear f2
      go_wp2_with fail
      refine (Q3 _).mono ?_
      rintro e w4 ⟨⟨v3, rfl, h3, hcap⟩, hb⟩
      replace hB := Bel.call hB hb
      have H2' : Hid (Mgs w4 (.slice a2 c.length c2) c) := H2.out.to hb
      clear hb Q3 H2
      obtain ⟨a3, c3, rfl, f3⟩ := h3
      have H3 : Hid (Mgs w4 (.slice a3 x.length c3) x) := ⟨a3, c3, rfl, f3⟩
      clear f3
      have hcap' : x.length ≤ c3 := hcap
      clear hcap
      have ci : (c.length : Int) ≤ 1000000 := by omega
      have xi : (x.length : Int) ≤ 1000000 := by omega
      by_cases hF : F = 0
      · subst hF
        by_cases hlen : c.length + j ≤ 32
        · obtain ⟨g1, g2, g3⟩ := HGG.out.2 rfl hlen
          have HX : Hid (x = l ++ c) := g3
          subst g1 g2
          have lx : x.length = j + c.length := by rw [HX.out, List.length_append, HL.out]
          have li : (x.length : Int) = (j : Int) + (c.length : Int) := by omega
          have T1 : Hid (Mgs w4 (.slice a3 l.length c3) l) := H3.out.take HX.out
          have T2 : Hid (Mgs w4 (sliced a3 l.length x.length c3 16) c) := H3.out.drop HX.out hcap'
          have S1 : ∀ W, (Instr.slice 43 (.slice a3 x.length c3) none (some (.int .i64 (j : Int))) none).run Tryz.prog W = .ok (.slice a3 l.length c3) W := fun W => by
            rw [run_slice_h W 43 a3 x.length c3 Tryz.underlying43 .i64 (j : Int) (by omega) (by omega)]
            have sz : (sizeOf (Tryz.prog.elem 43)).run Tryz.prog W = .ok 16 W := by kernel_rfl
            rw [sz]
            show Result.ok (sliced a3 0 (j : Int).toNat c3 16) W = _
            unfold sliced
            rw [Int.toNat_natCast, HL.out, Nat.sub_zero, Nat.sub_zero]
            cases a3 with
            | none => split <;> rfl
            | some ad =>
              split
              · rfl
              · rw [Option.map_some, Nat.zero_mul]
                cases ad
                simp [Addr.add]
          have S2 : ∀ W, (Instr.slice 43 (.slice a3 x.length c3) (some (.int .i64 (j : Int))) none none).run Tryz.prog W = .ok (sliced a3 l.length x.length c3 16) W := fun W => by
            rw [run_slice_l W 43 a3 x.length c3 Tryz.underlying43 .i64 (j : Int) (by omega) (by omega)]
            have sz : (sizeOf (Tryz.prog.elem 43)).run Tryz.prog W = .ok 16 W := by kernel_rfl
            rw [sz]
            show Result.ok (sliced a3 (j : Int).toNat x.length c3 16) W = _
            rw [Int.toNat_natCast, HL.out]
          have M1 := fun W (hb : Below w4.heap.size w4 W) => CM.out l l (.slice a3 l.length c3) (.slice a0 j c0) W (by rw [HL.out]; omega) (by rw [HL.out]; omega) (Or.inl rfl) (Or.inl rfl) (T1.out.to hb) (H0.out.to (Bel.call hB hb))
          have M2 := fun W (hb : Below w4.heap.size w4 W) => CM.out c c (sliced a3 l.length x.length c3 16) (.slice a2 c.length c2) W cl cl (Or.inr rfl) (Or.inr rfl) (T2.out.to hb) (H2'.out.to hb)
          rw [(mgB_iff l l).2 rfl] at M1
          rw [(mgB_iff c c).2 rfl] at M2
          have bd : (Y.toList == Y.toList) = true := by simp
          have lc : ¬ (32 : Int) < (c.length : Int) + (j : Int) := by omega
          generalize sliced a3 l.length x.length c3 16 = V2 at *
          rw [HL.out] at S1 M1
          clear T1 T2 HGG lx
          generalize (x.length : Nat) = xn at *
          generalize (c.length : Nat) = cn at *
          go_wp2_with fail
          refine (M1 _ (Below.refl _ _)).mono ?_
          rintro e w5 ⟨rfl, hb5⟩
          go_wp2_with fail
          refine (M2 _ hb5).mono ?_
          rintro e w6 ⟨rfl, hb6⟩
          go_wp2_with fail
          refine (C7 _).mono ?_
          rintro e w7 ⟨rfl, hb7⟩
          go_wp2_with fail
          go_ret
          exact ⟨rfl, Bel.call (Bel.call (Bel.call hB hb5) hb6) hb7⟩
        · have lc : (32 : Int) < (c.length : Int) + (j : Int) := by omega
          clear HGG H3 H2'
          by_cases hG0 : G = 0
          · subst hG0
            go_wp2_with fail
            refine (C7 _).mono ?_
            rintro e w7 ⟨rfl, hb7⟩
            go_wp2_with fail
            go_ret
            exact ⟨rfl, Bel.call hB hb7⟩
          · have hG2 : (G == 0) = false := by simpa using hG0
            go_wp2_with fail
            refine (C7 _).mono ?_
            rintro e w7 ⟨rfl, hb7⟩
            go_wp2_with fail
            go_ret
            exact ⟨rfl, Bel.call hB hb7⟩
      · have hF2 : (F == 0) = false := by simpa using hF
        have hG0 := HGG.out.1 hF
        have hG2 : (G == 0) = false := by simpa using hG0
        clear HGG H3 H2'
        go_wp2_with fail
        refine (C7 _).mono ?_
        rintro e w7 ⟨rfl, hb7⟩
        go_wp2_with fail
        go_ret
        exact ⟨rfl, Bel.call hB hb7⟩
end Go.Proofs.YtjdpeedghpblgaaGreatDoor
/- Messages one behind the other, as All of the reference reads them. -/
set_option linter.all false
set_option maxRecDepth 100000
namespace Go.Proofs.YtjdpeedghpblgaaGreatDoor
open Go.RowKit Go.Sort Go.Lib
theorem wr_nz (m : Mg) (r : ByteArray) : (wrM m ++ r).size ≠ 0 := by
  unfold wrM
  rw [ap_size, ap_size, mkS_size]
  simp
theorem amF_step (f : Nat) (m : Mg) (hm : m.ok) (h : ftB m = true) (r : ByteArray) (acc : List Mg) : amF (f + 1) (wrM m ++ r) acc = amF f r (acc ++ [m]) := by
  obtain ⟨e1, e2, e3⟩ := rm_of m hm h (wrM m ++ r) r rfl
  rw [amF, if_neg (wr_nz m r), if_neg (by rw [e1]; decide), if_pos e1, e2, e3]
theorem amF_nil (f : Nat) (acc : List Mg) : amF f nS acc = (acc, nS, 0) := by cases f <;> rfl
/-- The same, from the right. -/
def ctR : List Mg → ByteArray
  | [] => nS
  | m :: l => wrM m ++ ctR l
theorem ctM_fr (l : List Mg) : ∀ x : ByteArray, l.foldl (fun x m => x ++ wrM m) x = x ++ ctR l := by
  induction l with
  | nil => intro x; exact (ap_nS x).symm
  | cons m l ih => intro x; rw [List.foldl_cons, ih, ap_assoc]; rfl
theorem ctM_is (l : List Mg) : ctM l = ctR l := by unfold ctM; rw [ctM_fr, ap_nil]
theorem amF_row (l : List Mg) (ho : ∀ m ∈ l, m.ok) (h : ∀ m ∈ l, ftB m = true) : ∀ (f : Nat) (s : ByteArray) (acc : List Mg), amF (l.length + f) (ctR l ++ s) acc = amF f s (acc ++ l) := by
  induction l with
  | nil => intro f s acc; rw [List.append_nil]; show amF (0 + f) (nS ++ s) acc = _; rw [Nat.zero_add, ap_nil]
  | cons m l ih =>
    intro f s acc
    show amF (l.length + 1 + f) ((wrM m ++ ctR l) ++ s) acc = _
    rw [show l.length + 1 + f = (l.length + f) + 1 by omega, ap_assoc, amF_step _ m (ho m (List.mem_cons_self ..)) (h m (List.mem_cons_self ..)), ih (fun x hx => ho x (List.mem_cons_of_mem _ hx)) (fun x hx => h x (List.mem_cons_of_mem _ hx)), List.append_assoc]
    rfl
/-- What was read before stands ahead. -/
theorem amF_acc (f : Nat) : ∀ (s : ByteArray) (acc : List Mg), ((amF f s acc).2.2 = 0 ↔ (amF f s []).2.2 = 0) ∧ ((amF f s []).2.2 = 0 → amF f s acc = (acc ++ (amF f s []).1, (amF f s []).2.1, 0)) := by
  induction f with
  | zero =>
    intro s acc
    by_cases h0 : s.size = 0
    · rw [amF, amF, if_pos h0, if_pos h0]; exact ⟨Iff.rfl, fun _ => by rw [List.append_nil]⟩
    by_cases h1 : rmE s = 11
    · rw [amF, amF, if_neg h0, if_neg h0, if_pos h1, if_pos h1]; exact ⟨Iff.rfl, fun _ => by rw [List.append_nil]⟩
    by_cases h2 : rmE s = 0
    · rw [amF, amF, if_neg h0, if_neg h0, if_neg h1, if_neg h1, if_pos h2]; exact ⟨Iff.rfl, fun h => by cases h⟩
    · rw [amF, amF, if_neg h0, if_neg h0, if_neg h1, if_neg h1, if_neg h2]; exact ⟨Iff.rfl, fun h => absurd h h2⟩
  | succ f ih =>
    intro s acc
    by_cases h0 : s.size = 0
    · rw [amF, amF, if_pos h0, if_pos h0]; exact ⟨Iff.rfl, fun _ => by rw [List.append_nil]⟩
    by_cases h1 : rmE s = 11
    · rw [amF, amF, if_neg h0, if_neg h0, if_pos h1, if_pos h1]; exact ⟨Iff.rfl, fun _ => by rw [List.append_nil]⟩
    by_cases h2 : rmE s = 0
    · rw [amF, amF, if_neg h0, if_neg h0, if_neg h1, if_neg h1, if_pos h2, if_pos h2]
      have a := ih (rmR s) (acc ++ [rmM s])
      have b := ih (rmR s) ([] ++ [rmM s])
      refine ⟨a.1.trans b.1.symm, fun h => ?_⟩
      have h' := b.1.1 h
      rw [a.2 h', b.2 h']
      simp only [List.nil_append, List.append_assoc]
    · rw [amF, amF, if_neg h0, if_neg h0, if_neg h1, if_neg h1, if_neg h2, if_neg h2]; exact ⟨Iff.rfl, fun h => absurd h h2⟩
/-- Less room: what fits is told alike; what is refused stays refused. -/
theorem amF_room (g : Nat) : ∀ (f : Nat) (s : ByteArray), f ≤ g → ((amF g s []).2.2 ≠ 0 → (amF f s []).2.2 ≠ 0) ∧ ((amF g s []).2.2 = 0 → (amF g s []).1.length ≤ f → amF f s [] = amF g s []) := by
  induction g with
  | zero =>
    intro f s h
    have e : f = 0 := by omega
    subst e
    exact ⟨id, fun _ _ => rfl⟩
  | succ g ih =>
    intro f s h
    by_cases h0 : s.size = 0
    · have : ∀ k, amF k s [] = ([], nS, 0) := fun k => by cases k <;> rw [amF, if_pos h0]
      rw [this, this]; exact ⟨id, fun _ _ => rfl⟩
    by_cases h1 : rmE s = 11
    · have : ∀ k, amF k s [] = ([], s, 0) := fun k => by cases k <;> rw [amF, if_neg h0, if_pos h1]
      rw [this, this]; exact ⟨id, fun _ _ => rfl⟩
    by_cases h2 : rmE s = 0
    · have eg : amF (g + 1) s [] = amF g (rmR s) ([] ++ [rmM s]) := by rw [amF, if_neg h0, if_neg h1, if_pos h2]
      have ag := amF_acc g (rmR s) ([] ++ [rmM s])
      cases f with
      | zero =>
        have e0 : amF 0 s [] = ([], nS, 18) := by rw [amF, if_neg h0, if_neg h1, if_pos h2]
        refine ⟨fun _ => (by rw [e0]; decide), fun hz hl => ?_⟩
        rw [eg] at hz hl
        rw [ag.2 (ag.1.1 hz)] at hl
        simp at hl
      | succ f =>
        have ef : amF (f + 1) s [] = amF f (rmR s) ([] ++ [rmM s]) := by rw [amF, if_neg h0, if_neg h1, if_pos h2]
        have af := amF_acc f (rmR s) ([] ++ [rmM s])
        have r := ih f (rmR s) (by omega)
        rw [eg, ef]
        refine ⟨fun hz hf => hz (ag.1.2 ?_), fun hz hl => ?_⟩
        · cases hq : decide ((amF g (rmR s) []).2.2 = 0) with
          | true => exact of_decide_eq_true hq
          | false => exact absurd (af.1.1 hf) (r.1 (of_decide_eq_false hq))
        · have hz' := ag.1.1 hz
          rw [ag.2 hz'] at hl
          have hl' : (amF g (rmR s) []).1.length ≤ f := by simp at hl; omega
          have e := r.2 hz' hl'
          rw [ag.2 hz', af.2 (by rw [e]; exact hz'), e]
    · have : ∀ k, amF k s [] = ([], nS, rmE s) := fun k => by cases k <;> rw [amF, if_neg h0, if_neg h1, if_neg h2]
      rw [this, this]; exact ⟨id, fun _ _ => rfl⟩
/-- Two texts, the first one of whole messages. -/
theorem amF_joins (l : List Mg) (ho : ∀ m ∈ l, m.ok) (h : ∀ m ∈ l, ftB m = true) (hl : l.length ≤ 32) (s : ByteArray) :
    amF 32 (ctM l) [] = (l, nS, 0) ∧ ((amF 32 s []).2.2 ≠ 0 → (amF 32 (ctM l ++ s) []).2.2 ≠ 0) ∧ ((amF 32 s []).2.2 = 0 → (amF 32 s []).1.length + l.length ≤ 32 → amF 32 (ctM l ++ s) [] = (l ++ (amF 32 s []).1, (amF 32 s []).2.1, 0)) := by
  have e32 : 32 = l.length + (32 - l.length) := by omega
  have row : ∀ s, amF 32 (ctM l ++ s) [] = amF (32 - l.length) s l := fun s => by
    have := amF_row l ho h (32 - l.length) s []
    rw [← e32, List.nil_append] at this
    rw [ctM_is, this]
  have a := amF_acc (32 - l.length) s l
  have r := amF_room 32 (32 - l.length) s (by omega)
  refine ⟨?_, fun hz => ?_, fun hz hn => ?_⟩
  · have := row nS
    rw [ap_nS] at this
    rw [this, amF_nil]
  · rw [row]
    exact fun c => r.1 hz (a.1.1 c)
  · rw [row]
    have e := r.2 hz (by omega)
    rw [a.2 (by rw [e]; exact hz), e]
/-- HandJoins of any arguments, if All is the reference's. -/
theorem HandJoins_short (l : List Mg) (v0 : Value) (s : ByteArray) (hz : s.size ≤ maxLen) (hl : l.length ≤ maxLen) (h : ¬ (l.length ≤ 8 ∧ s.size ≤ 20000)) (w : World) (H0 : Mgs w v0 l)
    (C7 : ∀ W, Calls Tryz.prog 7 #[] W fun e w' => e = .returned (.bool true) ∧ Below W.heap.size W w') :
    Calls Tryz.prog 6 #[v0, .string s] w fun e w' => e = .returned (.bool true) ∧ Below w.heap.size w w' := by
  unfold maxLen at hz hl
  obtain ⟨a0, c0, rfl, _⟩ := H0
  have li : ((l.length : Nat) : Int) ≤ 9223372036854775807 := by omega
  by_cases h8 : l.length ≤ 8
  · have n1 : ¬ (8 : Int) < ((l.length : Nat) : Int) := by omega
    have n1b : decide ((8 : Int) < ((l.length : Nat) : Int)) = false := decide_eq_false n1
    have s1 : (20000 : Int) < (s.size : Int) := by omega
    generalize l.length = n at *
    go_enter Tryz.func6, Tryz.ntmps6
    go_wp2_with fail
    refine (C7 _).mono ?_
    rintro e W1 ⟨rfl, hb⟩
    go_wp2_with fail
    go_ret
    exact ⟨rfl, hb⟩
  · have n1 : (8 : Int) < ((l.length : Nat) : Int) := by omega
    generalize l.length = n at *
    go_enter Tryz.func6, Tryz.ntmps6
    go_wp2_with fail
    refine (C7 _).mono ?_
    rintro e W1 ⟨rfl, hb⟩
    go_wp2_with fail
    go_ret
    exact ⟨rfl, hb⟩
/-- What All of the program does besides: the row that it gives has room. -/
def CAc (f : ByteArray → List Mg × ByteArray × Int) : Prop := ∀ (s : ByteArray) (W : World), s.size ≤ 200000 → Calls Tryz.prog 16 #[.string s] W fun e w' => (∃ v, e = .returned (.tuple #[v, .string (f s).2.1, .int .i64 (f s).2.2]) ∧ Mgs w' v (f s).1 ∧ (f s).1.length ≤ cpOfV v) ∧ Below W.heap.size W w'
theorem HandJoins_any (CW : CWr) (CR : CRd) (CA : CAc (fun s => amF 32 s [])) (l : List Mg) (v0 : Value) (s : ByteArray) (fits : ∀ m ∈ l, m.fits) (hl : l.length ≤ maxLen) (hz : s.size ≤ maxLen) (w : World) (H0 : Mgs w v0 l) :
    Calls Tryz.prog 6 #[v0, .string s] w fun e w' => e = .returned (.bool true) ∧ Below w.heap.size w w' := by
  have C7 := fun W => awake14 CW CR W
  by_cases h : l.length ≤ 8 ∧ s.size ≤ 20000
  · obtain ⟨h8, hs⟩ := h
    have zt : (∀ m ∈ l, ftB m = true) → (ctM l).size ≤ 66432 := fun hf => by have := ctM_size l hf; omega
    have CL : ∀ (s : ByteArray) (W : World), s.size ≤ 200000 → Calls Tryz.prog 16 #[.string s] W fun e w' => (∃ v, e = .returned (.tuple #[v, .string (amF 32 s []).2.1, .int .i64 (amF 32 s []).2.2]) ∧ Mgs w' v (amF 32 s []).1) ∧ Below W.heap.size W w' := fun s W h => (CA s W h).mono fun e w' ⟨⟨v, h1, h2, _⟩, h3⟩ => ⟨⟨v, h1, h2⟩, h3⟩
    have hc := amF_fits 32 s [] (by omega) (fun m hm => by cases hm)
    have lc : (amF 32 s []).1.length ≤ 1000000 := by have := amF_len 32 s []; simp at this; omega
    have lx : (amF 32 (ctM l ++ s) []).1.length ≤ 1000000 := by have := amF_len 32 (ctM l ++ s) []; simp at this; omega
    have J := fun hf => amF_joins l (fun m hm => (fits m hm).ok) hf (by omega) s
    refine HandJoins_yes l (amF 32 s []).1 (amF 32 (ctM l ++ s) []).1 s (amF 32 s []).2.1 (amF 32 (ctM l ++ s) []).2.1 (amF 32 s []).2.2 (amF 32 (ctM l ++ s) []).2.2 l.length rfl h8 lc lx fits hs v0 w H0
      (fun m u W hm hT => CW m u W hm.ok hm.ln hm.tx hm.nm hT) (fun hf W => ?_) (fun hf W => CL s W (by omega)) (fun hf W => CA (ctM l ++ s) W (by have := zt hf; rw [ap_size]; omega))
      (fun a b u v W la lb ha hb h1 h2 => rMsgs_fits a b (by rcases ha with rfl | rfl; exact fits; exact hc) (by rcases hb with rfl | rfl; exact fits; exact hc) la lb u v W h1 h2) (fun hf => ?_) C7
    · have := CL (ctM l) W (by have := zt hf; omega)
      rw [(J hf).1] at this
      exact this
    · refine ⟨(J hf).2.1, fun hz hn => ?_⟩
      have e := (J hf).2.2 hz hn
      rw [e]
      exact ⟨rfl, rfl, rfl⟩
  · exact HandJoins_short l v0 s hz hl h w H0 C7
end Go.Proofs.YtjdpeedghpblgaaGreatDoor
/- Package hand: All. -/
set_option linter.all false
set_option maxRecDepth 100000
namespace Go.Proofs.YtjdpeedghpblgaaGreatDoor
open Go.RowKit Go.Sort Go.Shelf
theorem own_cap {w : World} {b e k n : Nat} {v : Value} {xs : List Value} (h : w.ownsRow b e k v n xs) : n ≤ cpOfV v := by
  rcases h.2 with ⟨h1, h2⟩ | ⟨g, cp, cur, h1, _, _, h2, _⟩
  · omega
  · rw [h1]; exact h2
/-- What All tells at its end. -/
def dnF (acc : List Mg) (s : ByteArray) : List Mg × ByteArray × Int := if acc.length ≤ 32 then (acc, s, 0) else ([], nS, 18)
/-- All of the program: it reads on behind the 32nd message, and keeps 33 at most. -/
def aoF : Nat → ByteArray → List Mg → List Mg × ByteArray × Int
  | 0, _, _ => ([], nS, 0)
  | f + 1, s, acc => if s.size = 0 then dnF acc nS else if rmE s = 11 then dnF acc s else if rmE s = 0 then aoF f (rmR s) (if acc.length ≤ 32 then acc ++ [rmM s] else acc) else ([], nS, rmE s)
theorem rmR_lt {s : ByteArray} (h : rmE s = 0) : (rmR s).size < s.size := by
  have := (rm_yes s h).2.2
  have z : (wrM (rmM s)).size + (rmR s).size = s.size := by rw [← ap_size, this]
  have z2 : 1 ≤ (wrM (rmM s)).size := by unfold wrM; rw [ap_size, mkS_size]; simp
  omega
set_option maxHeartbeats 4000000 in
theorem hAll_any (s : ByteArray) (hs : s.size ≤ 200000) (w : World) (R : List Mg × ByteArray × Int) (hR : aoF (s.size + 1) s [] = R) :
    Calls Tryz.prog 16 #[.string s] w fun e w' => (∃ v, e = .returned (.tuple #[v, .string R.2.1, .int .i64 R.2.2]) ∧ Mgs w' v R.1 ∧ R.1.length ≤ cpOfV v) ∧ Below w.heap.size w w' := by
  obtain ⟨i0, hi, hz0, hz1, hz2⟩ := info_parts Tryz.infoM
  obtain ⟨RL, RS, RE⟩ := R
  simp only
  have HA : Hid (∃ f, s.size < f ∧ aoF f s (([] : List (Mg × Value)).map (·.1)) = (RL, RS, RE)) := ⟨_, Nat.lt_succ_self _, hR⟩
  have own0 : w.ownsRow w.heap.size 29 16 (.slice none 0 0) 0 (flP []) := ⟨rfl, .inl ⟨rfl, rfl⟩⟩
  clear hR
  go_enter Tryz.func16, Tryz.ntmps16
  go_wp2_with fail
  go_loopw [5, 6] (fun v x wr => ∃ (S : ByteArray) (L : List (Mg × Value)), x = .string S ∧ S.size ≤ 200000 ∧ L.length ≤ 33 ∧ Hid (∃ f, S.size < f ∧ aoF f S (L.map (·.1)) = (RL, RS, RE)) ∧ wr.ownsRow w.heap.size 29 16 v L.length (flP L) ∧ (L = [] → v = .slice none 0 0) ∧ Hid (∀ p ∈ L, Txs wr p.2 p.1.cs ∧ Frs 0 p.2) ∧ Below w.heap.size w wr)
    (fun _ x _ => szOf x)
  case atStart => exact ⟨s, [], rfl, hs, by decide, HA, own0, fun _ => rfl, fun p hp => (by cases hp), Below.refl _ _⟩
  case round =>
    clear own0 HA hs
    obtain ⟨S, L, rfl, hS, hL, hG, hown, hnil, hT, hB⟩ := hrel
    obtain ⟨ao, cv, hv⟩ := own_frm hown
    subst hv
    have HCp : Hid (L.length ≤ cpOfV (.slice ao L.length cv)) := own_cap hown
    have HM : Hid (Mgs wr (.slice ao L.length cv) (L.map (·.1))) := Mgs.own hown (fun p hp => (hT.out p hp).1)
    by_cases h0 : S.size = 0
    · have HE : Hid (dnF (L.map (·.1)) nS = (RL, RS, RE)) := by
        obtain ⟨f, hf, this⟩ := hG.out
        cases f with
        | zero => omega
        | succ f => rw [aoF, if_pos h0] at this; exact this
      have e := nS_size h0
      subst e
      clear hG hown hnil hT
      by_cases h32 : L.length ≤ 32
      · have l32 : ¬ (32 : Int) < ((L.length : Nat) : Int) := by omega
        have HE' : Hid (RL = L.map (·.1) ∧ RS = nS ∧ RE = 0) := by
          have := HE.out
          unfold dnF at this
          rw [List.length_map, if_pos h32] at this
          cases this
          exact ⟨rfl, rfl, rfl⟩
        clear HE
        go_wp2_with fail
        refine bodyPost_ret (v := .tuple #[.slice ao L.length cv, .string nS, .int .i64 0]) (by simp [results, Tryz.results16, go_sem]) rfl ⟨⟨.slice ao L.length cv, ?_, ?_, ?_⟩, hB⟩
        · rw [HE'.out.2.1, HE'.out.2.2]
        · rw [HE'.out.1]; exact HM.out
        · rw [HE'.out.1, List.length_map]; exact HCp.out
      · have l32 : (32 : Int) < ((L.length : Nat) : Int) := by omega
        have HE' : Hid (RL = [] ∧ RS = nS ∧ RE = 18) := by
          have := HE.out
          unfold dnF at this
          rw [List.length_map, if_neg h32] at this
          cases this
          exact ⟨rfl, rfl, rfl⟩
        clear HE
        go_wp2_with fail
        refine bodyPost_ret (v := .tuple #[.slice none 0 0, .string nS, .int .i64 18]) (by simp [results, Tryz.results16, go_sem]) rfl ⟨⟨.slice none 0 0, ?_, ?_, ?_⟩, hB⟩
        · rw [HE'.out.2.1, HE'.out.2.2]
        · rw [HE'.out.1]; exact Mgs.nil _
        · rw [HE'.out.1]; exact Nat.zero_le _
    · have h1 : (S.toList == []) = false := by simpa using txt_ne (s := S) (t := nS) (fun e => h0 (by rw [e]; rfl))
      have C := fun W => Read_any S (by omega) W
      have HR : Hid (rmE S = 0 → (rmR S).size < S.size) := rmR_lt
      by_cases hE : rmE S = 11
      · have HE : Hid (dnF (L.map (·.1)) S = (RL, RS, RE)) := by
          obtain ⟨f, hf, this⟩ := hG.out
          cases f with
          | zero => omega
          | succ f => rw [aoF, if_neg h0, if_pos hE] at this; exact this
        rw [hE] at C
        clear hG hown hnil hT HR hE
        go_upto_region 4 with (fail)
        refine wp_region_list ?_
        refine wpList_plain (by rfl) fun K1 hK1 => ?_
        have H1 : Hid _ := hK1
        clear hK1
        go_wp2_with fail
        refine H1.out _ _ ?_
        clear H1
        refine wpList_plain (by rfl) fun K1 hK1 => ?_
        have H1 : Hid _ := hK1
        clear hK1
        go_wp2_with fail
        refine (C _).mono ?_
        rintro e w1 ⟨⟨v, rfl, hTv, hFv⟩, hb⟩
        refine H1.out _ _ ?_
        clear H1 C
        rw [Mg.v_l]
        have hC := (rmM S).cells v (by obtain ⟨a, c, e, _⟩ := hTv.form; rw [e]; rfl)
        have HML : Hid (∃ ML, (rmM S).l v = ML) := ⟨_, rfl⟩
        obtain ⟨ML, hML⟩ := HML.out
        clear HML
        rw [hML] at hC ⊢
        refine wpList_plain (by rfl) fun K1 hK1 => ?_
        have H1 : Hid _ := hK1
        clear hK1
        go_wp2_with fail
        refine H1.out _ _ ?_
        clear H1
        refine wpList_plain (by rfl) fun K1 hK1 => ?_
        have H1 : Hid _ := hK1
        clear hK1
        go_wp2_with fail
        refine H1.out _ _ ?_
        clear H1
        refine wpList_plain (by rfl) fun K1 hK1 => ?_
        have H1 : Hid _ := hK1
        clear hK1
        go_wp2_with fail
        refine H1.out _ _ ?_
        clear H1
        refine wpList_plain (by rfl) fun K1 hK1 => ?_
        have H1 : Hid _ := hK1
        clear hK1
        go_wp2_with fail
        refine H1.out _ _ ?_
        clear H1
        refine wpList_plain (by rfl) fun K1 hK1 => ?_
        have H1 : Hid _ := hK1
        clear hK1
        go_wp2_with fail
        refine H1.out _ _ ?_
        clear H1
        have A6 := newZ w1 _ rfl
        refine hC.wst tM A6 (by rfl) (.tmp 7) (.tmp 16) (by rfl) (by rfl) (by rfl) ?_
        simp only [Act.put, List.setIfInBounds_toArray, List.set_cons_succ, List.set_cons_zero]
        refine wpList_plain (by rfl) fun K1 hK1 => ?_
        have H1 : Hid _ := hK1
        clear hK1
        go_wp2_with fail
        refine H1.out _ _ ?_
        clear H1
        refine wpList_plain (by rfl) fun K1 hK1 => ?_
        have H1 : Hid _ := hK1
        clear hK1
        go_wp2_with fail
        refine H1.out _ _ ?_
        clear H1
        refine wpList_nil ?_
        replace A6 := hC.set A6
        have hb2 : Below w1.heap.size w1 ((w1.alloc (.cells z16 29)).setCells w1.heap.size 0 ML) := below_setCells (by go_grown) (b := w1.heap.size) (Nat.le_refl _) ML 0
        have hTv2 := hTv.to hb2
        replace hb2 := Bel.call hb hb2
        generalize (w1.alloc (.cells z16 29)).setCells w1.heap.size 0 ML = W2 at *
        generalize w1.heap.size = b6 at *
        clear hML hC A6
        by_cases h32 : L.length ≤ 32
        · have l32 : ¬ (32 : Int) < ((L.length : Nat) : Int) := by omega
          have HE' : Hid (RL = L.map (·.1) ∧ RS = S ∧ RE = 0) := by
            have := HE.out
            unfold dnF at this
            rw [List.length_map, if_pos h32] at this
            cases this
            exact ⟨rfl, rfl, rfl⟩
          clear HE
          go_wp2_with fail
          refine bodyPost_ret (v := .tuple #[.slice ao L.length cv, .string S, .int .i64 0]) (by simp [results, Tryz.results16, go_sem]) rfl ⟨⟨.slice ao L.length cv, ?_, ?_, ?_⟩, Bel.call hB hb2⟩
          · rw [HE'.out.2.1, HE'.out.2.2]
          · rw [HE'.out.1]; exact HM.out.to hb2
          · rw [HE'.out.1, List.length_map]; exact HCp.out
        · have l32 : (32 : Int) < ((L.length : Nat) : Int) := by omega
          have HE' : Hid (RL = [] ∧ RS = nS ∧ RE = 18) := by
            have := HE.out
            unfold dnF at this
            rw [List.length_map, if_neg h32] at this
            cases this
            exact ⟨rfl, rfl, rfl⟩
          clear HE
          go_wp2_with fail
          refine bodyPost_ret (v := .tuple #[.slice none 0 0, .string nS, .int .i64 18]) (by simp [results, Tryz.results16, go_sem]) rfl ⟨⟨.slice none 0 0, ?_, ?_, ?_⟩, Bel.call hB hb2⟩
          · rw [HE'.out.2.1, HE'.out.2.2]
          · rw [HE'.out.1]; exact Mgs.nil _
          · rw [HE'.out.1]; exact Nat.zero_le _
      · by_cases hZ : rmE S = 0
        · by_cases h32 : L.length ≤ 32
          · have l32 : ((L.length : Nat) : Int) ≤ 32 := by omega
            have HG : Hid (∃ f, (rmR S).size < f ∧ aoF f (rmR S) (L.map (·.1) ++ [rmM S]) = (RL, RS, RE)) := by
              obtain ⟨f, hf, hq⟩ := hG.out
              have hlt := HR.out hZ
              cases f with
              | zero => omega
              | succ f =>
                rw [aoF, if_neg h0, if_neg hE, if_pos hZ, List.length_map, if_pos h32] at hq
                exact ⟨f, by omega, hq⟩
            have HZ : Hid ((rmR S).size < S.size ∧ (rmR S).size ≤ 200000) := ⟨HR.out hZ, by have := HR.out hZ; omega⟩
            have HO : Hid (wr.ownsRow w.heap.size 29 16 (.slice ao L.length cv) L.length (flP L)) := hown
            have HNil : Hid (L = [] → Value.slice ao L.length cv = .slice none 0 0) := hnil
            have kb : L.length + 1 ≤ maxLen := by unfold maxLen; omega
            rw [hZ] at C
            clear hG hown hnil HR hE hZ HM HCp
            go_upto_region 4 with (fail)
            refine wp_region_list ?_
            refine wpList_plain (by rfl) fun K1 hK1 => ?_
            have H1 : Hid _ := hK1
            clear hK1
            go_wp2_with fail
            refine H1.out _ _ ?_
            clear H1
            refine wpList_plain (by rfl) fun K1 hK1 => ?_
            have H1 : Hid _ := hK1
            clear hK1
            go_wp2_with fail
            refine (C _).mono ?_
            rintro e w1 ⟨⟨v, rfl, hTv, hFv⟩, hb⟩
            refine H1.out _ _ ?_
            clear H1 C
            rw [Mg.v_l]
            have hC := (rmM S).cells v (by obtain ⟨a, c, e, _⟩ := hTv.form; rw [e]; rfl)
            have HML : Hid (∃ ML, (rmM S).l v = ML) := ⟨_, rfl⟩
            obtain ⟨ML, hML⟩ := HML.out
            clear HML
            rw [hML] at hC ⊢
            refine wpList_plain (by rfl) fun K1 hK1 => ?_
            have H1 : Hid _ := hK1
            clear hK1
            go_wp2_with fail
            refine H1.out _ _ ?_
            clear H1
            refine wpList_plain (by rfl) fun K1 hK1 => ?_
            have H1 : Hid _ := hK1
            clear hK1
            go_wp2_with fail
            refine H1.out _ _ ?_
            clear H1
            refine wpList_plain (by rfl) fun K1 hK1 => ?_
            have H1 : Hid _ := hK1
            clear hK1
            go_wp2_with fail
            refine H1.out _ _ ?_
            clear H1
            refine wpList_plain (by rfl) fun K1 hK1 => ?_
            have H1 : Hid _ := hK1
            clear hK1
            go_wp2_with fail
            refine H1.out _ _ ?_
            clear H1
            refine wpList_plain (by rfl) fun K1 hK1 => ?_
            have H1 : Hid _ := hK1
            clear hK1
            go_wp2_with fail
            refine H1.out _ _ ?_
            clear H1
            have A6 := newZ w1 _ rfl
            refine hC.wst tM A6 (by rfl) (.tmp 7) (.tmp 16) (by rfl) (by rfl) (by rfl) ?_
            simp only [Act.put, List.setIfInBounds_toArray, List.set_cons_succ, List.set_cons_zero]
            refine wpList_plain (by rfl) fun K1 hK1 => ?_
            have H1 : Hid _ := hK1
            clear hK1
            go_wp2_with fail
            refine H1.out _ _ ?_
            clear H1
            refine wpList_plain (by rfl) fun K1 hK1 => ?_
            have H1 : Hid _ := hK1
            clear hK1
            go_wp2_with fail
            refine H1.out _ _ ?_
            clear H1
            refine wpList_nil ?_
            replace A6 := hC.set A6
            have hb2 : Below w1.heap.size w1 ((w1.alloc (.cells z16 29)).setCells w1.heap.size 0 ML) := below_setCells (by go_grown) (b := w1.heap.size) (Nat.le_refl _) ML 0
            have hTv2 := hTv.to hb2
            replace hb2 := Bel.call hb hb2
            generalize (w1.alloc (.cells z16 29)).setCells w1.heap.size 0 ML = W2 at *
            generalize w1.heap.size = b6 at *
            go_upto_region 9 with (fail)
            refine wp_region_list ?_
            refine wpList_plain (by rfl) fun K1 hK1 => ?_
            have H1 : Hid _ := hK1
            clear hK1
            go_wp2_with fail
            refine H1.out _ _ ?_
            clear H1
            refine hC.wld tM A6 0 (by omega) (fun j _ => by rw [Nat.zero_add]) (by rfl) (.tmp 7) (by rfl) (by rfl) ?_
            simp only [Act.put, List.setIfInBounds_toArray, List.set_cons_succ, List.set_cons_zero]
            refine wval (by rfl) _ _ (exec_bs (by rfl) (by simp [Act.eval]) (run_bsL ML hC.len W2)) ?_
            simp only [Act.put, List.setIfInBounds_toArray, List.set_cons_succ, List.set_cons_zero]
            have hsz := hb2.size
            have hwz := hB.size
            have O2 : W2.ownsRow w.heap.size 29 16 (.slice ao L.length cv) L.length (flP L) := HO.out.kept (row := none) ⟨hb2.os, hb2.tape, hb2.output, hb2.size, fun k hk _ => hb2.block k hk⟩ (by cases ao <;> simp [Value.ownBlock])
            have O3 := World.ownsRow.alloc O2 (.cells ML.toArray 29)
            have nw := news_new W2 ML 29
            have B3 : Below w.heap.size w (W2.alloc (.cells ML.toArray 29)) := Bel.al (Bel.call hB hb2) _
            have hle : w.heap.size ≤ (W2.alloc (.cells ML.toArray 29)).heap.size := B3.size
            have hal : Below W2.heap.size W2 (W2.alloc (.cells ML.toArray 29)) := by go_grown
            have T3 : ∀ p ∈ L, Txs (W2.alloc (.cells ML.toArray 29)) p.2 p.1.cs ∧ Frs 0 p.2 := fun p hp => ⟨((hT.out p hp).1.to hb2).to hal, (hT.out p hp).2⟩
            have V3 := hTv2.to hal
            clear hal A6 HO O2 hTv2
            generalize W2.alloc (.cells ML.toArray 29) = W3 at *
            refine wpList_append_own _ rfl _ _ 43 rfl w.heap.size 29 i0 (.agg z16) 16 192 Tryz.underlying43 hi hz0 hz1 hz2 rfl (by decide) _ _ _ rfl O3 ⟨_, 0, none⟩ 1 1 ML rfl hC.len nw hC.one kb (by omega) hle ?_
            intro v' w5 hown' hgrow hnl
            have b5 : Below w.heap.size w w5 := B3.grown hgrow hle (fun q hq => (O3.lt q hq).1)
            have z0 := fun g hg => flP_0 O3 g hg HNil.out
            have HO' : Hid (w5.ownsRow w.heap.size 29 16 v' (L ++ [(rmM S, v)]).length (flP (L ++ [(rmM S, v)]))) := by
              show World.ownsRow _ _ _ _ _ _ _
              rw [List.length_append, flP_app]
              have e : flP [(rmM S, v)] = ML := by show (rmM S).l v ++ [] = ML; rw [List.append_nil, hML]
              rw [e]
              exact hown'
            have HT' : Hid (∀ p ∈ L ++ [(rmM S, v)], Txs w5 p.2 p.1.cs ∧ Frs 0 p.2) := fun p hp => by
              rcases List.mem_append.1 hp with hp | hp
              · exact ⟨txs_own (T3 p hp).1 (T3 p hp).2 z0 hgrow, (T3 p hp).2⟩
              · simp at hp
                subst hp
                refine ⟨txs_own V3 hFv z0 hgrow, fun a n c h => ?_⟩
                obtain ⟨q, e, _⟩ := hFv a n c h
                exact ⟨q, e, Nat.zero_le _⟩
            have HG' : Hid (∃ f, (rmR S).size < f ∧ aoF f (rmR S) ((L ++ [(rmM S, v)]).map (·.1)) = (RL, RS, RE)) := by
              obtain ⟨f, h1, h2⟩ := HG.out
              exact ⟨f, h1, by rw [List.map_append]; exact h2⟩
            have HL' : Hid ((L ++ [(rmM S, v)]).length ≤ 33) := by show _ ≤ _; rw [List.length_append]; show L.length + 1 ≤ 33; omega
            clear hgrow hnl hown' O3 T3 V3 z0 nw hML hC hT
            go_wp2_with fail
            exact ⟨⟨rmR S, L ++ [(rmM S, v)], rfl, HZ.out.2, HL'.out, HG', HO'.out, fun h => absurd h (by simp), HT', b5⟩, HZ.out.1⟩
          · have l32 : ¬ ((L.length : Nat) : Int) ≤ 32 := by omega
            have HG : Hid (∃ f, (rmR S).size < f ∧ aoF f (rmR S) (L.map (·.1)) = (RL, RS, RE)) := by
              obtain ⟨f, hf, hq⟩ := hG.out
              have hlt := HR.out hZ
              cases f with
              | zero => omega
              | succ f =>
                rw [aoF, if_neg h0, if_neg hE, if_pos hZ, List.length_map, if_neg h32] at hq
                exact ⟨f, by omega, hq⟩
            have HZ : Hid ((rmR S).size < S.size ∧ (rmR S).size ≤ 200000) := ⟨HR.out hZ, by have := HR.out hZ; omega⟩
            have HO : Hid (wr.ownsRow w.heap.size 29 16 (.slice ao L.length cv) L.length (flP L)) := hown
            have HNil : Hid (L = [] → Value.slice ao L.length cv = .slice none 0 0) := hnil
            rw [hZ] at C
            clear hG hown hnil HR hE hZ HM HCp
            go_upto_region 4 with (fail)
            refine wp_region_list ?_
            refine wpList_plain (by rfl) fun K1 hK1 => ?_
            have H1 : Hid _ := hK1
            clear hK1
            go_wp2_with fail
            refine H1.out _ _ ?_
            clear H1
            refine wpList_plain (by rfl) fun K1 hK1 => ?_
            have H1 : Hid _ := hK1
            clear hK1
            go_wp2_with fail
            refine (C _).mono ?_
            rintro e w1 ⟨⟨v, rfl, hTv, hFv⟩, hb⟩
            refine H1.out _ _ ?_
            clear H1 C
            rw [Mg.v_l]
            have hC := (rmM S).cells v (by obtain ⟨a, c, e, _⟩ := hTv.form; rw [e]; rfl)
            have HML : Hid (∃ ML, (rmM S).l v = ML) := ⟨_, rfl⟩
            obtain ⟨ML, hML⟩ := HML.out
            clear HML
            rw [hML] at hC ⊢
            refine wpList_plain (by rfl) fun K1 hK1 => ?_
            have H1 : Hid _ := hK1
            clear hK1
            go_wp2_with fail
            refine H1.out _ _ ?_
            clear H1
            refine wpList_plain (by rfl) fun K1 hK1 => ?_
            have H1 : Hid _ := hK1
            clear hK1
            go_wp2_with fail
            refine H1.out _ _ ?_
            clear H1
            refine wpList_plain (by rfl) fun K1 hK1 => ?_
            have H1 : Hid _ := hK1
            clear hK1
            go_wp2_with fail
            refine H1.out _ _ ?_
            clear H1
            refine wpList_plain (by rfl) fun K1 hK1 => ?_
            have H1 : Hid _ := hK1
            clear hK1
            go_wp2_with fail
            refine H1.out _ _ ?_
            clear H1
            refine wpList_plain (by rfl) fun K1 hK1 => ?_
            have H1 : Hid _ := hK1
            clear hK1
            go_wp2_with fail
            refine H1.out _ _ ?_
            clear H1
            have A6 := newZ w1 _ rfl
            refine hC.wst tM A6 (by rfl) (.tmp 7) (.tmp 16) (by rfl) (by rfl) (by rfl) ?_
            simp only [Act.put, List.setIfInBounds_toArray, List.set_cons_succ, List.set_cons_zero]
            refine wpList_plain (by rfl) fun K1 hK1 => ?_
            have H1 : Hid _ := hK1
            clear hK1
            go_wp2_with fail
            refine H1.out _ _ ?_
            clear H1
            refine wpList_plain (by rfl) fun K1 hK1 => ?_
            have H1 : Hid _ := hK1
            clear hK1
            go_wp2_with fail
            refine H1.out _ _ ?_
            clear H1
            refine wpList_nil ?_
            replace A6 := hC.set A6
            have hb2 : Below w1.heap.size w1 ((w1.alloc (.cells z16 29)).setCells w1.heap.size 0 ML) := below_setCells (by go_grown) (b := w1.heap.size) (Nat.le_refl _) ML 0
            have hTv2 := hTv.to hb2
            replace hb2 := Bel.call hb hb2
            generalize (w1.alloc (.cells z16 29)).setCells w1.heap.size 0 ML = W2 at *
            generalize w1.heap.size = b6 at *
            have hsz := hb2.size
            have hwz := hB.size
            have O2 : Hid (W2.ownsRow w.heap.size 29 16 (.slice ao L.length cv) L.length (flP L)) := HO.out.kept (row := none) ⟨hb2.os, hb2.tape, hb2.output, hb2.size, fun k hk _ => hb2.block k hk⟩ (by cases ao <;> simp [Value.ownBlock])
            have T2 : Hid (∀ p ∈ L, Txs W2 p.2 p.1.cs ∧ Frs 0 p.2) := fun p hp => ⟨((hT.out p hp).1.to hb2), (hT.out p hp).2⟩
            have b5 := Bel.call hB hb2
            clear HO hT hML hC A6 hTv2 hb2
            go_wp2_with fail
            exact ⟨⟨rmR S, L, rfl, HZ.out.2, hL, HG, O2.out, HNil.out, T2, b5⟩, HZ.out.1⟩
        · have HE : Hid (RL = [] ∧ RS = nS ∧ RE = rmE S) := by
            obtain ⟨f, hf, this⟩ := hG.out
            cases f with
            | zero => omega
            | succ f => rw [aoF, if_neg h0, if_neg hE, if_neg hZ] at this; cases this; exact ⟨rfl, rfl, rfl⟩
          have hE2 : (rmE S == 11) = false := by simpa using hE
          have hZ2 : (rmE S == 0) = false := by simpa using hZ
          have hE3 : ¬ rmE S = 11 := hE
          have HX : Hid (∃ X, rmE S = X) := ⟨_, rfl⟩
          obtain ⟨X, hX⟩ := HX.out
          rw [hX] at C hE2 hZ2 hE3 hZ HE
          clear hG hown hnil hT HR hE hX HX
          go_upto_region 4 with (fail)
          refine wp_region_list ?_
          refine wpList_plain (by rfl) fun K1 hK1 => ?_
          have H1 : Hid _ := hK1
          clear hK1
          go_wp2_with fail
          refine H1.out _ _ ?_
          clear H1
          refine wpList_plain (by rfl) fun K1 hK1 => ?_
          have H1 : Hid _ := hK1
          clear hK1
          go_wp2_with fail
          refine (C _).mono ?_
          rintro e w1 ⟨⟨v, rfl, hTv, hFv⟩, hb⟩
          refine H1.out _ _ ?_
          clear H1 C
          rw [Mg.v_l]
          have hC := (rmM S).cells v (by obtain ⟨a, c, e, _⟩ := hTv.form; rw [e]; rfl)
          have HML : Hid (∃ ML, (rmM S).l v = ML) := ⟨_, rfl⟩
          obtain ⟨ML, hML⟩ := HML.out
          clear HML
          rw [hML] at hC ⊢
          refine wpList_plain (by rfl) fun K1 hK1 => ?_
          have H1 : Hid _ := hK1
          clear hK1
          go_wp2_with fail
          refine H1.out _ _ ?_
          clear H1
          refine wpList_plain (by rfl) fun K1 hK1 => ?_
          have H1 : Hid _ := hK1
          clear hK1
          go_wp2_with fail
          refine H1.out _ _ ?_
          clear H1
          refine wpList_plain (by rfl) fun K1 hK1 => ?_
          have H1 : Hid _ := hK1
          clear hK1
          go_wp2_with fail
          refine H1.out _ _ ?_
          clear H1
          refine wpList_plain (by rfl) fun K1 hK1 => ?_
          have H1 : Hid _ := hK1
          clear hK1
          go_wp2_with fail
          refine H1.out _ _ ?_
          clear H1
          refine wpList_plain (by rfl) fun K1 hK1 => ?_
          have H1 : Hid _ := hK1
          clear hK1
          go_wp2_with fail
          refine H1.out _ _ ?_
          clear H1
          have A6 := newZ w1 _ rfl
          refine hC.wst tM A6 (by rfl) (.tmp 7) (.tmp 16) (by rfl) (by rfl) (by rfl) ?_
          simp only [Act.put, List.setIfInBounds_toArray, List.set_cons_succ, List.set_cons_zero]
          refine wpList_plain (by rfl) fun K1 hK1 => ?_
          have H1 : Hid _ := hK1
          clear hK1
          go_wp2_with fail
          refine H1.out _ _ ?_
          clear H1
          refine wpList_plain (by rfl) fun K1 hK1 => ?_
          have H1 : Hid _ := hK1
          clear hK1
          go_wp2_with fail
          refine H1.out _ _ ?_
          clear H1
          refine wpList_nil ?_
          replace A6 := hC.set A6
          have hb2 : Below w1.heap.size w1 ((w1.alloc (.cells z16 29)).setCells w1.heap.size 0 ML) := below_setCells (by go_grown) (b := w1.heap.size) (Nat.le_refl _) ML 0
          have hTv2 := hTv.to hb2
          replace hb2 := Bel.call hb hb2
          generalize (w1.alloc (.cells z16 29)).setCells w1.heap.size 0 ML = W2 at *
          generalize w1.heap.size = b6 at *
          clear hML hC A6
          go_wp2_with fail
          refine bodyPost_ret (v := .tuple #[.slice none 0 0, .string nS, .int .i64 X]) (by simp [results, Tryz.results16, go_sem]) rfl ⟨⟨.slice none 0 0, ?_, ?_, ?_⟩, Bel.call hB hb2⟩
          · rw [HE.out.2.1, HE.out.2.2]
          · rw [HE.out.1]; exact Mgs.nil _
          · rw [HE.out.1]; exact Nat.zero_le _
end Go.Proofs.YtjdpeedghpblgaaGreatDoor
/- HandJoins, by the program's own All. -/
set_option linter.all false
set_option maxRecDepth 100000
namespace Go.Proofs.YtjdpeedghpblgaaGreatDoor
open Go.RowKit Go.Sort Go.Lib
/-- Where the reference's All tells no error, the program's is the same; where it tells one, the program's does too. -/
theorem ao_am (f : Nat) : ∀ (s : ByteArray) (acc : List Mg), s.size < f →
    (acc.length ≤ 32 → ((amF (32 - acc.length) s acc).2.2 = 0 → aoF f s acc = amF (32 - acc.length) s acc) ∧ ((amF (32 - acc.length) s acc).2.2 ≠ 0 → (aoF f s acc).2.2 ≠ 0 ∧ (aoF f s acc).1 = [])) ∧
    (acc.length = 33 → (aoF f s acc).2.2 ≠ 0 ∧ (aoF f s acc).1 = []) := by
  induction f with
  | zero => intro s acc h; omega
  | succ f ih =>
    intro s acc hf
    by_cases h0 : s.size = 0
    · have e : aoF (f + 1) s acc = dnF acc nS := by rw [aoF, if_pos h0]
      have g : ∀ k, amF k s acc = (acc, nS, 0) := fun k => by cases k <;> rw [amF, if_pos h0]
      refine ⟨fun hl => ?_, fun hl => ?_⟩
      · rw [e, g]
        unfold dnF
        rw [if_pos hl]
        exact ⟨fun _ => rfl, fun h => absurd rfl h⟩
      · rw [e]
        unfold dnF
        rw [if_neg (by omega)]
        exact ⟨by decide, rfl⟩
    by_cases h1 : rmE s = 11
    · have e : aoF (f + 1) s acc = dnF acc s := by rw [aoF, if_neg h0, if_pos h1]
      have g : ∀ k, amF k s acc = (acc, s, 0) := fun k => by cases k <;> rw [amF, if_neg h0, if_pos h1]
      refine ⟨fun hl => ?_, fun hl => ?_⟩
      · rw [e, g]
        unfold dnF
        rw [if_pos hl]
        exact ⟨fun _ => rfl, fun h => absurd rfl h⟩
      · rw [e]
        unfold dnF
        rw [if_neg (by omega)]
        exact ⟨by decide, rfl⟩
    by_cases h2 : rmE s = 0
    · have lt := rmR_lt h2
      refine ⟨fun hl => ?_, fun hl => ?_⟩
      · have e : aoF (f + 1) s acc = aoF f (rmR s) (acc ++ [rmM s]) := by rw [aoF, if_neg h0, if_neg h1, if_pos h2, if_pos hl]
        have z : (acc ++ [rmM s]).length = acc.length + 1 := by rw [List.length_append]; rfl
        obtain ⟨i1, i2⟩ := ih (rmR s) (acc ++ [rmM s]) (by omega)
        rw [e]
        by_cases h32 : acc.length = 32
        · have g : amF (32 - acc.length) s acc = ([], nS, 18) := by rw [h32, Nat.sub_self, amF, if_neg h0, if_neg h1, if_pos h2]
          rw [g]
          exact ⟨fun h => (by cases h), fun _ => i2 (by omega)⟩
        · obtain ⟨q, hq⟩ : ∃ q, 32 - acc.length = q + 1 := ⟨31 - acc.length, by omega⟩
          have g : amF (32 - acc.length) s acc = amF (32 - (acc ++ [rmM s]).length) (rmR s) (acc ++ [rmM s]) := by
            rw [hq, amF, if_neg h0, if_neg h1, if_pos h2, z, show 32 - (acc.length + 1) = q by omega]
          rw [g]
          exact i1 (by omega)
      · have e : aoF (f + 1) s acc = aoF f (rmR s) acc := by rw [aoF, if_neg h0, if_neg h1, if_pos h2, if_neg (by omega)]
        rw [e]
        exact (ih (rmR s) acc (by omega)).2 hl
    · have e : aoF (f + 1) s acc = ([], nS, rmE s) := by rw [aoF, if_neg h0, if_neg h1, if_neg h2]
      have g : ∀ k, amF k s acc = ([], nS, rmE s) := fun k => by cases k <;> rw [amF, if_neg h0, if_neg h1, if_neg h2]
      refine ⟨fun hl => ?_, fun hl => ?_⟩
      · rw [e, g]
        exact ⟨fun _ => rfl, fun h => ⟨h, rfl⟩⟩
      · rw [e]
        exact ⟨h2, rfl⟩
/-- All of the program. -/
def aloF (s : ByteArray) : List Mg × ByteArray × Int := aoF (s.size + 1) s []
theorem alo_ok (s : ByteArray) (h : (amF 32 s []).2.2 = 0) : aloF s = amF 32 s [] := ((ao_am (s.size + 1) s [] (Nat.lt_succ_self _)).1 (Nat.zero_le _)).1 h
theorem alo_no (s : ByteArray) (h : (amF 32 s []).2.2 ≠ 0) : (aloF s).2.2 ≠ 0 ∧ (aloF s).1 = [] := ((ao_am (s.size + 1) s [] (Nat.lt_succ_self _)).1 (Nat.zero_le _)).2 h
theorem alo_iff (s : ByteArray) : (aloF s).2.2 = 0 ↔ (amF 32 s []).2.2 = 0 := by
  by_cases h : (amF 32 s []).2.2 = 0
  · rw [alo_ok s h]
  · exact ⟨fun c => absurd c (alo_no s h).1, fun c => absurd c h⟩
theorem alo_fits (s : ByteArray) (hs : s.size ≤ 1000000) : ∀ m ∈ (aloF s).1, m.fits := by
  by_cases h : (amF 32 s []).2.2 = 0
  · rw [alo_ok s h]; exact amF_fits 32 s [] hs (fun m hm => by cases hm)
  · rw [(alo_no s h).2]; intro m hm; cases hm
theorem alo_len (s : ByteArray) : (aloF s).1.length ≤ 1000000 := by
  by_cases h : (amF 32 s []).2.2 = 0
  · rw [alo_ok s h]; have := amF_len 32 s []; simp at this; omega
  · rw [(alo_no s h).2]; exact Nat.zero_le _
theorem alo_joins (l : List Mg) (ho : ∀ m ∈ l, m.ok) (h : ∀ m ∈ l, ftB m = true) (hl : l.length ≤ 32) (s : ByteArray) :
    aloF (ctM l) = (l, nS, 0) ∧ ((aloF s).2.2 ≠ 0 → (aloF (ctM l ++ s)).2.2 ≠ 0) ∧ ((aloF s).2.2 = 0 → (aloF s).1.length + l.length ≤ 32 → aloF (ctM l ++ s) = (l ++ (aloF s).1, (aloF s).2.1, 0)) := by
  obtain ⟨j1, j2, j3⟩ := amF_joins l ho h hl s
  refine ⟨?_, fun hz => ?_, fun hz hn => ?_⟩
  · rw [alo_ok (ctM l) (by rw [j1]), j1]
  · intro c
    exact j2 (fun c' => hz ((alo_iff s).2 c')) ((alo_iff _).1 c)
  · have e := alo_ok s ((alo_iff s).1 hz)
    rw [e] at hn ⊢
    have q := j3 ((alo_iff s).1 hz) hn
    rw [alo_ok (ctM l ++ s) (by rw [q]), q]
theorem tC : CAc aloF := fun s W hs => hAll_any s hs W (aloF s) rfl
theorem HandJoins_own (CW : CWr) (CR : CRd) (l : List Mg) (v0 : Value) (s : ByteArray) (fits : ∀ m ∈ l, m.fits) (hl : l.length ≤ maxLen) (hz : s.size ≤ maxLen) (w : World) (H0 : Mgs w v0 l) :
    Calls Tryz.prog 6 #[v0, .string s] w fun e w' => e = .returned (.bool true) ∧ Below w.heap.size w w' := by
  have CA := tC
  have C7 := fun W => awake14 CW CR W
  by_cases h : l.length ≤ 8 ∧ s.size ≤ 20000
  · obtain ⟨h8, hs⟩ := h
    have zt : (∀ m ∈ l, ftB m = true) → (ctM l).size ≤ 66432 := fun hf => by have := ctM_size l hf; omega
    have CL : ∀ (s : ByteArray) (W : World), s.size ≤ 200000 → Calls Tryz.prog 16 #[.string s] W fun e w' => (∃ v, e = .returned (.tuple #[v, .string (aloF s).2.1, .int .i64 (aloF s).2.2]) ∧ Mgs w' v (aloF s).1) ∧ Below W.heap.size W w' := fun s W h => (CA s W h).mono fun e w' ⟨⟨v, h1, h2, _⟩, h3⟩ => ⟨⟨v, h1, h2⟩, h3⟩
    have hc := alo_fits s (by omega)
    have lc := alo_len s
    have lx := alo_len (ctM l ++ s)
    have J := fun hf => alo_joins l (fun m hm => (fits m hm).ok) hf (by omega) s
    refine HandJoins_yes l (aloF s).1 (aloF (ctM l ++ s)).1 s (aloF s).2.1 (aloF (ctM l ++ s)).2.1 (aloF s).2.2 (aloF (ctM l ++ s)).2.2 l.length rfl h8 lc lx fits hs v0 w H0
      (fun m u W hm hT => CW m u W hm.ok hm.ln hm.tx hm.nm hT) (fun hf W => ?_) (fun hf W => CL s W (by omega)) (fun hf W => CA (ctM l ++ s) W (by have := zt hf; rw [ap_size]; omega))
      (fun a b u v W la lb ha hb h1 h2 => rMsgs_fits a b (by rcases ha with rfl | rfl; exact fits; exact hc) (by rcases hb with rfl | rfl; exact fits; exact hc) la lb u v W h1 h2) (fun hf => ?_) C7
    · have := CL (ctM l) W (by have := zt hf; omega)
      rw [(J hf).1] at this
      exact this
    · refine ⟨(J hf).2.1, fun hz hn => ?_⟩
      have e := (J hf).2.2 hz hn
      rw [e]
      exact ⟨rfl, rfl, rfl⟩
  · exact HandJoins_short l v0 s hz hl h w H0 C7
end Go.Proofs.YtjdpeedghpblgaaGreatDoor
