/- Texts joined: R3, R6. -/
import Derived.ArgAppend
import Derived.Laws.IdiomStrings
import Derived.Test.YtjaljnfijhfkcaaGreatDoorJ27
/- Rows of bytes that grow. -/
set_option linter.all false
set_option maxRecDepth 100000
namespace Go.Proofs.YtjaljnfijhfkcaaGreatDoor
open Go.RowKit Go.Sort
/-- A row of n bytes, with room for more. -/
def Rw (w : World) (g n cap : Nat) (f : Nat → By) : Prop := n ≤ cap ∧ ∃ F, Arr w g cap F ∧ ∀ j, j < n → F j = bc f j
theorem Rw.c {w : World} {g n cap : Nat} {f : Nat → By} (h : Rw w g n cap f) (j : Nat) (hj : j < n) : w.cell? ⟨g, j, none⟩ = some (bc f j) := by
  obtain ⟨hl, F, hA, hF⟩ := h
  rw [hA.c j (by omega), hF j hj]
theorem Rw.lt {w : World} {g n cap : Nat} {f : Nat → By} (h : Rw w g (n + 1) cap f) : g < w.heap.size := block_lt_of_cell (h.c 0 (by omega))
theorem Rw.to {w w' : World} {g n cap : Nat} {f : Nat → By} (h : Rw w g (n + 1) cap f) (hb : Below w.heap.size w w') : Rw w' g (n + 1) cap f := by
  have hl := h.lt
  obtain ⟨h1, F, hA, hF⟩ := h
  exact ⟨h1, F, hA.below hb hl, hF⟩
theorem Rw.al {w : World} {g n cap : Nat} {f : Nat → By} (h : Rw w g (n + 1) cap f) (o : Obj) : Rw (w.alloc o) g (n + 1) cap f := h.to (Bel.al (Below.refl _ w) o)
theorem Rw.other {w w' : World} {g x n cap : Nat} {f : Nat → By} (h : Rw w g (n + 1) cap f) (hg : w.grownBy w' (some x)) (hne : g ≠ x) : Rw w' g (n + 1) cap f := by
  obtain ⟨h1, F, hA, hF⟩ := h
  obtain ⟨c, rfl⟩ : ∃ c, cap = c + 1 := ⟨cap - 1, by omega⟩
  exact ⟨h1, F, gb_arr hg hne hA, hF⟩
theorem Rw.arr {w : World} {g cap : Nat} {f : Nat → By} (h : Rw w g 16 cap f) : Arr w g 16 (bc f) := by
  obtain ⟨h1, F, hA, hF⟩ := h
  intro j hj
  rw [← hF j hj]
  exact hA j (by omega)
theorem Rw.congr {w : World} {g n cap : Nat} {f h : Nat → By} (hR : Rw w g n cap f) (e : ∀ j, j < n → f j = h j) : Rw w g n cap h := by
  obtain ⟨h1, F, hA, hF⟩ := hR
  exact ⟨h1, F, hA, fun j hj => by rw [hF j hj]; unfold bc; rw [e j hj]⟩
theorem Rw.of_owns {w : World} {base n : Nat} {v : Value} {f : Nat → By} (h : w.ownsRow base 5 1 v (n + 1) ((List.range (n + 1)).map (bc f))) : ∃ g cap, v = .slice (some ⟨g, 0, none⟩) (n + 1) cap ∧ base ≤ g ∧ Rw w g (n + 1) cap f := by
  rcases h.2 with ⟨_, h0⟩ | ⟨g, cap, cur, hv, hb, hh, hc, hm, hs, ht⟩
  · omega
  · refine ⟨g, cap, hv, hb, hc, fun j => cur.getD j undef, ?_, ?_⟩
    · intro j hj
      have hjs : j < cur.size := by omega
      constructor
      · rw [cell_of_row w g j cur 5 (0, 0) hh]
        simp [hjs]
      · simp [World.frozen?, hh]
    · intro j hj
      have hjs : j < cur.size := by omega
      have e : (cur.toList.take ((n + 1) * 1))[j]? = some (bc f j) := by rw [ht]; simp [hj]
      rw [List.getElem?_take, if_pos (by omega), Array.getElem?_toList] at e
      simp only [Array.getD_eq_getD_getElem?]
      rw [e]
      rfl
theorem wpList_app1 (w : World) {ops : Array Oper} {rest : List Oper} {o : Oper} {a : Act} {Q : Exit → Act → World → Prop} (hgd : o.guard = none) (s x : Operand)
    (hop : o.op = Op.call { callee := Callee.builtin Builtin.append, args := #[s, x], argTypes := #[50, 50] }) (g n cap : Nat) (f : Nat → By) (hs : a.eval s = .slice (some ⟨g, 0, none⟩) n cap) (hR : Rw w g n cap f)
    (q c : Nat) (hx : a.eval x = .slice (some ⟨q, 0, none⟩) 1 c) (hc : w.cell? ⟨q, 0, none⟩ = some (bc f n)) (hn : n ≤ 1000000)
    (h : ∀ g' cap' w', Rw w' g' (n + 1) cap' f → (g' = g ∨ w.heap.size ≤ g') → w.grownBy w' (some g) → wpList Tryz.prog ops Q rest (a.put o.dst (.slice (some ⟨g', 0, none⟩) (n + 1) cap')) w') : wpList Tryz.prog ops Q (o :: rest) a w := by
  obtain ⟨i0, hi, hz0, hz1, hz2⟩ := info_parts Tryz.info5
  have hap : (List.range n).map (bc f) ++ [bc f n] = (List.range (n + 1)).map (bc f) := by rw [List.range_succ, List.map_append]; rfl
  refine wpList_append_arg w hgd s x 50 hop 5 i0 (.int .u8 0) 1 1 Tryz.underlying50 hi hz0 hz1 hz2 rfl (by decide) g 0 n cap ((List.range n).map (bc f)) hs (by simp) ?_ ⟨q, 0, none⟩ 1 c [bc f n] hx rfl ?_ ?_ ?_ ?_ ?_ ?_ ?_
  · intro j u hu
    have hj : j < n := by have := (List.getElem?_eq_some_iff.1 hu).1; simpa using this
    rw [Nat.zero_add, hR.c j hj, ← hu]
    simp [hj]
  · intro j u hu
    obtain rfl : j = 0 := by have := (List.getElem?_eq_some_iff.1 hu).1; simpa using this
    rw [Addr.add_mid, hc]
    exact hu
  · intro u hu
    rw [List.mem_singleton.1 hu]; rfl
  · intro hroom j hj
    obtain rfl : j = 0 := by simpa using hj
    obtain ⟨h1, F, hA, hF⟩ := hR
    rw [Nat.zero_add, Nat.mul_one, Nat.add_zero]
    exact ⟨by rw [hA.c n (by omega)]; rfl, hA.z n (by omega)⟩
  · unfold maxLen; omega
  · omega
  · intro hroom
    rw [Nat.zero_add, Nat.mul_one]
    refine h g cap _ ?_ (.inl rfl) (gb_sets _ _ _ _)
    obtain ⟨h1, F, hA, hF⟩ := hR
    refine ⟨by omega, _, hA.set n (by omega) (bc f n), fun j hj => ?_⟩
    by_cases e : j = n
    · subst e; rw [if_pos rfl]
    · rw [if_neg e, hF j (by omega)]
  · intro hgr v' w' hown hg
    rw [hap] at hown
    obtain ⟨g', cap', rfl, hb, hR'⟩ := Rw.of_owns hown
    exact h g' cap' w' hR' (.inr hb) ⟨hg.os, hg.tape, hg.output, hg.size, fun k hk _ => hg.block k hk (by intro e; cases e)⟩
/-- A text's bytes as a new row. -/
theorem conv_rw (W : World) (s : ByteArray) (hs : 0 < s.size) : ∃ cap W', (convert 9 50 (.string s)).run Tryz.prog W = .ok (.slice (some ⟨W.heap.size, 0, none⟩) s.size cap) W' ∧ Rw W' W.heap.size s.size cap (bF s) ∧ Below W.heap.size W W' := by
  have h := run_bytes_of_string (P := Tryz.prog) W 9 50 5 s Tryz.underlying9 Tryz.underlying50 Tryz.underlying5
  have hge := grownCap_ge W s.size 0 5
  generalize grownCap W s.size 0 5 = cap at *
  have hsz : (bytesRow s cap).size = cap := by
    unfold bytesRow
    simp
    have : s.data.size = s.size := rfl
    omega
  refine ⟨cap, _, h, ⟨hge, fun j => (bytesRow s cap).getD j undef, ?_, ?_⟩, ?_⟩
  · intro j hj
    have hh : (W.drew.alloc (.cells (bytesRow s cap) 5 ((bytesRow s cap).size, (bytesRow s cap).size + 1))).heap[W.heap.size]? = some (.cells (bytesRow s cap) 5 ((bytesRow s cap).size, (bytesRow s cap).size + 1)) := World.alloc_heap_new W.drew _
    constructor
    · rw [cell_of_row _ W.heap.size j _ 5 _ hh]
      simp [hsz, hj]
    · simp only [World.frozen?, hh]
      simp [hsz]
      omega
  · intro j hj
    have hd : s.data.size = s.size := rfl
    have e : (bytesRow s cap)[j]? = some (bc (bF s) j) := by
      unfold bytesRow
      rw [Array.getElem?_append_left (by simp; omega), Array.getElem?_map, Array.getElem?_eq_getElem (by omega)]
      unfold bc
      rw [← bF_bt]
      unfold bt
      rw [Array.getElem?_eq_getElem (by omega)]
      rfl
    simp only [Array.getD_eq_getD_getElem?]
    rw [e]
    rfl
  · exact ((Below.refl _ W).drew).alloc (Nat.le_refl _) _
end Go.Proofs.YtjaljnfijhfkcaaGreatDoor
/- The reference: a block turned by a key's words. -/
set_option linter.all false
set_option maxRecDepth 100000
namespace Go.Proofs.YtjaljnfijhfkcaaGreatDoor
open Go.RowKit Go.Sort
theorem conv_tx (W : World) (gb cb : Nat) (f : Nat → By) (hA : Arr W gb 16 (bc f)) : (convert 50 9 (.slice (some ⟨gb, 0, none⟩) 16 cb)).run Tryz.prog W = .ok (.string (tx f)) W := by
  refine convC W gb 16 cb ((List.range 16).map fun j => ((f j).val : Int)) (by simp) ?_
  intro j u hu
  have hj : j < 16 := by have := (List.getElem?_eq_some_iff.1 hu).1; simpa using this
  rw [Addr.add_mid, Nat.zero_add, hA.c j hj, ← hu]
  simp [hj, bc]
theorem c4_at (j : Nat) (a b c d : By) (hj : j < 4) : (#[.int .u8 (a.val : Int), .int .u8 (b.val : Int), .int .u8 (c.val : Int), .int .u8 (d.val : Int)] : Array Value)[j]? = some (bc (bQ (a, b, c, d)) j) := by
  have : j = 0 ∨ j = 1 ∨ j = 2 ∨ j = 3 := by omega
  rcases this with rfl | rfl | rfl | rfl <;> rfl
set_option maxHeartbeats 8000000 in
theorem rencrypt_core (key block : ByteArray) (hb16 : block.size = 16) (M X gw cw : Nat) (KB : Nat → By) (E : Nat → Nat → By) (hX : 1 < X) (hX15 : X ≤ 15) (HMX : Hid (M = 16 * X)) (hcw : M ≤ cw)
    (hE1 : ∀ j, j < 16 → E 1 j = plF (bF block) KB j)
    (hEm : ∀ x, 1 ≤ x → x + 1 < X → ∀ j, j < 16 → E (x + 1) j = plF (mxF 2 3 1 1 (tnF (beF sb (E x)))) (fun j => KB (16 * x + j)) j)
    (hEl : ∀ x, x + 1 = X → ∀ j, j < 16 → E (x + 1) j = plF (tnF (beF sb (E x))) (fun j => KB (16 * x + j)) j)
    (w : World) (hgw : gw < w.heap.size) (hW : ∀ j, j < M → w.cell? ⟨gw, j, none⟩ = some (bc KB j)) :
    Calls Tryz.prog 66 #[.slice (some ⟨gw, 0, none⟩) M cw, .string block] w fun e w' => e = .returned (.string (tx (E X))) ∧ Below w.heap.size w w' := by
  obtain ⟨cap0, W0, hcv, hR0, hB0⟩ := conv_rw w block (by omega)
  rw [hb16] at hcv hR0
  have A0 := hR0.arr
  have m16 : (16 : Int) ≤ (M : Int) := by have := HMX.out; omega
  have mcw : (M : Int) ≤ (cw : Int) := by omega
  have hW0 : ∀ j, j < 16 → W0.cell? ⟨gw, 0 + j, none⟩ = some (bc KB j) := fun j hj => by rw [Nat.zero_add]; exact (hB0.cell (p := ⟨gw, j, none⟩) hgw).trans (hW j (by have := HMX.out; omega))
  have C34 := rplus_any (bF block) KB w.heap.size gw 0 cap0 cw (by omega) W0 A0 hW0
  have HEm : Hid _ := hEm
  have HEl : Hid _ := hEl
  have HW : Hid _ := hW
  clear hR0 hW0 hEm hEl hW
  go_enter Tryz.func66, Tryz.ntmps66
  go_wp2_with fail
  refine C34.mono ?_
  rintro e w1 ⟨rfl, hG1, A1⟩
  have B1 := gb_below hB0 hG1 (Nat.le_refl _)
  have A1' : Arr w1 w.heap.size 16 (bc (E 1)) := A1.congr (fun j hj => by unfold bc; rw [hE1 j hj])
  clear C34 hG1 A1 A0 hB0 hcv hE1
  go_wp2_with fail
  go_loopw [5, 6] (fun v i wr => ∃ x y gb cb : Nat, 1 ≤ x ∧ x ≤ X ∧ y = 16 * x ∧ v = .slice (some ⟨gb, 0, none⟩) 16 cb ∧ i = .int .i64 (y : Int) ∧ Arr wr gb 16 (bc (E x)) ∧ Below w.heap.size w wr ∧ w.heap.size ≤ gb) (fun _ i _ => M - (intOf i).toNat)
  case atStart => exact ⟨1, 16, w.heap.size, cap0, by omega, by omega, by omega, rfl, rfl, A1', B1, Nat.le_refl _⟩
  case round =>
    clear A1' B1
    obtain ⟨x, y, gb, cb, hx1, hx2, hy, rfl, rfl, A, hB, hgb⟩ := hrel
    have y0 : (0 : Int) ≤ (y : Int) := by omega
    by_cases hlt : x < X
    · have yM : (y : Int) < (M : Int) := by have := HMX.out; omega
      have HY : Hid (y = 16 * x) := hy
      have yb : (y : Int) ≤ 224 := by omega
      have Mb : (M : Int) ≤ 240 := by have := HMX.out; omega
      clear hy
      go_wp2_with fail
      go_loopw [7] (fun i wr => ∃ m : Nat, m ≤ 16 ∧ i = .int .i64 m ∧ Arr wr gb 16 (bm (beF sb (E x)) (E x) m) ∧ Below w.heap.size w wr) (fun i _ => 16 - (intOf i).toNat)
      case atStart => exact ⟨0, by omega, rfl, A.congr (fun j _ => by unfold bm bc; rw [if_neg (by omega)]), hB⟩
      case round =>
        clear A hB
        obtain ⟨m, hm, rfl, A, hB⟩ := hrel
        have m0 : (0 : Int) ≤ (m : Int) := by omega
        by_cases hlm : m < 16
        · have m1 : (m : Int) < 16 := by omega
          have c := A.cv m hlm (.int .u8 ((E x m).val : Int)) (by unfold bm; rw [if_neg (by omega)])
          have z := A.z m hlm
          have C11 := rsub_any (E x m) wr
          have HN : Hid (sb (E x m) = beF sb (E x) m) := rfl
          go_wp2_with fail
          refine C11.mono ?_
          rintro e w2 ⟨rfl, rfl⟩
          clear C11
          go_wp2_with fail
          refine ⟨⟨m + 1, by omega, by go_num, (A.set m hlm _).congr ?_, Bel.st hB hgb _⟩, by simp [intOf]; omega⟩
          intro j hj
          unfold bm
          by_cases e : j = m
          · subst e; rw [if_pos rfl, if_pos (by omega), HN.out]
          · rw [if_neg e]
            by_cases e2 : j < m
            · rw [if_pos e2, if_pos (by omega)]
            · rw [if_neg e2, if_neg (by omega)]
        · have e : m = 16 := by omega
          rw [show ((m : Nat) : Int) = 16 by omega]
          subst e
          have A2 : Arr wr gb 16 (bc (beF sb (E x))) := A.congr fun j hj => by unfold bm bc; rw [if_pos hj]
          have C36 := rturned_any (beF sb (E x)) gb cb wr A2
          have s1 := hB.size
          clear A A2 hm hlm m0
          go_wp2_with fail
          refine C36.mono ?_
          rintro e w2 ⟨rfl, hb2, A2⟩
          have B2 := Bel.call hB hb2
          have HG2 : w.heap.size ≤ wr.heap.size := s1
          clear C36 hB hb2 s1 hgb
          generalize wr.heap.size = gc at A2 HG2 ⊢
          have nce : ¬ cw = 16 * x := by have := HMX.out; omega
          have nyc : ¬ cw = y := by have := HMX.out; have := HY.out; omega
          have l1 : (y : Int) + 16 ≤ (cw : Int) := by have := HMX.out; have := HY.out; omega
          by_cases hlx : x + 1 < X
          · have l2 : (y : Int) + 16 < (M : Int) := by have := HMX.out; have := HY.out; omega
            have T3 : Arr (w2.alloc (.cells #[.int .u8 2, .int .u8 3, .int .u8 1, .int .u8 1] 5)) w2.heap.size 4 (bc (bQ (2, 3, 1, 1))) := Arr.new _ _ 5 _ rfl _ 4 (fun j hj => c4_at j 2 3 1 1 hj)
            have A3 := A2.al' (.cells #[.int .u8 2, .int .u8 3, .int .u8 1, .int .u8 1] 5)
            have B3 := Bel.al B2 (.cells #[.int .u8 2, .int .u8 3, .int .u8 1, .int .u8 1] 5)
            have C35 := rmixed_any (tnF (beF sb (E x))) (bQ (2, 3, 1, 1)) gc 16 w2.heap.size 4 _ A3 T3
            have s3 := B3.size
            go_wp2_with fail
            refine C35.mono ?_
            rintro e w4 ⟨rfl, hb4, A4⟩
            have B4 := Bel.call B3 hb4
            have HG4 := s3
            clear C35 A2 A3 B2 B3 T3 hb4 s3
            generalize (w2.alloc (.cells #[.int .u8 2, .int .u8 3, .int .u8 1, .int .u8 1] 5)).heap.size = gd at A4 HG4 ⊢
            have hWk : ∀ j, j < 16 → w4.cell? ⟨gw, y + j, none⟩ = some (bc (fun j => KB (16 * x + j)) j) := fun j hj => by
              rw [HY.out]
              exact (B4.cell (p := ⟨gw, 16 * x + j, none⟩) hgw).trans (HW.out (16 * x + j) (by have := HMX.out; omega))
            have C34 := rplus_core (mxF 2 3 1 1 (tnF (beF sb (E x)))) (fun j => KB (16 * x + j)) (E (x + 1)) (HEm.out x hx1 hlx) gd gw y 16 (cw - y) (by omega) w4 A4 hWk
            clear hWk
            go_wp2_with fail
            refine C34.mono ?_
            rintro e v9 ⟨rfl, hG9, A9⟩
            have B9 := gb_below B4 hG9 HG4
            clear C34 hG9
            go_wp2_with fail
            refine ⟨⟨x + 1, y + 16, gd, 16, by omega, by omega, by have := HY.out; omega, rfl, by go_num, A9, B9, HG4⟩, by simp [intOf]; omega⟩
          · have l2 : ¬ (y : Int) + 16 < (M : Int) := by have := HMX.out; have := HY.out; omega
            have hWk : ∀ j, j < 16 → w2.cell? ⟨gw, y + j, none⟩ = some (bc (fun j => KB (16 * x + j)) j) := fun j hj => by
              rw [HY.out]
              exact (B2.cell (p := ⟨gw, 16 * x + j, none⟩) hgw).trans (HW.out (16 * x + j) (by have := HMX.out; omega))
            have C34 := rplus_core (tnF (beF sb (E x))) (fun j => KB (16 * x + j)) (E (x + 1)) (HEl.out x (by omega)) gc gw y 16 (cw - y) (by omega) w2 A2 hWk
            clear hWk
            go_wp2_with fail
            refine C34.mono ?_
            rintro e v9 ⟨rfl, hG9, A9⟩
            have B9 := gb_below B2 hG9 HG2
            clear C34 hG9
            go_wp2_with fail
            refine ⟨⟨x + 1, y + 16, gc, 16, by omega, by omega, by have := HY.out; omega, rfl, by go_num, A9, B9, HG2⟩, by simp [intOf]; omega⟩
    · have e : x = X := by omega
      have yM : ¬ (y : Int) < (M : Int) := by have := HMX.out; omega
      clear hy
      subst e
      have cv := conv_tx wr gb cb (E x) A
      obtain ⟨T, hT⟩ : ∃ T, tx (E x) = T := ⟨_, rfl⟩
      rw [hT] at cv
      have HT : Hid (tx (E x) = T) := hT
      clear hT
      clear A
      go_wp2_with fail
      go_ret
      exact ⟨by rw [HT.out]; rfl, hB⟩
end Go.Proofs.YtjaljnfijhfkcaaGreatDoor
