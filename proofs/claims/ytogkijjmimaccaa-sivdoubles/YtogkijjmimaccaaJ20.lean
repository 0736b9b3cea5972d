/- The tag of a row of texts: row. -/
import Derived.Test.YtogkijjmimaccaaJ19
set_option linter.all false
set_option maxRecDepth 100000
namespace Go.Proofs.Ytogkijjmimaccaa
open Go.RowKit Go.Sort Lin
/-- What the texts that go along make. -/
def rwF (key : ByteArray) (l : List ByteArray) : Nat → By := l.foldl (fun d s => pl (tw d) (cm key s)) (cm key zS)
theorem rwF_app (key : ByteArray) (l : List ByteArray) (s : ByteArray) : rwF key (l ++ [s]) = pl (tw (rwF key l)) (cm key s) := by unfold rwF; rw [List.foldl_append]; rfl
/-- The text that is tagged at the end. -/
def eT (d : Nat → By) (s : ByteArray) : ByteArray := if s.size < 16 then tx (pl (tw d) (flF s)) else s.extract 0 (s.size - 16) ++ tx (pl (bF (s.extract (s.size - 16) s.size)) d)
theorem app_size (a b : ByteArray) : (a ++ b).size = a.size + b.size := ByteArray.size_append
theorem eT_size (d : Nat → By) (s : ByteArray) (hs : s.size ≤ 1000000) : (eT d s).size ≤ 1000000 := by
  unfold eT
  split
  · rw [tx_size]; decide
  · rw [app_size, tx_size, ByteArray.size_extract]; omega
/-- The tag of a row: those that go along, and the last one. -/
def rowF (key : ByteArray) (l : List ByteArray) (s : ByteArray) : Nat → By := cm key (eT (rwF key l) s)
theorem take_snoc {l : List ByteArray} {k : Nat} {s : ByteArray} (h : l[k]? = some s) : l.take (k + 1) = l.take k ++ [s] := by
  obtain ⟨hk, e⟩ := List.getElem?_eq_some_iff.1 h
  rw [List.take_succ_eq_append_getElem hk, e]
set_option maxHeartbeats 2000000 in
theorem srow_core (key last : ByteArray) (l : List ByteArray) (v : Value) (TL L0 : List Value) (hT : Tgr TL key (k1 key) (k2 key)) (h0 : Blk L0 (rwF key [])) (hl : l.length ≤ 1000) (hls : ∀ s ∈ l, s.size ≤ 1000000) (hs : last.size ≤ 1000000) (w : World) (hv : Txs w v l)
    (C22z : ∀ W, Calls Try.prog 22 #[.agg z16c] W fun e w' => e = .returned (.string zS) ∧ Below W.heap.size W w')
    (C21z : ∀ W, Calls Try.prog 21 #[.agg TL.toArray, .string zS] W fun e w' => e = .returned (.agg L0.toArray) ∧ Below W.heap.size W w')
    (C32 : ∀ f W, Calls Try.prog 32 #[.agg (vL f).toArray] W fun e w' => e = .returned (.agg (vL (tw f)).toArray) ∧ Below W.heap.size W w')
    (C21 : ∀ s : ByteArray, s.size ≤ 1000000 → ∀ W, Calls Try.prog 21 #[.agg TL.toArray, .string s] W fun e w' => e = .returned (.agg (vL (cm key s)).toArray) ∧ Below W.heap.size W w')
    (C42 : ∀ f g W, Calls Try.prog 42 #[.agg (vL f).toArray, .agg (vL g).toArray] W fun e w' => e = .returned (.agg (vL (pl f g)).toArray) ∧ Below W.heap.size W w')
    (C44 : last.size < 16 → ∀ W, Calls Try.prog 44 #[.string last] W fun e w' => e = .returned (.agg (vL (flF last)).toArray) ∧ Below W.heap.size W w')
    (C22 : ∀ f W, Calls Try.prog 22 #[.agg (vL f).toArray] W fun e w' => e = .returned (.string (tx f)) ∧ Below W.heap.size W w')
    (C31 : ∀ s : ByteArray, ∀ W, Calls Try.prog 31 #[.string s] W fun e w' => e = .returned (.agg (vL (bF s)).toArray) ∧ Below W.heap.size W w') :
    Calls Try.prog 26 #[.agg TL.toArray, .string last, v] w fun e w' => e = .returned (.agg (vL (rowF key l last)).toArray) ∧ Below w.heap.size w w' := by
  obtain ⟨a0, n, cap, ev, hn, hc⟩ : ∃ a0 n cap, v = .slice a0 n cap ∧ l.length = n ∧ ∀ (i : Nat) (s : ByteArray), l[i]? = some s → ∃ a, a0 = some a ∧ w.cell? (a.add i) = some (.string s) := by
    rcases hv with ⟨h1, h2⟩ | ⟨a, cap, h1, -, h2⟩
    · exact ⟨none, 0, 0, h1, by rw [h2]; rfl, fun i s hi => by rw [h2] at hi; cases hi⟩
    · exact ⟨some a, l.length, cap, h1, rfl, fun i s hi => ⟨a, rfl, h2 i s hi⟩⟩
  subst ev
  have n1 : (n : Int) ≤ 1000 := by omega
  have HN : Hid (l.length = n) := hn
  clear hn hv hl
  go_enter Try.func26, Try.ntmps26
  go_upto_region 1 with (fail)
  have A1 : Arr _ _ 33 _ := (hT.new w 45 _ rfl).al' (n := 32) (.cells z16c 43)
  have A3 := new0 (w.alloc (.cells TL.toArray 45)) (w.heap.size + 1) (by simp)
  have hB : Below w.heap.size w ((w.alloc (.cells TL.toArray 45)).alloc (.cells z16c 43)) := by go_grown
  generalize ((w.alloc (.cells TL.toArray 45)).alloc (.cells z16c 43)) = W at *
  apply wp_region_alloc_tail 4 (by kernel_rfl) (by kernel_rfl) (by kernel_rfl) (.cells z16c 43) _ rfl (fun _ _ => by simp [go_sem])
  · intro W1 hW
    have B1 : Arr _ _ 33 _ := A1.to' (n := 32) hW
    simp only [List.take_succ_cons, List.take_zero]
    refine hT.qld (N := 32) t45 B1 0 (by omega) (fun j _ => by rw [Nat.zero_add]) (fun W hW => cw_bel hW) (by rfl) (.tmp 3) (by rfl) (by rfl) ?_
    simp only [Act.put, List.setIfInBounds_toArray, List.set_cons_succ, List.set_cons_zero]
    refine qval (.agg z16c) (by rfl) (fun W => by kernel_rfl) ?_
    simp only [Act.put, List.setIfInBounds_toArray, List.set_cons_succ, List.set_cons_zero]
    go_big_quiet_step ((go_at_call 22; exact Calls.regrown_of (C22z _)))
    go_big_quiet_step ((go_at_call 21; exact Calls.regrown_of (C21z _)))
    exact wpQuiet_nil rfl
  intro v1 w1 hb1 hb2
  simp only [List.drop_succ_cons, List.drop_zero]
  simp only [Act.put, List.setIfInBounds_toArray, List.set_cons_succ, List.set_cons_zero]
  have l1 := Arr.lt (n := 15) (Arr.to' (n := 15) A3 hb1)
  replace A1 : Arr _ _ 33 _ := Arr.to' (n := 32) (Arr.al' (n := 32) (Arr.to' (n := 32) A1 hb1) (.cells z16c 43)) hb2
  replace A3 : Arr _ _ 16 _ := Arr.to' (n := 15) (Arr.al' (n := 15) (Arr.to' (n := 15) A3 hb1) (.cells z16c 43)) hb2
  have A7 : Arr _ _ 16 _ := Arr.to' (n := 15) (new0 v1 _ rfl) hb2
  replace hB := Bel.call (Bel.al (Bel.call hB hb1) (.cells z16c 43)) hb2
  clear hb1 hb2 C22z C21z
  generalize v1.heap.size = p at *
  refine h0.wst t43 A7 (by rfl) (.tmp 7) (.tmp 14) (by rfl) (by rfl) (by rfl) ?_
  refine wpList_nil ?_
  replace A1 := A1.setso (b' := p) (by omega) L0 0
  replace A3 := A3.setso (b' := p) (by omega) L0 0
  replace A7 := h0.set A7
  replace hB := below_setCells hB (b := p) (by omega) L0 0
  generalize w1.setCells p 0 L0 = W2 at *
  go_wp2_with fail
  go_loopw [9, 17] (fun _ i wr => ∃ k : Nat, k ≤ n ∧ i = .int .i64 k ∧ Below w.heap.size w wr ∧ Arr wr w.heap.size 33 (tC key (k1 key) (k2 key)) ∧ Arr wr (w.heap.size + 1) 16 (vc (fun _ => 0)) ∧ Arr wr p 16 (vc (rwF key (l.take k)))) (fun _ i _ => n - (intOf i).toNat)
  case atStart => exact ⟨0, by omega, rfl, hB, A1, A3, by rw [List.take_zero]; exact A7⟩
  case round =>
    clear A1 A3 A7 hB h0
    obtain ⟨k, hk, rfl, hB, A1, A3, A7⟩ := hrel
    have k0 : (0 : Int) ≤ (k : Int) := by omega
    by_cases hlt : k < n
    · have k1' : (k : Int) < (n : Int) := by omega
      obtain ⟨s, hsk⟩ : ∃ s, l[k]? = some s := ⟨_, List.getElem?_eq_getElem (by rw [HN.out]; exact hlt)⟩
      obtain ⟨a, rfl, hca⟩ := hc k s hsk
      have cc : wr.cell? (a.add k) = some (.string s) := (hB.cell (block_lt_of_cell hca)).trans hca
      have HR : Hid (rwF key (l.take (k + 1)) = pl (tw (rwF key (l.take k))) (cm key s)) := by
        show _ = _
        rw [take_snoc hsk, rwF_app]
      have D21 := C21 s (hls s (List.mem_of_getElem? hsk))
      have hd := blk (rwF key (l.take k))
      have ho := blk (pl (tw (rwF key (l.take k))) (cm key s))
      have D32 := fun A => C32 (rwF key (l.take k)) A
      have D42 := fun A => C42 (tw (rwF key (l.take k))) (cm key s) A
      clear hca hsk
      go_upto_region 5 with (fail)
      refine wp_region_below_tail 6 (by kernel_rfl) (by kernel_rfl) ?_
      simp only [List.take_succ_cons, List.take_zero, List.drop_succ_cons, List.drop_zero]
      refine hd.qld (N := 15) t43 A7 0 (by omega) (fun j _ => by rw [Nat.zero_add]) (fun W hW => cw_bel hW) (by rfl) (.tmp 7) (by rfl) (by rfl) ?_
      simp only [Act.put, List.setIfInBounds_toArray, List.set_cons_succ, List.set_cons_zero]
      go_big_quiet_step ((go_at_call 32; exact Calls.regrown_of (D32 _)))
      refine hT.qld (N := 32) t45 A1 0 (by omega) (fun j _ => by rw [Nat.zero_add]) (fun W hW => cw_bel hW) (by rfl) (.tmp 3) (by rfl) (by rfl) ?_
      simp only [Act.put, List.setIfInBounds_toArray, List.set_cons_succ, List.set_cons_zero]
      go_big_quiet_step (fail)
      go_big_quiet_step ((go_at_call 21; exact Calls.regrown_of (D21 _)))
      go_big_quiet_step ((go_at_call 42; exact Calls.regrown_of (D42 _)))
      refine wpQuiet_nil ?_
      intro w3 hw'
      obtain ⟨⟨dq, osq⟩, hw''⟩ := hw'
      have hb := below_of hw''
      clear hw'' D32 D21 D42
      have l1 := Arr.lt (n := 15) A3
      replace A1 : Arr _ _ 33 _ := A1.to' (n := 32) hb
      replace A3 : Arr _ _ 16 _ := A3.to' (n := 15) hb
      replace A7 : Arr _ _ 16 _ := A7.to' (n := 15) hb
      replace hB := Bel.call hB hb
      clear hb
      refine ho.wst t43 A7 (by rfl) (.tmp 7) (.tmp 26) (by rfl) (by rfl) (by rfl) ?_
      refine wpList_nil ?_
      go_wp2_with fail
      refine ⟨⟨k + 1, by omega, by go_num, below_setCells hB (by omega) _ _, A1.setso (by omega) _ _, A3.setso (by omega) _ _, ?_⟩, by simp [intOf]; omega⟩
      rw [HR.out]
      exact ho.set A7
    · have e : k = n := by omega
      have k1' : ¬ (k : Int) < (n : Int) := by omega
      have HL : Hid (l.take k = l) := by
        show _ = _
        rw [List.take_of_length_le (by rw [HN.out]; omega)]
      rw [HL.out] at A7
      have HR : Hid (rowF key l last = cm key (eT (rwF key l) last)) := rfl
      clear e hc HN hls
      generalize rwF key l = d at *
      have hd := blk d
      by_cases hls : last.size < 16
      · have s1 : (last.size : Int) < 16 := by omega
        have HE : Hid (eT d last = tx (pl (tw d) (flF last))) := by
          show _ = _
          unfold eT
          rw [if_pos hls]
        have D44 := C44 hls
        have D32 := fun A => C32 d A
        have D42 := fun A => C42 (tw d) (flF last) A
        have D22 := fun A => C22 (pl (tw d) (flF last)) A
        have D21 := C21 (tx (pl (tw d) (flF last))) (by rw [tx_size]; decide)
        have ho := blk (cm key (tx (pl (tw d) (flF last))))
        clear hls hs C44 C31 C21 C32 C42 C22
        obtain ⟨K, hK⟩ : ∃ K, vL (cm key (tx (pl (tw d) (flF last)))) = K := ⟨_, rfl⟩
        rw [hK] at ho D21
        have HK : Hid (vL (cm key (tx (pl (tw d) (flF last)))) = K) := hK
        clear hK
        generalize tx (pl (tw d) (flF last)) = T at *
        go_upto_region 8 with (fail)
        refine wp_region_below_tail 8 (by kernel_rfl) (by kernel_rfl) ?_
        simp only [List.take_succ_cons, List.take_zero, List.drop_succ_cons, List.drop_zero]
        refine hT.qld (N := 32) t45 A1 0 (by omega) (fun j _ => by rw [Nat.zero_add]) (fun W hW => cw_bel hW) (by rfl) (.tmp 3) (by rfl) (by rfl) ?_
        simp only [Act.put, List.setIfInBounds_toArray, List.set_cons_succ, List.set_cons_zero]
        refine hd.qld (N := 15) t43 A7 0 (by omega) (fun j _ => by rw [Nat.zero_add]) (fun W hW => cw_bel hW) (by rfl) (.tmp 7) (by rfl) (by rfl) ?_
        simp only [Act.put, List.setIfInBounds_toArray, List.set_cons_succ, List.set_cons_zero]
        go_big_quiet_step ((go_at_call 32; exact Calls.regrown_of (D32 _)))
        go_big_quiet_step (fail)
        go_big_quiet_step ((go_at_call 44; exact Calls.regrown_of (D44 _)))
        go_big_quiet_step ((go_at_call 42; exact Calls.regrown_of (D42 _)))
        go_big_quiet_step ((go_at_call 22; exact Calls.regrown_of (D22 _)))
        go_big_quiet_step ((go_at_call 21; exact Calls.regrown_of (D21 _)))
        refine wpQuiet_nil ?_
        intro w3 hw'
        obtain ⟨⟨dq, osq⟩, hw''⟩ := hw'
        have hb := below_of hw''
        clear hw'' D32 D21 D42 D22 D44
        replace A3 : Arr _ _ 16 _ := A3.to' (n := 15) hb
        replace hB := Bel.call hB hb
        clear hb A1 A7
        have LV : Hid _ := ho.ld t43 (ho.set A3) 0 (by omega) (fun j _ => by rw [Nat.zero_add])
        refine ho.wst t43 A3 (by rfl) (.tmp 6) (.tmp 38) (by rfl) (by rfl) (by rfl) ?_
        refine wpList_nil ?_
        go_wp2_with fail
        exact bodyPost_ret (v := .agg K.toArray) (results_cell1 Try.results26 _ (by rfl) LV.out) rfl ⟨by rw [HR.out, HE.out, HK.out], below_setCells hB (by omega) _ _⟩
      · have s1 : ¬ (last.size : Int) < 16 := by omega
        obtain ⟨m, hm⟩ : ∃ m, last.size = m + 16 := ⟨last.size - 16, by omega⟩
        have HE : Hid (eT d last = last.extract 0 m ++ tx (pl (bF (last.extract m last.size)) d)) := by
          show _ = _
          unfold eT
          rw [if_neg hls, show last.size - 16 = m by omega]
        have m0 : (last.size : Int) - 16 = (m : Int) := by omega
        have m1 : (0 : Int) ≤ (m : Int) := by omega
        have m2 : (m : Int) ≤ (last.size : Int) := by omega
        have m3 : m ≤ last.size := by omega
        have m4 : (m : Int) ≤ 1000000 := by omega
        have m5 : ((last.extract 0 m).size : Int) = (m : Int) := by rw [ByteArray.size_extract]; omega
        have D31 := C31 (last.extract m last.size)
        have D42 := fun A => C42 (bF (last.extract m last.size)) d A
        have D22 := fun A => C22 (pl (bF (last.extract m last.size)) d) A
        have D21 := C21 (last.extract 0 m ++ tx (pl (bF (last.extract m last.size)) d)) (by rw [app_size, tx_size, ByteArray.size_extract]; omega)
        have ho := blk (cm key (last.extract 0 m ++ tx (pl (bF (last.extract m last.size)) d)))
        obtain ⟨K, hK⟩ : ∃ K, vL (cm key (last.extract 0 m ++ tx (pl (bF (last.extract m last.size)) d))) = K := ⟨_, rfl⟩
        rw [hK] at ho D21
        have HK : Hid (vL (cm key (last.extract 0 m ++ tx (pl (bF (last.extract m last.size)) d))) = K) := hK
        have t1 : ((tx (pl (bF (last.extract m last.size)) d)).size : Int) = 16 := by rw [tx_size]; rfl
        clear hK hm hls hs C44 C31 C21 C32 C42 C22
        generalize pl (bF (last.extract m last.size)) d = g at *
        generalize tx g = T at *
        go_upto_region 10 with (fail)
        refine wp_region_below_tail 13 (by kernel_rfl) (by kernel_rfl) ?_
        simp only [List.take_succ_cons, List.take_zero, List.drop_succ_cons, List.drop_zero]
        refine hT.qld (N := 32) t45 A1 0 (by omega) (fun j _ => by rw [Nat.zero_add]) (fun W hW => cw_bel hW) (by rfl) (.tmp 3) (by rfl) (by rfl) ?_
        simp only [Act.put, List.setIfInBounds_toArray, List.set_cons_succ, List.set_cons_zero]
        go_big_quiet_step (fail)
        go_big_quiet_step (fail)
        go_big_quiet_step (fail)
        go_big_quiet_step (fail)
        go_big_quiet_step (fail)
        go_big_quiet_step (fail)
        go_big_quiet_step ((go_at_call 31; exact Calls.regrown_of (D31 _)))
        refine hd.qld (N := 15) t43 A7 0 (by omega) (fun j _ => by rw [Nat.zero_add]) (fun W hW => cw_bel hW) (by rfl) (.tmp 7) (by rfl) (by rfl) ?_
        simp only [Act.put, List.setIfInBounds_toArray, List.set_cons_succ, List.set_cons_zero]
        go_big_quiet_step ((go_at_call 42; exact Calls.regrown_of (D42 _)))
        go_big_quiet_step ((go_at_call 22; exact Calls.regrown_of (D22 _)))
        go_big_quiet_step (fail)
        go_big_quiet_step ((go_at_call 21; exact Calls.regrown_of (D21 _)))
        refine wpQuiet_nil ?_
        intro w3 hw'
        obtain ⟨⟨dq, osq⟩, hw''⟩ := hw'
        have hb := below_of hw''
        clear hw'' D31 D21 D42 D22
        replace A3 : Arr _ _ 16 _ := A3.to' (n := 15) hb
        replace hB := Bel.call hB hb
        clear hb A1 A7
        have LV : Hid _ := ho.ld t43 (ho.set A3) 0 (by omega) (fun j _ => by rw [Nat.zero_add])
        refine ho.wst t43 A3 (by rfl) (.tmp 6) (.tmp 54) (by rfl) (by rfl) (by rfl) ?_
        refine wpList_nil ?_
        go_wp2_with fail
        exact bodyPost_ret (v := .agg K.toArray) (results_cell1 Try.results26 _ (by rfl) LV.out) rfl ⟨by rw [HR.out, HE.out, HK.out], below_setCells hB (by omega) _ _⟩
theorem srow_any (key last : ByteArray) (hk : Key key) (l : List ByteArray) (v : Value) (hl : l.length ≤ 1000) (hls : ∀ s ∈ l, s.size ≤ 1000000) (hs : last.size ≤ 1000000) (w : World) (hv : Txs w v l) :
    Calls Try.prog 26 #[.agg (tL key (k1 key) (k2 key)).toArray, .string last, v] w fun e w' => e = .returned (bB (rowF key l last)) ∧ Below w.heap.size w w' := by
  have C22z : ∀ W, Calls Try.prog 22 #[.agg z16c] W fun e w' => e = .returned (.string zS) ∧ Below W.heap.size W w' := fun W => stext_any (fun _ => 0) W
  have C21z : ∀ W, Calls Try.prog 21 #[.agg (tL key (k1 key) (k2 key)).toArray, .string zS] W fun e w' => e = .returned (.agg (vL (rwF key [])).toArray) ∧ Below W.heap.size W w' := fun W => by
    have e : rwF key [] = cm key zS := by unfold rwF; rw [List.foldl_nil]
    rw [e]
    exact stag_any key zS hk (by rw [zS_size]; decide) W
  have hT := tgr key (k1 key) (k2 key)
  have h0 := blk (rwF key [])
  have C21 : ∀ s : ByteArray, s.size ≤ 1000000 → ∀ W, Calls Try.prog 21 #[.agg (tL key (k1 key) (k2 key)).toArray, .string s] W fun e w' => e = .returned (.agg (vL (cm key s)).toArray) ∧ Below W.heap.size W w' := fun s hs W => stag_any key s hk hs W
  generalize tL key (k1 key) (k2 key) = TL at *
  generalize vL (rwF key []) = L0 at *
  exact srow_core key last l v TL L0 hT h0 hl hls hs w hv C22z C21z (fun f W => stwice_any f W) C21 (fun f g W => splus_any f g W) (fun h W => sfilled_any last h W) (fun f W => stext_any f W) (fun s W => sblockOf_any s W)
end Go.Proofs.Ytogkijjmimaccaa
