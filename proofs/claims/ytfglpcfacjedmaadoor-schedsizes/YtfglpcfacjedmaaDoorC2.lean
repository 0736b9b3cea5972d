/- What sha.spread answers: a block's 64 words. -/
import Derived.Test.YtfglpcfacjedmaaDoorC1
set_option linter.all false
set_option maxRecDepth 100000
namespace Go.Proofs.YtfglpcfacjedmaaDoor
open Go.RowKit Go.Sort
def sg0 (a : Int) : Int := bits .xor .u32 (bits .xor .u32 (rot a 7) (rot a 18)) (a / 8)
def sg1 (a : Int) : Int := bits .xor .u32 (bits .xor .u32 (rot a 17) (rot a 19)) (a / 1024)
/-- The word that is made of those ahead of it. -/
def ext (w2 w7 w15 w16 : Int) : Int := (sg1 w2 + w7 + sg0 w15 + w16) % 4294967296
/-- The next word, the ones ahead of it the last first. -/
def nx (B : Nat → Int) (n : Nat) (l : List Int) : Int :=
  if n < 16 then bw (B (4 * n)) (B (4 * n + 1)) (B (4 * n + 2)) (B (4 * n + 3)) else ext (l.getD 1 0) (l.getD 6 0) (l.getD 14 0) (l.getD 15 0)
/-- The first n words, the last first. -/
def sl (B : Nat → Int) : Nat → List Int
  | 0 => []
  | n + 1 => nx B n (sl B n) :: sl B n
/-- The j-th word of a block. -/
def sW (B : Nat → Int) (j : Nat) : Int := nx B j (sl B j)
theorem sl_at (B : Nat → Int) : ∀ n i, i < n → (sl B n).getD i 0 = sW B (n - 1 - i) := by
  intro n
  induction n with
  | zero => intro i hi; omega
  | succ n ih =>
    intro i hi
    cases i with
    | zero => simp [sl, sW]
    | succ i =>
      show (sl B n).getD i 0 = _
      rw [ih i (by omega), show n + 1 - 1 - (i + 1) = n - 1 - i by omega]
theorem sW_lo (B : Nat → Int) (j : Nat) (hj : j < 16) : sW B j = bw (B (4 * j)) (B (4 * j + 1)) (B (4 * j + 2)) (B (4 * j + 3)) := by
  unfold sW nx; rw [if_pos hj]
theorem sW_hi (B : Nat → Int) (j : Nat) (hj : 16 ≤ j) : sW B j = ext (sW B (j - 2)) (sW B (j - 7)) (sW B (j - 15)) (sW B (j - 16)) := by
  have h : sW B j = ext ((sl B j).getD 1 0) ((sl B j).getD 6 0) ((sl B j).getD 14 0) ((sl B j).getD 15 0) := by
    unfold sW nx; rw [if_neg (by omega)]
  rw [h, sl_at B j 1 (by omega), sl_at B j 6 (by omega), sl_at B j 14 (by omega), sl_at B j 15 (by omega)]
  congr 2
/-- The words' cells. -/
def swL (B : Nat → Int) : List Value := (List.range 64).map fun j => .int .u32 (sW B j)
theorem swL_len (B : Nat → Int) : (swL B).length = 64 := by simp [swL]
theorem swL_at (B : Nat → Int) (j : Nat) (hj : j < 64) : (swL B)[j]? = some (.int .u32 (sW B j)) := by simp [swL, hj]
theorem swL_one (B : Nat → Int) : ∀ v ∈ swL B, v.oneCell' = true := by
  intro v hv
  simp only [swL, List.mem_map] at hv
  obtain ⟨j, _, rfl⟩ := hv
  rfl
theorem Tryd.info108 : (Tryd.prog.info? 108).map (·.size) = some 64 := by kernel_rfl
theorem zeros64 (j : Nat) (hj : j < 64) : (List.replicate 64 (Value.int .u32 0)).toArray[j]? = some (.int .u32 0) := by
  rw [List.getElem?_toArray, List.getElem?_replicate, if_pos hj]
theorem bt_ext (s : ByteArray) (a b i : Nat) (h : a + i < b) (hb : b ≤ s.size) : bt (s.extract a b) i = bt s (a + i) := by
  unfold bt
  rw [ByteArray.data_extract, Array.getElem?_extract, if_pos (by have : s.data.size = s.size := rfl; omega)]
theorem word_at (s : ByteArray) (hs : s.size = 64) (k : Nat) (hk : k < 16) (w : World) : Calls Tryd.prog 84 #[.string (s.extract (4 * k) (4 * k + 4))] w fun e w' => e = .returned (.int .u32 (sW (bt s) k)) ∧ Below w.heap.size w w' := by
  have := word_any (s.extract (4 * k) (4 * k + 4)) (by rw [ByteArray.size_extract]; omega) w
  rw [bt_ext s _ _ 0 (by omega) (by omega), bt_ext s _ _ 1 (by omega) (by omega), bt_ext s _ _ 2 (by omega) (by omega), bt_ext s _ _ 3 (by omega) (by omega)] at this
  rw [sW_lo _ k hk]
  exact this
theorem arr_next {w : World} {b : Nat} {g : Nat → Int} {k : Nat} (h : Arr w b 64 (fun j => .int .u32 (if j < k then g j else 0))) (hk : k < 64) : Arr (w.setCell ⟨b, k, none⟩ (.int .u32 (g k))) b 64 (fun j => .int .u32 (if j < k + 1 then g j else 0)) := by
  refine (h.set k hk _).congr ?_
  intro j hj
  by_cases e : j = k
  · subst e; simp
  · simp only [if_neg e]
    by_cases e2 : j < k
    · rw [if_pos e2, if_pos (by omega)]
    · rw [if_neg e2, if_neg (by omega)]
set_option maxHeartbeats 2000000 in
theorem spread_core (s : ByteArray) (hs : s.size = 64) (L : List Value) (g : Nat → Int) (hg : ∀ k, 16 ≤ k → k < 64 → g k = ext (g (k - 2)) (g (k - 7)) (g (k - 15)) (g (k - 16)))
    (WD : ∀ k, k < 16 → ∀ W, Calls Tryd.prog 84 #[.string (s.extract (4 * k) (4 * k + 4))] W fun e w' => e = .returned (.int .u32 (g k)) ∧ Below W.heap.size W w')
    (hlen : L.length = 64) (hat : ∀ j, j < 64 → L[j]? = some (.int .u32 (g j))) (hone : ∀ v ∈ L, v.oneCell' = true) (w : World) :
    Calls Tryd.prog 75 #[.string s] w fun e w' => e = .returned (.agg L.toArray) ∧ Below w.heap.size w w' := by
  go_enter Tryd.func75, Tryd.ntmps75
  go_wp2_with fail
  go_loopw [10] (fun i wr => ∃ k : Nat, k ≤ 16 ∧ i = .int .i64 k ∧ Below w.heap.size w wr ∧ w.heap.size + 1 < wr.heap.size ∧
      Arr wr w.heap.size 64 (fun _ => .int .u32 0) ∧ Arr wr (w.heap.size + 1) 64 (fun j => .int .u32 (if j < k then g j else 0)))
    (fun i _ => 16 - (intOf i).toNat)
  case atStart =>
    refine ⟨0, by omega, rfl, by go_grown, by go_size, ?_, ?_⟩
    · exact (Arr.new _ _ _ _ (by simp) _ 64 zeros64).alloc (by go_size) _
    · refine Arr.new _ _ _ _ (by simp) _ 64 ?_
      intro j hj
      rw [if_neg (by omega)]
      exact zeros64 j hj
  case round =>
    obtain ⟨k, hk, rfl, hB, hz, A0, A1⟩ := hrel
    by_cases hlt : k < 16
    · have k0 : (0 : Int) ≤ (k : Int) := by omega
      have k8 : (k : Int) < 16 := by omega
      have k64 : (k : Int) < 64 := by omega
      have wd := WD k hlt
      clear hg WD hlen hat hone
      go_wp2_with (go_at_call 84; refine (wd _).mono ?_; rintro e w1 ⟨rfl, hb⟩; have A0' := A0.below hb (by omega); have A1' := A1.below hb (by omega); have z2 := A1'.z k (by omega); have c2 := A1'.c k (by omega))
      refine ⟨⟨k + 1, by omega, by go_num, Bel.st (Bel.call hB hb) (by omega) _, by rw [size_set]; have := hb.size; omega, A0'.other (by omega) _, arr_next A1' (by omega)⟩, by simp [intOf]; omega⟩
    · have e16 : k = 16 := by omega
      have ek : ((k : Nat) : Int) = 16 := by omega
      rw [ek]
      clear ek
      subst e16
      clear WD
      go_wp2_with fail
      go_loopw [5] (fun i wr => ∃ k : Nat, 16 ≤ k ∧ k ≤ 64 ∧ i = .int .i64 k ∧ Below w.heap.size w wr ∧ w.heap.size + 1 < wr.heap.size ∧
          Arr wr w.heap.size 64 (fun _ => .int .u32 0) ∧ Arr wr (w.heap.size + 1) 64 (fun j => .int .u32 (if j < k then g j else 0)))
        (fun i _ => 64 - (intOf i).toNat)
      case atStart => exact ⟨16, by omega, by omega, rfl, hB, hz, A0, A1⟩
      case round =>
        clear A0 A1 hz hB hk hlt
        obtain ⟨k, hk16, hk, rfl, hB, hz, A0, A1⟩ := hrel
        by_cases hlt : k < 64
        · have k0 : (16 : Int) ≤ (k : Int) := by omega
          have k64 : (k : Int) < 64 := by omega
          clear hlen hat hone
          have gk := hg k hk16 hlt
          obtain ⟨p2, q2, e2⟩ : ∃ p : Nat, (k : Int) - 2 = (p : Int) ∧ k - 2 = p := ⟨k - 2, by omega, rfl⟩
          obtain ⟨p7, q7, e7⟩ : ∃ p : Nat, (k : Int) - 7 = (p : Int) ∧ k - 7 = p := ⟨k - 7, by omega, rfl⟩
          obtain ⟨p15, q15, e15⟩ : ∃ p : Nat, (k : Int) - 15 = (p : Int) ∧ k - 15 = p := ⟨k - 15, by omega, rfl⟩
          obtain ⟨p16, q16, e16⟩ : ∃ p : Nat, (k : Int) - 16 = (p : Int) ∧ k - 16 = p := ⟨k - 16, by omega, rfl⟩
          rw [e2, e7, e15, e16] at gk
          have l2 : (p2 : Int) < 64 := by omega
          have l7 : (p7 : Int) < 64 := by omega
          have l15 : (p15 : Int) < 64 := by omega
          have l16 : (p16 : Int) < 64 := by omega
          have c2 := A1.cv p2 (by omega) (.int .u32 (g p2)) (by rw [if_pos (by omega)])
          have c7 := A1.cv p7 (by omega) (.int .u32 (g p7)) (by rw [if_pos (by omega)])
          have c15 := A1.cv p15 (by omega) (.int .u32 (g p15)) (by rw [if_pos (by omega)])
          have c16 := A1.cv p16 (by omega) (.int .u32 (g p16)) (by rw [if_pos (by omega)])
          have r2 := fun ds os => cell_regrown c2 ds os
          have r15 := fun ds os => cell_regrown c15 ds os
          clear hg e2 e7 e15 e16
          go_wp2_with fail
          refine wp_region_quiet_below (by kernel_rfl) (by kernel_rfl) ?_
          repeat (go_big_quiet_step (fail))
          refine wpQuiet_nil ?_
          intro w1 hw'
          obtain ⟨⟨dq, osq⟩, hw''⟩ := hw'
          have hb := below_of hw''
          clear hw'' r2 r15 c2 c15
          have hB' := Bel.call hB hb
          have A0' := A0.below hb (by omega)
          have A1' := A1.below hb (by omega)
          have hz' : w.heap.size + 1 < w1.heap.size := by have := hb.size; omega
          have d7 := hb.cell (p := ⟨w.heap.size + 1, p7, none⟩) hz |>.trans c7
          have d16 := hb.cell (p := ⟨w.heap.size + 1, p16, none⟩) hz |>.trans c16
          clear A0 A1 hB hz hb c7 c16
          generalize g p2 = x2 at *
          generalize g p7 = x7 at *
          generalize g p15 = x15 at *
          generalize g p16 = x16 at *
          go_wp2_with (go_at_call 83; refine (turned_s _ _ (by first | exact amt_17 | exact amt_19 | exact amt_7 | exact amt_18) _).mono ?_; rintro e w2 ⟨rfl, rfl⟩)
          have r7 := fun ds os => cell_regrown d7 ds os
          have r16 := fun ds os => cell_regrown d16 ds os
          refine wp_region_below_tail 15 (by kernel_rfl) (by kernel_rfl) ?_
          simp only [List.take_succ_cons, List.take_zero, List.drop_succ_cons, List.drop_zero]
          repeat (go_big_quiet_step (fail))
          refine wpQuiet_nil ?_
          intro w2 hw'
          obtain ⟨⟨dq, osq⟩, hw''⟩ := hw'
          have hb := below_of hw''
          clear hw'' r7 r16 d7 d16
          have hB := Bel.call hB' hb
          have A0 := A0'.below hb (by omega)
          have A1 := A1'.below hb (by omega)
          have hz : w.heap.size + 1 < w2.heap.size := by have := hb.size; omega
          clear A0' A1' hB' hz' hb
          have z2 := A1.z k hlt
          have c2 := A1.c k hlt
          go_wp2_with fail
          rw [show (bits .xor .u32 (bits .xor .u32 (rot x2 17) (rot x2 19)) (x2 / 1024) + x7 + bits .xor .u32 (bits .xor .u32 (rot x15 7) (rot x15 18)) (x15 / 8) + x16) % 4294967296 = g k from gk.symm]
          refine ⟨?rel, ?measure⟩
          case measure => simp [intOf]; omega
          case rel =>
           exact ⟨k + 1, by omega, by omega, by go_num, Bel.st hB (by omega) _, by rw [size_set]; omega, A0.other (by omega) _, arr_next A1 (by omega)⟩
        · have k8 : k = 64 := by omega
          subst k8
          have R2 : wr.rangeAt (w.heap.size + 1) 0 L := A1.range _ hlen (by intro j hj; rw [if_pos hj]; exact hat j hj)
          have T1 := A0.there
          have sz : L.toArray.size = 64 := by rw [List.size_toArray]; exact hlen
          have h58 : (Tryd.prog.info? 108).map (·.size) = some L.length := by rw [hlen]; exact Tryd.info108
          have h58' : (Tryd.prog.info? 108).map (·.size) = some L.toArray.size := by rw [sz]; exact Tryd.info108
          have T1' : wr.there w.heap.size 0 L.toArray.size := by rw [sz]; exact T1
          have one := all_oneCell_toArray hone
          have R1 : (wr.setCells w.heap.size 0 L).rangeAt w.heap.size 0 L := World.rangeAt_setCells_same wr _ 0 _ (by rw [hlen]; exact T1)
          have lv := run_loadVar_mid (P := Tryd.prog) (wr.setCells w.heap.size 0 L) w.heap.size 0 108 L _ R1 Tryd.underlying108 rfl h58
          have LV : Hid _ := lv
          have HR2 : Hid _ := R2
          have H58 : Hid _ := h58
          have H58' : Hid _ := h58'
          have HT1 : Hid _ := T1'
          have HO : Hid _ := one
          clear A0 A1 hk T1 R1 lv sz R2 h58 h58' T1' one hat hone hlen hg
          go_upto_region 14 with (fail)
          refine wp_region_list ?_
          refine wpList_load_mid (by rfl) 108 (.tmp 3) (by rfl) _ _ (by rfl) L _ HR2.out Tryd.underlying108 rfl H58.out ?_
          refine wpList_store_mid (by rfl) 108 (.tmp 2) (.tmp 67) (by rfl) _ _ _ (by rfl) (by rfl) HT1.out H58'.out HO.out ?_
          refine wpList_nil ?_
          have lv := LV.out
          clear HR2 H58 H58' HT1 HO LV
          go_wp2_with fail
          refine bodyPost_ret (v := .agg L.toArray) (results_cell1 Tryd.results75 _ (by rfl) lv) rfl ⟨rfl, ?_⟩
          exact below_setCells hB (by omega) _ _
theorem spread_any (s : ByteArray) (hs : s.size = 64) (w : World) :
    Calls Tryd.prog 75 #[.string s] w fun e w' => e = .returned (.agg (swL (bt s)).toArray) ∧ Below w.heap.size w w' :=
  spread_core s hs (swL (bt s)) (sW (bt s)) (fun k h _ => sW_hi _ k h) (fun k hk W => word_at s hs k hk W) (swL_len _) (swL_at _) (swL_one _) w
end Go.Proofs.YtfglpcfacjedmaaDoor
