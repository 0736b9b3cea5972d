/- Texts crossed with a stream. -/
import Derived.Test.YtogkijjmimaccaaJ22
import Derived.Test.YtogkijjmimaccaaJ23
set_option linter.all false
set_option maxRecDepth 100000
namespace Go.Proofs.Ytogkijjmimaccaa
open Go.RowKit Go.Sort Lin
/-- Two texts xor each other, as long as the first. -/
def xL (n : Nat) (f g : Nat → By) : List Int := (List.range n).map fun j => ((xr (f j) (g j)).val : Int)
def xS (a b : ByteArray) : ByteArray := mkS (xL a.size (bF a) (bF b))
theorem xS_size (a b : ByteArray) : (xS a b).size = a.size := by unfold xS xL; rw [mkS_size]; simp
/-- A text's bytes as a new row, of no bytes, too. -/
theorem conv_row (W : World) (s : ByteArray) : ∃ cap W', (convert 9 38 (.string s)).run Try.prog W = .ok (.slice (some ⟨W.heap.size, 0, none⟩) s.size cap) W' ∧ Arr W' W.heap.size s.size (vc (bF s)) ∧ W.heap.size < W'.heap.size ∧ Below W.heap.size W W' := by
  have h := run_bytes_of_string (P := Try.prog) W 9 38 5 s Try.underlying9 Try.underlying38 Try.underlying5
  have hge := grownCap_ge W s.size 0 5
  generalize grownCap W s.size 0 5 = cap at *
  have hsz : (bytesRow s cap).size = cap := by
    unfold bytesRow
    simp
    have : s.data.size = s.size := rfl
    omega
  refine ⟨cap, _, h, ?_, ?_, ?_⟩
  · intro j hj
    have hh : (W.drew.alloc (.cells (bytesRow s cap) 5 ((bytesRow s cap).size, (bytesRow s cap).size + 1))).heap[W.heap.size]? = some (.cells (bytesRow s cap) 5 ((bytesRow s cap).size, (bytesRow s cap).size + 1)) := World.alloc_heap_new W.drew _
    have hd : s.data.size = s.size := rfl
    have e : (bytesRow s cap)[j]? = some (vc (bF s) j) := by
      unfold bytesRow
      rw [Array.getElem?_append_left (by simp; omega), Array.getElem?_map, Array.getElem?_eq_getElem (by omega)]
      unfold vc
      rw [← bF_bt]
      unfold bt
      rw [Array.getElem?_eq_getElem (by omega)]
      rfl
    constructor
    · rw [cell_of_row _ W.heap.size j _ 5 _ hh, e]
    · simp only [World.frozen?, hh]
      simp [hsz]
      omega
  · show W.heap.size < (W.drew.alloc _).heap.size
    rw [World.size_alloc]
    exact Nat.lt_succ_self _
  · exact ((Below.refl _ W).drew).alloc (Nat.le_refl _) _
theorem and8 (a b : By) : bits .and .u8 (a.val : Int) (b.val : Int) = ((an a b).val : Int) := (bits_ao8 _ _ a.2 b.2).1
/-- A tag as a stream's first block. -/
def mk (v : Nat → By) (j : Nat) : By := if j = 8 ∨ j = 12 then an (v j) 127 else v j
theorem mk_8 (v : Nat → By) : ∀ j, j < 16 → (if j = 8 then Value.int .u8 ((an (v 8) 127).val : Int) else vc v j) = vc (fun j => if j = 8 then an (v j) 127 else v j) j := fun j _ => by
  unfold vc
  dsimp only
  by_cases e : j = 8
  · subst e; rw [if_pos rfl, if_pos rfl]
  · rw [if_neg e, if_neg e]
theorem mk_12 (v : Nat → By) : ∀ j, j < 16 → (if j = 12 then Value.int .u8 ((an (v 12) 127).val : Int) else vc (fun j => if j = 8 then an (v j) 127 else v j) j) = vc (mk v) j := fun j _ => by
  unfold vc mk
  dsimp only
  by_cases e : j = 12
  · subst e; rw [if_pos rfl, if_pos (.inr rfl)]
  · rw [if_neg e]
    by_cases e2 : j = 8
    · rw [if_pos e2, if_pos (.inl e2)]
    · rw [if_neg e2, if_neg (fun q => q.elim e2 e)]
/-- A row of which the first k bytes are crossed. -/
def crF (f g : Nat → By) (k j : Nat) : By := if j < k then xr (f j) (g j) else f j
theorem crF_set (f g : Nat → By) (k n : Nat) : ∀ j, j < n → (if j = k then Value.int .u8 ((xr (f k) (g k)).val : Int) else vc (crF f g k) j) = vc (crF f g (k + 1)) j := fun j hj => by
  unfold vc crF
  by_cases e : j = k
  · subst e; rw [if_pos rfl, if_pos (by omega)]
  · rw [if_neg e]
    by_cases e2 : j < k
    · rw [if_pos e2, if_pos (by omega)]
    · rw [if_neg e2, if_neg (by omega)]
set_option maxHeartbeats 1000000 in
theorem scrossed_core (SL L M : List Value) (key h first text st T : ByteArray) (f g v : Nat → By) (x : Int) (hS : Slr SL key f g h) (hL : Blk L v) (hM : Blk M (mk v)) (hst : st.size = text.size) (hm : text.size ≤ 1000000) (hT : mkS (xL text.size (bF text) (bF st)) = T) (w : World)
    (C22 : ∀ W, Calls Try.prog 22 #[.agg M.toArray] W fun e w' => e = .returned (.string first) ∧ Below W.heap.size W w')
    (C45 : ∀ W, Calls Try.prog 45 #[.string h, .string first, .int .i64 (text.size : Int)] W fun e w' => e = .returned (.tuple #[.string st, .int .i64 x]) ∧ Below W.heap.size W w') :
    Calls Try.prog 34 #[.agg SL.toArray, .agg L.toArray, .string text] w fun e w' => e = .returned (.string T) ∧ Below w.heap.size w w' := by
  have tm : (text.size : Int) ≤ 1000000 := by omega
  go_enter Try.func34, Try.ntmps34
  go_upto_region 1 with (fail)
  have A1 : Arr _ _ 34 _ := (hS.new w 57 _ rfl).al' (n := 33) (.cells L.toArray 43)
  have A2 := hL.new (w.alloc (.cells SL.toArray 57)) 43 (w.heap.size + 1) (by simp)
  have hB : Below w.heap.size w ((w.alloc (.cells SL.toArray 57)).alloc (.cells L.toArray 43)) := by go_grown
  generalize (w.alloc (.cells SL.toArray 57)).alloc (.cells L.toArray 43) = W at *
  have c8 := A2.cv 8 (by omega) (.int .u8 ((v 8).val : Int)) rfl
  have z8 := A2.z 8 (by omega)
  have X8 := and8 (v 8) 127
  rw [show (((127 : By).val : Nat) : Int) = 127 from rfl] at X8
  go_upto_region 2 with (fail)
  replace A1 := A1.other (b' := w.heap.size + 1) (k := 8) (by omega) (.int .u8 ((an (v 8) 127).val : Int))
  replace A2 := (A2.set 8 (by omega) (.int .u8 ((an (v 8) 127).val : Int))).congr (mk_8 v)
  replace hB := Bel.st hB (b := w.heap.size + 1) (k := 8) (by omega) (.int .u8 ((an (v 8) 127).val : Int))
  generalize W.setCell ⟨w.heap.size + 1, 8, none⟩ (.int .u8 ((an (v 8) 127).val : Int)) = W1 at *
  clear c8 z8 X8
  have c8 := A2.cv 12 (by omega) (.int .u8 ((v 12).val : Int)) rfl
  have z8 := A2.z 12 (by omega)
  have X8 := and8 (v 12) 127
  rw [show (((127 : By).val : Nat) : Int) = 127 from rfl] at X8
  go_upto_region 3 with (fail)
  replace A1 := A1.other (b' := w.heap.size + 1) (k := 12) (by omega) (.int .u8 ((an (v 12) 127).val : Int))
  replace A2 := (A2.set 12 (by omega) (.int .u8 ((an (v 12) 127).val : Int))).congr (mk_12 v)
  replace hB := Bel.st hB (b := w.heap.size + 1) (k := 12) (by omega) (.int .u8 ((an (v 12) 127).val : Int))
  generalize W1.setCell ⟨w.heap.size + 1, 12, none⟩ (.int .u8 ((an (v 12) 127).val : Int)) = W2 at *
  clear c8 z8 X8
  have r0 := fun ds os => cell_regrown (A1.cv 33 (by omega) (.string h) rfl) ds os
  refine wp_region_quiet_below (by kernel_rfl) (by kernel_rfl) ?_
  go_big_quiet_step (fail)
  go_big_quiet_step (fail)
  refine hM.qld (N := 15) t43 A2 0 (by omega) (fun j _ => by rw [Nat.zero_add]) (fun W hW => cw_bel hW) (by rfl) (.tmp 4) (by rfl) (by rfl) ?_
  simp only [Act.put, List.setIfInBounds_toArray, List.set_cons_succ, List.set_cons_zero]
  repeat (go_big_quiet_step (first | (go_at_call 22; exact Calls.regrown_of (C22 _)) | (go_at_call 45; exact Calls.regrown_of (C45 _))))
  refine wpQuiet_nil ?_
  intro w1 hw'
  obtain ⟨⟨dq, osq⟩, hw''⟩ := hw'
  have hb := below_of hw''
  clear hw'' r0 C22 C45
  replace hB := Bel.call hB hb
  clear A1 A2 hb
  obtain ⟨cap, w2, hcv, A, hg, B2⟩ := conv_row w1 text
  have B1s := hB.size
  replace B2 := Bel.call hB B2
  clear hB
  go_wp2_with fail
  clear hcv
  generalize w1.heap.size = p at *
  obtain ⟨n, en⟩ : ∃ n, text.size = n := ⟨_, rfl⟩
  rw [en] at A hT ⊢
  have HN : Hid (st.size = n) := hst.trans en
  have n1 : (n : Int) ≤ 1000000 := by omega
  clear en hst
  go_loopw [33] (fun i wr => ∃ k : Nat, k ≤ n ∧ i = .int .i64 k ∧ Below w.heap.size w wr ∧ p < wr.heap.size ∧ Arr wr p n (vc (crF (bF text) (bF st) k))) (fun i _ => n - (intOf i).toNat)
  case atStart => exact ⟨0, by omega, rfl, B2, hg, A.congr fun j _ => vc_congr (by unfold crF; rw [if_neg (by omega)])⟩
  case round =>
    clear A hg B2
    obtain ⟨k, hk, rfl, hB, hg, A⟩ := hrel
    by_cases hlt : k < n
    · have k0 : (0 : Int) ≤ (k : Int) := by omega
      have k1 : (k : Int) < (n : Int) := by omega
      have I := fun W => idxS st k (by rw [HN.out]; exact hlt) W
      rw [bF_bt] at I
      have X := xr8 (bF text k) (bF st k)
      have r0 := fun ds os => cell_regrown (A.cv k hlt (.int .u8 ((bF text k).val : Int)) (by unfold vc crF; rw [if_neg (by omega)])) ds os
      have HS : Hid (∀ j, j < n → (if j = k then Value.int .u8 ((xr (bF text k) (bF st k)).val : Int) else vc (crF (bF text) (bF st) k) j) = vc (crF (bF text) (bF st) (k + 1)) j) := crF_set _ _ k n
      generalize xr (bF text k) (bF st k) = c at *
      go_wp2_with fail
      refine wp_region_below_tail 9 (by kernel_rfl) (by kernel_rfl) ?_
      simp only [List.take_succ_cons, List.take_zero, List.drop_succ_cons, List.drop_zero]
      repeat (go_big_quiet_step (fail))
      refine wpQuiet_nil ?_
      intro w3 hw'
      obtain ⟨⟨dq, osq⟩, hw''⟩ := hw'
      have hb := below_of hw''
      clear hw'' r0 I X
      have A3 := A.below hb hg
      have hB3 := Bel.call hB hb
      have hg3 : p < w3.heap.size := Nat.lt_of_lt_of_le hg hb.size
      clear A hB hb
      have c0 := A3.c k hlt
      have z0 := A3.z k hlt
      go_wp2_with fail
      exact ⟨⟨k + 1, by omega, by go_num, Bel.st hB3 (by omega) _, by rw [size_set]; exact hg3, (A3.set k hlt _).congr HS.out⟩, by simp [intOf]; omega⟩
    · have e : k = n := by omega
      subst e
      have cv := convC wr p k cap (xL k (bF text) (bF st)) (by simp [xL]) (by
        intro j q hq
        rw [Addr.add_mid, Nat.zero_add]
        have hj : j < k := by have := (List.getElem?_eq_some_iff.1 hq).1; simpa [xL] using this
        rw [A.c j hj, ← hq]
        simp [xL, hj, vc, crF])
      rw [hT] at cv
      clear A
      go_wp2_with fail
      go_ret
      exact ⟨rfl, hB⟩
/-- A text crossed with the stream that a tag leads to. -/
def crV (h : ByteArray) (v : Nat → By) (t : ByteArray) : ByteArray := xS t (smS h (bF (tx (mk v))) t.size)
theorem crV_size (h : ByteArray) (v : Nat → By) (t : ByteArray) : (crV h v t).size = t.size := xS_size _ _
theorem str_any (h : ByteArray) (hk : Key h) (first : ByteArray) (hf : first.size = 16) (n : Nat) (hn : n ≤ 65536) (W : World) :
    Calls Try.prog 45 #[.string h, .string first, .int .i64 (n : Int)] W fun e w' => e = .returned (.tuple #[.string (smS h (bF first) n), .int .i64 0]) ∧ Below W.heap.size W w' := by
  have := stream_any h first (n : Int) W
  have e : rfn h first (n : Int) = 0 := by
    unfold rfn
    rw [if_neg (by omega), rfs_16 h first hf]
    exact kE_0.2 hk
  rwa [e, if_pos rfl, Int.toNat_natCast] at this
theorem scrossed_any (key h : ByteArray) (f g v : Nat → By) (hk : Key h) (t : ByteArray) (ht : t.size ≤ 65536) (w : World) :
    Calls Try.prog 34 #[.agg (slL key f g h).toArray, bB v, .string t] w fun e w' => e = .returned (.string (crV h v t)) ∧ Below w.heap.size w w' :=
  scrossed_core _ _ _ key h (tx (mk v)) t (smS h (bF (tx (mk v))) t.size) _ f g v 0 (slr key f g h) (blk v) (blk (mk v)) (smS_size _ _ _) (by omega) rfl w (fun W => stext_any _ W) (fun W => str_any h hk _ (tx_size _) _ ht W)
end Go.Proofs.Ytogkijjmimaccaa
