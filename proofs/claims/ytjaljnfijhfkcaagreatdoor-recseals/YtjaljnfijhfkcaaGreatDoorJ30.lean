/- Texts crossed with a stream; tags; hashes of texts. -/
import Derived.Test.YtjaljnfijhfkcaaGreatDoorJ26
import Derived.Test.YtjaljnfijhfkcaaGreatDoorJ28
import Derived.Test.YtjaljnfijhfkcaaGreatDoorJ29
set_option linter.all false
set_option maxRecDepth 100000
namespace Go.Proofs.YtjaljnfijhfkcaaGreatDoor
open Go.RowKit Go.Sort Lin
/-- Two texts xor each other, as long as the first. -/
def xL (n : Nat) (f g : Nat → By) : List Int := (List.range n).map fun j => ((xr (f j) (g j)).val : Int)
def xS (a b : ByteArray) : ByteArray := mkS (xL a.size (bF a) (bF b))
theorem xS_size (a b : ByteArray) : (xS a b).size = a.size := by unfold xS xL; rw [mkS_size]; simp
/-- A text's bytes as a new row, of no bytes, too. -/
theorem conv_row (W : World) (s : ByteArray) : ∃ cap W', (convert 9 50 (.string s)).run Tryz.prog W = .ok (.slice (some ⟨W.heap.size, 0, none⟩) s.size cap) W' ∧ Arr W' W.heap.size s.size (bc (bF s)) ∧ W.heap.size < W'.heap.size ∧ Below W.heap.size W W' := by
  have h := run_bytes_of_string (P := Tryz.prog) W 9 50 5 s Tryz.underlying9 Tryz.underlying50 Tryz.underlying5
  have hge := grownCap_ge W s.size 0 5
  generalize grownCap W s.size 0 5 = cap at *
  have hsz : (bytesRow s cap).size = cap := by
    unfold bytesRow
    simp
    have : s.data.size = s.size := rfl
    omega
  refine ⟨cap, _, h, ?_, ?_, ?_⟩
  · intro j hj
    have hh : (W.drew.alloc (.cells (bytesRow s cap) 5 ((bytesRow s cap).size, (bytesRow s cap).size + 1))).heap[W.heap.size]? = some (.cells (bytesRow s cap) 5 ((bytesRow s cap).size, (bytesRow s cap).size + 1)) := World.alloc_heap_new W.drew _
    have hd : s.data.size = s.size := rfl
    have e : (bytesRow s cap)[j]? = some (bc (bF s) j) := by
      unfold bytesRow
      rw [Array.getElem?_append_left (by simp; omega), Array.getElem?_map, Array.getElem?_eq_getElem (by omega)]
      unfold bc
      rw [← bF_bt]
      unfold bt
      rw [Array.getElem?_eq_getElem (by omega)]
      rfl
    constructor
    · rw [cell_of_row _ W.heap.size j _ 5 _ hh, e]
    · simp only [World.frozen?, hh]
      simp [hsz]
      omega
  · show W.heap.size < (W.drew.alloc _).heap.size
    rw [World.size_alloc]
    exact Nat.lt_succ_self _
  · exact ((Below.refl _ W).drew).alloc (Nat.le_refl _) _
/-- A sealer. -/
def sl (key nonce : ByteArray) (x y u v : Int) : Value := .agg #[.string key, .string nonce, .int .u64 x, .int .u64 y, .int .u64 u, .int .u64 v]
/-- A row of which the first k bytes are crossed. -/
def crF (f g : Nat → By) (k j : Nat) : By := if j < k then xr (f j) (g j) else f j
set_option maxHeartbeats 1000000 in
theorem crossed_core (key nonce text st T : ByteArray) (x y u v : Int) (hn : nonce.size = 12) (hst : st.size = text.size) (hm : text.size ≤ 1000000) (hT : mkS (xL st.size (bF st) (bF text)) = T) (w : World)
    (C40 : ∀ W, Calls Tryz.prog 77 #[.string key, .string (nonce ++ ⟨#[0, 0, 0, 2]⟩), .int .i64 (text.size : Int)] W fun e w' => e = .returned (.tuple #[.string st, .int .i64 0]) ∧ Below W.heap.size W w') :
    Calls Tryz.prog 54 #[sl key nonce x y u v, .string text] w fun e w' => e = .returned (.string T) ∧ Below w.heap.size w w' := by
  unfold sl
  have n12 : (nonce.size : Int) = 12 := by omega
  have tm : (text.size : Int) ≤ 1000000 := by omega
  go_enter Tryz.func54, Tryz.ntmps54
  go_wp2_with fail
  refine (C40 _).mono ?_
  rintro e w1 ⟨rfl, B1⟩
  replace B1 : Below w.heap.size w w1 := Bel.call (by go_grown) B1
  clear C40
  obtain ⟨cap, w2, hcv, A, hg, B2⟩ := conv_row w1 st
  replace B2 := Bel.call B1 B2
  have B1s := B1.size
  rw [hst] at hcv A hT
  clear B1 hst
  go_wp2_with fail
  clear hcv
  generalize w1.heap.size = g at *
  obtain ⟨n, en⟩ : ∃ n, text.size = n := ⟨_, rfl⟩
  rw [en] at A hT ⊢
  have HN : Hid (text.size = n) := en
  have n1 : (n : Int) ≤ 1000000 := by omega
  clear en
  go_loopw [24] (fun i wr => ∃ k : Nat, k ≤ n ∧ i = .int .i64 k ∧ Below w.heap.size w wr ∧ g < wr.heap.size ∧ Arr wr g n (bc (crF (bF st) (bF text) k))) (fun i _ => n - (intOf i).toNat)
  case atStart => exact ⟨0, by omega, rfl, B2, hg, A.congr fun j _ => by unfold bc crF; rw [if_neg (by omega)]⟩
  case round =>
    clear A hg B2
    obtain ⟨k, hk, rfl, hB, hg, A⟩ := hrel
    by_cases hlt : k < n
    · have k0 : (0 : Int) ≤ (k : Int) := by omega
      have k1 : (k : Int) < (n : Int) := by omega
      have I := fun W => idxS text k (by rw [HN.out]; exact hlt) W
      rw [bF_bt] at I
      have X := xr8 (bF st k) (bF text k)
      have r0 := fun ds os => cell_regrown (A.cv k hlt (.int .u8 ((bF st k).val : Int)) (by unfold bc crF; rw [if_neg (by omega)])) ds os
      have HS : Hid (∀ j, j < n → (if j = k then Value.int .u8 ((xr (bF st k) (bF text k)).val : Int) else bc (crF (bF st) (bF text) k) j) = bc (crF (bF st) (bF text) (k + 1)) j) := by
        show ∀ j, j < n → _
        intro j hj
        unfold bc crF
        by_cases e : j = k
        · subst e; rw [if_pos rfl, if_pos (by omega)]
        · rw [if_neg e]
          by_cases e2 : j < k
          · rw [if_pos e2, if_pos (by omega)]
          · rw [if_neg e2, if_neg (by omega)]
      generalize xr (bF st k) (bF text k) = c at *
      go_wp2_with fail
      refine wp_region_below_tail 9 (by kernel_rfl) (by kernel_rfl) ?_
      simp only [List.take_succ_cons, List.take_zero, List.drop_succ_cons, List.drop_zero]
      repeat (go_big_quiet_step (fail))
      refine wpQuiet_nil ?_
      intro w3 hw'
      obtain ⟨⟨dq, osq⟩, hw''⟩ := hw'
      have hb := below_of hw''
      clear hw'' r0 I X
      have A3 := A.below hb hg
      have hB3 := Bel.call hB hb
      have hg3 : g < w3.heap.size := Nat.lt_of_lt_of_le hg hb.size
      clear A hB hb
      have c0 := A3.c k hlt
      have z0 := A3.z k hlt
      go_wp2_with fail
      exact ⟨⟨k + 1, by omega, by go_num, Bel.st hB3 (by omega) _, by rw [size_set]; exact hg3, (A3.set k hlt _).congr HS.out⟩, by simp [intOf]; omega⟩
    · have e : k = n := by omega
      subst e
      have cv := convC wr g k cap (xL k (bF st) (bF text)) (by simp [xL]) (by
        intro j q hq
        rw [Addr.add_mid, Nat.zero_add]
        have hj : j < k := by have := (List.getElem?_eq_some_iff.1 hq).1; simpa [xL] using this
        rw [A.c j hj, ← hq]
        simp [xL, hj, bc, crF])
      rw [hT] at cv
      clear A
      go_wp2_with fail
      go_ret
      exact ⟨rfl, hB⟩
end Go.Proofs.YtjaljnfijhfkcaaGreatDoor
