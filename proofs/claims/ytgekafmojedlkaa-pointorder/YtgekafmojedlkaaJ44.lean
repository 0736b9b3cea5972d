/- What the reference's Text answers. -/
import Derived.Laws.Concat
import Derived.Test.YtgekafmojedlkaaJ20
set_option linter.all false
set_option maxRecDepth 100000
namespace Go.Proofs.Ytgekafmojedlkaa
open Go.RowKit
theorem hex_cut (d : Int) (h0 : 0 ≤ d) (h1 : d < 16) (W : World) : (Instr.slice 9 (.string ⟨#[48, 49, 50, 51, 52, 53, 54, 55, 56, 57, 97, 98, 99, 100, 101, 102]⟩) (some (.int .u8 d)) (some (.int .u8 (d + 1))) none).run Try.prog W = .ok (.string (mkS [hexc d])) W := by
  rw [run_slice_string W 9 _ .u8 .u8 d (d + 1) Try.underlying9 (by omega) (by omega) (by show d + 1 ≤ 16; omega)]
  have h : d = 0 ∨ d = 1 ∨ d = 2 ∨ d = 3 ∨ d = 4 ∨ d = 5 ∨ d = 6 ∨ d = 7 ∨ d = 8 ∨ d = 9 ∨ d = 10 ∨ d = 11 ∨ d = 12 ∨ d = 13 ∨ d = 14 ∨ d = 15 := by omega
  rcases h with h | h | h | h | h | h | h | h | h | h | h | h | h | h | h | h <;> (rw [h]; rfl)
theorem mkS_append (a b : List Int) : mkS a ++ mkS b = mkS (a ++ b) := by
  apply ByteArray.ext
  apply Array.toList_inj.1
  rw [ByteArray.data_append, Array.toList_append, mkS_list, mkS_list, mkS_list, List.map_append]
/-- The first k bytes' signs. -/
def tk (N : Int) (k : Nat) : List Int := (List.range (2 * k)).map (tx N)
theorem tk_next (N : Int) (k : Nat) : mkS (tk N k) ++ mkS [hexc (byt N k / 16)] ++ mkS [hexc (byt N k % 16)] = mkS (tk N (k + 1)) := by
  rw [mkS_append, mkS_append]
  congr 1
  unfold tk
  rw [show 2 * (k + 1) = 2 * k + 1 + 1 by omega, List.range_succ, List.range_succ, List.map_append, List.map_append]
  simp [tx_even, tx_odd]
theorem tk_size (N : Int) (k : Nat) : (mkS (tk N k)).size = 2 * k := by rw [mkS_size]; simp [tk]
theorem adds (a b : ByteArray) (ha : a.size ≤ 100) (hb : b.size ≤ 100) (W : World) : (Op.stringOp .add a b).run Try.prog W = .ok (.string (a ++ b)) W :=
  run_string_add W a b (by omega) (by omega)
set_option maxHeartbeats 1000000 in
theorem refText_core (N : Int) (B : ByteArray) (hz : B.size = 32) (hB : Hid (∀ k, k < 32 → bt B k = byt N k))
    (C17 : ∀ W, Calls Try.prog 35 #[nv N] W fun e w' => e = .returned (.string B) ∧ Below W.heap.size W w') (w : World) :
    Calls Try.prog 37 #[nv N] w fun e w' => e = .returned (.string (mkS (tk N 32))) ∧ Below w.heap.size w w' := by
  go_enter Try.func37, Try.ntmps37
  go_wp2_with fail
  refine (C17 _).mono ?_
  rintro e w1 ⟨rfl, hb1⟩
  have hB1 : Below w.heap.size w w1 := Below.trans (by go_grown) (hb1.mono (by go_size))
  clear hb1 C17
  go_wp2_with fail
  go_loopw [4, 5] (fun s i wr => ∃ k : Nat, k ≤ 32 ∧ i = .int .i64 k ∧ s = .string (mkS (tk N k)) ∧ Below w.heap.size w wr)
    (fun _ i _ => 32 - (intOf i).toNat)
  case atStart => exact ⟨0, by omega, rfl, rfl, hB1⟩
  case round =>
    clear hB1
    obtain ⟨k, hk, rfl, rfl, hW⟩ := hrel
    by_cases hlt : k < 32
    · have k0 : (0 : Int) ≤ (k : Int) := by omega
      have k32 : (k : Int) < 32 := by omega
      have I := fun W => idxS B k (by omega) W
      rw [hB.out k hlt] at I
      have bb := byt_bd N k
      have d1 := fun W => hex_cut (byt N k / 16) (by omega) (by omega) W
      have d2 := fun W => hex_cut (byt N k % 16) (by omega) (by omega) W
      have nx := tk_next N k
      have zS := tk_size N k
      have zX : (mkS [hexc (byt N k / 16)]).size = 1 := by rw [mkS_size]; rfl
      have zY : (mkS [hexc (byt N k % 16)]).size = 1 := by rw [mkS_size]; rfl
      generalize mkS (tk N k) = S at *
      generalize mkS [hexc (byt N k / 16)] = X at *
      generalize mkS [hexc (byt N k % 16)] = Y at *
      generalize byt N k = v at *
      have a1 := fun W => adds S X (by omega) (by omega) W
      have zSX : (S ++ X).size = 2 * k + 1 := by rw [ByteArray.size_append]; omega
      generalize S ++ X = SX at *
      have a2 := fun W => adds SX Y (by omega) (by omega) W
      generalize SX ++ Y = SY at *
      have HN : Hid (SY = mkS (tk N (k + 1))) := nx
      clear nx hB
      obtain ⟨b0, b1⟩ := bb
      have q1 : IntKind.u8.wrap (v / 16) = v / 16 := by rw [IntKind.wrap_u8]; omega
      have q2 : IntKind.u8.wrap (v / 16 + 1) = v / 16 + 1 := by rw [IntKind.wrap_u8]; omega
      have q3 : IntKind.u8.wrap (v % 16 + 1) = v % 16 + 1 := by rw [IntKind.wrap_u8]; omega
      go_wp2_with fail
      go_region
      go_wp2_with fail
      exact ⟨⟨k + 1, by omega, by go_num, by rw [HN.out], by go_grown⟩, by simp [intOf]; omega⟩
    · have e32 : k = 32 := by omega
      subst e32
      generalize hT : mkS (tk N 32) = T
      have HT : Hid (mkS (tk N 32) = T) := hT
      clear hT
      go_wp2_with fail
      go_ret
      exact ⟨by rw [HT.out]; rfl, hW⟩
theorem tk_txL (N : Int) : tk N 32 = txL N := rfl
theorem refText_any (N : Int) (w : World) : Calls Try.prog 37 #[nv N] w fun e w' => e = .returned (.string (txS N)) ∧ Below w.heap.size w w' :=
  refText_core N (mkS (bgL N)) (by rw [mkS_size]; simp [bgL]) (fun k hk => mkS_bt _ k _ (bgL_at N k hk) (byt_bd N k).1 (byt_bd N k).2) (fun W => refBig_any N W) w
end Go.Proofs.Ytgekafmojedlkaa
