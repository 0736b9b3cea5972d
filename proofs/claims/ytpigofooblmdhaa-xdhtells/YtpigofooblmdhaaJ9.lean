/- Texts joined: N19, M9, T9, T10, K1. -/
import Derived.Laws.Concat
import Derived.Test.YtpigofooblmdhaaJ8
set_option linter.all false
namespace Go.Proofs.Ytpigofooblmdhaa
open Go.RowKit
theorem top_pow : top256 = 2 ^ 256 := by decide
theorem len_facts (M : Int) (h0 : 0 < M) (h1 : M < top256) : ∃ s : Nat, s ≤ 255 ∧ (256 : Int) - (bitLen M.toNat : Int) = (s : Int) ∧ 2 ^ 255 ≤ M * 2 ^ s ∧ M * 2 ^ s < top256 := by
  have sp := bitLen_spec M.toNat
  have hne : M.toNat ≠ 0 := by omega
  have lo := sp.2 hne
  have hi := sp.1
  have l1 : 1 ≤ bitLen M.toNat := by
    by_cases c : bitLen M.toNat = 0
    · rw [c] at hi; omega
    · omega
  have l256 : bitLen M.toNat ≤ 256 := by
    by_cases c : bitLen M.toNat ≤ 256
    · exact c
    · have hp : (2 : Nat) ^ 256 ≤ 2 ^ (bitLen M.toNat - 1) := Nat.pow_le_pow_right (by omega) (by omega)
      have ht : M.toNat < 2 ^ 256 := by
        have e : (2 : Nat) ^ 256 = 115792089237316195423570985008687907853269984665640564039457584007913129639936 := by decide
        unfold top256 at h1; omega
      omega
  refine ⟨256 - bitLen M.toNat, by omega, by omega, ?_, ?_⟩
  · have e : (2 : Int) ^ 255 = 2 ^ (bitLen M.toNat - 1) * 2 ^ (256 - bitLen M.toNat) := by
      rw [← Int.pow_add]; congr 1; omega
    rw [e]
    refine Int.mul_le_mul_of_nonneg_right ?_ (Int.le_of_lt (Int.pow_pos (by omega)))
    have : ((2 ^ (bitLen M.toNat - 1) : Nat) : Int) ≤ (M.toNat : Int) := by exact_mod_cast lo
    have e2 : ((2 ^ (bitLen M.toNat - 1) : Nat) : Int) = 2 ^ (bitLen M.toNat - 1) := by push_cast; rfl
    omega
  · have e : top256 = 2 ^ bitLen M.toNat * 2 ^ (256 - bitLen M.toNat) := by
      rw [top_pow, ← Int.pow_add]; congr 1; omega
    rw [e]
    refine Int.mul_lt_mul_of_pos_right ?_ (Int.pow_pos (by omega))
    have : (M.toNat : Int) < ((2 ^ bitLen M.toNat : Nat) : Int) := by exact_mod_cast hi
    have e2 : ((2 ^ bitLen M.toNat : Nat) : Int) = 2 ^ bitLen M.toNat := by push_cast; rfl
    omega
theorem div_any (lo hi M : Int) (hl : 0 ≤ lo) (hl' : lo < top256) (hh : 0 ≤ hi) (hh' : hi < top256) (hM : 0 < M) (hM' : M < top256) (w : World) :
    Calls Try.prog 58 #[nv lo, nv hi, nv M] w fun e w' => e = .returned (.tuple #[nv ((lo + hi * top256) / M), nv ((lo + hi * top256) / M / top256), nv ((lo + hi * top256) % M), .int .i64 0]) ∧ Below w.heap.size w w' := by
  obtain ⟨s, hs, es, d0, d1⟩ := len_facts M hM hM'
  have sp : (0 : Int) < 2 ^ s := Int.pow_pos (by omega)
  have tp : (0 : Int) < top256 := by decide
  have D0 : 0 < M * 2 ^ s := Int.mul_pos hM sp
  have eQ : (lo + hi * top256) * 2 ^ s / (M * 2 ^ s) = (lo + hi * top256) / M := by
    rw [Int.mul_comm (lo + hi * top256), Int.mul_comm M, Int.mul_ediv_mul_of_pos _ _ sp]
  have eR : rem ((lo + hi * top256) * 2 ^ s) (M * 2 ^ s) 0 = (lo + hi * top256) % M * 2 ^ s := by
    unfold rem
    rw [Int.pow_zero, Int.ediv_one, Int.mul_comm (lo + hi * top256), Int.mul_comm M, Int.mul_emod_mul_of_pos _ _ sp, Int.mul_comm]
  have m0 := Int.emod_nonneg (lo + hi * top256) (Int.ne_of_gt hM)
  have m1 := Int.emod_lt_of_pos (lo + hi * top256) hM
  have eL : rem ((lo + hi * top256) * 2 ^ s) (M * 2 ^ s) 0 / 2 ^ s = (lo + hi * top256) % M := by
    rw [eR, Int.mul_ediv_cancel _ (Int.ne_of_gt sp)]
  have b0 : 0 ≤ rem ((lo + hi * top256) * 2 ^ s) (M * 2 ^ s) 0 := Int.emod_nonneg _ (Int.ne_of_gt D0)
  have b1 : rem ((lo + hi * top256) * 2 ^ s) (M * 2 ^ s) 0 < top256 := Int.lt_trans (Int.emod_lt_of_pos _ D0) d1
  have D3 : 9223372036854775808 ≤ lim (M * 2 ^ s) 3 := by
    have e255 : (2 : Int) ^ 255 = 57896044618658097711785492504343953926634992332820282019728792003956564819968 := by decide
    rw [lim3]; unfold top256 at d1; omega
  have eF : (lo + hi * top256) * 2 ^ s = lo * 2 ^ s + hi * 2 ^ s * top256 := by grind
  have x0 : 0 ≤ lo * 2 ^ s := Int.mul_nonneg hl (Int.le_of_lt sp)
  have h0 : 0 ≤ hi * 2 ^ s := Int.mul_nonneg hh (Int.le_of_lt sp)
  have xt0 : 0 ≤ lo * 2 ^ s / top256 := Int.ediv_nonneg x0 (Int.le_of_lt tp)
  have xt1 : lo * 2 ^ s / top256 < 2 ^ s := Int.ediv_lt_of_lt_mul tp (by rw [Int.mul_comm (2 ^ s)]; exact Int.mul_lt_mul_of_pos_right hl' sp)
  have fT : (lo + hi * top256) * 2 ^ s / top256 = lo * 2 ^ s / top256 + hi * 2 ^ s := by
    rw [eF, Int.add_mul_ediv_right _ _ (Int.ne_of_gt tp)]
  have hTop : (lo * 2 ^ s / top256 + hi * 2 ^ s) / top256 = hi * 2 ^ s / top256 := by
    have e : top256 = 2 ^ s * 2 ^ (256 - s) := by rw [top_pow, ← Int.pow_add]; congr 1; omega
    have q : (0 : Int) ≤ 2 ^ s := Int.le_of_lt sp
    generalize lo * 2 ^ s / top256 = x at *
    rw [e, ← Int.ediv_ediv_of_nonneg q, ← Int.ediv_ediv_of_nonneg q, Int.add_mul_ediv_right _ _ (Int.ne_of_gt sp), Int.mul_ediv_cancel _ (Int.ne_of_gt sp), Int.ediv_eq_zero_of_lt xt0 xt1, Int.zero_add]
  have p8 : (18446744073709551616 : Int) ^ 8 = top256 * top256 := by decide
  have r8 : rem ((lo + hi * top256) * 2 ^ s) (M * 2 ^ s) 8 = hi * 2 ^ s / top256 := by
    unfold rem
    rw [p8, ← Int.ediv_ediv_of_nonneg (Int.le_of_lt tp), fT, hTop]
    refine Int.emod_eq_of_lt (Int.ediv_nonneg h0 (Int.le_of_lt tp)) ?_
    have a1 : hi * 2 ^ s / top256 < 2 ^ s := Int.ediv_lt_of_lt_mul tp (by rw [Int.mul_comm (2 ^ s)]; exact Int.mul_lt_mul_of_pos_right hh' sp)
    have a2 : (2 : Int) ^ s ≤ 2 ^ 255 := by
      have := Nat.pow_le_pow_right (n := 2) (by omega) hs
      exact_mod_cast this
    omega
  have hLo : ∀ j, j < 4 → lim ((lo + hi * top256) * 2 ^ s) j = lim (lo * 2 ^ s) j := fun j hj => by
    rw [← lim_mod _ j hj, ← lim_mod (lo * 2 ^ s) j hj, eF, Int.add_mul_emod_self_right]
  have hOr : ∀ k, k < 4 → bits .or .u64 (lim (lo * 2 ^ s) (k + 4)) (lim (hi * 2 ^ s) k) = lim ((lo + hi * top256) * 2 ^ s) (k + 4) := fun k _ => by
    rw [lim_add4, lim_add4, fT]
    exact or_lims _ hi s k xt0 xt1 hh
  have hz : (lim M 0 == 0 && (lim M 1 == 0 && (lim M 2 == 0 && lim M 3 == 0))) = false := by
    have v := V4_lim M (Int.le_of_lt hM) hM'
    unfold V4 at v
    by_cases c0 : lim M 0 = 0
    · by_cases c1 : lim M 1 = 0
      · by_cases c2 : lim M 2 = 0
        · by_cases c3 : lim M 3 = 0
          · rw [c0, c1, c2, c3] at v; omega
          · simp [c3]
        · simp [c2]
      · simp [c1]
    · simp [c0]
  have DG : ∀ j W, j < 8 → Calls Try.prog 89 #[nv (rem ((lo + hi * top256) * 2 ^ s) (M * 2 ^ s) (j + 1)), .int .u64 (lim ((lo + hi * top256) * 2 ^ s) j), nv (M * 2 ^ s)] W fun e w' => e = .returned (.tuple #[.int .u64 (lim ((lo + hi * top256) / M) j), nv (rem ((lo + hi * top256) * 2 ^ s) (M * 2 ^ s) j)]) ∧ Below W.heap.size W w' := fun j W _ => by
    have dg := digit_eq ((lo + hi * top256) * 2 ^ s) (M * 2 ^ s) j D0
    have := digit_any (rem ((lo + hi * top256) * 2 ^ s) (M * 2 ^ s) (j + 1)) (lim ((lo + hi * top256) * 2 ^ s) j) (M * 2 ^ s) (Int.emod_nonneg _ (Int.ne_of_gt D0)) (Int.emod_lt_of_pos _ D0) d1 (lim_nn _ _) (lim_lt _ _) D3 W
    rw [dg.1, dg.2, eQ] at this
    exact this
  have RM := fun W => raised_any M s (Int.le_of_lt hM) hM' hs W
  have RL := fun W => raised_any lo s hl hl' hs W
  have RH := fun W => raised_any hi s hh hh' hs W
  have L := fun W => len_any M (Int.le_of_lt hM) hM' W
  have LW := fun W => lowered_any (rem ((lo + hi * top256) * 2 ^ s) (M * 2 ^ s) 0) s b0 b1 hs W
  rw [eL] at LW
  refine div_core lo hi M (M * 2 ^ s) (lo * 2 ^ s) (hi * 2 ^ s) ((lo + hi * top256) * 2 ^ s) ((lo + hi * top256) / M) ((lo + hi * top256) % M) (bitLen M.toNat : Int) s w es (by omega) (by omega) L RM RL RH hLo hOr
    (by rw [r8]; exact lim_add4 _ 0) (by rw [r8]; exact lim_add4 _ 1) (by rw [r8]; exact lim_add4 _ 2) (by rw [r8]; exact lim_add4 _ 3)
    (lim_add4 _ 0) (lim_add4 _ 1) (lim_add4 _ 2) (lim_add4 _ 3) DG LW hz
attribute [local go_sem] eq24
set_option maxHeartbeats 1000000 in
theorem div_none (lo hi : Int) (w : World) :
    Calls Try.prog 58 #[nv lo, nv hi, .agg #[.int .u64 0, .int .u64 0, .int .u64 0, .int .u64 0]] w fun e w' => e = .returned (.tuple #[.agg #[.int .u64 0, .int .u64 0, .int .u64 0, .int .u64 0], .agg #[.int .u64 0, .int .u64 0, .int .u64 0, .int .u64 0], .agg #[.int .u64 0, .int .u64 0, .int .u64 0, .int .u64 0], .int .i64 13]) ∧ Below w.heap.size w w' := by
  go_enter Try.func58, Try.ntmps58
  go_wp2
  refine bodyPost_ret (v := .tuple #[.agg #[.int .u64 0, .int .u64 0, .int .u64 0, .int .u64 0], .agg #[.int .u64 0, .int .u64 0, .int .u64 0, .int .u64 0], .agg #[.int .u64 0, .int .u64 0, .int .u64 0, .int .u64 0], .int .i64 13]) (by simp [results, Try.results58, go_sem]) rfl ⟨rfl, ?_⟩
  go_grown
end Go.Proofs.Ytpigofooblmdhaa
set_option maxRecDepth 100000
namespace Go.Proofs.Ytpigofooblmdhaa
open Go.RowKit
theorem pn_congr (wd : Nat) (f g : Nat → Int) : ∀ k, (∀ i, i < k → f i = g i) → pn wd f k = pn wd g k := by
  intro k
  induction k with
  | zero => intro _; rfl
  | succ k ih => intro h; show pn wd f k * _ + f k = pn wd g k * _ + g k; rw [ih (fun i hi => h i (by omega)), h k (by omega)]
theorem pn_byt (N : Int) (h0 : 0 ≤ N) (h1 : N < top256) : ∀ k, k ≤ 32 → pn 8 (byt N) k = N / 2 ^ (8 * (32 - k)) := by
  intro k
  induction k with
  | zero =>
    intro _
    show 0 = _
    rw [show 8 * (32 - 0) = 256 from rfl, ← top_pow]
    exact (Int.ediv_eq_zero_of_lt h0 h1).symm
  | succ k ih =>
    intro hk
    show pn 8 (byt N) k * 2 ^ 8 + byt N k = _
    rw [ih (by omega)]
    unfold byt
    rw [show 8 * (32 - k) = 8 * (31 - k) + 8 by omega, show 8 * (32 - (k + 1)) = 8 * (31 - k) by omega, Int.pow_add, ← Int.ediv_ediv_of_nonneg (Int.le_of_lt (Int.pow_pos (by omega)))]
    generalize N / 2 ^ (8 * (31 - k)) = x
    rw [show (2 : Int) ^ 8 = 256 by decide]
    omega
theorem pn_all (N : Int) (h0 : 0 ≤ N) (h1 : N < top256) : pn 8 (byt N) 32 = N := by
  rw [pn_byt N h0 h1 32 (Nat.le_refl _)]; simp
end Go.Proofs.Ytpigofooblmdhaa
set_option maxRecDepth 100000
namespace Go.Proofs.Ytpigofooblmdhaa
open Go.RowKit
theorem nv_pl (f : Nat → Int) (hf : ∀ i, 0 ≤ f i ∧ f i < 2 ^ 8) :
    (.agg #[.int .u64 (pl f 32 0), .int .u64 (pl f 32 1), .int .u64 (pl f 32 2), .int .u64 (pl f 32 3)] : Value) = nv (pn 8 (fun i => f (31 - i)) 32) := by
  simp only [nv, pl_lim f hf 0 (by omega), pl_lim f hf 1 (by omega), pl_lim f hf 2 (by omega), pl_lim f hf 3 (by omega)]
theorem refFromLittle_yes (s : ByteArray) (hs : s.size = 32) (w : World) :
    Calls Try.prog 13 #[.string s] w fun e w' => e = .returned (.tuple #[nv (pn 8 (fun i => bt s (31 - i)) 32), .int .i64 0]) ∧ Below w.heap.size w w' := by
  have := refFromLittle_ok s hs w
  rw [nv_pl (bt s) (bt_8 s)] at this
  exact this
set_option maxHeartbeats 1000000 in
theorem refFromLittle_no (s : ByteArray) (hs : s.size ≤ maxLen) (hn : s.size ≠ 32) (w : World) :
    Calls Try.prog 13 #[.string s] w fun e w' => e = .returned (.tuple #[.agg #[.int .u64 0, .int .u64 0, .int .u64 0, .int .u64 0], .int .i64 (lenE s.size 32)]) ∧ Below w.heap.size w w' := by
  have LE := fun W => sized_any s 32 hs W
  have ne : ¬ lenE (s.size : Int) 32 = 0 := by unfold lenE; split <;> (try split) <;> omega
  generalize lenE (s.size : Int) 32 = E at *
  have neb : (E == 0) = false := by simp [ne]
  go_enter Try.func13, Try.ntmps13
  go_wp2_with (go_at_call 51; refine (LE _).mono ?_; rintro e w1 ⟨rfl, rfl⟩)
  go_loopw [6] (fun i wr => i = .int .i64 0 ∧ Below w.heap.size w wr ∧ Arr wr w.heap.size 4 (fun _ => .int .u64 0) ∧ Arr wr (w.heap.size + 1) 4 (fun _ => .int .u64 0))
    (fun i _ => 0)
  case atStart => exact ⟨rfl, by go_grown, Arr.mk4 (by simp [go_sem]) (by simp [go_sem]) (by simp [go_sem]) (by simp [go_sem]) (by simp [go_sem]) (by simp [go_sem]) (by simp [go_sem]) (by simp [go_sem]), Arr.mk4 (by simp [go_sem]) (by simp [go_sem]) (by simp [go_sem]) (by simp [go_sem]) (by simp [go_sem]) (by simp [go_sem]) (by simp [go_sem]) (by simp [go_sem])⟩
  case round =>
    clear LE
    obtain ⟨rfl, hB, hZ, hA⟩ := hrel
    have r1 := hA.c
    have r0 := hZ.c
    have z0 := hZ.z
    clear hA hZ
    go_wp2_with fail
    refine bodyPost_ret (v := .tuple #[.agg #[.int .u64 0, .int .u64 0, .int .u64 0, .int .u64 0], .int .i64 E]) (by simp [results, Try.results13, go_sem, r0]) rfl ⟨rfl, ?_⟩
    go_grown
set_option maxHeartbeats 1000000 in
theorem refFromBig_core (s : ByteArray) (T : ByteArray) (V : Value) (E : Int) (a0 a1 a2 a3 : Int) (hV : V = .agg #[.int .u64 a0, .int .u64 a1, .int .u64 a2, .int .u64 a3])
    (C40 : ∀ W, Calls Try.prog 53 #[.string s] W fun e w' => e = .returned (.string T) ∧ Below W.heap.size W w')
    (C13 : ∀ W, Calls Try.prog 13 #[.string T] W fun e w' => e = .returned (.tuple #[.agg #[.int .u64 a0, .int .u64 a1, .int .u64 a2, .int .u64 a3], .int .i64 E]) ∧ Below W.heap.size W w') (w : World) :
    Calls Try.prog 11 #[.string s] w fun e w' => e = .returned (.tuple #[.agg #[.int .u64 a0, .int .u64 a1, .int .u64 a2, .int .u64 a3], .int .i64 E]) ∧ Below w.heap.size w w' := by
  go_enter Try.func11, Try.ntmps11
  go_wp2_with fail
  refine (C40 _).mono ?_
  rintro e w1 ⟨rfl, hb1⟩
  have A1 := (Arr.mk4 (f := fun _ => .int .u64 0) (b := w.heap.size) (by simp [go_sem]) (by simp [go_sem]) (by simp [go_sem]) (by simp [go_sem]) (by simp [go_sem]) (by simp [go_sem]) (by simp [go_sem]) (by simp [go_sem])).below hb1 (by go_size)
  have s1 : w.heap.size < w1.heap.size := by have := hb1.size; simp at this; omega
  have hB1 : Below w.heap.size w w1 := Below.trans (by go_grown) (hb1.mono (by go_size))
  clear hb1
  go_wp2_with fail
  refine (C13 _).mono ?_
  rintro e w2 ⟨rfl, hb2⟩
  have A2 := A1.below hb2 s1
  have hB2 := hB1.trans (hb2.mono hB1.size)
  have r0 := A2.c
  have z0 := A2.z
  clear hb2 A1 A2 hB1
  go_wp2_with fail
  refine bodyPost_ret (v := .tuple #[.agg #[.int .u64 a0, .int .u64 a1, .int .u64 a2, .int .u64 a3], .int .i64 E]) (by simp [results, Try.results11, go_sem, r0]) rfl ⟨rfl, ?_⟩
  go_grown
theorem rv_size (s : ByteArray) : (mkS (rvL s)).size = s.size := by rw [mkS_size]; simp [rvL]
theorem refFromBig_yes (s : ByteArray) (hs : s.size = 32) (w : World) :
    Calls Try.prog 11 #[.string s] w fun e w' => e = .returned (.tuple #[nv (pn 8 (bt s) 32), .int .i64 0]) ∧ Below w.heap.size w w' := by
  refine refFromBig_core s (mkS (rvL s)) _ 0 _ _ _ _ rfl (fun W => turned_any s (by rw [hs]; omega) W) (fun W => ?_) w
  have := refFromLittle_yes (mkS (rvL s)) (by rw [rv_size]; exact hs) W
  have e : pn 8 (fun i => bt (mkS (rvL s)) (31 - i)) 32 = pn 8 (bt s) 32 := pn_congr 8 _ _ 32 fun i hi => by
    have b := bt_bd s (s.size - 1 - (31 - i))
    show bt (mkS (rvL s)) (31 - i) = bt s i
    rw [mkS_bt _ (31 - i) _ (rvL_at s (31 - i) (by omega)) b.1 b.2, hs]
    congr 1; omega
  rw [e] at this
  exact this
theorem refFromBig_no (s : ByteArray) (hm : (s.size : Int) ≤ 281474976710656) (hn : s.size ≠ 32) (w : World) :
    Calls Try.prog 11 #[.string s] w fun e w' => e = .returned (.tuple #[.agg #[.int .u64 0, .int .u64 0, .int .u64 0, .int .u64 0], .int .i64 (lenE s.size 32)]) ∧ Below w.heap.size w w' := by
  refine refFromBig_core s (mkS (rvL s)) _ _ 0 0 0 0 rfl (fun W => turned_any s hm W) (fun W => ?_) w
  have := refFromLittle_no (mkS (rvL s)) (by rw [rv_size]; unfold maxLen; omega) (by rw [rv_size]; exact hn) W
  rw [rv_size] at this
  exact this
end Go.Proofs.Ytpigofooblmdhaa
set_option maxRecDepth 100000
namespace Go.Proofs.Ytpigofooblmdhaa
open Go.RowKit
theorem hex_cut (d : Int) (h0 : 0 ≤ d) (h1 : d < 16) (W : World) : (Instr.slice 9 (.string ⟨#[48, 49, 50, 51, 52, 53, 54, 55, 56, 57, 97, 98, 99, 100, 101, 102]⟩) (some (.int .u8 d)) (some (.int .u8 (d + 1))) none).run Try.prog W = .ok (.string (mkS [hexc d])) W := by
  rw [run_slice_string W 9 _ .u8 .u8 d (d + 1) Try.underlying9 (by omega) (by omega) (by show d + 1 ≤ 16; omega)]
  have h : d = 0 ∨ d = 1 ∨ d = 2 ∨ d = 3 ∨ d = 4 ∨ d = 5 ∨ d = 6 ∨ d = 7 ∨ d = 8 ∨ d = 9 ∨ d = 10 ∨ d = 11 ∨ d = 12 ∨ d = 13 ∨ d = 14 ∨ d = 15 := by omega
  rcases h with h | h | h | h | h | h | h | h | h | h | h | h | h | h | h | h <;> (rw [h]; rfl)
theorem mkS_append (a b : List Int) : mkS a ++ mkS b = mkS (a ++ b) := by
  apply ByteArray.ext
  apply Array.toList_inj.1
  rw [ByteArray.data_append, Array.toList_append, mkS_list, mkS_list, mkS_list, List.map_append]
def tk (N : Int) (k : Nat) : List Int := (List.range (2 * k)).map (tx N)
theorem tk_next (N : Int) (k : Nat) : mkS (tk N k) ++ mkS [hexc (byt N k / 16)] ++ mkS [hexc (byt N k % 16)] = mkS (tk N (k + 1)) := by
  rw [mkS_append, mkS_append]
  congr 1
  unfold tk
  rw [show 2 * (k + 1) = 2 * k + 1 + 1 by omega, List.range_succ, List.range_succ, List.map_append, List.map_append]
  simp [tx_even, tx_odd]
theorem tk_size (N : Int) (k : Nat) : (mkS (tk N k)).size = 2 * k := by rw [mkS_size]; simp [tk]
theorem adds (a b : ByteArray) (ha : a.size ≤ 100) (hb : b.size ≤ 100) (W : World) : (Op.stringOp .add a b).run Try.prog W = .ok (.string (a ++ b)) W :=
  run_string_add W a b (by omega) (by omega)
set_option maxHeartbeats 1000000 in
theorem refText_core (N : Int) (B : ByteArray) (hz : B.size = 32) (hB : Hid (∀ k, k < 32 → bt B k = byt N k))
    (C17 : ∀ W, Calls Try.prog 17 #[nv N] W fun e w' => e = .returned (.string B) ∧ Below W.heap.size W w') (w : World) :
    Calls Try.prog 15 #[nv N] w fun e w' => e = .returned (.string (mkS (tk N 32))) ∧ Below w.heap.size w w' := by
  go_enter Try.func15, Try.ntmps15
  go_wp2_with fail
  refine (C17 _).mono ?_
  rintro e w1 ⟨rfl, hb1⟩
  have hB1 : Below w.heap.size w w1 := Below.trans (by go_grown) (hb1.mono (by go_size))
  clear hb1 C17
  go_wp2_with fail
  go_loopw [4, 5] (fun s i wr => ∃ k : Nat, k ≤ 32 ∧ i = .int .i64 k ∧ s = .string (mkS (tk N k)) ∧ Below w.heap.size w wr)
    (fun _ i _ => 32 - (intOf i).toNat)
  case atStart => exact ⟨0, by omega, rfl, rfl, hB1⟩
  case round =>
    clear hB1
    obtain ⟨k, hk, rfl, rfl, hW⟩ := hrel
    by_cases hlt : k < 32
    · have k0 : (0 : Int) ≤ (k : Int) := by omega
      have k32 : (k : Int) < 32 := by omega
      have I := fun W => idxS B k (by omega) W
      rw [hB.out k hlt] at I
      have bb := byt_bd N k
      have d1 := fun W => hex_cut (byt N k / 16) (by omega) (by omega) W
      have d2 := fun W => hex_cut (byt N k % 16) (by omega) (by omega) W
      have nx := tk_next N k
      have zS := tk_size N k
      have zX : (mkS [hexc (byt N k / 16)]).size = 1 := by rw [mkS_size]; rfl
      have zY : (mkS [hexc (byt N k % 16)]).size = 1 := by rw [mkS_size]; rfl
      generalize mkS (tk N k) = S at *
      generalize mkS [hexc (byt N k / 16)] = X at *
      generalize mkS [hexc (byt N k % 16)] = Y at *
      generalize byt N k = v at *
      have a1 := fun W => adds S X (by omega) (by omega) W
      have zSX : (S ++ X).size = 2 * k + 1 := by rw [ByteArray.size_append]; omega
      generalize S ++ X = SX at *
      have a2 := fun W => adds SX Y (by omega) (by omega) W
      generalize SX ++ Y = SY at *
      have HN : Hid (SY = mkS (tk N (k + 1))) := nx
      clear nx hB
      obtain ⟨b0, b1⟩ := bb
      have q1 : IntKind.u8.wrap (v / 16) = v / 16 := by rw [IntKind.wrap_u8]; omega
      have q2 : IntKind.u8.wrap (v / 16 + 1) = v / 16 + 1 := by rw [IntKind.wrap_u8]; omega
      have q3 : IntKind.u8.wrap (v % 16 + 1) = v % 16 + 1 := by rw [IntKind.wrap_u8]; omega
      go_wp2_with fail
      go_region
      go_wp2_with fail
      exact ⟨⟨k + 1, by omega, by go_num, by rw [HN.out], by go_grown⟩, by simp [intOf]; omega⟩
    · have e32 : k = 32 := by omega
      subst e32
      generalize hT : mkS (tk N 32) = T
      have HT : Hid (mkS (tk N 32) = T) := hT
      clear hT
      go_wp2_with fail
      go_ret
      exact ⟨by rw [HT.out]; rfl, hW⟩
theorem refText_any (N : Int) (w : World) : Calls Try.prog 15 #[nv N] w fun e w' => e = .returned (.string (txS N)) ∧ Below w.heap.size w w' :=
  refText_core N (mkS (bgL N)) (by rw [mkS_size]; simp [bgL]) (fun k hk => mkS_bt _ k _ (bgL_at N k hk) (byt_bd N k).1 (byt_bd N k).2) (fun W => refBig_any N W) w
end Go.Proofs.Ytpigofooblmdhaa
namespace Go.Proofs.Ytpigofooblmdhaa
open Go.RowKit
def md (x m : Int) : Int := if m = 0 then 0 else x % m
theorem md0 (x : Int) : md x 0 = 0 := by simp [md]
theorem md_pos {m : Int} (x : Int) (h : 0 < m) : md x m = x % m := by unfold md; rw [if_neg (by omega)]
theorem md_nn (x m : Int) (h : 0 ≤ m) : 0 ≤ md x m := by
  unfold md; split
  · omega
  · exact Int.emod_nonneg _ (by omega)
theorem md_lt (x m : Int) (h : 0 < m) : md x m < m := by rw [md_pos x h]; exact Int.emod_lt_of_pos _ h
theorem md_top (x m : Int) (h : 0 ≤ m) (h' : m < top256) : md x m < top256 := by
  by_cases c : m = 0
  · subst c; rw [md0]; decide
  · exact Int.lt_trans (md_lt x m (by omega)) h'
theorem nv_zero : nv 0 = .agg #[.int .u64 0, .int .u64 0, .int .u64 0, .int .u64 0] := by
  have h : ∀ k, lim 0 k = 0 := fun k => by simp [lim]
  simp only [nv, h]
set_option maxHeartbeats 1000000 in
theorem rem_core (lo hi M Q P R er : Int) (w : World)
    (D : ∀ W, Calls Try.prog 58 #[nv lo, nv hi, nv M] W fun e w' => e = .returned (.tuple #[nv Q, nv P, nv R, .int .i64 er]) ∧ Below W.heap.size W w') :
    Calls Try.prog 27 #[nv lo, nv hi, nv M] w fun e w' => e = .returned (nv R) ∧ Below w.heap.size w w' := by
  go_enter Try.func27, Try.ntmps27
  go_wp2_with fail
  refine (D _).mono ?_
  rintro e w1 ⟨rfl, hb1⟩
  have A6 := (Arr.mk4 (f := fun j => .int .u64 0) (b := w.heap.size + 1 + 1 + 1) (by simp [go_sem]) (by simp [go_sem]) (by simp [go_sem]) (by simp [go_sem]) (by simp [go_sem]) (by simp [go_sem]) (by simp [go_sem]) (by simp [go_sem]) ).below hb1 (by go_size)
  have s1 : w.heap.size + 1 + 1 + 1 < w1.heap.size := by have := hb1.size; simp at this; omega
  have hB1 : Below w.heap.size w w1 := Below.trans (by go_grown) (hb1.mono (by go_size))
  have c6 : ∀ o1 o2 o3 j, j < 4 → (((w1.alloc o1).alloc o2).alloc o3).cell? ⟨w.heap.size + 1 + 1 + 1, j, none⟩ = some (.int .u64 0) := fun o1 o2 o3 j hj => (((A6.alloc (by omega) o1).alloc (by go_size) o2).alloc (by go_size) o3).c j hj
  have z6 : ∀ o1 o2 o3 j, j < 4 → (((w1.alloc o1).alloc o2).alloc o3).frozen? ⟨w.heap.size + 1 + 1 + 1, j, none⟩ = false := fun o1 o2 o3 j hj => (((A6.alloc (by omega) o1).alloc (by go_size) o2).alloc (by go_size) o3).z j hj
  clear hb1 A6 D
  go_wp2_with fail
  refine bodyPost_ret (v := nv R) (by simp [results, Try.results27, go_sem, c6]) rfl ⟨rfl, ?_⟩
  go_grown
theorem rem_any (lo hi M : Int) (hl : 0 ≤ lo) (hl' : lo < top256) (hh : 0 ≤ hi) (hh' : hi < top256) (hM : 0 ≤ M) (hM' : M < top256) (w : World) :
    Calls Try.prog 27 #[nv lo, nv hi, nv M] w fun e w' => e = .returned (nv (md (lo + hi * top256) M)) ∧ Below w.heap.size w w' := by
  by_cases c : M = 0
  · subst c
    rw [md0]
    refine rem_core lo hi 0 0 0 0 13 w fun W => ?_
    have := div_none lo hi W
    rw [← nv_zero] at this
    exact this
  · rw [md_pos _ (by omega)]
    exact rem_core lo hi M _ _ _ 0 w fun W => div_any lo hi M hl hl' hh hh' (by omega) hM' W
set_option maxHeartbeats 1000000 in
theorem below_lt (A M : Int) (w : World)
    (C : ∀ W, Calls Try.prog 63 #[nv A, nv M] W fun e w' => e = .returned (.int .i64 (-1)) ∧ Below W.heap.size W w') :
    Calls Try.prog 62 #[nv A, nv M] w fun e w' => e = .returned (nv A) ∧ Below w.heap.size w w' := by
  go_enter Try.func62, Try.ntmps62
  go_wp2_with fail
  refine (C _).mono ?_
  rintro e w1 ⟨rfl, hb1⟩
  have A2 := (Arr.mk4 (f := fun j => .int .u64 (lim A j)) (b := w.heap.size) (by simp [go_sem]) (by simp [go_sem]) (by simp [go_sem]) (by simp [go_sem]) (by simp [go_sem]) (by simp [go_sem]) (by simp [go_sem]) (by simp [go_sem]) ).below hb1 (by go_size)
  have A4 := (Arr.mk4 (f := fun j => .int .u64 0) (b := w.heap.size + 1 + 1) (by simp [go_sem]) (by simp [go_sem]) (by simp [go_sem]) (by simp [go_sem]) (by simp [go_sem]) (by simp [go_sem]) (by simp [go_sem]) (by simp [go_sem]) ).below hb1 (by go_size)
  have hB1 : Below w.heap.size w w1 := Below.trans (by go_grown) (hb1.mono (by go_size))
  have c2 := A2.c
  have c4 := A4.c
  have z4 := A4.z
  clear hb1 A2 A4 C
  go_wp2_with fail
  refine bodyPost_ret (v := nv A) (by simp [results, Try.results62, go_sem, c4]) rfl ⟨rfl, ?_⟩
  go_grown
set_option maxHeartbeats 1000000 in
theorem below_ge (A M R x : Int) (hx : ¬ x < 0) (w : World)
    (C : ∀ W, Calls Try.prog 63 #[nv A, nv M] W fun e w' => e = .returned (.int .i64 x) ∧ Below W.heap.size W w')
    (D : ∀ W, Calls Try.prog 27 #[nv A, .agg #[.int .u64 0, .int .u64 0, .int .u64 0, .int .u64 0], nv M] W fun e w' => e = .returned (nv R) ∧ Below W.heap.size W w') :
    Calls Try.prog 62 #[nv A, nv M] w fun e w' => e = .returned (nv R) ∧ Below w.heap.size w w' := by
  go_enter Try.func62, Try.ntmps62
  go_wp2_with fail
  refine (C _).mono ?_
  rintro e w1 ⟨rfl, hb1⟩
  have A2 := (Arr.mk4 (f := fun j => .int .u64 (lim A j)) (b := w.heap.size) (by simp [go_sem]) (by simp [go_sem]) (by simp [go_sem]) (by simp [go_sem]) (by simp [go_sem]) (by simp [go_sem]) (by simp [go_sem]) (by simp [go_sem]) ).below hb1 (by go_size)
  have A3 := (Arr.mk4 (f := fun j => .int .u64 (lim M j)) (b := w.heap.size + 1) (by simp [go_sem]) (by simp [go_sem]) (by simp [go_sem]) (by simp [go_sem]) (by simp [go_sem]) (by simp [go_sem]) (by simp [go_sem]) (by simp [go_sem]) ).below hb1 (by go_size)
  have A4 := (Arr.mk4 (f := fun j => .int .u64 0) (b := w.heap.size + 1 + 1) (by simp [go_sem]) (by simp [go_sem]) (by simp [go_sem]) (by simp [go_sem]) (by simp [go_sem]) (by simp [go_sem]) (by simp [go_sem]) (by simp [go_sem]) ).below hb1 (by go_size)
  have s1 : w.heap.size + 1 + 1 < w1.heap.size := by have := hb1.size; simp at this; omega
  have hB1 : Below w.heap.size w w1 := Below.trans (by go_grown) (hb1.mono (by go_size))
  have c2 := A2.c
  have c3 := A3.c
  clear hb1 A2 A3 C
  go_wp2_with fail
  refine (D _).mono ?_
  rintro e w2 ⟨rfl, hb2⟩
  have A4' := A4.below hb2 (by omega)
  have hB2 : Below w.heap.size w w2 := hB1.trans (hb2.mono hB1.size)
  have c4 := A4'.c
  have z4 := A4'.z
  clear hb2 A4 A4' D c2 c3
  go_wp2_with fail
  refine bodyPost_ret (v := nv R) (by simp [results, Try.results62, go_sem, c4]) rfl ⟨rfl, ?_⟩
  go_grown
theorem sg_lt {a b : Int} (h : a < b) : sg a b = -1 := by unfold sg; rw [if_pos h]
theorem sg_ge {a b : Int} (h : b ≤ a) : ¬ sg a b < 0 := by unfold sg; rw [if_neg (by omega)]; split <;> omega
theorem below_any (A M : Int) (hA : 0 ≤ A) (hA' : A < top256) (hM : 0 ≤ M) (hM' : M < top256) (w : World) :
    Calls Try.prog 62 #[nv A, nv M] w fun e w' => e = .returned (nv (md A M)) ∧ Below w.heap.size w w' := by
  by_cases c : A < M
  · have e : md A M = A := by rw [md_pos A (by omega)]; exact Int.emod_eq_of_lt hA c
    rw [e]
    refine below_lt A M w fun W => ?_
    have := cmp_any A M hA hA' hM hM' W
    rw [sg_lt c] at this
    exact this
  · refine below_ge A M (md A M) (sg A M) (sg_ge (by omega)) w (fun W => cmp_any A M hA hA' hM hM' W) fun W => ?_
    have := rem_any A 0 M hA hA' (by omega) (by decide) hM hM' W
    rw [nv_zero, Int.zero_mul, Int.add_zero] at this
    exact this
set_option maxHeartbeats 1000000 in
theorem mmul_core (A B M L H R : Int) (w : World)
    (C : ∀ W, Calls Try.prog 57 #[nv A, nv B] W fun e w' => e = .returned (.tuple #[nv L, nv H]) ∧ Below W.heap.size W w')
    (D : ∀ W, Calls Try.prog 27 #[nv L, nv H, nv M] W fun e w' => e = .returned (nv R) ∧ Below W.heap.size W w') :
    Calls Try.prog 33 #[nv A, nv B, nv M] w fun e w' => e = .returned (nv R) ∧ Below w.heap.size w w' := by
  go_enter Try.func33, Try.ntmps33
  go_wp2_with fail
  refine (C _).mono ?_
  rintro e w1 ⟨rfl, hb1⟩
  have A5 := (Arr.mk4 (f := fun j => .int .u64 (lim M j)) (b := w.heap.size + 1 + 1) (by simp [go_sem]) (by simp [go_sem]) (by simp [go_sem]) (by simp [go_sem]) (by simp [go_sem]) (by simp [go_sem]) (by simp [go_sem]) (by simp [go_sem]) ).below hb1 (by go_size)
  have A6 := (Arr.mk4 (f := fun j => .int .u64 0) (b := w.heap.size + 1 + 1 + 1) (by simp [go_sem]) (by simp [go_sem]) (by simp [go_sem]) (by simp [go_sem]) (by simp [go_sem]) (by simp [go_sem]) (by simp [go_sem]) (by simp [go_sem]) ).below hb1 (by go_size)
  have s1 : w.heap.size + 1 + 1 + 1 < w1.heap.size := by have := hb1.size; simp at this; omega
  have hB1 : Below w.heap.size w w1 := Below.trans (by go_grown) (hb1.mono (by go_size))
  have c5 : ∀ o1 o2 j, j < 4 → ((w1.alloc o1).alloc o2).cell? ⟨w.heap.size + 1 + 1, j, none⟩ = some (.int .u64 (lim M j)) := fun o1 o2 j hj => ((A5.alloc (by omega) o1).alloc (by go_size) o2).c j hj
  clear hb1 A5 C
  go_wp2_with fail
  refine (D _).mono ?_
  rintro e w2 ⟨rfl, hb2⟩
  have A6' := ((A6.alloc (by omega) _).alloc (by go_size) _).below hb2 (by go_size)
  have hB2 : Below w.heap.size w w2 := ((hB1.alloc (by go_size) _).alloc (by go_size) _).trans (hb2.mono (by go_size))
  have c6 := A6'.c
  have z6 := A6'.z
  clear hb2 A6 A6' D c5
  go_wp2_with fail
  refine bodyPost_ret (v := nv R) (by simp [results, Try.results33, go_sem, c6]) rfl ⟨rfl, ?_⟩
  go_grown
theorem mmul_any (A B M : Int) (hA : 0 ≤ A) (hA' : A < top256) (hB : 0 ≤ B) (hB' : B < top256) (hM : 0 ≤ M) (hM' : M < top256) (w : World) :
    Calls Try.prog 33 #[nv A, nv B, nv M] w fun e w' => e = .returned (nv (md (A * B) M)) ∧ Below w.heap.size w w' := by
  have p0 : 0 ≤ A * B := Int.mul_nonneg hA hB
  have tp : (0 : Int) < top256 := by decide
  have p1 : A * B / top256 < top256 := Int.ediv_lt_of_lt_mul tp (by
    have h1 : A * B ≤ A * top256 := Int.mul_le_mul_of_nonneg_left (by omega) hA
    have h2 : A * top256 < top256 * top256 := Int.mul_lt_mul_of_pos_right hA' tp
    omega)
  have e : A * B = A * B % top256 + A * B / top256 * top256 := by have := Int.emod_add_mul_ediv (A * B) top256; rw [Int.mul_comm top256] at this; omega
  refine mmul_core A B M (A * B) (A * B / top256) (md (A * B) M) w (fun W => mul_any A B hA hA' hB hB' W) fun W => ?_
  have := rem_any (A * B % top256) (A * B / top256) M (Int.emod_nonneg _ (by omega)) (Int.emod_lt_of_pos _ tp) (Int.ediv_nonneg p0 (by omega)) p1 hM hM' W
  rw [← e] at this
  have en : nv (A * B % top256) = nv (A * B) := by simp only [nv, lim_mod _ 0 (by omega), lim_mod _ 1 (by omega), lim_mod _ 2 (by omega), lim_mod _ 3 (by omega)]
  rw [en] at this
  exact this
end Go.Proofs.Ytpigofooblmdhaa
