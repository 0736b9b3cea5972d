/- What the reference's FromLittle answers. -/
import Derived.Test.YtpigofooblmdhaaT7
set_option linter.all false
set_option maxRecDepth 100000
namespace Go.Proofs.Ytpigofooblmdhaa
open Go.RowKit
theorem pn_first (wd : Nat) (g : Nat → Int) (b : Nat) : pn wd g (b + 1) = g 0 * 2 ^ (wd * b) + pn wd (sh g 1) b := by
  have := pn_add wd g 1 b
  rw [Nat.add_comm 1 b] at this
  rw [this]
  show (0 * 2 ^ wd + g 0) * _ + _ = _
  rw [Int.zero_mul, Int.zero_add]
/-- Part j when k bytes have come, the lowest first. -/
def pl (f : Nat → Int) : Nat → Nat → Int
  | 0, _ => 0
  | k + 1, j => if j = k / 8 then pl f k j + f k * 2 ^ (8 * (k % 8)) else pl f k j
theorem pl_is (f : Nat → Int) : ∀ k j, pl f k j = if k ≤ 8 * j then 0 else if k ≤ 8 * j + 8 then pn 8 (fun i => f (k - 1 - i)) (k - 8 * j) else pn 8 (fun i => f (8 * j + 7 - i)) 8 := by
  intro k
  induction k with
  | zero => intro j; simp [pl]
  | succ k ih =>
    intro j
    have hi := ih j
    show (if j = k / 8 then pl f k j + f k * 2 ^ (8 * (k % 8)) else pl f k j) = _
    by_cases c : j = k / 8
    · rw [if_pos c, hi, if_neg (show ¬ k + 1 ≤ 8 * j by omega), if_pos (show k + 1 ≤ 8 * j + 8 by omega)]
      have e : k + 1 - 8 * j = (k - 8 * j) + 1 := by omega
      rw [e, pn_first 8 (fun i => f (k + 1 - 1 - i)) (k - 8 * j)]
      have e2 : (fun i => f (k + 1 - 1 - i)) 0 = f k := by simp
      have e3 : sh (fun i => f (k + 1 - 1 - i)) 1 = fun i => f (k - 1 - i) := by funext i; unfold sh; simp only; congr 1; omega
      rw [e3, show k - 8 * j = k % 8 by omega]
      show _ = f (k + 1 - 1 - 0) * _ + _
      rw [show k + 1 - 1 - 0 = k by omega]
      by_cases c2 : k ≤ 8 * j
      · rw [if_pos c2, show k % 8 = 0 by omega]
        simp [pn]
      · rw [if_neg c2, if_pos (show k ≤ 8 * j + 8 by omega), Int.add_comm]
    · rw [if_neg c, hi]
      by_cases c2 : k + 1 ≤ 8 * j
      · rw [if_pos c2, if_pos (by omega)]
      · rw [if_neg c2]
        by_cases c3 : k ≤ 8 * j
        · omega
        · rw [if_neg c3, if_neg (show ¬ k + 1 ≤ 8 * j + 8 by omega)]
          by_cases c4 : k ≤ 8 * j + 8
          · have ek : k = 8 * j + 8 := by omega
            rw [if_pos c4, ek, show 8 * j + 8 - 8 * j = 8 by omega]
            rfl
          · rw [if_neg c4]
theorem pl_lim (f : Nat → Int) (hf : ∀ i, 0 ≤ f i ∧ f i < 2 ^ 8) (j : Nat) (hj : j < 4) : pl f 32 j = lim (pn 8 (fun i => f (31 - i)) 32) j := by
  have h := pb_lim 8 8 (fun i => f (31 - i)) (by omega) (by omega) (fun i => hf _) j hj
  rw [show (4 * 8 : Nat) = 32 from rfl] at h
  have e : j = 0 ∨ j = 1 ∨ j = 2 ∨ j = 3 := by omega
  rw [← h, pb_is 8 8 _ (by omega) 32 j hj (by omega), pl_is]
  rcases e with rfl | rfl | rfl | rfl <;> rfl
theorem pl_bd (f : Nat → Int) (hf : ∀ i, 0 ≤ f i ∧ f i < 2 ^ 8) (k : Nat) : 0 ≤ pl f k (k / 8) ∧ pl f k (k / 8) < 2 ^ (8 * (k % 8)) := by
  rw [pl_is]
  by_cases c : k ≤ 8 * (k / 8)
  · rw [if_pos c]; exact ⟨Int.le_refl _, Int.pow_pos (by omega)⟩
  · rw [if_neg c, if_pos (show k ≤ 8 * (k / 8) + 8 by omega), show k - 8 * (k / 8) = k % 8 by omega]
    exact ⟨pn_nn 8 _ (fun i => (hf _).1) _, pn_lt 8 _ (fun i => hf _) _⟩
theorem or_up (x d : Int) (r : Nat) (hr : r < 8) (x0 : 0 ≤ x) (x1 : x < 2 ^ (8 * r)) (d0 : 0 ≤ d) (d1 : d < 256) :
    bits .or .u64 x (IntKind.u64.wrap (d * 2 ^ (8 * r))) = x + d * 2 ^ (8 * r) := by
  by_cases c : r = 0
  · subst c
    have hx : x = 0 := by simp at x1; omega
    subst hx
    have w : IntKind.u64.wrap (d * 2 ^ (8 * 0)) = d := by rw [IntKind.wrap_u64]; simp; omega
    rw [w]
    have b := bits_or_u64_nat 0 d.toNat (by omega) (by omega)
    rw [Int.toNat_of_nonneg d0] at b
    have e : bits .or .u64 0 d = d := by
      have : ((0 : Nat) : Int) = 0 := rfl
      rw [← this, b]
      simp; omega
    rw [e]; simp
  · have p : (0 : Int) < 2 ^ (64 - 8 * r) := Int.pow_pos (by omega)
    have sp : (2 : Int) ^ (8 * r) * 2 ^ (64 - 8 * r) = 18446744073709551616 := pow_split (8 * r) (by omega)
    have h0 : 0 ≤ x * 2 ^ (64 - 8 * r) := Int.mul_nonneg x0 (Int.le_of_lt p)
    have h1 : x * 2 ^ (64 - 8 * r) < 18446744073709551616 := by rw [← sp]; exact Int.mul_lt_mul_of_pos_right x1 p
    have j := or_join (x * 2 ^ (64 - 8 * r)) d (64 - 8 * r) (by omega) h0 h1 d0
    rw [Int.mul_ediv_cancel _ (Int.ne_of_gt p), show 64 - (64 - 8 * r) = 8 * r by omega] at j
    have hd : d % 2 ^ (64 - 8 * r) = d := by
      refine Int.emod_eq_of_lt d0 ?_
      have : (2 : Nat) ^ 8 ≤ 2 ^ (64 - 8 * r) := Nat.pow_le_pow_right (by omega) (by omega)
      have q : ((2 ^ 8 : Nat) : Int) ≤ ((2 ^ (64 - 8 * r) : Nat) : Int) := Int.ofNat_le.2 this
      have e1 : ((2 ^ 8 : Nat) : Int) = 256 := rfl
      have e2 : ((2 ^ (64 - 8 * r) : Nat) : Int) = 2 ^ (64 - 8 * r) := by push_cast; rfl
      omega
    rw [hd] at j
    exact j
set_option maxRecDepth 100000 in
set_option maxHeartbeats 4000000 in
theorem refFromLittle_ok (s : ByteArray) (hs : s.size = 32) (w : World) :
    Calls Try.prog 13 #[.string s] w fun e w' => e = .returned (.tuple #[.agg #[.int .u64 (pl (bt s) 32 0), .int .u64 (pl (bt s) 32 1), .int .u64 (pl (bt s) 32 2), .int .u64 (pl (bt s) 32 3)], .int .i64 0]) ∧ Below w.heap.size w w' := by
  have LE := fun W => sized_any s 32 (by rw [hs]; decide) W
  have le0 : lenE (s.size : Int) 32 = 0 := by rw [hs]; decide
  rw [le0] at LE
  go_enter Try.func13, Try.ntmps13
  go_wp2_with (go_at_call 51; refine (LE _).mono ?_; rintro e w1 ⟨rfl, rfl⟩)
  go_loopw [6] (fun i wr => ∃ k : Nat, k ≤ 32 ∧ i = .int .i64 k ∧ Below w.heap.size w wr ∧ Arr wr w.heap.size 4 (fun _ => .int .u64 0) ∧ Arr wr (w.heap.size + 1) 4 (fun j => .int .u64 (pl (bt s) k j)))
    (fun i _ => 32 - (intOf i).toNat)
  case atStart => exact ⟨0, by omega, rfl, by go_grown, Arr.mk4 (by simp [go_sem]) (by simp [go_sem]) (by simp [go_sem]) (by simp [go_sem]) (by simp [go_sem]) (by simp [go_sem]) (by simp [go_sem]) (by simp [go_sem]), Arr.mk4 (by simp [go_sem, pl]) (by simp [go_sem, pl]) (by simp [go_sem, pl]) (by simp [go_sem, pl]) (by simp [go_sem]) (by simp [go_sem]) (by simp [go_sem]) (by simp [go_sem])⟩
  case round =>
    clear LE le0
    obtain ⟨k, hk, rfl, hB, hZ, hA⟩ := hrel
    by_cases hlt : k < 32
    · have k0 : (0 : Int) ≤ (k : Int) := by omega
      have k32 : (k : Int) < 32 := by omega
      obtain ⟨q, r, hq, hr, qe, re⟩ : ∃ q r : Nat, (k : Int) / 8 = (q : Int) ∧ (k : Int) % 8 = (r : Int) ∧ q = k / 8 ∧ r = k % 8 := ⟨k / 8, k % 8, by omega, by omega, rfl, rfl⟩
      have q0 : (0 : Int) ≤ (q : Int) := by omega
      have q4 : (q : Int) < 4 := by omega
      have r0 : (0 : Int) ≤ (r : Int) := by omega
      have r8 : (r : Int) < 8 := by omega
      have bb := bt_bd s k
      have I := fun W => idxS s k (by omega) W
      have pbd := pl_bd (bt s) (bt_8 s) k
      rw [← qe, ← re] at pbd
      have ou := or_up (pl (bt s) k q) (bt s k) r (by omega) pbd.1 pbd.2 bb.1 bb.2
      have ra := hA.c q (by omega)
      have za := hA.z q (by omega)
      have tn : (8 * (r : Int)).toNat = 8 * r := by omega
      have st : Arr ((wr.setCell ⟨w.heap.size + 1, q, none⟩ (.int .u64 (pl (bt s) k q + bt s k * 2 ^ (8 * r)))).drew) (w.heap.size + 1) 4 (fun j => .int .u64 (pl (bt s) (k + 1) j)) := by
        refine ((hA.set q (by omega) _).congr ?_).drew
        intro j hj
        show _ = Value.int .u64 (if j = k / 8 then pl (bt s) k j + bt s k * 2 ^ (8 * (k % 8)) else pl (bt s) k j)
        by_cases h : j = q
        · subst h; rw [if_pos rfl, if_pos qe, re]
        · rw [if_neg h, if_neg (by omega)]
      have sz : Arr ((wr.setCell ⟨w.heap.size + 1, q, none⟩ (.int .u64 (pl (bt s) k q + bt s k * 2 ^ (8 * r)))).drew) w.heap.size 4 (fun _ => .int .u64 0) := (hZ.other (by omega) _).drew
      have sB : Below w.heap.size w ((wr.setCell ⟨w.heap.size + 1, q, none⟩ (.int .u64 (pl (bt s) k q + bt s k * 2 ^ (8 * r)))).drew) := (hB.setCell (by show _ ≤ w.heap.size + 1; omega) _).drew
      clear qe re pbd hA hZ hB
      go_wp2_with fail
      go_region
      go_wp2_with fail
      exact ⟨⟨k + 1, by omega, by go_num, sB, sz, st⟩, by simp [intOf]; omega⟩
    · have e32 : k = 32 := by omega
      subst e32
      have r1 := hA.c
      have r0 := hZ.c
      have z0 := hZ.z
      clear hA hZ
      go_wp2_with fail
      refine bodyPost_ret (v := .tuple #[.agg #[.int .u64 (pl (bt s) 32 0), .int .u64 (pl (bt s) 32 1), .int .u64 (pl (bt s) 32 2), .int .u64 (pl (bt s) 32 3)], .int .i64 0]) (by simp [results, Try.results13, go_sem, r0]) rfl ⟨rfl, ?_⟩
      go_grown
end Go.Proofs.Ytpigofooblmdhaa
