/- num.FromBig and num.Parse, as whole numbers. -/
import Derived.Test.YtpigofooblmdhaaT2
set_option linter.all false
set_option maxRecDepth 100000
namespace Go.Proofs.Ytpigofooblmdhaa
open Go.RowKit
theorem pb_lim (wd p : Nat) (f : Nat → Int) (hp : 0 < p) (hw : wd * p = 64) (hf : ∀ i, 0 ≤ f i ∧ f i < 2 ^ wd) (j : Nat) (hj : j < 4) : pb wd p f (4 * p) j = lim (pn wd f (4 * p)) j := by
  have e4 : (4 - j) * p = (3 - j) * p + p := by rw [show 4 - j = 3 - j + 1 by omega, Nat.add_mul, Nat.one_mul]
  have ej : 4 * p = (4 - j) * p + j * p := by rw [← Nat.add_mul]; congr 1; omega
  have a1 : pb wd p f (4 * p) j = pn wd (sh f ((3 - j) * p)) p := by
    rw [pb_is wd p f hp (4 * p) j hj (Nat.le_refl _), if_neg (by omega)]
    split
    · congr 1; omega
    · rfl
  have p64 : (2 : Int) ^ (wd * p) = 18446744073709551616 := by rw [hw]; rfl
  have pj : (2 : Int) ^ (wd * (j * p)) = 18446744073709551616 ^ j := by
    rw [show wd * (j * p) = wd * p * j by rw [Nat.mul_comm j p, Nat.mul_assoc], Int.pow_mul, p64]
  have b0 := pn_nn wd (sh f ((4 - j) * p)) (fun i => (hf _).1) (j * p)
  have b1 := pn_lt wd (sh f ((4 - j) * p)) (fun i => hf _) (j * p)
  have c0 := pn_nn wd (sh f ((3 - j) * p)) (fun i => (hf _).1) p
  have c1 := pn_lt wd (sh f ((3 - j) * p)) (fun i => hf _) p
  rw [p64] at c1
  rw [pj] at b1
  have d1 := pn_add wd f ((4 - j) * p) (j * p)
  have d2 := pn_add wd f ((3 - j) * p) p
  rw [← ej, pj, e4] at d1
  rw [p64] at d2
  have pp : (0 : Int) < 18446744073709551616 ^ j := Int.pow_pos (by omega)
  rw [a1]
  unfold lim
  rw [d1, d2, Int.add_comm, Int.add_mul_ediv_right _ _ (Int.ne_of_gt pp), Int.ediv_eq_zero_of_lt (by rw [e4] at b0; exact b0) (by rw [e4] at b1; exact b1), Int.zero_add]
  omega
theorem nv_pb (wd p : Nat) (f : Nat → Int) (hp : 0 < p) (hw : wd * p = 64) (hf : ∀ i, 0 ≤ f i ∧ f i < 2 ^ wd) :
    (.agg #[.int .u64 (pb wd p f (4 * p) 0), .int .u64 (pb wd p f (4 * p) 1), .int .u64 (pb wd p f (4 * p) 2), .int .u64 (pb wd p f (4 * p) 3)] : Value) = nv (pn wd f (4 * p)) := by
  simp only [nv, pb_lim wd p f hp hw hf 0 (by omega), pb_lim wd p f hp hw hf 1 (by omega), pb_lim wd p f hp hw hf 2 (by omega), pb_lim wd p f hp hw hf 3 (by omega)]
theorem bt_8 (s : ByteArray) : ∀ i, 0 ≤ bt s i ∧ bt s i < 2 ^ 8 := fun i => by have := bt_bd s i; simpa using this
theorem fromBig_yes (s : ByteArray) (hs : s.size = 32) (w : World) :
    Calls Try.prog 10 #[.string s] w fun e w' => e = .returned (.tuple #[nv (pn 8 (bt s) 32), .int .i64 0]) ∧ Below w.heap.size w w' := by
  have := fromBig_ok s hs w
  rw [show (32 : Nat) = 4 * 8 from rfl, nv_pb 8 8 (bt s) (by omega) (by omega) (bt_8 s)] at this
  exact this
set_option maxHeartbeats 1000000 in
theorem fromBig_no (s : ByteArray) (hs : s.size ≤ maxLen) (hn : s.size ≠ 32) (w : World) :
    Calls Try.prog 10 #[.string s] w fun e w' => e = .returned (.tuple #[.agg #[.int .u64 0, .int .u64 0, .int .u64 0, .int .u64 0], .int .i64 (lenE s.size 32)]) ∧ Below w.heap.size w w' := by
  have LE := fun W => lengthError_any s 32 hs W
  have ne : ¬ lenE (s.size : Int) 32 = 0 := by unfold lenE; split <;> (try split) <;> omega
  generalize lenE (s.size : Int) 32 = E at *
  go_enter Try.func10, Try.ntmps10
  go_wp2_with (go_at_call 48; refine (LE _).mono ?_; rintro e w1 ⟨rfl, rfl⟩)
  refine bodyPost_ret (v := .tuple #[.agg #[.int .u64 0, .int .u64 0, .int .u64 0, .int .u64 0], .int .i64 E]) (by simp [results, Try.results10, go_sem]) rfl ⟨rfl, ?_⟩
  go_grown
/-- Each sign of a text's first k is a digit. -/
def alld (s : ByteArray) (k : Nat) : Prop := ∀ i, i < k → dgo (bt s i) = true
/-- The digits of a text. -/
def dg (s : ByteArray) (i : Nat) : Int := dgv (bt s i)
theorem dg_4 (s : ByteArray) : ∀ i, 0 ≤ dg s i ∧ dg s i < 2 ^ 4 := fun i => by
  unfold dg dgv
  split
  · simp; omega
  · split
    · simp; omega
    · simp
set_option maxHeartbeats 1000000 in
theorem parse_no (s : ByteArray) (hs : s.size ≤ maxLen) (hn : s.size ≠ 64) (w : World) :
    Calls Try.prog 8 #[.string s] w fun e w' => e = .returned (.tuple #[.agg #[.int .u64 0, .int .u64 0, .int .u64 0, .int .u64 0], .int .i64 (lenE s.size 64)]) ∧ Below w.heap.size w w' := by
  have LE := fun W => lengthError_any s 64 hs W
  have ne : ¬ lenE (s.size : Int) 64 = 0 := by unfold lenE; split <;> (try split) <;> omega
  generalize lenE (s.size : Int) 64 = E at *
  go_enter Try.func8, Try.ntmps8
  go_wp2_with (go_at_call 48; refine (LE _).mono ?_; rintro e w1 ⟨rfl, rfl⟩)
  refine bodyPost_ret (v := .tuple #[.agg #[.int .u64 0, .int .u64 0, .int .u64 0, .int .u64 0], .int .i64 E]) (by simp [results, Try.results8, go_sem]) rfl ⟨rfl, ?_⟩
  go_grown
set_option maxRecDepth 100000 in
set_option maxHeartbeats 4000000 in
theorem parse_64 (s : ByteArray) (hs : s.size = 64) (w : World) :
    Calls Try.prog 8 #[.string s] w fun e w' => ((alld s 64 ∧ e = .returned (.tuple #[.agg #[.int .u64 (pb 4 16 (dg s) 64 0), .int .u64 (pb 4 16 (dg s) 64 1), .int .u64 (pb 4 16 (dg s) 64 2), .int .u64 (pb 4 16 (dg s) 64 3)], .int .i64 0])) ∨
      (¬ alld s 64 ∧ e = .returned (.tuple #[.agg #[.int .u64 0, .int .u64 0, .int .u64 0, .int .u64 0], .int .i64 10]))) ∧ Below w.heap.size w w' := by
  have LE := fun W => lengthError_any s 64 (by rw [hs]; decide) W
  have le0 : lenE (s.size : Int) 64 = 0 := by rw [hs]; decide
  rw [le0] at LE
  go_enter Try.func8, Try.ntmps8
  go_wp2_with (go_at_call 48; refine (LE _).mono ?_; rintro e w1 ⟨rfl, rfl⟩)
  go_loopw [15] (fun i wr => ∃ k : Nat, k ≤ 64 ∧ i = .int .i64 k ∧ alld s k ∧ Below w.heap.size w wr ∧ Arr wr w.heap.size 4 (fun _ => .int .u64 0) ∧ Arr wr (w.heap.size + 1) 4 (fun j => .int .u64 (pb 4 16 (dg s) k j)))
    (fun i _ => 64 - (intOf i).toNat)
  case atStart => exact ⟨0, by omega, rfl, fun i h => by omega, by go_grown, Arr.mk4 (by simp [go_sem]) (by simp [go_sem]) (by simp [go_sem]) (by simp [go_sem]) (by simp [go_sem]) (by simp [go_sem]) (by simp [go_sem]) (by simp [go_sem]), Arr.mk4 (by simp [go_sem, pb]) (by simp [go_sem, pb]) (by simp [go_sem, pb]) (by simp [go_sem, pb]) (by simp [go_sem]) (by simp [go_sem]) (by simp [go_sem]) (by simp [go_sem])⟩
  case round =>
    clear LE le0
    obtain ⟨k, hk, rfl, hall, hB, hZ, hA⟩ := hrel
    by_cases hlt : k < 64
    · have k0 : (0 : Int) ≤ (k : Int) := by omega
      have k64 : (k : Int) < 64 := by omega
      obtain ⟨q, hq⟩ : ∃ q : Nat, (k : Int) / 16 = (q : Int) := ⟨k / 16, by omega⟩
      have q4 : q < 4 := by omega
      have jq : 3 - q + k / 16 = 3 := by omega
      have bb := bt_bd s k
      have I := fun W => idxS s k (by omega) W
      have DV := fun W => digitValue_any (bt s k) bb.1 bb.2 W
      by_cases hd : dgo (bt s k) = true
      · have hf := dg_4 s
        have db : 0 ≤ dg s k ∧ dg s k < 256 := by have := hf k; simp at this; omega
        have rm := pb_room 4 16 (dg s) (by omega) (by omega) hf k (3 - q) (by omega) (by omega) jq
        have xb := pb_bd 4 16 (dg s) (by omega) (by omega) hf k (3 - q) (by omega) (by omega)
        have PU := push_any (w.heap.size + 1) _ q q4 4 (dg s k) (pb 4 16 (dg s) k (3 - q)) (by omega) (by omega) db.1 db.2 wr hA rfl xb.1 xb.2
        have ol := or_low (pb 4 16 (dg s) k (3 - q)) (dg s k) 4 (.inl rfl) xb.1 rm db.1 (hf k).2
        rw [show (4 : Int).toNat = 4 from rfl, ol, show (2 : Int) ^ 4 = 16 by decide] at PU
        have st : Arr ((wr.setCell ⟨w.heap.size + 1, 3 - q, none⟩ (.int .u64 (pb 4 16 (dg s) k (3 - q) * 16 + dg s k))).drew) (w.heap.size + 1) 4 (fun j => .int .u64 (pb 4 16 (dg s) (k + 1) j)) := by
          refine ((hA.set (3 - q) (by omega) _).congr ?_).drew
          intro j hj
          show _ = Value.int .u64 (if j + k / 16 = 3 then pb 4 16 (dg s) k j * 2 ^ 4 + dg s k else pb 4 16 (dg s) k j)
          by_cases h : j = 3 - q
          · subst h; rw [if_pos rfl, if_pos jq, show (2 : Int) ^ 4 = 16 by decide]
          · rw [if_neg h, if_neg (by omega)]
        have sz : Arr ((wr.setCell ⟨w.heap.size + 1, 3 - q, none⟩ (.int .u64 (pb 4 16 (dg s) k (3 - q) * 16 + dg s k))).drew) w.heap.size 4 (fun _ => .int .u64 0) := (hZ.other (by omega) _).drew
        have sB : Below w.heap.size w ((wr.setCell ⟨w.heap.size + 1, 3 - q, none⟩ (.int .u64 (pb 4 16 (dg s) k (3 - q) * 16 + dg s k))).drew) := (hB.setCell (by show _ ≤ w.heap.size + 1; omega) _).drew
        have hall' : alld s (k + 1) := fun i hi => by
          by_cases e : i = k
          · subst e; exact hd
          · exact hall i (by omega)
        rw [hd] at DV
        have DV' : ∀ W, Calls Try.prog 49 #[.int .u8 (bt s k)] W fun e w' => e = .returned (.tuple #[.int .u8 (dg s k), .bool true]) ∧ w' = W := DV
        have HA : Hid (alld s (k + 1)) := hall'
        clear ol rm xb hf jq hA hZ hB DV hall hall' hd
        go_wp2_with (first | (go_at_call 49; refine (DV' _).mono ?_; rintro e w1 ⟨rfl, rfl⟩) | (go_at_call 50; refine PU.mono ?_; rintro e w1 ⟨⟨v, rfl⟩, rfl⟩))
        exact ⟨⟨k + 1, by omega, by go_num, HA.out, sB, sz, st⟩, by simp [intOf]; omega⟩
      · have hd' : dgo (bt s k) = false := by simpa using hd
        rw [hd'] at DV
        have HN : Hid (¬ alld s 64) := fun h => hd (h k hlt)
        have r0 := hZ.c
        have z0 := hZ.z
        clear hA hZ hall hd hd' jq
        go_wp2_with (first | (go_at_call 49; refine (DV _).mono ?_; rintro e w1 ⟨rfl, rfl⟩))
        refine bodyPost_ret (v := .tuple #[.agg #[.int .u64 0, .int .u64 0, .int .u64 0, .int .u64 0], .int .i64 10]) (by simp [results, Try.results8, go_sem, r0]) rfl ⟨.inr ⟨HN.out, rfl⟩, ?_⟩
        go_grown
    · have e64 : k = 64 := by omega
      subst e64
      have r1 := hA.c
      have r0 := hZ.c
      have z0 := hZ.z
      have HA : Hid (alld s 64) := hall
      clear hA hZ hall
      go_wp2_with fail
      refine bodyPost_ret (v := .tuple #[.agg #[.int .u64 (pb 4 16 (dg s) 64 0), .int .u64 (pb 4 16 (dg s) 64 1), .int .u64 (pb 4 16 (dg s) 64 2), .int .u64 (pb 4 16 (dg s) 64 3)], .int .i64 0]) (by simp [results, Try.results8, go_sem, r0]) rfl ⟨.inl ⟨HA.out, rfl⟩, ?_⟩
      go_grown
end Go.Proofs.Ytpigofooblmdhaa
