/- Numbers as texts and back (carried). -/
import Derived.Test.YtajdfjpcobaioaaGreatDoorN1
import Derived.Deep.RegionLaw
import Derived.Laws.BytesString
import Derived.Laws.MakeOwn
import Derived.Laws.MathBits
import Derived.Deep.WholeRow
set_option linter.all false
set_option maxRecDepth 100000
namespace Go.Proofs.YtajdfjpcobaioaaGreatDoor
open Go.RowKit Go.Sort
/-- Which error a text's length is. -/
def lenE (s n : Int) : Int := if s < n then 11 else if n < s then 12 else 0
set_option maxHeartbeats 1000000 in
theorem lengthError_any (s : ByteArray) (n : Int) (hs : s.size ≤ maxLen) (w : World) :
    Calls Tryz.prog 42 #[.string s, .int .i64 n] w fun e w' => e = .returned (.int .i64 (lenE s.size n)) ∧ w' = w := by
  unfold maxLen at hs
  unfold lenE
  by_cases h : (s.size : Int) < n
  · rw [if_pos h]
    go_enter Tryz.func42, Tryz.ntmps42
    go_wp2
    go_ret
    exact ⟨rfl, rfl⟩
  · rw [if_neg h]
    by_cases h2 : n < (s.size : Int)
    · rw [if_pos h2]
      go_enter Tryz.func42, Tryz.ntmps42
      go_wp2
      go_ret
      exact ⟨rfl, rfl⟩
    · rw [if_neg h2]
      go_enter Tryz.func42, Tryz.ntmps42
      go_wp2
      go_ret
      exact ⟨rfl, rfl⟩
set_option maxHeartbeats 2000000 in
theorem push_any (b : Nat) (f : Nat → Value) (t : Nat) (ht : t < 4) (wd d x : Int) (hw0 : 0 ≤ wd) (hw1 : wd ≤ 8) (hd0 : 0 ≤ d) (hd1 : d < 256) (W : World) (hA : Arr W b 4 f) (hx : f (3 - t) = .int .u64 x) (x0 : 0 ≤ x) (x1 : x < 18446744073709551616) :
    Calls Tryz.prog 43 #[.pointer (some ⟨b, 0, none⟩), .int .i64 t, .int .u64 wd, .int .u8 d] W fun e w' => (∃ v, e = .returned v) ∧ w' = (W.setCell ⟨b, 3 - t, none⟩ (.int .u64 (bits .or .u64 (IntKind.u64.wrap (x * 2 ^ wd.toNat)) d))).drew := by
  have r := hA.c (3 - t) (by omega)
  rw [hx] at r
  have z := hA.z (3 - t) (by omega)
  obtain ⟨q, hq⟩ : ∃ q : Nat, (3 : Int) - (t : Int) = (q : Int) := ⟨3 - t, by omega⟩
  have e : 3 - t = q := by omega
  rw [e] at r z ⊢
  have q0 : (0 : Int) ≤ (q : Int) := by omega
  have q4 : (q : Int) < 4 := by omega
  have t0 : (0 : Int) ≤ (t : Int) := by omega
  have t4 : (t : Int) < 4 := by omega
  clear e hA hx
  go_enter Tryz.func43, Tryz.ntmps43
  go_wp2
  go_region
  go_wp2
  go_end0
  exact ⟨⟨_, rfl⟩, rfl⟩
/-- Part j when k digits of wd bits have come, p digits a part. -/
def pb (wd p : Nat) (f : Nat → Int) : Nat → Nat → Int
  | 0, _ => 0
  | k + 1, j => if j + k / p = 3 then pb wd p f k j * 2 ^ wd + f k else pb wd p f k j
/-- The whole number when k digits have come. -/
def pn (wd : Nat) (f : Nat → Int) : Nat → Int
  | 0 => 0
  | k + 1 => pn wd f k * 2 ^ wd + f k
theorem pn_nn (wd : Nat) (f : Nat → Int) (hf : ∀ i, 0 ≤ f i) : ∀ k, 0 ≤ pn wd f k := by
  intro k
  induction k with
  | zero => exact Int.le_refl _
  | succ k ih => exact Int.add_nonneg (Int.mul_nonneg ih (Int.le_of_lt (Int.pow_pos (by omega)))) (hf k)
theorem pn_lt (wd : Nat) (f : Nat → Int) (hf : ∀ i, 0 ≤ f i ∧ f i < 2 ^ wd) : ∀ k, pn wd f k < 2 ^ (wd * k) := by
  intro k
  induction k with
  | zero => simp [pn]
  | succ k ih =>
    have h := hf k
    show pn wd f k * 2 ^ wd + f k < 2 ^ (wd * (k + 1))
    have e : (2 : Int) ^ (wd * (k + 1)) = 2 ^ (wd * k) * 2 ^ wd := by rw [Nat.mul_add, Nat.mul_one, Int.pow_add]
    have m : (pn wd f k + 1) * 2 ^ wd ≤ 2 ^ (wd * k) * 2 ^ wd := Int.mul_le_mul_of_nonneg_right (by omega) (Int.le_of_lt (Int.pow_pos (by omega)))
    rw [e]
    rw [Int.add_mul, Int.one_mul] at m
    omega
/-- The digits from a given one on. -/
def sh (f : Nat → Int) (a : Nat) : Nat → Int := fun i => f (a + i)
theorem pn_add (wd : Nat) (f : Nat → Int) (a : Nat) : ∀ b, pn wd f (a + b) = pn wd f a * 2 ^ (wd * b) + pn wd (sh f a) b := by
  intro b
  induction b with
  | zero => simp [pn]
  | succ b ih =>
    show pn wd f (a + b) * 2 ^ wd + f (a + b) = pn wd f a * 2 ^ (wd * (b + 1)) + (pn wd (sh f a) b * 2 ^ wd + sh f a b)
    rw [ih, Nat.mul_add, Nat.mul_one, Int.pow_add]
    show _ + f (a + b) = _ + (_ + f (a + b))
    grind
/-- A part while it is being filled holds just its own digits. -/
theorem pb_is (wd p : Nat) (f : Nat → Int) (hp : 0 < p) : ∀ k j, j < 4 → k ≤ 4 * p →
    pb wd p f k j = if k ≤ (3 - j) * p then 0 else if k ≤ (4 - j) * p then pn wd (sh f ((3 - j) * p)) (k - (3 - j) * p) else pn wd (sh f ((3 - j) * p)) p := by
  intro k
  induction k with
  | zero => intro j hj hk; simp [pb]
  | succ k ih =>
    intro j hj hk
    have hi := ih j hj (by omega)
    show (if j + k / p = 3 then pb wd p f k j * 2 ^ wd + f k else pb wd p f k j) = _
    have e4 : (4 - j) * p = (3 - j) * p + p := by
      rw [show 4 - j = 3 - j + 1 by omega, Nat.add_mul, Nat.one_mul]
    by_cases c : j + k / p = 3
    · have d : k / p = 3 - j := by omega
      have lo : (3 - j) * p ≤ k := by rw [← d]; exact Nat.div_mul_le_self k p
      have hi2 : k < (3 - j) * p + p := by
        have := Nat.lt_div_mul_add (a := k) hp
        rw [d] at this
        exact this
      rw [if_pos c, hi, if_neg (show ¬ k + 1 ≤ (3 - j) * p by omega), if_pos (show k + 1 ≤ (4 - j) * p by omega)]
      by_cases c2 : k ≤ (3 - j) * p
      · have ek : k = (3 - j) * p := by omega
        rw [if_pos c2]
        have : k + 1 - (3 - j) * p = 0 + 1 := by omega
        rw [this]
        show 0 * 2 ^ wd + f k = pn wd (sh f ((3 - j) * p)) 0 * 2 ^ wd + sh f ((3 - j) * p) 0
        simp [pn, sh, ← ek]
      · rw [if_neg c2, if_pos (show k ≤ (4 - j) * p by omega)]
        have : k + 1 - (3 - j) * p = (k - (3 - j) * p) + 1 := by omega
        rw [this]
        show _ = pn wd (sh f ((3 - j) * p)) (k - (3 - j) * p) * 2 ^ wd + sh f ((3 - j) * p) (k - (3 - j) * p)
        have : sh f ((3 - j) * p) (k - (3 - j) * p) = f k := by unfold sh; congr 1; omega
        rw [this]
    · rw [if_neg c, hi]
      by_cases c2 : k + 1 ≤ (3 - j) * p
      · rw [if_pos c2, if_pos (by omega)]
      · rw [if_neg c2]
        have nlt : ¬ k < (3 - j) * p + p := by
          intro hlt
          have a1 : k / p = 3 - j := by
            refine Nat.div_eq_of_lt_le (by omega) ?_
            rw [Nat.add_mul, Nat.one_mul]; exact hlt
          omega
        rw [if_neg (show ¬ k ≤ (3 - j) * p by omega), if_neg (show ¬ k + 1 ≤ (4 - j) * p by omega)]
        by_cases c3 : k ≤ (4 - j) * p
        · have : k - (3 - j) * p = p := by omega
          rw [if_pos c3, this]
        · rw [if_neg c3]
theorem or_low (x d : Int) (wd : Nat) (h : wd = 4 ∨ wd = 8) (x0 : 0 ≤ x) (x1 : x * 2 ^ wd < 18446744073709551616) (d0 : 0 ≤ d) (d1 : d < 2 ^ wd) :
    bits .or .u64 (IntKind.u64.wrap (x * 2 ^ wd)) d = x * 2 ^ wd + d := by
  have e : bits .or .u64 d (IntKind.u64.wrap (x * 2 ^ (64 - (64 - wd)))) = d + x * 2 ^ wd := by
    have j := or_join (d * 2 ^ (64 - wd)) x (64 - wd) (by omega) (Int.mul_nonneg d0 (Int.le_of_lt (Int.pow_pos (by omega)))) (by
      rcases h with rfl | rfl
      · have : d < 16 := by simpa using d1
        simp; omega
      · have : d < 256 := by simpa using d1
        simp; omega) x0
    rw [Int.mul_ediv_cancel _ (Int.ne_of_gt (Int.pow_pos (by omega)))] at j
    rw [j]
    have hx : x % 2 ^ (64 - wd) = x := by
      refine Int.emod_eq_of_lt x0 ?_
      rcases h with rfl | rfl
      · simp at x1 ⊢; omega
      · simp at x1 ⊢; omega
    rw [hx, show 64 - (64 - wd) = wd by omega]
  rw [show 64 - (64 - wd) = wd by omega] at e
  have c : ∀ a b : Int, bits .or .u64 a b = bits .or .u64 b a := fun a b => by
    simp only [bits]; rw [BitVec.or_comm]
  rw [c, e, Int.add_comm]
theorem pb_bd (wd p : Nat) (f : Nat → Int) (hp : 0 < p) (hw : wd * p = 64) (hf : ∀ i, 0 ≤ f i ∧ f i < 2 ^ wd) (k j : Nat) (hj : j < 4) (hk : k ≤ 4 * p) : 0 ≤ pb wd p f k j ∧ pb wd p f k j < 18446744073709551616 := by
  have nn : ∀ g : Nat → Int, (∀ i, 0 ≤ g i ∧ g i < 2 ^ wd) → ∀ m, m ≤ p → 0 ≤ pn wd g m ∧ pn wd g m < 18446744073709551616 := fun g hg m hm => by
    refine ⟨pn_nn wd g (fun i => (hg i).1) m, ?_⟩
    have a := pn_lt wd g hg m
    have b : (2 : Nat) ^ (wd * m) ≤ 2 ^ 64 := by rw [← hw]; exact Nat.pow_le_pow_right (by omega) (Nat.mul_le_mul_left wd hm)
    have c : ((2 ^ (wd * m) : Nat) : Int) ≤ ((2 ^ 64 : Nat) : Int) := Int.ofNat_le.2 b
    have d : ((2 ^ (wd * m) : Nat) : Int) = 2 ^ (wd * m) := by push_cast; rfl
    have e : ((2 ^ 64 : Nat) : Int) = 18446744073709551616 := rfl
    omega
  have sf : ∀ a i, 0 ≤ sh f a i ∧ sh f a i < 2 ^ wd := fun a i => hf (a + i)
  rw [pb_is wd p f hp k j hj hk]
  have e4 : (4 - j) * p = (3 - j) * p + p := by rw [show 4 - j = 3 - j + 1 by omega, Nat.add_mul, Nat.one_mul]
  split
  · omega
  · split
    · exact nn _ (sf _) _ (by omega)
    · exact nn _ (sf _) _ (Nat.le_refl _)
theorem pb_room (wd p : Nat) (f : Nat → Int) (hp : 0 < p) (hw : wd * p = 64) (hf : ∀ i, 0 ≤ f i ∧ f i < 2 ^ wd) (k j : Nat) (hj : j < 4) (hk : k < 4 * p) (hjk : j + k / p = 3) : pb wd p f k j * 2 ^ wd < 18446744073709551616 := by
  have h := (pb_bd wd p f hp hw hf (k + 1) j hj (by omega)).2
  have u : pb wd p f (k + 1) j = pb wd p f k j * 2 ^ wd + f k := by show (if _ then _ else _) = _; rw [if_pos hjk]
  have := (hf k).1
  rw [u] at h
  omega
set_option maxRecDepth 100000 in
set_option maxHeartbeats 4000000 in
theorem fromBig_ok (s : ByteArray) (hs : s.size = 32) (w : World) :
    Calls Tryz.prog 19 #[.string s] w fun e w' => e = .returned (.tuple #[.agg #[.int .u64 (pb 8 8 (bt s) 32 0), .int .u64 (pb 8 8 (bt s) 32 1), .int .u64 (pb 8 8 (bt s) 32 2), .int .u64 (pb 8 8 (bt s) 32 3)], .int .i64 0]) ∧ Below w.heap.size w w' := by
  have LE := fun W => lengthError_any s 32 (by rw [hs]; decide) W
  have le0 : lenE (s.size : Int) 32 = 0 := by rw [hs]; decide
  rw [le0] at LE
  go_enter Tryz.func19, Tryz.ntmps19
  go_wp2_with (go_at_call 42; refine (LE _).mono ?_; rintro e w1 ⟨rfl, rfl⟩)
  go_loopw [13] (fun i wr => ∃ k : Nat, k ≤ 32 ∧ i = .int .i64 k ∧ Below w.heap.size w wr ∧ Arr wr w.heap.size 4 (fun _ => .int .u64 0) ∧ Arr wr (w.heap.size + 1) 4 (fun j => .int .u64 (pb 8 8 (bt s) k j)))
    (fun i _ => 32 - (intOf i).toNat)
  case atStart => exact ⟨0, by omega, rfl, by go_grown, Arr.mk4 (by simp [go_sem]) (by simp [go_sem]) (by simp [go_sem]) (by simp [go_sem]) (by simp [go_sem]) (by simp [go_sem]) (by simp [go_sem]) (by simp [go_sem]), Arr.mk4 (by simp [go_sem, pb]) (by simp [go_sem, pb]) (by simp [go_sem, pb]) (by simp [go_sem, pb]) (by simp [go_sem]) (by simp [go_sem]) (by simp [go_sem]) (by simp [go_sem])⟩
  case round =>
    clear LE le0
    obtain ⟨k, hk, rfl, hB, hZ, hA⟩ := hrel
    by_cases hlt : k < 32
    · have k0 : (0 : Int) ≤ (k : Int) := by omega
      have k32 : (k : Int) < 32 := by omega
      obtain ⟨q, hq⟩ : ∃ q : Nat, (k : Int) / 8 = (q : Int) := ⟨k / 8, by omega⟩
      have hf : ∀ i, 0 ≤ bt s i ∧ bt s i < 2 ^ 8 := fun i => by have := bt_bd s i; simpa using this
      have q4 : q < 4 := by omega
      have jq : 3 - q + k / 8 = 3 := by omega
      have bb := bt_bd s k
      have I := fun W => idxS s k (by omega) W
      have rm := pb_room 8 8 (bt s) (by omega) (by omega) hf k (3 - q) (by omega) (by omega) jq
      have xb := pb_bd 8 8 (bt s) (by omega) (by omega) hf k (3 - q) (by omega) (by omega)
      have PU := push_any (w.heap.size + 1) _ q q4 8 (bt s k) (pb 8 8 (bt s) k (3 - q)) (by omega) (by omega) bb.1 bb.2 wr hA rfl xb.1 xb.2
      have ol := or_low (pb 8 8 (bt s) k (3 - q)) (bt s k) 8 (.inr rfl) xb.1 rm bb.1 (hf k).2
      rw [show (8 : Int).toNat = 8 from rfl, ol, show (2 : Int) ^ 8 = 256 by decide] at PU
      have st : Arr ((wr.setCell ⟨w.heap.size + 1, 3 - q, none⟩ (.int .u64 (pb 8 8 (bt s) k (3 - q) * 256 + bt s k))).drew) (w.heap.size + 1) 4 (fun j => .int .u64 (pb 8 8 (bt s) (k + 1) j)) := by
        refine ((hA.set (3 - q) (by omega) _).congr ?_).drew
        intro j hj
        show _ = Value.int .u64 (if j + k / 8 = 3 then pb 8 8 (bt s) k j * 2 ^ 8 + bt s k else pb 8 8 (bt s) k j)
        by_cases h : j = 3 - q
        · subst h; rw [if_pos rfl, if_pos jq, show (2 : Int) ^ 8 = 256 by decide]
        · rw [if_neg h, if_neg (by omega)]
      have sz : Arr ((wr.setCell ⟨w.heap.size + 1, 3 - q, none⟩ (.int .u64 (pb 8 8 (bt s) k (3 - q) * 256 + bt s k))).drew) w.heap.size 4 (fun _ => .int .u64 0) := (hZ.other (by omega) _).drew
      have sB : Below w.heap.size w ((wr.setCell ⟨w.heap.size + 1, 3 - q, none⟩ (.int .u64 (pb 8 8 (bt s) k (3 - q) * 256 + bt s k))).drew) := (hB.setCell (by show _ ≤ w.heap.size + 1; omega) _).drew
      clear ol rm xb hf jq hA hZ hB
      go_wp2_with (go_at_call 43; refine PU.mono ?_; rintro e w1 ⟨⟨v, rfl⟩, rfl⟩)
      exact ⟨⟨k + 1, by omega, by go_num, sB, sz, st⟩, by simp [intOf]; omega⟩
    · have e32 : k = 32 := by omega
      subst e32
      have r1 := hA.c
      have r0 := hZ.c
      have z0 := hZ.z
      clear hA hZ
      go_wp2_with fail
      refine bodyPost_ret (v := .tuple #[.agg #[.int .u64 (pb 8 8 (bt s) 32 0), .int .u64 (pb 8 8 (bt s) 32 1), .int .u64 (pb 8 8 (bt s) 32 2), .int .u64 (pb 8 8 (bt s) 32 3)], .int .i64 0]) (by simp [results, Tryz.results19, go_sem, r0]) rfl ⟨rfl, ?_⟩
      go_grown
theorem pb_lim (wd p : Nat) (f : Nat → Int) (hp : 0 < p) (hw : wd * p = 64) (hf : ∀ i, 0 ≤ f i ∧ f i < 2 ^ wd) (j : Nat) (hj : j < 4) : pb wd p f (4 * p) j = lim (pn wd f (4 * p)) j := by
  have e4 : (4 - j) * p = (3 - j) * p + p := by rw [show 4 - j = 3 - j + 1 by omega, Nat.add_mul, Nat.one_mul]
  have ej : 4 * p = (4 - j) * p + j * p := by rw [← Nat.add_mul]; congr 1; omega
  have a1 : pb wd p f (4 * p) j = pn wd (sh f ((3 - j) * p)) p := by
    rw [pb_is wd p f hp (4 * p) j hj (Nat.le_refl _), if_neg (by omega)]
    split
    · congr 1; omega
    · rfl
  have p64 : (2 : Int) ^ (wd * p) = 18446744073709551616 := by rw [hw]; rfl
  have pj : (2 : Int) ^ (wd * (j * p)) = 18446744073709551616 ^ j := by
    rw [show wd * (j * p) = wd * p * j by rw [Nat.mul_comm j p, Nat.mul_assoc], Int.pow_mul, p64]
  have b0 := pn_nn wd (sh f ((4 - j) * p)) (fun i => (hf _).1) (j * p)
  have b1 := pn_lt wd (sh f ((4 - j) * p)) (fun i => hf _) (j * p)
  have c0 := pn_nn wd (sh f ((3 - j) * p)) (fun i => (hf _).1) p
  have c1 := pn_lt wd (sh f ((3 - j) * p)) (fun i => hf _) p
  rw [p64] at c1
  rw [pj] at b1
  have d1 := pn_add wd f ((4 - j) * p) (j * p)
  have d2 := pn_add wd f ((3 - j) * p) p
  rw [← ej, pj, e4] at d1
  rw [p64] at d2
  have pp : (0 : Int) < 18446744073709551616 ^ j := Int.pow_pos (by omega)
  rw [a1]
  unfold lim
  rw [d1, d2, Int.add_comm, Int.add_mul_ediv_right _ _ (Int.ne_of_gt pp), Int.ediv_eq_zero_of_lt (by rw [e4] at b0; exact b0) (by rw [e4] at b1; exact b1), Int.zero_add]
  omega
theorem nv_pb (wd p : Nat) (f : Nat → Int) (hp : 0 < p) (hw : wd * p = 64) (hf : ∀ i, 0 ≤ f i ∧ f i < 2 ^ wd) :
    (.agg #[.int .u64 (pb wd p f (4 * p) 0), .int .u64 (pb wd p f (4 * p) 1), .int .u64 (pb wd p f (4 * p) 2), .int .u64 (pb wd p f (4 * p) 3)] : Value) = nv (pn wd f (4 * p)) := by
  simp only [nv, pb_lim wd p f hp hw hf 0 (by omega), pb_lim wd p f hp hw hf 1 (by omega), pb_lim wd p f hp hw hf 2 (by omega), pb_lim wd p f hp hw hf 3 (by omega)]
theorem bt_8 (s : ByteArray) : ∀ i, 0 ≤ bt s i ∧ bt s i < 2 ^ 8 := fun i => by have := bt_bd s i; simpa using this
theorem fromBig_yes (s : ByteArray) (hs : s.size = 32) (w : World) :
    Calls Tryz.prog 19 #[.string s] w fun e w' => e = .returned (.tuple #[nv (pn 8 (bt s) 32), .int .i64 0]) ∧ Below w.heap.size w w' := by
  have := fromBig_ok s hs w
  rw [show (32 : Nat) = 4 * 8 from rfl, nv_pb 8 8 (bt s) (by omega) (by omega) (bt_8 s)] at this
  exact this
theorem conv32 (W : World) (g : Nat) (ns : List Int) (h32 : ns.length = 32) (hc : ∀ j, j < 32 → W.cell? ⟨g, j, none⟩ = some (.int .u8 (ns.getD j 0))) :
    (convert 51 9 (.slice (some ⟨g, 0, none⟩) 32 32)).run Tryz.prog W = .ok (.string (mkS ns)) W := by
  rw [run_convert_bytes_string W 51 9 5 _ 32 32 Tryz.underlying51 Tryz.underlying5 Tryz.underlying9]
  refine run_bytesToString W ⟨g, 0, none⟩ 32 32 ns ?_
  have := run_loadCells_list (P := Tryz.prog) W ⟨g, 0, none⟩ (ns.map (Value.int .u8)) (by
    intro j v hv
    rw [Addr.add_mid, Nat.zero_add]
    rw [List.getElem?_map] at hv
    obtain ⟨n, hn, rfl⟩ := Option.map_eq_some_iff.1 hv
    have hj : j < 32 := by rw [← h32]; exact (List.getElem?_eq_some_iff.1 hn).1
    rw [hc j hj, List.getD, hn]; rfl)
  rw [List.length_map, h32] at this
  exact this
theorem store32 (L : List Value) (hlen : L.length = 32) (hone : ∀ v ∈ L, v.oneCell' = true) (W : World) :
    (storeCells ⟨W.heap.size, 0, none⟩ L).run Tryz.prog (W.alloc (.cells #[.int .u8 0, .int .u8 0, .int .u8 0, .int .u8 0, .int .u8 0, .int .u8 0, .int .u8 0, .int .u8 0, .int .u8 0, .int .u8 0, .int .u8 0, .int .u8 0, .int .u8 0, .int .u8 0, .int .u8 0, .int .u8 0, .int .u8 0, .int .u8 0, .int .u8 0, .int .u8 0, .int .u8 0, .int .u8 0, .int .u8 0, .int .u8 0, .int .u8 0, .int .u8 0, .int .u8 0, .int .u8 0, .int .u8 0, .int .u8 0, .int .u8 0, .int .u8 0] 104)) = .ok () (W.alloc (.cells L.toArray 104)) := by
  have := run_storeCells_new (P := Tryz.prog) W 104 #[.int .u8 0, .int .u8 0, .int .u8 0, .int .u8 0, .int .u8 0, .int .u8 0, .int .u8 0, .int .u8 0, .int .u8 0, .int .u8 0, .int .u8 0, .int .u8 0, .int .u8 0, .int .u8 0, .int .u8 0, .int .u8 0, .int .u8 0, .int .u8 0, .int .u8 0, .int .u8 0, .int .u8 0, .int .u8 0, .int .u8 0, .int .u8 0, .int .u8 0, .int .u8 0, .int .u8 0, .int .u8 0, .int .u8 0, .int .u8 0, .int .u8 0, .int .u8 0] L.toArray (by rw [List.size_toArray, hlen]; exact Tryz.info104) (by show 32 = L.toArray.size; rw [List.size_toArray, hlen]) (all_oneCell_toArray hone)
  rw [List.toList_toArray] at this
  exact this
set_option maxHeartbeats 1000000 in
theorem big_core (N : Int) (L : List Value) (S : ByteArray) (hlen : L.length = 32) (ST : ∀ W : World, (storeCells ⟨W.heap.size, 0, none⟩ L).run Tryz.prog (W.alloc (.cells #[.int .u8 0, .int .u8 0, .int .u8 0, .int .u8 0, .int .u8 0, .int .u8 0, .int .u8 0, .int .u8 0, .int .u8 0, .int .u8 0, .int .u8 0, .int .u8 0, .int .u8 0, .int .u8 0, .int .u8 0, .int .u8 0, .int .u8 0, .int .u8 0, .int .u8 0, .int .u8 0, .int .u8 0, .int .u8 0, .int .u8 0, .int .u8 0, .int .u8 0, .int .u8 0, .int .u8 0, .int .u8 0, .int .u8 0, .int .u8 0, .int .u8 0, .int .u8 0] 104)) = .ok () (W.alloc (.cells L.toArray 104)))
    (CV : ∀ W : World, (convert 51 9 (.slice (some ⟨W.heap.size, 0, none⟩) 32 32)).run Tryz.prog (W.alloc (.cells L.toArray 104)) = .ok (.string S) (W.alloc (.cells L.toArray 104)))
    (BB : ∀ W, Calls Tryz.prog 62 #[nv N] W fun e w' => e = .returned (.agg L.toArray) ∧ Below W.heap.size W w') (w : World) :
    Calls Tryz.prog 38 #[nv N] w fun e w' => e = .returned (.string S) ∧ Below w.heap.size w w' := by
  go_enter Tryz.func38, Tryz.ntmps38
  go_wp2_with fail
  refine (BB _).mono ?_
  rintro e w1 ⟨rfl, hb1⟩
  have hB1 : Below w.heap.size w w1 := Below.trans (by go_grown) (hb1.mono (by go_size))
  clear hb1 BB
  go_wp2_with fail
  go_ret
  exact ⟨rfl, hB1.alloc hB1.size _⟩
/-- A number's bytes, the highest first. -/
def bgL (N : Int) : List Int := (List.range 32).map (byt N)
theorem bgL_at (N : Int) (j : Nat) (hj : j < 32) : (bgL N)[j]? = some (byt N j) := by simp [bgL, hj]
theorem big_any (N : Int) (hN : 0 ≤ N) (hN' : N < top256) (w : World) :
    Calls Tryz.prog 38 #[nv N] w fun e w' => e = .returned (.string (mkS (bgL N))) ∧ Below w.heap.size w w' := by
  have hat := bytsL_at N
  refine big_core N (bytsL N) (mkS (bgL N)) (bytsL_len N) (fun W => store32 _ (bytsL_len N) (bytsL_one N) W) (fun W => ?_) (fun W => bigBytes_any N hN hN' W) w
  refine conv32 _ _ _ (by simp [bgL]) ?_
  intro j hj
  have := (Arr.new W (bytsL N).toArray 104 W.heap.size rfl (fun j => .int .u8 (byt N j)) 32 (by intro i hi; rw [List.getElem?_toArray]; exact hat i hi)).c j hj
  rw [this, List.getD, bgL_at N j hj]; rfl
end Go.Proofs.YtajdfjpcobaioaaGreatDoor
