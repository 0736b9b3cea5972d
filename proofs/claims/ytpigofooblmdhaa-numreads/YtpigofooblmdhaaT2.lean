/- What num.FromBig and num.Parse answer. -/
import Derived.Test.YtpigofooblmdhaaT1
import Derived.Test.YtpigofooblmdhaaM8
import Derived.Test.YtpigofooblmdhaaM1
set_option linter.all false
set_option maxRecDepth 100000
namespace Go.Proofs.Ytpigofooblmdhaa
open Go.RowKit
/-- The i-th byte of a text, 0 beyond its end. -/
def bt (s : ByteArray) (i : Nat) : Int := (s.data[i]?.getD 0).toNat
theorem bt_bd (s : ByteArray) (i : Nat) : 0 ≤ bt s i ∧ bt s i < 256 := by unfold bt; have := (s.data[i]?.getD 0).toNat_lt; omega
theorem or_low (x d : Int) (wd : Nat) (h : wd = 4 ∨ wd = 8) (x0 : 0 ≤ x) (x1 : x * 2 ^ wd < 18446744073709551616) (d0 : 0 ≤ d) (d1 : d < 2 ^ wd) :
    bits .or .u64 (IntKind.u64.wrap (x * 2 ^ wd)) d = x * 2 ^ wd + d := by
  have e : bits .or .u64 d (IntKind.u64.wrap (x * 2 ^ (64 - (64 - wd)))) = d + x * 2 ^ wd := by
    have j := or_join (d * 2 ^ (64 - wd)) x (64 - wd) (by omega) (Int.mul_nonneg d0 (Int.le_of_lt (Int.pow_pos (by omega)))) (by
      rcases h with rfl | rfl
      · have : d < 16 := by simpa using d1
        simp; omega
      · have : d < 256 := by simpa using d1
        simp; omega) x0
    rw [Int.mul_ediv_cancel _ (Int.ne_of_gt (Int.pow_pos (by omega)))] at j
    rw [j]
    have hx : x % 2 ^ (64 - wd) = x := by
      refine Int.emod_eq_of_lt x0 ?_
      rcases h with rfl | rfl
      · simp at x1 ⊢; omega
      · simp at x1 ⊢; omega
    rw [hx, show 64 - (64 - wd) = wd by omega]
  rw [show 64 - (64 - wd) = wd by omega] at e
  have c : ∀ a b : Int, bits .or .u64 a b = bits .or .u64 b a := fun a b => by
    simp only [bits]; rw [BitVec.or_comm]
  rw [c, e, Int.add_comm]
theorem pb_bd (wd p : Nat) (f : Nat → Int) (hp : 0 < p) (hw : wd * p = 64) (hf : ∀ i, 0 ≤ f i ∧ f i < 2 ^ wd) (k j : Nat) (hj : j < 4) (hk : k ≤ 4 * p) : 0 ≤ pb wd p f k j ∧ pb wd p f k j < 18446744073709551616 := by
  have nn : ∀ g : Nat → Int, (∀ i, 0 ≤ g i ∧ g i < 2 ^ wd) → ∀ m, m ≤ p → 0 ≤ pn wd g m ∧ pn wd g m < 18446744073709551616 := fun g hg m hm => by
    refine ⟨pn_nn wd g (fun i => (hg i).1) m, ?_⟩
    have a := pn_lt wd g hg m
    have b : (2 : Nat) ^ (wd * m) ≤ 2 ^ 64 := by rw [← hw]; exact Nat.pow_le_pow_right (by omega) (Nat.mul_le_mul_left wd hm)
    have c : ((2 ^ (wd * m) : Nat) : Int) ≤ ((2 ^ 64 : Nat) : Int) := Int.ofNat_le.2 b
    have d : ((2 ^ (wd * m) : Nat) : Int) = 2 ^ (wd * m) := by push_cast; rfl
    have e : ((2 ^ 64 : Nat) : Int) = 18446744073709551616 := rfl
    omega
  have sf : ∀ a i, 0 ≤ sh f a i ∧ sh f a i < 2 ^ wd := fun a i => hf (a + i)
  rw [pb_is wd p f hp k j hj hk]
  have e4 : (4 - j) * p = (3 - j) * p + p := by rw [show 4 - j = 3 - j + 1 by omega, Nat.add_mul, Nat.one_mul]
  split
  · omega
  · split
    · exact nn _ (sf _) _ (by omega)
    · exact nn _ (sf _) _ (Nat.le_refl _)
theorem pb_room (wd p : Nat) (f : Nat → Int) (hp : 0 < p) (hw : wd * p = 64) (hf : ∀ i, 0 ≤ f i ∧ f i < 2 ^ wd) (k j : Nat) (hj : j < 4) (hk : k < 4 * p) (hjk : j + k / p = 3) : pb wd p f k j * 2 ^ wd < 18446744073709551616 := by
  have h := (pb_bd wd p f hp hw hf (k + 1) j hj (by omega)).2
  have u : pb wd p f (k + 1) j = pb wd p f k j * 2 ^ wd + f k := by show (if _ then _ else _) = _; rw [if_pos hjk]
  have := (hf k).1
  rw [u] at h
  omega
theorem idxS (s : ByteArray) (k : Nat) (hk : k < s.size) (W : World) : (Instr.index 9 (.string s) (.int .i64 (k : Int))).run Try.prog W = .ok (.int .u8 (bt s k)) W := by
  have h0 : (0 : Int) ≤ (k : Int) ∧ (k : Int) < (s.size : Int) := by omega
  have e : s.data[k]? = some (s.data[k]'hk) := Array.getElem?_eq_getElem hk
  unfold bt
  rw [e]
  simp [Instr.index, asIntOf, Sem.run_bind, Sem.run_pure, Result.andThen_ok, run_underlying Try.underlying9, h0, go_sem]
  rw [getElem?_pos s k hk]
  rfl
set_option maxRecDepth 100000 in
set_option maxHeartbeats 4000000 in
theorem fromBig_ok (s : ByteArray) (hs : s.size = 32) (w : World) :
    Calls Try.prog 10 #[.string s] w fun e w' => e = .returned (.tuple #[.agg #[.int .u64 (pb 8 8 (bt s) 32 0), .int .u64 (pb 8 8 (bt s) 32 1), .int .u64 (pb 8 8 (bt s) 32 2), .int .u64 (pb 8 8 (bt s) 32 3)], .int .i64 0]) ∧ Below w.heap.size w w' := by
  have LE := fun W => lengthError_any s 32 (by rw [hs]; decide) W
  have le0 : lenE (s.size : Int) 32 = 0 := by rw [hs]; decide
  rw [le0] at LE
  go_enter Try.func10, Try.ntmps10
  go_wp2_with (go_at_call 48; refine (LE _).mono ?_; rintro e w1 ⟨rfl, rfl⟩)
  go_loopw [13] (fun i wr => ∃ k : Nat, k ≤ 32 ∧ i = .int .i64 k ∧ Below w.heap.size w wr ∧ Arr wr w.heap.size 4 (fun _ => .int .u64 0) ∧ Arr wr (w.heap.size + 1) 4 (fun j => .int .u64 (pb 8 8 (bt s) k j)))
    (fun i _ => 32 - (intOf i).toNat)
  case atStart => exact ⟨0, by omega, rfl, by go_grown, Arr.mk4 (by simp [go_sem]) (by simp [go_sem]) (by simp [go_sem]) (by simp [go_sem]) (by simp [go_sem]) (by simp [go_sem]) (by simp [go_sem]) (by simp [go_sem]), Arr.mk4 (by simp [go_sem, pb]) (by simp [go_sem, pb]) (by simp [go_sem, pb]) (by simp [go_sem, pb]) (by simp [go_sem]) (by simp [go_sem]) (by simp [go_sem]) (by simp [go_sem])⟩
  case round =>
    clear LE le0
    obtain ⟨k, hk, rfl, hB, hZ, hA⟩ := hrel
    by_cases hlt : k < 32
    · have k0 : (0 : Int) ≤ (k : Int) := by omega
      have k32 : (k : Int) < 32 := by omega
      obtain ⟨q, hq⟩ : ∃ q : Nat, (k : Int) / 8 = (q : Int) := ⟨k / 8, by omega⟩
      have hf : ∀ i, 0 ≤ bt s i ∧ bt s i < 2 ^ 8 := fun i => by have := bt_bd s i; simpa using this
      have q4 : q < 4 := by omega
      have jq : 3 - q + k / 8 = 3 := by omega
      have bb := bt_bd s k
      have I := fun W => idxS s k (by omega) W
      have rm := pb_room 8 8 (bt s) (by omega) (by omega) hf k (3 - q) (by omega) (by omega) jq
      have xb := pb_bd 8 8 (bt s) (by omega) (by omega) hf k (3 - q) (by omega) (by omega)
      have PU := push_any (w.heap.size + 1) _ q q4 8 (bt s k) (pb 8 8 (bt s) k (3 - q)) (by omega) (by omega) bb.1 bb.2 wr hA rfl xb.1 xb.2
      have ol := or_low (pb 8 8 (bt s) k (3 - q)) (bt s k) 8 (.inr rfl) xb.1 rm bb.1 (hf k).2
      rw [show (8 : Int).toNat = 8 from rfl, ol, show (2 : Int) ^ 8 = 256 by decide] at PU
      have st : Arr ((wr.setCell ⟨w.heap.size + 1, 3 - q, none⟩ (.int .u64 (pb 8 8 (bt s) k (3 - q) * 256 + bt s k))).drew) (w.heap.size + 1) 4 (fun j => .int .u64 (pb 8 8 (bt s) (k + 1) j)) := by
        refine ((hA.set (3 - q) (by omega) _).congr ?_).drew
        intro j hj
        show _ = Value.int .u64 (if j + k / 8 = 3 then pb 8 8 (bt s) k j * 2 ^ 8 + bt s k else pb 8 8 (bt s) k j)
        by_cases h : j = 3 - q
        · subst h; rw [if_pos rfl, if_pos jq, show (2 : Int) ^ 8 = 256 by decide]
        · rw [if_neg h, if_neg (by omega)]
      have sz : Arr ((wr.setCell ⟨w.heap.size + 1, 3 - q, none⟩ (.int .u64 (pb 8 8 (bt s) k (3 - q) * 256 + bt s k))).drew) w.heap.size 4 (fun _ => .int .u64 0) := (hZ.other (by omega) _).drew
      have sB : Below w.heap.size w ((wr.setCell ⟨w.heap.size + 1, 3 - q, none⟩ (.int .u64 (pb 8 8 (bt s) k (3 - q) * 256 + bt s k))).drew) := (hB.setCell (by show _ ≤ w.heap.size + 1; omega) _).drew
      clear ol rm xb hf jq hA hZ hB
      go_wp2_with (go_at_call 50; refine PU.mono ?_; rintro e w1 ⟨⟨v, rfl⟩, rfl⟩)
      exact ⟨⟨k + 1, by omega, by go_num, sB, sz, st⟩, by simp [intOf]; omega⟩
    · have e32 : k = 32 := by omega
      subst e32
      have r1 := hA.c
      have r0 := hZ.c
      have z0 := hZ.z
      clear hA hZ
      go_wp2_with fail
      refine bodyPost_ret (v := .tuple #[.agg #[.int .u64 (pb 8 8 (bt s) 32 0), .int .u64 (pb 8 8 (bt s) 32 1), .int .u64 (pb 8 8 (bt s) 32 2), .int .u64 (pb 8 8 (bt s) 32 3)], .int .i64 0]) (by simp [results, Try.results10, go_sem, r0]) rfl ⟨rfl, ?_⟩
      go_grown
end Go.Proofs.Ytpigofooblmdhaa
