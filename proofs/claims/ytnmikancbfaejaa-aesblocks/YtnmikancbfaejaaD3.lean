/- A stream's bytes: the program's. -/
import Derived.Test.YtnmikancbfaejaaD2
import Derived.Stop.RegionWithIn
set_option linter.all false
set_option maxRecDepth 100000
namespace Go.Proofs.Ytnmikancbfaejaa
open Go.RowKit Go.Shelf Go.Sort Go.Lib
attribute [local go_sem] Oper.semAt_some
/-- The first k blocks of a stream. -/
def stS (key : ByteArray) (f : Nat → By) : Nat → ByteArray
  | 0 => ⟨#[]⟩
  | k + 1 => stS key f k ++ tx (encF key (ctF f k))
theorem stS_size (key : ByteArray) (f : Nat → By) (k : Nat) : (stS key f k).size = 16 * k := by
  induction k with
  | zero => rfl
  | succ k ih => rw [stS, ByteArray.size_append, ih, tx_size]; omega
/-- n bytes of a stream. -/
def smS (key : ByteArray) (f : Nat → By) (n : Nat) : ByteArray := (stS key f ((n + 15) / 16)).extract 0 n
theorem smS_size (key : ByteArray) (f : Nat → By) (n : Nat) : (smS key f n).size = n := by unfold smS; rw [ByteArray.size_extract, stS_size]; omega
theorem stS_pre (key : ByteArray) (f : Nat → By) (k d n : Nat) (h : n ≤ 16 * k) : (stS key f (k + d)).extract 0 n = (stS key f k).extract 0 n := by
  induction d with
  | zero => rfl
  | succ d ih => rw [← Nat.add_assoc, stS, ext_app_lo _ _ _ (by rw [stS_size]; omega), ih]
theorem smS_pre (key : ByteArray) (f : Nat → By) (n m : Nat) (h : n ≤ m) : (smS key f m).extract 0 n = smS key f n := by
  unfold smS
  obtain ⟨d, hd⟩ := Nat.exists_eq_add_of_le (show (n + 15) / 16 ≤ (m + 15) / 16 by omega)
  rw [ByteArray.extract_extract, hd, show min (0 + n) m = n by omega, stS_pre _ _ _ _ _ (by omega)]
theorem hf_tx (h : Nat → By) : (hfL (col h) 4).map (Value.int .u8) = strCells (tx h) := by
  rw [← txt_col]
  unfold txt strCells
  rw [mkS_list, List.map_map]
  refine List.map_congr_left fun v hv => ?_
  have e : hfL (col h) 4 = (List.range 16).map fun j => ((h j).val : Int) := by
    unfold hfL hfL hfL hfL hfL col
    simp only [w4_wd]
    rfl
  rw [e] at hv
  obtain ⟨j, _, rfl⟩ := List.mem_map.1 hv
  have := (h j).2
  simp
theorem ownsRow_take {w : World} {base g n k cap : Nat} {xs : List Value} (h : w.ownsRow base 5 1 (.slice (some ⟨g, 0, none⟩) n cap) n xs) (hk : k ≤ n) : w.ownsRow base 5 1 (.slice (some ⟨g, 0, none⟩) k cap) k (xs.take k) := by
  obtain ⟨hl, h2⟩ := h
  rcases h2 with ⟨h, _⟩ | ⟨g', cap', cur, hv, hb, hh, hc, hm, hs, ht⟩
  · cases h
  · cases hv
    refine ⟨by rw [List.length_take]; omega, .inr ⟨g, cap, cur, rfl, hb, hh, by omega, hm, hs, ?_⟩⟩
    rw [← ht, List.take_take]
    congr 1
    omega
theorem strCells_take (s : ByteArray) (n : Nat) : (strCells s).take n = strCells (s.extract 0 n) := by
  unfold strCells
  rw [ext_list, List.drop_zero, Nat.sub_zero, ← List.map_take]
/-- What Stream refuses. -/
def rfn (key first : ByteArray) (n : Int) : Int := if n < 0 ∨ 65536 < n then 13 else rfs key first
set_option maxHeartbeats 2000000 in
theorem stream_no (key first : ByteArray) (n : Int) (h : rfn key first n ≠ 0) (w : World) :
    Calls Try.prog 19 #[.string key, .string first, .int .i64 n] w fun e w' => e = .returned (.tuple #[.string ⟨#[]⟩, .int .i64 (rfn key first n)]) ∧ Below w.heap.size w w' := by
  have C := fun W => refused_any key first W
  by_cases h1 : n < 0
  · have e : rfn key first n = 13 := by unfold rfn; rw [if_pos (.inl h1)]
    rw [e]
    clear e h
    go_enter Try.func19, Try.ntmps19
    go_wp2_with fail
    refine bodyPost_ret (v := .tuple #[.string ⟨#[]⟩, .int .i64 13]) (by simp [results, Try.results19, go_sem]) rfl ?_
    exact ⟨rfl, Bel.al (Below.refl _ w) _⟩
  · by_cases h2 : 65536 < n
    · have e : rfn key first n = 13 := by unfold rfn; rw [if_pos (.inr h2)]
      rw [e]
      clear e h
      go_enter Try.func19, Try.ntmps19
      go_wp2_with fail
      refine bodyPost_ret (v := .tuple #[.string ⟨#[]⟩, .int .i64 13]) (by simp [results, Try.results19, go_sem]) rfl ?_
      exact ⟨rfl, Bel.al (Below.refl _ w) _⟩
    · have e : rfn key first n = rfs key first := by unfold rfn; rw [if_neg (by omega)]
      rw [e] at h ⊢
      clear e
      generalize rfs key first = r at *
      go_enter Try.func19, Try.ntmps19
      go_wp2_with (go_at_call 28; refine (C _).mono ?_; rintro e w1 ⟨rfl, rfl⟩)
      refine bodyPost_ret (v := .tuple #[.string ⟨#[]⟩, .int .i64 r]) (by simp [results, Try.results19, go_sem]) rfl ?_
      exact ⟨rfl, Bel.al (Below.refl _ w) _⟩
end Go.Proofs.Ytnmikancbfaejaa
