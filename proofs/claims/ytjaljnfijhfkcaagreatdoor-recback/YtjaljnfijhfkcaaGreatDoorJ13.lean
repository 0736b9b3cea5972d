/- What can't be sealed; what was within; the nonce of a direction: of the program. -/
import Derived.Test.YtjaljnfijhfkcaaGreatDoorJ2
import Derived.Test.YtjaljnfijhfkcaaGreatDoorJ12
set_option linter.all false
set_option maxRecDepth 100000
namespace Go.Proofs.YtjaljnfijhfkcaaGreatDoor
open Go.RowKit Go.Sort Lin
def usE (k : Int) (b : ByteArray) (p : Int) : Int := if knB k = true then (if 16384 < b.size then 12 else if p < 0 ∨ 16384 - (b.size : Int) < p then 13 else 0) else 23
set_option maxHeartbeats 1000000 in
theorem unsealable_any (k : Int) (b : ByteArray) (p : Int) (w : World) : Calls Tryz.prog 17 #[rcV k b, .int .i64 p] w fun e w' => e = .returned (.int .i64 (usE k b p)) ∧ Below w.heap.size w w' := by
  have C1 := fun W => isKind_any k W
  unfold usE rcV
  cases h : knB k with
  | false =>
    rw [if_neg (by decide)]
    rw [h] at C1
    go_enter Tryz.func17, Tryz.ntmps17
    go_wp2_with (go_at_call 28; refine (C1 _).mono ?_; rintro e w1 ⟨rfl, rfl⟩)
    refine bodyPost_ret (v := .int .i64 23) (by simp [results, Tryz.results17, go_sem]) rfl ⟨rfl, by go_grown⟩
  | true =>
    rw [if_pos rfl]
    rw [h] at C1
    by_cases h2 : 16384 < b.size
    · rw [if_pos h2]
      have i2 : (16384 : Int) < (b.size : Int) := by omega
      go_enter Tryz.func17, Tryz.ntmps17
      go_wp2_with (go_at_call 28; refine (C1 _).mono ?_; rintro e w1 ⟨rfl, rfl⟩)
      refine bodyPost_ret (v := .int .i64 12) (by simp [results, Tryz.results17, go_sem]) rfl ⟨rfl, by go_grown⟩
    · rw [if_neg h2]
      have i2 : ¬ (16384 : Int) < (b.size : Int) := by omega
      have i2' : (b.size : Int) ≤ 16384 := by omega
      by_cases h3 : p < 0
      · rw [if_pos (Or.inl h3)]
        go_enter Tryz.func17, Tryz.ntmps17
        go_wp2_with (go_at_call 28; refine (C1 _).mono ?_; rintro e w1 ⟨rfl, rfl⟩)
        refine bodyPost_ret (v := .int .i64 13) (by simp [results, Tryz.results17, go_sem]) rfl ⟨rfl, by go_grown⟩
      · have h3' : 0 ≤ p := by omega
        by_cases h4 : 16384 - (b.size : Int) < p
        · rw [if_pos (Or.inr h4)]
          go_enter Tryz.func17, Tryz.ntmps17
          go_wp2_with (go_at_call 28; refine (C1 _).mono ?_; rintro e w1 ⟨rfl, rfl⟩)
          refine bodyPost_ret (v := .int .i64 13) (by simp [results, Tryz.results17, go_sem]) rfl ⟨rfl, by go_grown⟩
        · rw [if_neg (by omega)]
          have h4' : p ≤ 16384 - (b.size : Int) := by omega
          go_enter Tryz.func17, Tryz.ntmps17
          go_wp2_with (go_at_call 28; refine (C1 _).mono ?_; rintro e w1 ⟨rfl, rfl⟩)
          refine bodyPost_ret (v := .int .i64 0) (by simp [results, Tryz.results17, go_sem]) rfl ⟨rfl, by go_grown⟩
/-- A text without the bytes 0 at its end. -/
def trS (s : ByteArray) : ByteArray := ⟨(Lib.trimRightB s.data.toList 0).toArray⟩
/-- What is wrong with what was within; its kind and its body. -/
def wiE (s : ByteArray) : Int := if 16385 < s.size then 12 else if (trS s).size = 0 then 10 else if knB (bt (trS s) ((trS s).size - 1)) = true then 0 else 23
def wiV (s : ByteArray) : Value := if wiE s = 0 then rcV (bt (trS s) ((trS s).size - 1)) ((trS s).extract 0 ((trS s).size - 1)) else rcV 0 ⟨#[]⟩
set_option maxHeartbeats 1000000 in
theorem readWithin_1 (s : ByteArray) (h : 16385 < s.size) (w : World) : Calls Tryz.prog 26 #[.string s] w fun e w' => e = .returned (.tuple #[rcV 0 ⟨#[]⟩, .int .i64 12]) ∧ Below w.heap.size w w' := by
  have i1 : (16385 : Int) < (s.size : Int) := by omega
  go_enter Tryz.func26, Tryz.ntmps26
  go_wp2_with fail
  refine bodyPost_ret (v := .tuple #[rcV 0 ⟨#[]⟩, .int .i64 12]) (by simp [rcV, results, Tryz.results26, go_sem]) rfl ⟨rfl, by go_grown⟩
set_option maxHeartbeats 1000000 in
theorem readWithin_2 (s t : ByteArray) (h : ¬ 16385 < s.size) (ht : t = ⟨#[]⟩) (w : World)
    (C : ∀ W, Calls Tryz.prog 49 #[.string s, .string ⟨#[0]⟩] W fun e w' => e = .returned (.string t) ∧ w' = W) : Calls Tryz.prog 26 #[.string s] w fun e w' => e = .returned (.tuple #[rcV 0 ⟨#[]⟩, .int .i64 10]) ∧ Below w.heap.size w w' := by
  subst ht
  have i1 : ¬ (16385 : Int) < (s.size : Int) := by omega
  go_enter Tryz.func26, Tryz.ntmps26
  go_wp2_with (go_at_call 49; refine (C _).mono ?_; rintro e w1 ⟨rfl, rfl⟩)
  refine bodyPost_ret (v := .tuple #[rcV 0 ⟨#[]⟩, .int .i64 10]) (by simp [rcV, results, Tryz.results26, go_sem]) rfl ⟨rfl, by go_grown⟩
set_option maxHeartbeats 1000000 in
theorem readWithin_3 (s t x : ByteArray) (h : ¬ 16385 < s.size) (m : Nat) (k : Int) (kn : Bool) (hm : t.size = m + 1) (mb : m ≤ 20000) (hk : bt t m = k) (hx : t.extract 0 m = x) (te : (t.toList == []) = false) (w : World)
    (C : ∀ W, Calls Tryz.prog 49 #[.string s, .string ⟨#[0]⟩] W fun e w' => e = .returned (.string t) ∧ w' = W)
    (C1 : ∀ W, Calls Tryz.prog 28 #[.int .i64 k] W fun e w' => e = .returned (.bool kn) ∧ w' = W) :
    Calls Tryz.prog 26 #[.string s] w fun e w' => e = .returned (if kn = true then .tuple #[rcV k x, .int .i64 0] else .tuple #[rcV 0 ⟨#[]⟩, .int .i64 23]) ∧ Below w.heap.size w w' := by
  have i1 : ¬ (16385 : Int) < (s.size : Int) := by omega
  have I := fun W => idxS t m (by omega) W
  have kb := bt_bd t m
  rw [hk] at I kb
  obtain ⟨k0, k1⟩ := kb
  have i2 : (t.size : Int) - 1 = (m : Int) := by omega
  have S1 : ∀ W, (Instr.slice 9 (.string t) none (some (.int .i64 (m : Int))) none).run Tryz.prog W = .ok (.string x) W := fun W => by
    rw [run_slice_string_h W 9 _ Tryz.underlying9 .i64 (m : Int) (by omega) (by omega), Int.toNat_natCast, hx]
  have i3 : (m : Int) ≤ 20000 := by omega
  have i4 : (m : Int) < (t.size : Int) := by omega
  clear hm hx hk
  go_enter Tryz.func26, Tryz.ntmps26
  cases kn with
  | true =>
    go_wp2_with (first | (go_at_call 49; refine (C _).mono ?_; rintro e w1 ⟨rfl, rfl⟩) | (go_at_call 28; refine (C1 _).mono ?_; rintro e w1 ⟨rfl, rfl⟩))
    refine bodyPost_ret (v := .tuple #[rcV k x, .int .i64 0]) (by simp [rcV, results, Tryz.results26, go_sem]) rfl ⟨rfl, by go_grown⟩
  | false =>
    go_wp2_with (first | (go_at_call 49; refine (C _).mono ?_; rintro e w1 ⟨rfl, rfl⟩) | (go_at_call 28; refine (C1 _).mono ?_; rintro e w1 ⟨rfl, rfl⟩))
    refine bodyPost_ret (v := .tuple #[rcV 0 ⟨#[]⟩, .int .i64 23]) (by simp [rcV, results, Tryz.results26, go_sem]) rfl ⟨rfl, by go_grown⟩
theorem trim_le (l : List UInt8) (c : UInt8) : (Lib.trimRightB l c).length ≤ l.length := by
  unfold Lib.trimRightB
  simp only [List.length_reverse]
  have := (List.dropWhile_sublist (l := l.reverse) (· == c)).length_le
  simpa using this
theorem trS_list (s : ByteArray) : (trS s).data.toList = Lib.trimRightB s.data.toList 0 := by simp [trS]
theorem trS_le (s : ByteArray) : (trS s).size ≤ s.size := by
  rw [← len_list, ← len_list, trS_list]
  exact trim_le _ _
theorem readWithin_any (s : ByteArray) (hs : s.size ≤ 1000000) (w : World) : Calls Tryz.prog 26 #[.string s] w fun e w' => e = .returned (.tuple #[wiV s, .int .i64 (wiE s)]) ∧ Below w.heap.size w w' := by
  by_cases h1 : 16385 < s.size
  · have e : wiE s = 12 := by unfold wiE; rw [if_pos h1]
    unfold wiV
    rw [e, if_neg (by decide)]
    exact readWithin_1 s h1 w
  have C : ∀ W, Calls Tryz.prog 49 #[.string s, .string ⟨#[0]⟩] W fun e w' => e = .returned (.string (trS s)) ∧ w' = W := fun W => sh_strings_TrimRight_one s 0 (by decide) W (by omega)
  by_cases h2 : (trS s).size = 0
  · have e : wiE s = 10 := by unfold wiE; rw [if_neg h1, if_pos h2]
    unfold wiV
    rw [e, if_neg (by decide)]
    exact readWithin_2 s (trS s) h1 (ba_ext (by have := List.eq_nil_of_length_eq_zero (l := (trS s).data.toList) (by rw [len_list]; exact h2); rw [this])) w C
  · have hl := trS_le s
    have R := readWithin_3 s (trS s) _ h1 ((trS s).size - 1) _ _ (by omega) (by omega) rfl rfl (by
      rw [ByteArray.toList_eq]
      cases hh : (trS s).data.toList with
      | nil => exact absurd (by rw [← len_list, hh]; rfl) h2
      | cons a l => rfl) w C (fun W => isKind_any _ W)
    cases hk : knB (bt (trS s) ((trS s).size - 1)) with
    | true =>
      have e : wiE s = 0 := by unfold wiE; rw [if_neg h1, if_neg h2, if_pos hk]
      unfold wiV
      rw [e, if_pos rfl]
      rw [hk, if_pos rfl] at R
      exact R
    | false =>
      have e : wiE s = 23 := by unfold wiE; rw [if_neg h1, if_neg h2, if_neg (by rw [hk]; decide)]
      unfold wiV
      rw [e, if_neg (by decide)]
      rw [hk, if_neg (by decide)] at R
      exact R
end Go.Proofs.YtjaljnfijhfkcaaGreatDoor
