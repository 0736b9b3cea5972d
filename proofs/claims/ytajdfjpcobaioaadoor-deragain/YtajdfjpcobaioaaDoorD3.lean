/- How many bytes there are, read. -/
import Derived.Test.YtajdfjpcobaioaaDoorD1
set_option linter.all false
set_option maxRecDepth 100000
namespace Go.Proofs.YtajdfjpcobaioaaDoor
open Go.RowKit Go.Sort
theorem idx0 (s : ByteArray) (hs : 0 < s.size) (W : World) : (Instr.index 9 (.string s) (.int .i64 0)).run Tryd.prog W = .ok (.int .u8 (bt s 0)) W := idxS s 0 hs W
theorem rl_0 (w : World) : Calls Tryd.prog 25 #[.string ⟨#[]⟩] w fun e w' => e = .returned (.tuple #[.int .i64 0, .string ⟨#[]⟩, .int .i64 11]) ∧ Below w.heap.size w w' := by
  go_enter Tryd.func25, Tryd.ntmps25
  go_wp2_with fail
  exact bodyPost_ret (v := .tuple #[.int .i64 0, .string ⟨#[]⟩, .int .i64 11]) (by simp [results, Tryd.results25, go_sem]) rfl ⟨rfl, by go_grown⟩
theorem emp_no (s : ByteArray) (h : 0 < s.size) : (s.toList == []) = false := by
  have e := ByteArray.toList_eq s
  have l := len_list s
  rw [e]
  cases h2 : s.data.toList with
  | nil => rw [h2] at l; simp at l; omega
  | cons a b => rfl
theorem rl_lo (s : ByteArray) (hs : 0 < s.size) (hm : s.size ≤ maxLen) (h : bt s 0 < 128) (w : World) : Calls Tryd.prog 25 #[.string s] w fun e w' => e = .returned (.tuple #[.int .i64 (bt s 0), .string (s.extract 1 s.size), .int .i64 0]) ∧ Below w.heap.size w w' := by
  have I := idx0 s hs
  have b0 := (bt_bd s 0).1
  have em := emp_no s hs
  unfold maxLen at hm
  have z0 : (1 : Int) ≤ (s.size : Int) := by omega
  generalize bt s 0 = c at *
  go_enter Tryd.func25, Tryd.ntmps25
  go_wp2_with fail
  go_region
  go_wp2_with fail
  exact bodyPost_ret (v := .tuple #[.int .i64 c, .string (s.extract 1 s.size), .int .i64 0]) (by simp [results, Tryd.results25, go_sem]) rfl ⟨rfl, by go_grown⟩
theorem rl_bad (s : ByteArray) (hs : 0 < s.size) (hm : s.size ≤ maxLen) (h : bt s 0 = 128 ∨ 130 < bt s 0) (w : World) : Calls Tryd.prog 25 #[.string s] w fun e w' => e = .returned (.tuple #[.int .i64 0, .string ⟨#[]⟩, .int .i64 10]) ∧ Below w.heap.size w w' := by
  have I := idx0 s hs
  have b0 := (bt_bd s 0).1
  have b1 := (bt_bd s 0).2
  have em := emp_no s hs
  generalize bt s 0 = c at *
  rcases h with h | h
  · subst h
    go_enter Tryd.func25, Tryd.ntmps25
    go_wp2_with fail
    exact bodyPost_ret (v := .tuple #[.int .i64 0, .string ⟨#[]⟩, .int .i64 10]) (by simp [results, Tryd.results25, go_sem]) rfl ⟨rfl, by go_grown⟩
  · go_enter Tryd.func25, Tryd.ntmps25
    go_wp2_with fail
    exact bodyPost_ret (v := .tuple #[.int .i64 0, .string ⟨#[]⟩, .int .i64 10]) (by simp [results, Tryd.results25, go_sem]) rfl ⟨rfl, by go_grown⟩
theorem rl_sh (s : ByteArray) (hs : 0 < s.size) (hm : s.size ≤ maxLen) (m : Nat) (h1 : 1 ≤ m) (h2 : m ≤ 2) (h : bt s 0 = 128 + m) (hz : s.size ≤ m) (w : World) : Calls Tryd.prog 25 #[.string s] w fun e w' => e = .returned (.tuple #[.int .i64 0, .string ⟨#[]⟩, .int .i64 11]) ∧ Below w.heap.size w w' := by
  have I := idx0 s hs
  have em := emp_no s hs
  rw [h] at I
  clear h
  have z0 : (s.size : Int) ≤ (m : Int) := by omega
  have z1 : (1 : Int) ≤ (m : Int) := by omega
  have z2 : (m : Int) ≤ 2 := by omega
  go_enter Tryd.func25, Tryd.ntmps25
  go_wp2_with fail
  exact bodyPost_ret (v := .tuple #[.int .i64 0, .string ⟨#[]⟩, .int .i64 11]) (by simp [results, Tryd.results25, go_sem]) rfl ⟨rfl, by go_grown⟩
theorem or_low8 (x d : Int) (x0 : 0 ≤ x) (x1 : x < 256) (hd : 0 ≤ d ∧ d < 256) : bits .or .i64 (x * 256) d = x * 256 + d := by
  obtain ⟨a, rfl⟩ := Int.eq_ofNat_of_zero_le x0
  obtain ⟨b, rfl⟩ := Int.eq_ofNat_of_zero_le hd.1
  have ha : a < 256 := by omega
  have hb : b < 256 := by omega
  have h1 : (BitVec.ofInt 64 ((a * 256 : Nat) : Int)).toNat = a * 256 := by rw [BitVec.ofInt_natCast, BitVec.toNat_ofNat]; exact Nat.mod_eq_of_lt (by omega)
  have h2 : (BitVec.ofInt 64 (b : Int)).toNat = b := by rw [BitVec.ofInt_natCast, BitVec.toNat_ofNat]; exact Nat.mod_eq_of_lt (by omega)
  have e : a * 256 ||| b = a * 256 + b := by
    have := Nat.shiftLeft_add_eq_or_of_lt (i := 8) (b := b) (by omega) a
    rw [Nat.shiftLeft_eq] at this
    exact this.symm
  show IntKind.i64.wrap ((BitVec.ofInt 64 ((a : Int) * 256) ||| BitVec.ofInt 64 (b : Int)).toNat : Int) = _
  rw [show (a : Int) * 256 = ((a * 256 : Nat) : Int) by omega, BitVec.toNat_or, h1, h2, e, IntKind.wrap_i64]
  omega
/-- The number of k bytes behind the first. -/
def lv (s : ByteArray) : Nat → Int
  | 0 => 0
  | k + 1 => lv s k * 256 + bt s (k + 1)
theorem lv_bd (s : ByteArray) (k : Nat) (h : k ≤ 2) : 0 ≤ lv s k ∧ lv s k < 65536 := by
  have a := bt_bd s 1
  have b := bt_bd s 2
  match k, h with
  | 0, _ => simp [lv]
  | 1, _ => simp [lv]; omega
  | 2, _ => simp [lv]; omega
theorem lv_or (s : ByteArray) (k : Nat) (h : k < 2) : bits .or .i64 (lv s k * 256) (bt s (k + 1)) = lv s (k + 1) := by
  have a := bt_bd s 1
  have b := bt_bd s 2
  match k, h with
  | 0, _ => exact or_low8 0 (bt s 1) (by omega) (by omega) a
  | 1, _ => exact or_low8 (lv s 1) (bt s 2) (by simp [lv]; omega) (by simp [lv]; omega) b
theorem lv_bit (s : ByteArray) (k : Nat) (h : k < 2) : 0 ≤ lv s k ∧ lv s k < 256 := by
  have a := bt_bd s 1
  match k, h with
  | 0, _ => simp [lv]
  | 1, _ => simp [lv]; omega
theorem rl_loop (s G : ByteArray) (hs : 0 < s.size) (hm : s.size ≤ maxLen) (m : Nat) (h1 : 1 ≤ m) (h2 : m ≤ 2) (h : bt s 0 = 128 + m) (hz : m < s.size)
    (CL : ∀ W, Calls Tryd.prog 27 #[.int .i64 (lv s m)] W fun e w' => e = .returned (.string G) ∧ Below W.heap.size W w') (E : Int) (R : ByteArray) (V : Int) (hg : G.size ≤ 10) (hE : Hid ((G.size ≤ m ∧ E = 10 ∧ R = ⟨#[]⟩ ∧ V = 0) ∨ (m < G.size ∧ E = 0 ∧ R = s.extract (1 + m) s.size ∧ V = lv s m))) (w : World) : Calls Tryd.prog 25 #[.string s] w fun e w' => e = .returned (.tuple #[.int .i64 V, .string R, .int .i64 E]) ∧ Below w.heap.size w w' := by
  have I := idx0 s hs
  have em := emp_no s hs
  rw [h] at I
  clear h
  unfold maxLen at hm
  have z0 : (m : Int) < (s.size : Int) := by omega
  have z1 : (1 : Int) ≤ (m : Int) := by omega
  have z2 : (m : Int) ≤ 2 := by omega
  have LB := lv_bd s m h2
  go_enter Tryd.func25, Tryd.ntmps25
  go_wp2_with fail
  go_loop [7, 34] (fun n i => ∃ k : Nat, k ≤ m ∧ n = .int .i64 (lv s k) ∧ i = .int .i64 (k : Int)) (fun _ i => m - (intOf i).toNat)
  case atStart => exact ⟨0, by omega, rfl, rfl⟩
  case round =>
    obtain ⟨k, hk, rfl, rfl⟩ := hrel
    by_cases hlt : k < m
    · have k0 : (0 : Int) ≤ (k : Int) := by omega
      have k1 : (k : Int) < (m : Int) := by omega
      have I2 := fun W => idxS s (k + 1) (by omega) W
      have ov := lv_or s k (by omega)
      have lb := lv_bit s k (by omega)
      have cb := bt_bd s (k + 1)
      rw [show ((k + 1 : Nat) : Int) = 1 + (k : Int) by omega] at I2
      have HN : Hid _ := ov
      generalize lv s k = x at *
      generalize bt s (k + 1) = y at *
      go_wp2_with fail
      exact ⟨⟨k + 1, by omega, by first | rfl | rw [HN.out], by go_num⟩, by simp [intOf]; omega⟩
    · obtain rfl : k = m := by omega
      rcases hE.out with ⟨g, rfl, rfl, rfl⟩ | ⟨g, rfl, rfl, rfl⟩
      · have g' : (G.size : Int) ≤ (k : Int) := by omega
        go_wp2_with (go_at_call 27; refine (CL _).mono ?_; rintro e w2 ⟨rfl, hb2⟩)
        exact bodyPost_ret (v := .tuple #[.int .i64 0, .string ⟨#[]⟩, .int .i64 10]) (by simp [results, Tryd.results25, go_sem]) rfl ⟨rfl, hb2⟩
      · have g' : (k : Int) < (G.size : Int) := by omega
        clear hE
        go_wp2_with (go_at_call 27; refine (CL _).mono ?_; rintro e w2 ⟨rfl, hb2⟩)
        go_region
        go_wp2_with fail
        exact bodyPost_ret (v := .tuple #[.int .i64 (lv s k), .string (s.extract (1 + k) s.size), .int .i64 0]) (by simp [results, Tryd.results25, go_sem]) rfl ⟨rfl, by first | exact hb2 | exact Bel.drew hb2⟩
end Go.Proofs.YtajdfjpcobaioaaDoor
