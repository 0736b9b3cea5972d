/- What Read tells, in one word. -/
import Derived.Test.YtajdfjpcobaioaaDoorD4
set_option linter.all false
set_option maxRecDepth 100000
namespace Go.Proofs.YtajdfjpcobaioaaDoor
open Go.RowKit Go.Sort
theorem ext_to (s : ByteArray) (a b c : Nat) (hb : a + b ≤ a + c) (hc : a + c ≤ s.size) : (s.extract a s.size).extract b c = s.extract (a + b) (a + c) := by
  apply ba_ext
  rw [ext_list, ext_list, ext_list, List.drop_take, List.take_take, List.drop_drop]
  congr 1
  omega
theorem ext_sz (s : ByteArray) (a b : Nat) (h : b ≤ s.size) : (s.extract a b).size = b - a := by
  rw [ByteArray.size_extract]; omega
/-- How many bytes stand ahead. -/
def rdH (s : ByteArray) : Nat := if bt s 1 < 128 then 2 else if bt s 1 = 129 then 3 else 4
/-- How many there are. -/
def rdN (s : ByteArray) : Nat := (if bt s 1 < 128 then bt s 1 else if bt s 1 = 129 then bt s 2 else bt s 2 * 256 + bt s 3).toNat
/-- Read's error. -/
def rdE (s : ByteArray) : Int := if s.size < 2 then 11 else if bt s 1 = 128 ∨ 130 < bt s 1 then 10 else if s.size < rdH s then 11 else if (lenL (rdN s)).length < rdH s - 1 then 10 else if s.size < rdH s + rdN s then 11 else 0
def rdR (s : ByteArray) : Value := if rdE s = 0 then .tuple #[tlv (bt s 0) (s.extract (rdH s) (rdH s + rdN s)), .string (s.extract (rdH s + rdN s) s.size), .int .i64 0] else .tuple #[tlv 0 ⟨#[]⟩, .string ⟨#[]⟩, .int .i64 (rdE s)]
theorem rd_case (s : ByteArray) (hs : 0 < s.size) (hm : s.size ≤ maxLen) (H : Nat) (hH : 1 ≤ H) (hH2 : H ≤ s.size) (n : Nat)
    (CR : ∀ W, Calls Tryd.prog 25 #[.string (s.extract 1 s.size)] W fun e w' => e = .returned (.tuple #[.int .i64 (n : Int), .string (s.extract H s.size), .int .i64 0]) ∧ Below W.heap.size W w') (w : World) :
    Calls Tryd.prog 8 #[.string s] w fun e w' => e = .returned (if s.size < H + n then .tuple #[tlv 0 ⟨#[]⟩, .string ⟨#[]⟩, .int .i64 11] else .tuple #[tlv (bt s 0) (s.extract H (H + n)), .string (s.extract (H + n) s.size), .int .i64 0]) ∧ Below w.heap.size w w' := by
  have z := ext_sz s H s.size (Nat.le_refl _)
  by_cases c : s.size < H + n
  · rw [if_pos c]
    exact rd_s s _ n (by omega) hs hm (by rw [z]; omega) CR w
  · rw [if_neg c]
    have := rd_y s _ n hs hm (by rw [z]; omega) (by rw [z]; omega) CR w
    rw [ext_to s H 0 n (by omega) (by omega)] at this
    rw [z, ext_to s H n (s.size - H) (by omega) (by omega), Nat.add_zero, show H + (s.size - H) = s.size by omega] at this
    exact this
theorem lv_1 (s : ByteArray) : lv s 1 = bt s 1 := by simp [lv]
theorem lv_2 (s : ByteArray) : lv s 2 = bt s 1 * 256 + bt s 2 := by simp [lv]
theorem read_any (s : ByteArray) (hm : s.size ≤ maxLen) (w : World) : Calls Tryd.prog 8 #[.string s] w fun e w' => e = .returned (rdR s) ∧ Below w.heap.size w w' := by
  unfold rdR
  by_cases c0 : s.size = 0
  · have e : s = ⟨#[]⟩ := by
      apply ba_ext
      have := len_list s
      rw [c0] at this
      rw [List.eq_nil_of_length_eq_zero this]
    have eE : rdE s = 11 := by unfold rdE; rw [if_pos (by omega)]
    rw [eE, if_neg (by decide), e]
    exact rd_0 w
  have hs : 0 < s.size := by omega
  have z1 := ext_sz s 1 s.size (Nat.le_refl _)
  have hm1 : (s.extract 1 s.size).size ≤ maxLen := by rw [z1]; omega
  by_cases c1 : s.size = 1
  · have eE : rdE s = 11 := by unfold rdE; rw [if_pos (by omega)]
    rw [eE, if_neg (by decide)]
    refine rd_e s hs hm 11 (by decide) (fun W => ?_) w
    have e : s.extract 1 s.size = ⟨#[]⟩ := by
      apply ba_ext
      have := len_list (s.extract 1 s.size)
      rw [z1, show s.size - 1 = 0 by omega] at this
      rw [List.eq_nil_of_length_eq_zero this]
    rw [e]; exact rl_0 W
  have hs1 : 0 < (s.extract 1 s.size).size := by rw [z1]; omega
  have b0 : bt (s.extract 1 s.size) 0 = bt s 1 := bt_ext s 1 s.size 0 (by omega) (Nat.le_refl _)
  have bb := bt_bd s 1
  by_cases c2 : bt s 1 = 128 ∨ 130 < bt s 1
  · have eE : rdE s = 10 := by unfold rdE; rw [if_neg (by omega), if_pos c2]
    rw [eE, if_neg (by decide)]
    exact rd_e s hs hm 10 (by decide) (fun W => rl_bad _ hs1 hm1 (by rw [b0]; exact c2) W) w
  by_cases c3 : bt s 1 < 128
  · have eH : rdH s = 2 := by unfold rdH; rw [if_pos c3]
    have eN : (rdN s : Int) = bt s 1 := by unfold rdN; rw [if_pos c3]; omega
    have eL : (lenL (rdN s)).length = 1 := by unfold lenL; rw [if_pos (by omega)]; rfl
    have eE : rdE s = if s.size < 2 + rdN s then 11 else 0 := by unfold rdE; rw [if_neg (by omega), if_neg c2, eH, eL, if_neg (by omega), if_neg (by decide)]
    have := rd_case s hs hm 2 (by omega) (by omega) (rdN s) (fun W => by
      have r := rl_lo _ hs1 hm1 (by rw [b0]; exact c3) W
      rw [b0, ← eN, z1, ext_to s 1 1 (s.size - 1) (by omega) (by omega), show 1 + (s.size - 1) = s.size by omega] at r
      exact r) w
    rw [eE, eH]
    by_cases c4 : s.size < 2 + rdN s
    · rw [if_pos c4] at this ⊢; rw [if_neg (by decide)]; exact this
    · rw [if_neg c4] at this ⊢; rw [if_pos rfl]; exact this
  obtain ⟨m, h1, h2, hbm⟩ : ∃ m : Nat, 1 ≤ m ∧ m ≤ 2 ∧ bt s 1 = 128 + m := ⟨(bt s 1 - 128).toNat, by omega, by omega, by omega⟩
  have eH : rdH s = 2 + m := by unfold rdH; rw [if_neg c3]; split <;> omega
  by_cases c5 : s.size < 2 + m
  · have eE : rdE s = 11 := by unfold rdE; rw [if_neg (by omega), if_neg c2, eH, if_pos c5]
    rw [eE, if_neg (by decide)]
    exact rd_e s hs hm 11 (by decide) (fun W => rl_sh _ hs1 hm1 m h1 h2 (by rw [b0]; exact hbm) (by rw [z1]; omega) W) w
  have eN : (rdN s : Int) = lv (s.extract 1 s.size) m := by
    have x2 := bt_bd s 2
    have x3 := bt_bd s 3
    unfold rdN
    rw [if_neg c3]
    rcases (show m = 1 ∨ m = 2 by omega) with rfl | rfl
    · rw [if_pos (by omega), lv_1, show bt (s.extract 1 s.size) 1 = bt s 2 from bt_ext s 1 s.size 1 (by omega) (Nat.le_refl _)]; omega
    · rw [if_neg (by omega), lv_2, show bt (s.extract 1 s.size) 1 = bt s 2 from bt_ext s 1 s.size 1 (by omega) (Nat.le_refl _), show bt (s.extract 1 s.size) 2 = bt s 3 from bt_ext s 1 s.size 2 (by omega) (Nat.le_refl _)]; omega
  have lb := lv_bd (s.extract 1 s.size) m h2
  obtain ⟨o, CL0⟩ := length_al (rdN s) (by omega) (by omega)
  have CL : ∀ W, Calls Tryd.prog 27 #[.int .i64 (lv (s.extract 1 s.size) m)] W fun e w' => e = .returned (.string (mkS (lenL (rdN s)))) ∧ Below W.heap.size W w' := fun W => by
    rw [← eN]
    refine (CL0 W).mono ?_
    rintro e w' ⟨rfl, rfl⟩
    exact ⟨rfl, by go_grown⟩
  have gz : (mkS (lenL (rdN s))).size = (lenL (rdN s)).length := mkS_size _
  have gl := lenL_le (rdN s)
  by_cases c6 : (lenL (rdN s)).length < 2 + m - 1
  · have eE : rdE s = 10 := by unfold rdE; rw [if_neg (by omega), if_neg c2, eH, if_neg c5, if_pos c6]
    rw [eE, if_neg (by decide)]
    exact rd_e s hs hm 10 (by decide) (fun W => rl_loop _ _ hs1 hm1 m h1 h2 (by rw [b0]; exact hbm) (by rw [z1]; omega) CL 10 ⟨#[]⟩ 0 (by omega) (.inl ⟨by omega, rfl, rfl, rfl⟩) W) w
  · have eE : rdE s = if s.size < 2 + m + rdN s then 11 else 0 := by unfold rdE; rw [if_neg (by omega), if_neg c2, eH, if_neg c5, if_neg c6]
    have := rd_case s hs hm (2 + m) (by omega) (by omega) (rdN s) (fun W => by
      have r := rl_loop _ _ hs1 hm1 m h1 h2 (by rw [b0]; exact hbm) (by rw [z1]; omega) CL 0 _ _ (by omega) (.inr ⟨by omega, rfl, rfl, rfl⟩) W
      rw [← eN, z1, ext_to s 1 (1 + m) (s.size - 1) (by omega) (by omega), show 1 + (s.size - 1) = s.size by omega, show 1 + (1 + m) = 2 + m by omega] at r
      exact r) w
    rw [eE, eH]
    by_cases c4 : s.size < 2 + m + rdN s
    · rw [if_pos c4] at this ⊢; rw [if_neg (by decide)]; exact this
    · rw [if_neg c4] at this ⊢; rw [if_pos rfl]; exact this
/- There and back. -/
theorem lenL_bd (n : Nat) (h : n < 65536) : ∀ x ∈ lenL n, 0 ≤ x ∧ x < 256 := by
  intro x hx
  unfold lenL at hx
  split at hx
  · simp at hx; omega
  · split at hx <;> simp at hx <;> omega
end Go.Proofs.YtajdfjpcobaioaaDoor
