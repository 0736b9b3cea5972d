/- Times, read: digits as numbers; whether a text has a time's form; whether there is such a day. -/
import Derived.Test.YtajdfjpcobaioaaGreatDoorD10
import Derived.Test.YtajdfjpcobaioaaGreatDoorD3
set_option linter.all false
set_option maxRecDepth 100000
namespace Go.Proofs.YtajdfjpcobaioaaGreatDoor
open Go.RowKit Go.Sort
/-- The number of some digits. -/
def vG : Int → List Int → Int
  | a, [] => a
  | a, x :: l => vG (10 * a + (x - 48)) l
theorem vG_snoc (l : List Int) (x : Int) : ∀ a, vG a (l ++ [x]) = 10 * vG a l + (x - 48) := by
  induction l with
  | nil => intro a; rfl
  | cons y l ih => intro a; exact ih _
def DgS (s : ByteArray) : Prop := ∀ i, i < s.size → 48 ≤ bt s i ∧ bt s i ≤ 57
/-- The number of k digits of a text. -/
def vK (s : ByteArray) : Nat → Int
  | 0 => 0
  | k + 1 => 10 * vK s k + (bt s k - 48)
theorem vK_bd (s : ByteArray) (hd : DgS s) : ∀ k, k ≤ s.size → 0 ≤ vK s k ∧ vK s k < 10 ^ k := by
  intro k
  induction k with
  | zero => intro _; simp [vK]
  | succ k ih =>
    intro hk
    have := ih (by omega)
    have h := hd k (by omega)
    rw [vK, Int.pow_succ]
    omega
theorem value_any (s : ByteArray) (hs : s.size ≤ 4) (hd : DgS s) (w : World) : Calls Tryz.prog 32 #[.string s] w fun e w' => e = .returned (.int .i64 (vK s s.size)) ∧ Below w.heap.size w w' := by
  have z0 : (s.size : Int) ≤ 4 := by omega
  go_enter Tryz.func32, Tryz.ntmps32
  go_wp2_with fail
  go_loop [3, 7] (fun n i => ∃ k : Nat, k ≤ s.size ∧ n = .int .i64 (vK s k) ∧ i = .int .i64 (k : Int)) (fun _ i => s.size - (intOf i).toNat)
  case atStart => exact ⟨0, by omega, rfl, rfl⟩
  case round =>
    obtain ⟨k, hk, rfl, rfl⟩ := hrel
    by_cases hlt : k < s.size
    · have k0 : (0 : Int) ≤ (k : Int) := by omega
      have k1 : (k : Int) < (s.size : Int) := by omega
      have I := idxS s k hlt
      have cb := hd k hlt
      have vb := vK_bd s hd k hk
      have v4 : vK s k < 10000 := Int.lt_of_lt_of_le vb.2 (by
        have : (10 : Int) ^ k ≤ 10 ^ 4 := by
          have h4 : k ≤ 4 := by omega
          match k, h4 with
          | 0, _ => decide
          | 1, _ => decide
          | 2, _ => decide
          | 3, _ => decide
          | 4, _ => decide
        simpa using this)
      have v0 := vb.1
      have HN : Hid (10 * vK s k + (bt s k - 48) = vK s (k + 1)) := rfl
      clear vb
      generalize vK s k = x at *
      generalize bt s k = y at *
      have q : (y - 48) % 256 = y - 48 := by omega
      go_wp2_with fail
      exact ⟨⟨k + 1, by omega, by first | rw [HN.out] | (rw [← HN.out]; go_num), by go_num⟩, by simp [intOf]; omega⟩
    · obtain rfl : k = s.size := by omega
      go_wp2_with fail
      go_ret
      exact ⟨rfl, by go_grown⟩
def htB (s : ByteArray) : Prop := s.size = 15 ∧ bt s 14 = 90 ∧ ∀ i, i < 14 → 48 ≤ bt s i ∧ bt s i ≤ 57
theorem suf_is (s : ByteArray) (h : s.size = 15) : Lib.hasSuffix s.data.toList [90] = decide (bt s 14 = 90) := by
  have hl := len_list s
  rw [h] at hl
  have e : s.data.toList = s.data.toList.take 14 ++ [s.data.toList[14]'(by omega)] := by
    conv => lhs; rw [← List.take_append_drop 14 s.data.toList]
    congr 1
    rw [List.drop_eq_getElem_cons (by omega), List.drop_eq_nil_of_le (by omega)]
  have eb : bt s 14 = ((s.data.toList[14]'(by omega)).toNat : Int) := by
    unfold bt
    rw [← Array.getElem?_toList, List.getElem?_eq_getElem (by omega)]; rfl
  unfold Lib.hasSuffix
  rw [e, eb]
  generalize s.data.toList[14]'(by omega) = c
  generalize s.data.toList.take 14 = l
  by_cases hc : c = 90
  · subst hc
    rw [decide_eq_true (by decide)]
    rw [List.isSuffixOf_iff_suffix]
    exact ⟨l, rfl⟩
  · rw [decide_eq_false (by intro h; exact hc (by apply UInt8.toNat_inj.1; show c.toNat = 90; omega))]
    cases hb : [90].isSuffixOf (l ++ [c]) with
    | false => rfl
    | true =>
      rw [List.isSuffixOf_iff_suffix] at hb
      obtain ⟨t, ht⟩ := hb
      have := List.append_inj_right' ht rfl
      simp at this
      exact absurd this.symm hc
theorem form_no (s : ByteArray) (h : s.size ≠ 15) (hm : s.size ≤ maxLen) (w : World) : Calls Tryz.prog 31 #[.string s] w fun e w' => e = .returned (.bool false) ∧ Below w.heap.size w w' := by
  have h' : ¬ (s.size : Int) = 15 := by omega
  have h2 : ((s.size : Int) == 15) = false := by simp [h']
  go_enter Tryz.func31, Tryz.ntmps31
  go_wp2_with fail
  go_ret
  exact ⟨rfl, by go_grown⟩
theorem form_any (s : ByteArray) (h : s.size = 15) (r : Bool) (hr : Hid (r = true ↔ bt s 14 = 90 ∧ ∀ i, i < 14 → 48 ≤ bt s i ∧ bt s i ≤ 57)) (w : World) : Calls Tryz.prog 31 #[.string s] w fun e w' => e = .returned (.bool r) ∧ Below w.heap.size w w' := by
  have C := fun W => sh_strings_HasSuffix s ⟨#[90]⟩ W (by omega)
  rw [show (⟨#[90]⟩ : ByteArray).data.toList = [90] from rfl, suf_is s h] at C
  have z : (s.size : Int) = 15 := by omega
  by_cases c : bt s 14 = 90
  · rw [decide_eq_true c] at C
    go_enter Tryz.func31, Tryz.ntmps31
    go_wp2_with (go_at_call 57; refine (C _).mono ?_; rintro e w1 ⟨rfl, rfl⟩)
    go_loop [12] (fun i => ∃ k : Nat, k ≤ 14 ∧ i = .int .i64 (k : Int) ∧ ∀ j, j < k → 48 ≤ bt s j ∧ bt s j ≤ 57) (fun i => 14 - (intOf i).toNat)
    case atStart => exact ⟨0, by omega, rfl, fun j hj => by omega⟩
    case round =>
      obtain ⟨k, hk, rfl, hall⟩ := hrel
      by_cases hlt : k < 14
      · have k0 : (0 : Int) ≤ (k : Int) := by omega
        have k1 : (k : Int) < 14 := by omega
        have I := idxS s k (by omega)
        have cb := bt_bd s k
        have HA : Hid (∀ j, j < k → 48 ≤ bt s j ∧ bt s j ≤ 57) := hall
        clear hall C
        by_cases g1 : bt s k < 48
        · have HR : Hid (r = false) := by
            show r = false
            cases r with
            | false => rfl
            | true => exact absurd ((hr.out.1 rfl).2 k hlt).1 (by omega)
          generalize bt s k = x at *
          go_wp2_with fail
          go_ret
          exact ⟨by rw [HR.out]; rfl, by go_grown⟩
        · by_cases g2 : 57 < bt s k
          · have HR : Hid (r = false) := by
              show r = false
              cases r with
              | false => rfl
              | true => exact absurd ((hr.out.1 rfl).2 k hlt).2 (by omega)
            have g1' : decide (bt s k < 48) = false := decide_eq_false g1
            generalize bt s k = x at *
            go_wp2_with fail
            go_ret
            exact ⟨by rw [HR.out]; rfl, by go_grown⟩
          · have g1' : decide (bt s k < 48) = false := decide_eq_false g1
            have g2' : decide (57 < bt s k) = false := decide_eq_false g2
            have HK : Hid (48 ≤ bt s k ∧ bt s k ≤ 57) := ⟨by omega, by omega⟩
            generalize hx : bt s k = x at *
            have HX : Hid (bt s k = x) := hx
            clear hx
            go_wp2_with fail
            refine ⟨⟨k + 1, by omega, by go_num, fun j hj => ?_⟩, by simp [intOf]; omega⟩
            by_cases e : j = k
            · subst e; rw [HX.out]; exact HK.out
            · exact HA.out j (by omega)
      · obtain rfl : k = 14 := by omega
        have HR : Hid (r = true) := hr.out.2 ⟨c, hall⟩
        clear hall
        go_wp2_with fail
        go_ret
        exact ⟨by rw [HR.out]; rfl, by go_grown⟩
  · rw [decide_eq_false c] at C
    have HR : Hid (r = false) := by
      show r = false
      cases r with
      | false => rfl
      | true => exact absurd (hr.out.1 rfl).1 c
    go_enter Tryz.func31, Tryz.ntmps31
    go_wp2_with (go_at_call 57; refine (C _).mono ?_; rintro e w1 ⟨rfl, rfl⟩)
    go_ret
    exact ⟨by rw [HR.out]; rfl, by go_grown⟩
end Go.Proofs.YtajdfjpcobaioaaGreatDoor
