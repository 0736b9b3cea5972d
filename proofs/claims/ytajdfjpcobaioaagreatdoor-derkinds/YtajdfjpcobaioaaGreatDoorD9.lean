/- Numbers as digits. -/
import Derived.Test.YtajdfjpcobaioaaGreatDoorD6
import Derived.Test.YtajdfjpcobaioaaGreatDoorM1
set_option linter.all false
set_option maxRecDepth 100000
namespace Go.Proofs.YtajdfjpcobaioaaGreatDoor
open Go.RowKit Go.Sort
/-- The library's table of powers of ten lies as its text lays it. -/
def Tab (w : World) : Prop := Lib.TabIs Tryz.prog w pwN .u64 Lib.pow10Tab
theorem Tab.to {w w' : World} (h : Tab w) (hb : Below w.heap.size w w') : Tab w' := by
  unfold Tab Lib.TabIs World.var? at *
  cases hg : Tryz.prog.globalNamed pwN with
  | none => rw [hg] at h; simp at h
  | some g =>
    rw [hg] at h
    simp only [Option.bind_some] at h ⊢
    by_cases hlt : g < w.heap.size
    · rw [hb.block g hlt]; exact h
    · rw [Array.getElem?_eq_none (by omega)] at h; simp at h
/-- So many digits of a number. -/
def dgs : Nat → Int → List Int
  | 0, _ => []
  | k + 1, n => dgs k (n / 10) ++ [48 + n % 10]
theorem dgs_len (k : Nat) : ∀ n, (dgs k n).length = k := by
  induction k with
  | zero => intro n; rfl
  | succ k ih => intro n; rw [dgs, List.length_append, ih]; rfl
theorem dgs_bd (k : Nat) : ∀ n x, x ∈ dgs k n → 48 ≤ x ∧ x ≤ 57 := by
  induction k with
  | zero => intro n x hx; cases hx
  | succ k ih =>
    intro n x hx
    rw [dgs] at hx
    rcases List.mem_append.1 hx with h | h
    · exact ih _ _ h
    · simp at h; omega
theorem dgs_bys (k : Nat) (n : Int) : Bys (dgs k n) := fun x hx => by have := dgs_bd k n x hx; omega
theorem dgs_0 (k : Nat) : dgs k 0 = List.replicate k 48 := by
  induction k with
  | zero => rfl
  | succ k ih => rw [dgs, show (0 : Int) / 10 = 0 by decide, ih, List.replicate_succ']; rfl
/-- The library's digits, with some 0 ahead, are these. -/
theorem dec_dgs (k : Nat) : ∀ n : Nat, n < 10 ^ k → 1 ≤ k → ∃ z, (Lib.decDigits n).length + z = k ∧ 1 ≤ (Lib.decDigits n).length ∧ mkS (List.replicate z 48) ++ ⟨(Lib.decDigits n).toArray⟩ = mkS (dgs k n) := by
  induction k with
  | zero => intro n _ h; omega
  | succ k ih =>
    intro n hn _
    have key : (48 + (n : Int) % 10).toNat = 48 + n % 10 := by omega
    by_cases c : n < 10
    · refine ⟨k, ?_, ?_, ?_⟩
      · rw [Lib.decDigits, dif_pos c]; simp; omega
      · rw [Lib.decDigits, dif_pos c]; simp
      · apply ba_ext
        rw [ap_list, mkS_list, mkS_list, dgs, show (n : Int) / 10 = 0 by omega, dgs_0, Lib.decDigits, dif_pos c, List.map_append, List.map_cons, key, show n % 10 = n by omega]
        rfl
    · have hk : 1 ≤ k := by
        cases k with
        | zero => simp at hn; omega
        | succ k => omega
      obtain ⟨z, h1, h2, h3⟩ := ih (n / 10) (by rw [Nat.pow_succ] at hn; omega) hk
      have e : Lib.decDigits n = Lib.decDigits (n / 10) ++ [UInt8.ofNat (48 + n % 10)] := by rw [Lib.decDigits, dif_neg c]
      refine ⟨z, ?_, ?_, ?_⟩
      · rw [e]; simp; omega
      · rw [e]; simp
      · have h3' := congrArg (fun s : ByteArray => s.data.toList) h3
        simp only [ap_list, mkS_list] at h3'
        apply ba_ext
        rw [ap_list, mkS_list, mkS_list, dgs, List.map_append]
        rw [show ((n : Int) / 10) = ((n / 10 : Nat) : Int) by omega, ← h3', e, List.map_cons, key]
        simp
theorem rep_is (z : Nat) : (⟨(Lib.repeatL [48] z).toArray⟩ : ByteArray) = mkS (List.replicate z 48) := by
  apply ba_ext
  rw [mkS_list]
  induction z with
  | zero => rfl
  | succ z ih => rw [List.replicate_succ, List.map_cons, ← ih]; rfl
theorem digits_core (n k : Int) (S Z : ByteArray) (hS : S.size ≤ 20) (hZ : Z.size ≤ 20) (k1 : 0 ≤ k) (k2 : k ≤ 20)
    (w : World) (C64 : Calls Tryz.prog 55 #[.int .i64 n] w fun e w' => e = .returned (.string S) ∧ Below w.heap.size w w')
    (C35 : ∀ W, Calls Tryz.prog 20 #[.string ⟨#[48]⟩, .int .i64 (k - (S.size : Int))] W fun e w' => e = .returned (.string Z) ∧ Below W.heap.size W w') :
    Calls Tryz.prog 27 #[.int .i64 n, .int .i64 k] w fun e w' => e = .returned (.string (Z ++ S)) ∧ Below w.heap.size w w' := by
  have AD := add_s Z S (by omega)
  generalize Z ++ S = ZS at *
  go_enter Tryz.func27, Tryz.ntmps27
  go_wp2_with (first | (go_at_call 55; refine C64.mono ?_; rintro e w1 ⟨rfl, hb1⟩) | (go_at_call 20; refine (C35 _).mono ?_; rintro e w2 ⟨rfl, hb2⟩))
  go_ret
  exact ⟨rfl, Bel.call hb1 hb2⟩
theorem digits_any (n k : Nat) (hk : 1 ≤ k) (hk4 : k ≤ 4) (hn : n < 10 ^ k) (w : World) (hT : n < 100 ∨ Tab w) : Calls Tryz.prog 27 #[.int .i64 n, .int .i64 k] w fun e w' => e = .returned (.string (mkS (dgs k n))) ∧ Below w.heap.size w w' := by
  obtain ⟨z, h1, h2, h3⟩ := dec_dgs k n hn hk
  have hn4 : n < 10 ^ 4 := Nat.lt_of_lt_of_le hn (Nat.pow_le_pow_right (by omega) hk4)
  have sz : (⟨(Lib.decDigits n).toArray⟩ : ByteArray).size = (Lib.decDigits n).length := by rw [ByteArray.size]; simp
  rw [← h3, ← rep_is]
  refine digits_core n k _ _ (by rw [sz]; omega) (by rw [rep_is, mkS_size, List.length_replicate]; omega) (by omega) (by omega) w ?_ (fun W => ?_)
  · by_cases c : n < 100
    · refine (sh_strconv_Itoa_small n c w).mono ?_
      rintro e w' ⟨rfl, rfl⟩
      exact ⟨rfl, Below.refl _ _⟩
    · have hT' : Tab w := hT.resolve_left c
      refine (sh_strconv_Itoa n (by omega) (by omega) w hT').mono ?_
      rintro e w' ⟨rfl, k, os, rfl⟩
      refine ⟨?_, ?_⟩
      · rw [Lib.itoa, if_neg (by omega)]; rfl
      · exact below_of (d := w.drawn + k) rfl
  · rw [sz, show (k : Int) - ((Lib.decDigits n).length : Int) = (z : Int) by omega]
    refine (sh_strings_Repeat ⟨#[48]⟩ z W (by omega) (by have : (⟨#[48]⟩ : ByteArray).size = 1 := rfl; rw [this]; omega)).mono ?_
    rintro e w' ⟨rfl, hb⟩
    exact ⟨rfl, hb⟩
end Go.Proofs.YtajdfjpcobaioaaGreatDoor
