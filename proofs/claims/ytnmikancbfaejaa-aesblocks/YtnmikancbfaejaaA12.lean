/- A block as a text. -/
import Derived.Test.YtnmikancbfaejaaA10
set_option linter.all false
set_option maxRecDepth 100000
namespace Go.Proofs.Ytnmikancbfaejaa
open Go.RowKit Go.Sort Lin
/-- A word's four bytes, the highest first. -/
def w4 (x : Int) : List Int := [x / 16777216 % 256, x / 65536 % 256, x / 256 % 256, x % 256]
def hfL (x : Nat → Int) : Nat → List Int
  | 0 => []
  | n + 1 => hfL x n ++ w4 (x n)
theorem hfL_len (x : Nat → Int) (n : Nat) : (hfL x n).length = 4 * n := by
  induction n with
  | zero => rfl
  | succ n ih => rw [hfL, List.length_append, ih]; simp [w4]; omega
set_option maxHeartbeats 2000000 in
theorem appended_core (x : Nat → Int) (base n : Nat) (v : Value) (L0 : List Value) (w : World) (hw : w.ownsRow base 5 1 v n L0) (hbase : base ≤ w.heap.size) (hn : n ≤ 1000000) :
    Calls Try.prog 38 #[bv x, v] w fun e w' => ∃ v', e = .returned v' ∧ w'.ownsRow base 5 1 v' (n + 16) (L0 ++ (hfL x 4).map (Value.int .u8)) ∧ Below base w w' := by
  obtain ⟨i0, hi, hz0, hz1, hz2⟩ := info_parts Try.info5
  unfold bv
  go_enter Try.func38, Try.ntmps38
  go_wp2_with fail
  go_loopw [1, 8] (fun v i wr => ∃ (k : Nat) (L : List Value), k ≤ 4 ∧ i = .int .i64 k ∧ wr.ownsRow base 5 1 v (n + 4 * k) L ∧ L = L0 ++ (hfL x k).map (Value.int .u8) ∧ Below base w wr)
    (fun _ i _ => 4 - (intOf i).toNat)
  case atStart => exact ⟨0, L0, by omega, rfl, World.ownsRow.alloc hw _, by simp [hfL], (Below.refl _ _).alloc hbase _⟩
  case round =>
    obtain ⟨k, L, hk, rfl, hown, hL, hB⟩ := hrel
    by_cases hlt : k < 4
    · have k0 : (0 : Int) ≤ (k : Int) := by omega
      have k1 : (k : Int) < 4 := by omega
      have I := fun W => idx68 _ k _ hlt (h4_at x k hlt) W
      obtain ⟨ao, cv, hv⟩ := own_form hown
      subst hv
      have HL : Hid (L0 ++ (hfL x (k + 1)).map (Value.int .u8) = L ++ (w4 (x k)).map (Value.int .u8)) := by
        show _ = _
        rw [hfL, List.map_append, hL, List.append_assoc]
      have kb : n + 4 * k + 4 ≤ maxLen := by unfold maxLen; omega
      have kb2 : (n + 4 * k + 4) * 1 ≤ 140737488355328 := by omega
      have hs := hB.size
      have sb : ∀ ob, base ≤ (wr.alloc ob).heap.size := fun ob => by simp; omega
      have HO : Hid (wr.ownsRow base 5 1 (.slice ao (n + 4 * k) cv) (n + 4 * k) L) := hown
      unfold w4 at HL
      clear hL hown hw
      go_wp2_with (at_builtin; refine stopAt ?_)
      unfold Stop
      refine wpList_append_own _ rfl _ _ 48 rfl base 5 i0 (.int .u8 0) 1 1 Try.underlying48 hi hz0 hz1 hz2 rfl (by decide) _ _ _ rfl (World.ownsRow.alloc HO.out _) ⟨_, 0, none⟩ 4 4 [.int .u8 (x k / 16777216 % 256), .int .u8 (x k / 65536 % 256), .int .u8 (x k / 256 % 256), .int .u8 (x k % 256)] rfl rfl (news_new _ _ _) (by simp [Value.oneCell']) kb kb2 (sb _) ?_
      intro v' w3 hown' hgrow3 hnil3
      have b3 : Below base w w3 := (hB.alloc (by omega) _).grown hgrow3 (by simp; omega) (fun q hq => (HO.out.lt q hq).1)
      clear hnil3 hgrow3
      go_wp2_with fail
      refine ⟨⟨k + 1, _, by omega, by go_num, hown', HL.out.symm, b3⟩, by simp [intOf]; omega⟩
    · have e : k = 4 := by omega
      subst e
      subst hL
      have HO : Hid (wr.ownsRow base 5 1 u1 (n + 16) (L0 ++ (hfL x 4).map (Value.int .u8))) := hown
      clear hown hw
      go_wp2_with fail
      go_ret
      exact ⟨_, rfl, HO.out, hB⟩
/-- A block's bytes as a text. -/
def txt (x : Nat → Int) : ByteArray := mkS (hfL x 4)
set_option maxHeartbeats 1000000 in
theorem text_any (x : Nat → Int) (w : World) : Calls Try.prog 25 #[bv x] w fun e w' => e = .returned (.string (txt x)) ∧ Below w.heap.size w w' := by
  have A : ∀ W, Calls Try.prog 38 #[bv x, .slice none 0 0] W fun e w' => ∃ v', e = .returned v' ∧ w'.ownsRow W.heap.size 5 1 v' 16 ((hfL x 4).map (Value.int .u8)) ∧ Below W.heap.size W w' := fun W => by
    have := appended_core x W.heap.size 0 (.slice none 0 0) [] W (World.ownsRow_nil _ _ _ _) (Nat.le_refl _) (by omega)
    simpa using this
  unfold bv at A ⊢
  go_enter Try.func25, Try.ntmps25
  go_wp2_with fail
  refine (A _).mono ?_
  rintro e w1 ⟨v', rfl, hown, hb⟩
  obtain ⟨g, c, hv⟩ := own_some hown (by omega)
  subst hv
  have cv := convC w1 g 16 c (hfL x 4) (hfL_len x _) (World.ownsRow.cells hown rfl)
  have hb1 : Below w.heap.size w w1 := ((Below.refl _ w).alloc (Nat.le_refl _) _).trans (hb.mono (by simp))
  have ct : mkS (hfL x 4) = txt x := rfl
  rw [ct] at cv
  clear hown hb A ct
  go_wp2_with fail
  go_ret
  exact ⟨rfl, hb1⟩
end Go.Proofs.Ytnmikancbfaejaa
