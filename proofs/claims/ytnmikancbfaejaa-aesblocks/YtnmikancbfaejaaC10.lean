/- Decrypt. -/
import Derived.Test.YtnmikancbfaejaaC9
set_option linter.all false
set_option maxRecDepth 100000
namespace Go.Proofs.Ytnmikancbfaejaa
open Go.RowKit Go.Sort
/-- What Decrypt answers. -/
def decS (key block : ByteArray) : ByteArray := tx (decF key (bF block))
set_option maxHeartbeats 2000000 in
theorem decrypt_no (key block : ByteArray) (h : rfs key block ≠ 0) (w : World) :
    Calls Try.prog 17 #[.string key, .string block] w fun e w' => e = .returned (.tuple #[.string ⟨#[]⟩, .int .i64 (rfs key block)]) ∧ w' = w := by
  have C := fun W => refused_any key block W
  generalize rfs key block = r at *
  go_enter Try.func17, Try.ntmps17
  go_wp2_with (go_at_call 28; refine (C _).mono ?_; rintro e w1 ⟨rfl, rfl⟩)
  refine bodyPost_ret (v := .tuple #[.string ⟨#[]⟩, .int .i64 r]) (by simp [results, Try.results17, go_sem]) rfl ?_
  exact ⟨rfl, rfl⟩
set_option maxHeartbeats 4000000 in
theorem decrypt_core (key block : ByteArray) (x y : Nat → Int) (T : ByteArray) (L : List Value) (w : World) (HL : Hid (L = frL key))
    (C28 : ∀ W, Calls Try.prog 28 #[.string key, .string block] W fun e w' => e = .returned (.int .i64 0) ∧ w' = W)
    (C30 : ∀ W, Calls Try.prog 30 #[.string block] W fun e w' => e = .returned (bv x) ∧ Below W.heap.size W w')
    (C33 : ∀ b W, Fresh W b key → Calls Try.prog 33 #[.pointer (some ⟨b, 0, none⟩), bv x] W fun e w' => e = .returned (bv y) ∧ W.grownBy w' (some b) ∧ Made w' b key)
    (C25 : ∀ W, Calls Try.prog 25 #[bv y] W fun e w' => e = .returned (.string T) ∧ Below W.heap.size W w') :
    Calls Try.prog 17 #[.string key, .string block] w fun e w' => e = .returned (.tuple #[.string T, .int .i64 0]) ∧ Below w.heap.size w w' := by
  go_enter Try.func17, Try.ntmps17
  go_wp2_with fail
  refine (C28 _).mono ?_
  rintro e w1 ⟨rfl, rfl⟩
  clear C28
  go_upto_region 4 with (fail)
  refine wp_region_list ?_
  refine wpList_plain (by rfl) fun K1 hK1 => ?_
  have H1 : Hid _ := hK1
  clear hK1
  go_wp2_with fail
  refine H1.out _ _ ?_
  clear H1
  refine wpList_plain (by rfl) fun K1 hK1 => ?_
  have H1 : Hid _ := hK1
  clear hK1
  go_wp2_with fail
  refine H1.out _ _ ?_
  clear H1
  rw [frL_is, ← HL.out]
  have HS : L.toArray.size = 321 := by rw [HL.out, List.size_toArray, frL_len]
  refine wpList_plain (by rfl) fun K1 hK1 => ?_
  have H1 : Hid _ := hK1
  clear hK1
  go_wp2_with fail
  refine H1.out _ _ ?_
  clear H1
  refine wpList_store_mid (by rfl) 63 (.tmp 7) (.tmp 15) (by rfl) _ _ L.toArray (by rfl) (by rfl) (by rw [HS]; exact (fresh_zero _).there) (by rw [HS]; exact Try.info63) (by rw [HL.out]; exact all_oneCell_toArray (frL_one key)) ?_
  refine wpList_nil ?_
  have F := fresh_new w1 key
  have B := fresh_below w1 key
  have eL : L.toArray.toList = L := rfl
  rw [eL]
  rw [← HL.out] at F B
  clear eL HS
  generalize (w1.alloc (.cells Try.zeroCells63 63)).setCells w1.heap.size 0 L = w3 at F B ⊢
  go_wp2_with fail
  refine (C30 _).mono ?_
  rintro e w4 ⟨rfl, hb4⟩
  have F4 := Cph.to F hb4
  have B4 := Bel.call B hb4
  clear F B hb4 C30
  go_wp2_with fail
  refine (C33 _ _ F4).mono ?_
  rintro e w5 ⟨rfl, hG, _⟩
  have B5 := gb_below B4 hG (Nat.le_refl _)
  clear F4 B4 hG C33
  go_wp2_with fail
  refine (C25 _).mono ?_
  rintro e w6 ⟨rfl, hb6⟩
  have B6 := Bel.call B5 hb6
  clear B5 hb6 C25
  go_wp2_with fail
  refine bodyPost_ret (v := .tuple #[.string T, .int .i64 0]) (by simp [results, Try.results17, go_sem]) rfl ?_
  exact ⟨rfl, B6⟩
theorem decrypt_any (key block : ByteArray) (w : World) :
    Calls Try.prog 17 #[.string key, .string block] w fun e w' => e = .returned (.tuple #[.string (if rfs key block = 0 then decS key block else ⟨#[]⟩), .int .i64 (rfs key block)]) ∧ Below w.heap.size w w' := by
  by_cases h : rfs key block = 0
  · obtain ⟨hk, hs⟩ := rfs_0 h
    have C28 := fun W => refused_any key block W
    rw [if_pos h, h] at *
    exact decrypt_core key block (col (bF block)) (col (decF key (bF block))) (decS key block) (frL key) w rfl C28 (fun W => blockOf_any block hs W) (fun b W hF => decrypted_any key hk b _ W (.inl hF)) (fun W => text_b _ W)
  · rw [if_neg h]
    exact (decrypt_no key block h w).mono fun e w' ⟨h1, h2⟩ => ⟨h1, by rw [h2]; exact Below.refl _ _⟩
end Go.Proofs.Ytnmikancbfaejaa
