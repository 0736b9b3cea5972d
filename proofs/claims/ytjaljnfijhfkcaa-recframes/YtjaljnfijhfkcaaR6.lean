/- The reference: what Unframe tells (small seat). -/
import Derived.Test.YtjaljnfijhfkcaaR2
set_option linter.all false
set_option maxRecDepth 100000
namespace Go.Proofs.Ytjaljnfijhfkcaa
open Go.RowKit Go.Sort
/-- What is wrong with a head, told byte by byte. -/
def xhE (s : ByteArray) : Int := if s.size = 0 then 11 else if knB (bt s 0) = true then (if s.size ≤ 1 then 11 else if bt s 1 = 3 then (if s.size ≤ 2 then 11 else if bt s 2 = 3 then (if s.size < 5 then (if s.size = 4 ∧ (mst (bt s 0) : Int) < bt s 3 * 256 then 12 else 11) else if (mst (bt s 0) : Int) < bt s 3 * 256 + bt s 4 then 12 else 0) else 10) else 10) else 23
def xfN (s : ByteArray) : Nat := (bt s 3 * 256 + bt s 4).toNat
def xfE (s : ByteArray) : Int := if xhE s = 0 then (if s.size < 5 + xfN s then 11 else 0) else xhE s
def xfK (s : ByteArray) : Int := if xfE s = 0 then bt s 0 else 0
def xfB (s : ByteArray) : ByteArray := if xfE s = 0 then s.extract 5 (5 + xfN s) else ⟨#[]⟩
def xfR (s : ByteArray) : ByteArray := if xfE s = 0 then s.extract (5 + xfN s) s.size else ⟨#[]⟩
theorem rUnf_any (s : ByteArray) (hs : s.size ≤ 1000000) (w : World) : Calls Try.prog 9 #[.string s] w fun e w' => e = .returned (.tuple #[rcV (xfK s) (xfB s), .string (xfR s), .int .i64 (xfE s)]) ∧ Below w.heap.size w w' := by
  have bad : ∀ r, ¬ r = 0 → xfE s = r → xfE s = r ∧ xfK s = 0 ∧ xfB s = ⟨#[]⟩ ∧ xfR s = ⟨#[]⟩ := fun r hr e => by
    unfold xfK xfB xfR
    rw [e, if_neg hr, if_neg hr, if_neg hr]
    exact ⟨rfl, rfl, rfl, rfl⟩
  have bh : ∀ r, ¬ r = 0 → xhE s = r → xfE s = r ∧ xfK s = 0 ∧ xfB s = ⟨#[]⟩ ∧ xfR s = ⟨#[]⟩ := fun r hr e => bad r hr (by unfold xfE; rw [e, if_neg hr])
  by_cases h : s.size = 0
  · obtain ⟨e, x, y, z⟩ := bh 11 (by decide) (by unfold xhE; rw [if_pos h])
    rw [e, x, y, z]
    exact rUnf_0 s h w
  have C := fun W => rknown_any (bt s 0) W
  cases hk : knB (bt s 0) with
  | false =>
    obtain ⟨e, x, y, z⟩ := bh 23 (by decide) (by unfold xhE; rw [if_neg h, if_neg (by rw [hk]; decide)])
    rw [e, x, y, z]
    rw [hk] at C
    exact rUnf_1 s _ h rfl w C
  | true =>
    rw [hk] at C
    have E : xhE s = if s.size ≤ 1 then 11 else if bt s 1 = 3 then (if s.size ≤ 2 then 11 else if bt s 2 = 3 then (if s.size < 5 then (if s.size = 4 ∧ (mst (bt s 0) : Int) < bt s 3 * 256 then 12 else 11) else if (mst (bt s 0) : Int) < bt s 3 * 256 + bt s 4 then 12 else 0) else 10) else 10 := by unfold xhE; rw [if_neg h, if_pos hk]
    have b3 := bt_bd s 3
    have b4 := bt_bd s 4
    have mc := mst_cases (bt s 0)
    refine (rUnf_2 s _ (mst (bt s 0) : Int) (fun r K B R => xfE s = r ∧ xfK s = K ∧ xfB s = B ∧ xfR s = R) h hs rfl (by omega) (by omega) w (fun i hi hj hs => bh 11 (by decide) ?_) (fun i hi hj hs h3 => bh 10 (by decide) ?_) (fun h3 g1 g2 => bh 11 (by decide) ?_) (fun h4 g1 g2 hm => bh 12 (by decide) ?_) (fun h4 g1 g2 hm => bh 11 (by decide) ?_) (fun h5 g1 g2 hm => bh 12 (by decide) ?_) (fun h5 g1 g2 hm hl => bad 11 (by decide) ?_) (fun n h5 g1 g2 hn hm hl => ?_) C (cB (fun W => rmost_any _ W))).mono ?_
    · rw [E]
      have : i = 0 ∨ i = 1 := by omega
      rcases this with rfl | rfl
      · rw [if_pos (by omega)]
      · have := hj 0 (by omega)
        by_cases c : s.size ≤ 1
        · rw [if_pos c]
        · rw [if_neg c, if_pos this, if_pos (by omega)]
    · rw [E]
      have : i = 0 ∨ i = 1 := by omega
      rcases this with rfl | rfl
      · rw [if_neg (by omega), if_neg h3]
      · have := hj 0 (by omega)
        rw [if_neg (by omega), if_pos this, if_neg (by omega), if_neg h3]
    · rw [E, if_neg (by omega), if_pos g1, if_neg (by omega), if_pos g2, if_pos (by omega), if_neg (by omega)]
    · rw [E, if_neg (by omega), if_pos g1, if_neg (by omega), if_pos g2, if_pos (by omega), if_pos ⟨h4, hm⟩]
    · rw [E, if_neg (by omega), if_pos g1, if_neg (by omega), if_pos g2, if_pos (by omega), if_neg (fun c => hm c.2)]
    · rw [E, if_neg (by omega), if_pos g1, if_neg (by omega), if_pos g2, if_neg (by omega), if_pos hm]
    · have e : xhE s = 0 := by rw [E, if_neg (by omega), if_pos g1, if_neg (by omega), if_pos g2, if_neg (by omega), if_neg hm]
      unfold xfE xfN
      rw [if_pos e, if_pos (by omega)]
    · have e : xhE s = 0 := by rw [E, if_neg (by omega), if_pos g1, if_neg (by omega), if_pos g2, if_neg (by omega), if_neg (by omega)]
      have nn : xfN s = n := by unfold xfN; omega
      have e2 : xfE s = 0 := by unfold xfE; rw [if_pos e, nn, if_neg (by omega)]
      unfold xfK xfB xfR
      rw [e2, if_pos rfl, if_pos rfl, if_pos rfl, nn]
      exact ⟨rfl, rfl, rfl, rfl⟩
    · rintro e w' ⟨r, K, B, R, rfl, ⟨e1, e2, e3, e4⟩, hb⟩
      rw [e1, e2, e3, e4]
      exact ⟨rfl, hb⟩
end Go.Proofs.Ytjaljnfijhfkcaa
