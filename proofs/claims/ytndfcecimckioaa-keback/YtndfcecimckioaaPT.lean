/- The program: ToPairs. -/
import Derived.Test.YtndfcecimckioaaPP
set_option linter.all false
set_option maxRecDepth 100000
namespace Go.Proofs.Ytndfcecimckioaa
open Go.RowKit Go.Shelf Go.Sort
theorem empK_no (s : ByteArray) (h : 0 < s.size) : (s.toList == []) = false := by
  have e := ByteArray.toList_eq s
  have l := len_list s
  rw [e]
  cases h2 : s.data.toList with
  | nil => rw [h2] at l; simp at l; omega
  | cons a b => rfl
theorem empK_of {s : ByteArray} (h : s.size = 0) : s = ⟨#[]⟩ := ba_ext (by have := List.eq_nil_of_length_eq_zero (l := s.data.toList) (by rw [len_list]; exact h); rw [this])
def szV : Value → Nat
  | .string s => s.size
  | _ => 0
theorem ex_two (s : ByteArray) (q : Nat) (h : q + 2 ≤ s.size) : (s.extract q s.size).extract 2 (s.extract q s.size).size = s.extract (q + 2) s.size := by
  rw [ByteArray.size_extract, ByteArray.extract_extract]
  congr 1 <;> omega
set_option maxHeartbeats 4000000 in
theorem tT : CTp := by
  intro s w hs
  have i0 : (s.size : Int) ≤ 1000000 := by omega
  by_cases h1 : s.size % 2 = 1
  · have e1 : tpE s.size = 10 := by unfold tpE; rw [if_pos h1]
    have E2 : Hid (tpR s = []) := by show _ = _; unfold tpR; rw [e1]; rfl
    have i1 : (s.size : Int) % 2 = 1 := by omega
    rw [e1]
    clear e1
    go_enter Try.func15, Try.ntmps15
    go_wp2
    refine bodyPost_ret (v := .tuple #[.slice none 0 0, .int .i64 10]) (by simp [results, Try.results15, go_sem]) rfl ⟨⟨_, rfl, by rw [E2.out]; exact Nls.nil _⟩, Below.refl _ _⟩
  have i1 : (s.size : Int) % 2 = 0 := by omega
  by_cases h2 : 1024 < s.size
  · have e1 : tpE s.size = 12 := by unfold tpE; rw [if_neg h1, if_pos h2]
    have E2 : Hid (tpR s = []) := by show _ = _; unfold tpR; rw [e1]; rfl
    have i3 : (1024 : Int) < (s.size : Int) := by omega
    rw [e1]
    clear e1
    go_enter Try.func15, Try.ntmps15
    go_wp2
    refine bodyPost_ret (v := .tuple #[.slice none 0 0, .int .i64 12]) (by simp [results, Try.results15, go_sem]) rfl ⟨⟨_, rfl, by rw [E2.out]; exact Nls.nil _⟩, Below.refl _ _⟩
  have i3 : ¬ (1024 : Int) < (s.size : Int) := by omega
  have e1 : tpE s.size = 0 := by unfold tpE; rw [if_neg h1, if_neg h2]
  have E2 : Hid (∀ j, j * 2 = s.size → tpU s j = tpR s) := fun j hj => by
    unfold tpR tpU
    rw [e1, if_pos rfl, List.take_of_length_le (by rw [len_list]; omega)]
  obtain ⟨i0', hi, hz0, hz1, hz2⟩ := info_parts Try.info3
  have own0 : w.ownsRow w.heap.size 3 1 (.slice none 0 0) 0 ((tpU s 0).map (Value.int .i64)) := ⟨rfl, .inl ⟨rfl, rfl⟩⟩
  rw [e1]
  have HM : Hid (s.size % 2 = 0) := by show _ = _; omega
  have i5 : (s.size : Int) ≤ 1024 := by omega
  have g5 : s.size ≤ 1024 := by omega
  have HX0 : Hid (s = s.extract (2 * 0) s.size) := by show _ = _; simp
  clear h1 h2 e1
  go_enter Try.func15, Try.ntmps15
  go_wp2_with fail
  go_loopw [4, 5] (fun v x wr => ∃ j : Nat, 2 * j ≤ s.size ∧ x = .string (s.extract (2 * j) s.size) ∧ wr.ownsRow w.heap.size 3 1 v j ((tpU s j).map (Value.int .i64)) ∧ Below w.heap.size w wr) (fun _ x _ => szV x)
  case atStart => exact ⟨0, by omega, congrArg Value.string HX0.out, own0, Below.refl _ _⟩
  case round =>
    clear own0 HX0
    obtain ⟨j, hj, rfl, hown, hB⟩ := hrel
    obtain ⟨ao, cv, rfl⟩ := own_frm hown
    have Rz : (s.extract (2 * j) s.size).size = s.size - 2 * j := by rw [ByteArray.size_extract]; omega
    by_cases hlt : 2 * j < s.size
    · have hlt2 : 2 * j + 1 < s.size := by have := HM.out; omega
      have CN := fun W => number_any (s.extract (2 * j) s.size) (by omega) W
      rw [bt_ext s (2 * j) s.size 0 (by omega) (Nat.le_refl _), bt_ext s (2 * j) s.size 1 (by omega) (Nat.le_refl _), Nat.add_zero] at CN
      have hEX := ex_two s (2 * j) (by omega)
      have hsl : ∀ W : World, (Instr.slice 9 (.string (s.extract (2 * j) s.size)) (some (.int .i64 2)) none none).run Try.prog W = .ok (.string (s.extract (2 * (j + 1)) s.size)) W := by
        intro W
        rw [show 2 * (j + 1) = 2 * j + 2 by omega, ← hEX]
        have : (2 : Int) ≤ ((s.extract (2 * j) s.size).size : Int) := by omega
        generalize s.extract (2 * j) s.size = R at *
        simp [go_sem]
        omega
      have em := empK_no (s.extract (2 * j) s.size) (by omega)
      have Rz2 : (s.extract (2 * (j + 1)) s.size).size = s.size - (2 * (j + 1)) := by rw [ByteArray.size_extract]; omega
      have HD : Hid ((s.extract (2 * (j + 1)) s.size).size < (s.extract (2 * j) s.size).size) := by show _ < _; omega
      have HU : Hid (tpU s (j + 1) = tpU s j ++ [bt s (2 * j) * 256 + bt s (2 * j + 1)]) := tpU_succ s j hlt2
      obtain ⟨a0, a1⟩ := bt_bd s (2 * j)
      obtain ⟨b0, b1⟩ := bt_bd s (2 * j + 1)
      have HR : Hid (wr.ownsRow w.heap.size 3 1 (.slice ao j cv) j ((tpU s j).map (Value.int .i64))) := hown
      have kb : j + 1 ≤ maxLen := by unfold maxLen; omega
      have kb2 : (j + 1) * 8 ≤ 140737488355328 := by omega
      have hsz := hB.size
      have Rp : (2 : Int) ≤ ((s.extract (2 * j) s.size).size : Int) := by omega
      clear hown hEX Rz Rz2
      generalize bt s (2 * j) = x at *
      generalize bt s (2 * j + 1) = y at *
      obtain ⟨R, hR⟩ : ∃ R, s.extract (2 * j) s.size = R := ⟨_, rfl⟩
      obtain ⟨R2, hR2⟩ : ∃ R, s.extract (2 * (j + 1)) s.size = R := ⟨_, rfl⟩
      have HR2 : Hid (s.extract (2 * (j + 1)) s.size = R2) := hR2
      rw [hR, hR2] at HD
      rw [hR, hR2] at hsl
      rw [hR] at CN em Rp
      rw [hR]
      clear hR hR2
      go_wp2_with fail
      refine (CN _).mono ?_
      rintro e w5 ⟨rfl, hb⟩
      have B5 := Bel.call hB hb
      have HO5 : Hid (w5.ownsRow w.heap.size 3 1 (.slice ao j cv) j ((tpU s j).map (Value.int .i64))) := World.ownsRow.kept HR.out (gby hb) (by cases ao <;> simp [Value.ownBlock])
      have hsz5 := B5.size
      have sb : ∀ ob, w.heap.size ≤ (w5.alloc ob).heap.size := fun ob => by simp; omega
      clear HR hB hb CN
      go_wp2_with (at_builtin; refine stopAt ?_)
      unfold Stop
      refine wpList_append_own _ rfl _ _ 35 rfl w.heap.size 3 i0' (.int .i64 0) 1 8 Try.underlying35 hi hz0 hz1 hz2 rfl (by decide) _ _ _ rfl (World.ownsRow.alloc HO5.out _) ⟨_, 0, none⟩ 1 1 [.int .i64 (x * 256 + y)] rfl rfl (news_new _ _ _) (fun u hu => by simp at hu; rw [hu]; rfl) kb kb2 (sb _) ?_
      intro v' w3 hown' hgrow3 hnil3
      have b3 : Below w.heap.size w w3 := (B5.alloc B5.size _).grown hgrow3 (by go_size) (fun q hq => (HO5.out.lt q hq).1)
      have HO' : Hid (w3.ownsRow w.heap.size 3 1 v' (j + 1) ((tpU s (j + 1)).map (Value.int .i64))) := by
        show World.ownsRow _ _ _ _ _ _ _
        rw [HU.out, List.map_append]
        exact hown'
      clear hnil3 hgrow3 hown' HU
      go_wp2_with fail
      exact ⟨⟨j + 1, by omega, congrArg Value.string HR2.out.symm, HO'.out, b3⟩, HD.out⟩
    · have ej : j * 2 = s.size := by have := HM.out; omega
      have e0 : s.extract (2 * j) s.size = ⟨#[]⟩ := empK_of (by omega)
      rw [e0]
      have HT : Hid (Nls wr (.slice ao j cv) (tpU s j)) := by
        have := Nls.own (l := tpU s j) (W := wr) (b := w.heap.size) (v := .slice ao j cv) (by rw [tpU_len s j hj]; exact hown)
        exact this
      have HE : Hid (tpU s j = tpR s) := E2.out j ej
      clear hown E2 e0 Rz
      go_wp2_with fail
      refine bodyPost_ret (v := .tuple #[.slice ao j cv, .int .i64 0]) (by simp [results, Try.results15, go_sem]) rfl ⟨⟨_, rfl, by rw [← HE.out]; exact HT.out⟩, hB⟩
end Go.Proofs.Ytndfcecimckioaa
