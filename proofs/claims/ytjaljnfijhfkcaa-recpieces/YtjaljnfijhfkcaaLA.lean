/- The law's own words: awake. -/
import Derived.Test.YtjaljnfijhfkcaaE11
set_option linter.all false
set_option maxRecDepth 100000
namespace Go.Proofs.Ytjaljnfijhfkcaa
open Go.RowKit Go.Sort
theorem aw_frame : frE 22 ⟨#[120]⟩ = 0 ∧ frS 22 ⟨#[120]⟩ = ⟨#[22, 3, 3, 0, 1, 120]⟩ := by
  have e : frE 22 ⟨#[120]⟩ = 0 := by decide
  refine ⟨e, ?_⟩
  unfold frS
  rw [if_pos e]
  apply ba_ext
  rw [ap_list]
  unfold hdS
  rw [mkS_list]
  rfl
theorem aw_form : ufE ⟨#[23, 3, 4]⟩ = 10 := by
  have h0 : bt ⟨#[23, 3, 4]⟩ 0 = 23 := rfl
  have h1 : bt ⟨#[23, 3, 4]⟩ 1 = 3 := rfl
  have h2 : bt ⟨#[23, 3, 4]⟩ 2 = 4 := rfl
  have hz : (⟨#[23, 3, 4]⟩ : ByteArray).size = 3 := rfl
  have e : rhE ⟨#[23, 3, 4]⟩ = 10 := by
    unfold rhE
    rw [if_neg (by rw [hz]; decide), h0, if_pos (show knB 23 = true from rfl), if_neg (by rw [hz]; decide), if_pos h1, if_neg (by rw [hz]; decide), if_neg (by rw [h2]; decide)]
  unfold ufE
  rw [e, if_neg (by decide)]
theorem aw_split : (pcs ⟨#[97, 98]⟩).length = 1 := by
  unfold pcs upP nP
  rw [List.length_map, List.length_range]
  rfl
set_option maxHeartbeats 1000000 in
theorem awake_any (w : World) : Calls Try.prog 5 #[] w fun e w' => e = .returned (.bool true) ∧ Below w.heap.size w w' := by
  have C1 := fun W => Frame_any 22 ⟨#[120]⟩ W
  rw [aw_frame.1, aw_frame.2] at C1
  have C2 := fun W => Unframe_any ⟨#[23, 3, 4]⟩ W
  have u1 : ufK ⟨#[23, 3, 4]⟩ = 0 := by unfold ufK; rw [aw_form, if_neg (by decide)]
  have u2 : ufB ⟨#[23, 3, 4]⟩ = ⟨#[]⟩ := by unfold ufB; rw [aw_form, if_neg (by decide)]
  have u3 : ufR ⟨#[23, 3, 4]⟩ = ⟨#[]⟩ := by unfold ufR; rw [aw_form, if_neg (by decide)]
  rw [aw_form, u1, u2, u3] at C2
  have C3 := fun W => Split_any 23 ⟨#[97, 98]⟩ (by decide) W
  rw [aw_split] at C3
  unfold rcV at C1 C2
  go_enter Try.func5, Try.ntmps5
  go_wp2_with (first | (go_at_call 6; refine (C1 _).mono ?_; rintro e w1 ⟨rfl, b1⟩) | (go_at_call 8; refine (C2 _).mono ?_; rintro e w2 ⟨rfl, b2⟩) | (go_at_call 11; refine (C3 _).mono ?_; rintro e w3 ⟨v, rfl, hv, b3⟩; obtain ⟨ao, cv, rfl⟩ := own_formR hv))
  go_ret
  exact ⟨rfl, Bel.call (Bel.al (Bel.call b1 b2) _) b3⟩
end Go.Proofs.Ytjaljnfijhfkcaa
