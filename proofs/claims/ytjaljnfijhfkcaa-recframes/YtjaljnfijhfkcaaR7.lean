/- RecFrames: both Unframes tell the same. -/
import Derived.Test.YtjaljnfijhfkcaaR5
import Derived.Test.YtjaljnfijhfkcaaR6
set_option linter.all false
set_option maxRecDepth 100000
namespace Go.Proofs.Ytjaljnfijhfkcaa
open Go.RowKit Go.Sort Go.Lib
theorem xh_rh (s : ByteArray) : xhE s = rhE s := rfl
theorem xf_uf (s : ByteArray) : xfE s = ufE s ∧ xfK s = ufK s ∧ xfB s = ufB s ∧ xfR s = ufR s := by
  have b3 := bt_bd s 3
  have b4 := bt_bd s 4
  have e : xfE s = ufE s := by
    unfold xfE ufE
    rw [xh_rh]
    by_cases h : rhE s = 0
    · rw [if_pos h, if_pos h, (rhE_0 h).2.2]
      unfold xfN
      by_cases c : s.size < 5 + (bt s 3 * 256 + bt s 4).toNat
      · rw [if_pos c, if_pos (by omega)]
      · rw [if_neg c, if_neg (by omega)]
    · rw [if_neg h, if_neg h]
  refine ⟨e, by unfold xfK ufK; rw [e], ?_, ?_⟩
  · unfold xfB ufB
    rw [e]
    by_cases h : ufE s = 0
    · rw [if_pos h, if_pos h]
      have h0 : rhE s = 0 := by
        unfold ufE at h
        by_cases c : rhE s = 0
        · exact c
        · rw [if_neg c] at h; exact h
      unfold xfN
      rw [(rhE_0 h0).2.2]
    · rw [if_neg h, if_neg h]
  · unfold xfR ufR
    rw [e]
    by_cases h : ufE s = 0
    · rw [if_pos h, if_pos h]
      have h0 : rhE s = 0 := by
        unfold ufE at h
        by_cases c : rhE s = 0
        · exact c
        · rw [if_neg c] at h; exact h
      unfold xfN
      rw [(rhE_0 h0).2.2]
    · rw [if_neg h, if_neg h]
theorem RecFrames_any (k : Int) (b s : ByteArray) (kd : Int) (w : World) : Calls Try.prog 3 #[rcV k b, .string s, .int .i64 kd] w fun e w' => e = .returned (.bool true) ∧ Below w.heap.size w w' := by
  by_cases h : 70000 < b.size ∨ 70000 < s.size
  · exact RecFrames_1 k kd b s h w
  · have h1 : b.size ≤ 70000 := by omega
    have h2 : s.size ≤ 70000 := by omega
    obtain ⟨e1, e2, e3, e4⟩ := xf_uf s
    have CV := fun W => rUnf_any s (by omega) W
    rw [e1, e2, e3, e4] at CV
    exact RecFrames_2 k kd _ _ _ b s _ _ _ h1 h2 w (fun W => Frame_any k b W) (fun W => rFrame_any k b W) (fun W => Unframe_any s W) CV
end Go.Proofs.Ytjaljnfijhfkcaa
