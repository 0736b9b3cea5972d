/- Tags written and read: there and back. -/
import Derived.Test.YtjdpeedghpblgaaGreatDoorD2
import Derived.Test.YtjdpeedghpblgaaGreatDoorJ8
import Derived.Test.YtjdpeedghpblgaaGreatDoorJ2
set_option linter.all false
set_option maxRecDepth 100000
namespace Go.Proofs.YtjdpeedghpblgaaGreatDoor
open Go.RowKit Go.Sort
theorem sL_ap (a b : ByteArray) : sL (a ++ b) = sL a ++ sL b := by unfold sL; rw [ap_list, List.map_append]
theorem sL_inj {a b : ByteArray} (h : sL a = sL b) : a = b := by rw [← mkS_sL a, ← mkS_sL b, h]
theorem sL_ext (s : ByteArray) (a b : Nat) : sL (s.extract a b) = ((sL s).drop a).take (b - a) := by unfold sL; rw [ext_list, List.map_take, List.map_drop]
theorem lenL_pos (n : Int) : 1 ≤ (lenL n).length := by unfold lenL; split <;> (try split) <;> simp
theorem rd_wr (t : Int) (b more : ByteArray) (t0 : 0 ≤ t) (t1 : t < 256) (hb : b.size ≤ 65535) :
    rdE (wrS t b ++ more) = 0 ∧ bt (wrS t b ++ more) 0 = t ∧ rdH (wrS t b ++ more) = 1 + (lenL b.size).length ∧ rdN (wrS t b ++ more) = b.size := by
  have hl : Bys (t :: lenL b.size) := Bys.cons ⟨t0, t1⟩ (lenL_bd b.size (by omega))
  have e : sL (wrS t b ++ more) = (t :: lenL b.size) ++ (sL b ++ sL more) := by
    unfold wrS; rw [sL_ap, sL_ap, sL_mkS _ hl, List.append_assoc]
  have zb : (sL b).length = b.size := sL_len b
  have sz : (wrS t b ++ more).size = 1 + (lenL b.size).length + b.size + more.size := by
    rw [← sL_len, e]; simp [sL_len]; omega
  have B := bt_sL (wrS t b ++ more)
  rw [e] at B
  generalize wrS t b ++ more = s at *
  have b0 : bt s 0 = t := by rw [B]; rfl
  have key : rdH s = 1 + (lenL b.size).length ∧ rdN s = b.size ∧ ¬ (bt s 1 = 128 ∨ 130 < bt s 1) := by
    by_cases c : (b.size : Int) < 128
    · have el : lenL b.size = [(b.size : Int)] := by unfold lenL; rw [if_pos c]
      rw [el] at B ⊢
      have b1 : bt s 1 = b.size := by rw [B]; rfl
      unfold rdH rdN
      rw [b1, if_pos c, if_pos c]
      simp; omega
    · by_cases c2 : (b.size : Int) < 256
      · have el : lenL b.size = [129, (b.size : Int)] := by unfold lenL; rw [if_neg c, if_pos c2]
        rw [el] at B ⊢
        have b1 : bt s 1 = 129 := by rw [B]; rfl
        have b2 : bt s 2 = b.size := by rw [B]; rfl
        unfold rdH rdN
        rw [b1, b2]
        simp
      · have el : lenL b.size = [130, (b.size : Int) / 256, (b.size : Int) % 256] := by unfold lenL; rw [if_neg c, if_neg c2]
        rw [el] at B ⊢
        have b1 : bt s 1 = 130 := by rw [B]; rfl
        have b2 : bt s 2 = (b.size : Int) / 256 := by rw [B]; rfl
        have b3 : bt s 3 = (b.size : Int) % 256 := by rw [B]; rfl
        unfold rdH rdN
        rw [b1, b2, b3]
        simp; omega
  obtain ⟨kH, kN, k1⟩ := key
  have lp := lenL_pos (b.size : Int)
  refine ⟨?_, b0, kH, kN⟩
  unfold rdE
  rw [kH, kN, if_neg (by omega), if_neg k1, if_neg (by omega), if_neg (by omega), if_neg (by omega)]
theorem rd_back (t : Int) (b more : ByteArray) (t0 : 0 ≤ t) (t1 : t < 256) (hb : b.size ≤ 65535) : rdR (wrS t b ++ more) = .tuple #[tlv t b, .string more, .int .i64 0] := by
  obtain ⟨h1, h2, h3, h4⟩ := rd_wr t b more t0 t1 hb
  have hl : Bys (t :: lenL b.size) := Bys.cons ⟨t0, t1⟩ (lenL_bd b.size (by omega))
  have e : sL (wrS t b ++ more) = (t :: lenL b.size) ++ (sL b ++ sL more) := by
    unfold wrS; rw [sL_ap, sL_ap, sL_mkS _ hl, List.append_assoc]
  have sz : (wrS t b ++ more).size = 1 + (lenL b.size).length + b.size + more.size := by
    rw [← sL_len, e]; simp [sL_len]; omega
  unfold rdR
  rw [if_pos h1, h2, h3, h4]
  have e1 : (wrS t b ++ more).extract (1 + (lenL b.size).length) (1 + (lenL b.size).length + b.size) = b := by
    apply sL_inj
    rw [sL_ext, e, show 1 + (lenL b.size).length = (t :: lenL b.size).length by simp; omega, List.drop_left, show (t :: lenL b.size).length + b.size - (t :: lenL b.size).length = (sL b).length by rw [sL_len]; omega, List.take_left]
  have e2 : (wrS t b ++ more).extract (1 + (lenL b.size).length + b.size) (wrS t b ++ more).size = more := by
    apply sL_inj
    rw [sL_ext, e, sz, ← List.append_assoc, show 1 + (lenL b.size).length + b.size = ((t :: lenL b.size) ++ sL b).length by simp [sL_len]; omega, List.drop_left]
    apply List.take_of_length_le
    rw [sL_len]; omega
  rw [e1, e2]
theorem wr_back (s : ByteArray) (h : rdE s = 0) : 0 ≤ bt s 0 ∧ bt s 0 < 256 ∧ rdN s ≤ 65535 ∧ rdH s + rdN s ≤ s.size ∧ (s.extract (rdH s) (rdH s + rdN s)).size = rdN s ∧ wrS (bt s 0) (s.extract (rdH s) (rdH s + rdN s)) ++ s.extract (rdH s + rdN s) s.size = s := by
  have b0 := bt_bd s 0
  have b1 := bt_bd s 1
  have b2 := bt_bd s 2
  have b3 := bt_bd s 3
  unfold rdE at h
  split at h
  · exact absurd h (by decide)
  rename_i c1
  split at h
  · exact absurd h (by decide)
  rename_i c2
  split at h
  · exact absurd h (by decide)
  rename_i c3
  split at h
  · exact absurd h (by decide)
  rename_i c4
  split at h
  · exact absurd h (by decide)
  rename_i c5
  have n16 : rdN s ≤ 65535 := by unfold rdN; split <;> (try split) <;> omega
  have sz : (s.extract (rdH s) (rdH s + rdN s)).size = rdN s := by rw [ext_sz _ _ _ (by omega)]; omega
  refine ⟨b0.1, b0.2, n16, by omega, sz, ?_⟩
  have key : mkS (bt s 0 :: lenL (rdN s)) = s.extract 0 (rdH s) := by
    have tk : ∀ H, H ≤ s.size → sL (s.extract 0 H) = (List.range H).map (bt s) := fun H hH => by
      rw [sL_ext]
      simp only [List.drop_zero, Nat.sub_zero]
      apply List.ext_getElem
      · simp [sL_len]; omega
      · intro i h1 h2
        simp at h2
        simp only [List.getElem_take, List.getElem_map, List.getElem_range]
        rw [bt_sL, List.getD_eq_getElem?_getD, List.getElem?_eq_getElem (by rw [sL_len]; omega)]; rfl
    apply sL_inj
    rw [sL_mkS _ (Bys.cons b0 (lenL_bd _ (by omega))), tk _ (by omega)]
    unfold rdH at *
    by_cases d : bt s 1 < 128
    · rw [if_pos d] at *
      have e : (rdN s : Int) = bt s 1 := by unfold rdN; rw [if_pos d]; omega
      unfold lenL
      rw [e, if_pos d]; rfl
    · rw [if_neg d] at *
      by_cases d2 : bt s 1 = 129
      · rw [if_pos d2] at *
        have e : (rdN s : Int) = bt s 2 := by unfold rdN; rw [if_neg d, if_pos d2]; omega
        unfold lenL at c4 ⊢
        rw [e] at c4 ⊢
        split at c4
        · simp at c4
        · rename_i d3
          rw [if_neg d3, if_pos (by omega), ← d2]; rfl
      · rw [if_neg d2] at *
        have e : (rdN s : Int) = bt s 2 * 256 + bt s 3 := by unfold rdN; rw [if_neg d, if_neg d2]; omega
        have d130 : bt s 1 = 130 := by omega
        unfold lenL at c4 ⊢
        rw [e] at c4 ⊢
        split at c4
        · simp at c4
        · rename_i d3
          split at c4
          · simp at c4
          · rename_i d4
            rw [if_neg d3, if_neg d4, ← d130, show (bt s 2 * 256 + bt s 3) / 256 = bt s 2 by omega, show (bt s 2 * 256 + bt s 3) % 256 = bt s 3 by omega]; rfl
  unfold wrS
  rw [sz, key]
  apply sL_inj
  rw [sL_ap, sL_ap, sL_ext, sL_ext, sL_ext]
  have hs := sL_len s
  generalize sL s = l at *
  generalize rdH s = H at *
  generalize rdN s = n at *
  rw [show H + n - H = n by omega, show s.size - (H + n) = (l.drop (H + n)).length by rw [List.length_drop]; omega, List.take_length]
  simp only [List.drop_zero, Nat.sub_zero]
  rw [List.append_assoc, ← List.drop_drop, List.take_append_drop, List.take_append_drop]
end Go.Proofs.YtjdpeedghpblgaaGreatDoor
