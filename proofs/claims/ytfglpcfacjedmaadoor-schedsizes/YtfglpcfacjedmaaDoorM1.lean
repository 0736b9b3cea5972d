/- What is written twice is written at once. -/
import Derived.Test.YtfglpcfacjedmaaDoorC8
set_option linter.all false
namespace Go.Proofs.YtfglpcfacjedmaaDoor
theorem ap_list (a b : ByteArray) : (a ++ b).data.toList = a.data.toList ++ b.data.toList := by simp
theorem ext_list (s : ByteArray) (a b : Nat) : (s.extract a b).data.toList = (s.data.toList.drop a).take (b - a) := by
  rw [ByteArray.data_extract, Array.toList_extract]
theorem len_list (s : ByteArray) : s.data.toList.length = s.size := by rw [Array.length_toList]; rfl
theorem ap_assoc (a b c : ByteArray) : (a ++ b) ++ c = a ++ (b ++ c) := by
  apply ba_ext
  simp only [ap_list, List.append_assoc]
theorem ap_nil (a : ByteArray) : (⟨#[]⟩ : ByteArray) ++ a = a := by
  apply ba_ext
  rw [ap_list]
  rfl
theorem cutB_list (s : ByteArray) (k : Nat) : (cutB s k).data.toList = (s.data.toList.drop (64 * k)).take 64 := by
  unfold cutB
  rw [ext_list]
  congr 1
  omega
theorem lefB_list (s : ByteArray) : (lefB s).data.toList = s.data.toList.drop (64 * (s.size / 64)) := by
  unfold lefB
  rw [ext_list, List.take_of_length_le (by rw [List.length_drop, len_list]; omega)]
  congr 1
  omega
theorem cut_lo (T b : ByteArray) (k : Nat) (h : 64 * k + 64 ≤ T.size) : cutB (T ++ b) k = cutB T k := by
  apply ba_ext
  rw [cutB_list, cutB_list, ap_list, List.drop_append_of_le_length (by rw [len_list]; omega), List.take_append_of_le_length (by rw [List.length_drop, len_list]; omega)]
theorem cut_hi (T b : ByteArray) (j : Nat) : cutB (T ++ b) (T.size / 64 + j) = cutB (lefB T ++ b) j := by
  apply ba_ext
  rw [cutB_list, cutB_list, ap_list, ap_list, lefB_list, Nat.mul_add, ← List.drop_drop, List.drop_append_of_le_length (by rw [len_list]; omega)]
theorem upB_add (s : ByteArray) (q r : Nat) : upB s (q + r) = upB s q ++ (List.range r).map (fun j => cutB s (q + j)) := by
  unfold upB
  rw [List.range_add, List.map_append, List.map_map]
  rfl
theorem made_twice (h : Nat → Int) (T b : ByteArray) : madeF (madeF h T) (lefB T ++ b) = madeF h (T ++ b) := by
  unfold madeF
  have e : (T ++ b).size / 64 = T.size / 64 + (lefB T ++ b).size / 64 := by
    rw [app_size, app_size, lefB_size]
    omega
  rw [e, upB_add, List.foldl_append]
  have e1 : upB (T ++ b) (T.size / 64) = upB T (T.size / 64) := by
    unfold upB
    refine List.map_congr_left fun k hk => cut_lo T b k ?_
    have := List.mem_range.1 hk
    omega
  have e2 : (List.range ((lefB T ++ b).size / 64)).map (fun j => cutB (T ++ b) (T.size / 64 + j)) = upB (lefB T ++ b) ((lefB T ++ b).size / 64) := by
    unfold upB
    exact List.map_congr_left fun j _ => cut_hi T b j
  rw [e1, e2]
theorem lef_twice (T b : ByteArray) : lefB (lefB T ++ b) = lefB (T ++ b) := by
  apply ba_ext
  rw [lefB_list, lefB_list, ap_list, ap_list, lefB_list]
  have e : 64 * ((T ++ b).size / 64) = 64 * (T.size / 64) + 64 * ((lefB T ++ b).size / 64) := by
    rw [app_size, app_size, lefB_size]
    omega
  rw [e, ← List.drop_drop, List.drop_append_of_le_length (l₁ := T.data.toList) (by rw [len_list]; omega)]
theorem wrH_twice (h : Nat → Int) (L a b : ByteArray) : wrH (wrH h L a) (wrL L a) b = wrH h L (a ++ b) := by
  unfold wrH wrL
  rw [made_twice, ap_assoc]
theorem wrL_twice (L a b : ByteArray) : wrL (wrL L a) b = wrL L (a ++ b) := by
  unfold wrL
  rw [lef_twice, ap_assoc]
theorem wrN_twice (n : Int) (a b : ByteArray) : wrN (wrN n a) b = wrN n (a ++ b) := by
  unfold wrN
  rw [app_size]
  omega
/-- Nothing is left of whole blocks. -/
theorem made_one (h : Nat → Int) (s : ByteArray) (hs : s.size = 64) : madeF h s = mixF h s := by
  unfold madeF
  rw [hs]
  have e : cutB s 0 = s := by
    apply ba_ext
    rw [cutB_list, Nat.mul_zero, List.drop_zero, List.take_of_length_le (by rw [len_list]; omega)]
  show mixF h (cutB s 0) = mixF h s
  rw [e]
end Go.Proofs.YtfglpcfacjedmaaDoor
