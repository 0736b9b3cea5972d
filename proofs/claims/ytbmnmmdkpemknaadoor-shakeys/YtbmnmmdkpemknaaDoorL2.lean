/- awake tells true: chapter 6's example and two more. -/
import Derived.Test.YtbmnmmdkpemknaaDoorL1
import Derived.Test.YtbmnmmdkpemknaaDoorK1
set_option linter.all false
set_option maxRecDepth 100000
namespace Go.Proofs.YtbmnmmdkpemknaaDoor
open Go.RowKit Go.Sort
set_option maxHeartbeats 4000000 in
theorem awake_core (D1 D2 D3 : ByteArray) (w : World) (hT : Tab w)
    (C1 : ∀ W, Tab W → Calls Tryd.prog 12 #[.string ⟨#[97, 98, 99]⟩] W fun e w' => e = .returned (.string D1) ∧ Below W.heap.size W w')
    (H1 : ∀ W, Calls Tryd.prog 27 #[.string ⟨#[98, 97, 55, 56, 49, 54, 98, 102, 56, 102, 48, 49, 99, 102, 101, 97, 52, 49, 52, 49, 52, 48, 100, 101, 53, 100, 97, 101, 50, 50, 50, 51, 98, 48, 48, 51, 54, 49, 97, 51, 57, 54, 49, 55, 55, 97, 57, 99, 98, 52, 49, 48, 102, 102, 54, 49, 102, 50, 48, 48, 49, 53, 97, 100]⟩] W fun e w' => e = .returned (.string D1) ∧ Below W.heap.size W w')
    (C2 : ∀ W, Tab W → Calls Tryd.prog 12 #[.string ⟨#[]⟩] W fun e w' => e = .returned (.string D2) ∧ Below W.heap.size W w')
    (H2 : ∀ W, Calls Tryd.prog 27 #[.string ⟨#[101, 51, 98, 48, 99, 52, 52, 50, 57, 56, 102, 99, 49, 99, 49, 52, 57, 97, 102, 98, 102, 52, 99, 56, 57, 57, 54, 102, 98, 57, 50, 52, 50, 55, 97, 101, 52, 49, 101, 52, 54, 52, 57, 98, 57, 51, 52, 99, 97, 52, 57, 53, 57, 57, 49, 98, 55, 56, 53, 50, 98, 56, 53, 53]⟩] W fun e w' => e = .returned (.string D2) ∧ Below W.heap.size W w')
    (C3 : ∀ W, Tab W → Calls Tryd.prog 14 #[.string ⟨#[107, 101, 121]⟩, .string ⟨#[84, 104, 101, 32, 113, 117, 105, 99, 107, 32, 98, 114, 111, 119, 110, 32, 102, 111, 120, 32, 106, 117, 109, 112, 115, 32, 111, 118, 101, 114, 32, 116, 104, 101, 32, 108, 97, 122, 121, 32, 100, 111, 103]⟩] W fun e w' => e = .returned (.string D3) ∧ Below W.heap.size W w')
    (H3 : ∀ W, Calls Tryd.prog 27 #[.string ⟨#[102, 55, 98, 99, 56, 51, 102, 52, 51, 48, 53, 51, 56, 52, 50, 52, 98, 49, 51, 50, 57, 56, 101, 54, 97, 97, 54, 102, 98, 49, 52, 51, 101, 102, 52, 100, 53, 57, 97, 49, 52, 57, 52, 54, 49, 55, 53, 57, 57, 55, 52, 55, 57, 100, 98, 99, 50, 100, 49, 97, 51, 99, 100, 56]⟩] W fun e w' => e = .returned (.string D3) ∧ Below W.heap.size W w') :
    Calls Tryd.prog 10 #[] w fun e w' => e = .returned (.bool true) ∧ Below w.heap.size w w' := by
  go_enter Tryd.func10, Tryd.ntmps10
  go_wp2_with fail
  refine (C1 _ hT).mono ?_
  rintro e w1 ⟨rfl, hb⟩
  have B1 := hb
  have T1 := hT.to hb
  clear hb C1
  go_wp2_with fail
  refine (H1 _).mono ?_
  rintro e w2 ⟨rfl, hb⟩
  have B2 := Bel.call B1 hb
  have T2 := T1.to hb
  clear hb H1 B1 T1
  go_wp2_with fail
  refine (C2 _ T2).mono ?_
  rintro e w3 ⟨rfl, hb⟩
  have B3 := Bel.call B2 hb
  have T3 := T2.to hb
  clear hb C2 B2 T2
  go_wp2_with fail
  refine (H2 _).mono ?_
  rintro e w4 ⟨rfl, hb⟩
  have B4 := Bel.call B3 hb
  have T4 := T3.to hb
  clear hb H2 B3 T3
  go_wp2_with fail
  refine (C3 _ T4).mono ?_
  rintro e w5 ⟨rfl, hb⟩
  have B5 := Bel.call B4 hb
  clear hb C3 B4 T4
  go_wp2_with fail
  refine (H3 _).mono ?_
  rintro e w6 ⟨rfl, hb⟩
  have B6 := Bel.call B5 hb
  clear hb H3 B5
  go_wp2_with fail
  go_ret
  exact ⟨rfl, B6⟩
theorem dig1 : ofS ⟨#[97, 98, 99]⟩ = mkS (hxL ⟨#[98, 97, 55, 56, 49, 54, 98, 102, 56, 102, 48, 49, 99, 102, 101, 97, 52, 49, 52, 49, 52, 48, 100, 101, 53, 100, 97, 101, 50, 50, 50, 51, 98, 48, 48, 51, 54, 49, 97, 51, 57, 54, 49, 55, 55, 97, 57, 99, 98, 52, 49, 48, 102, 102, 54, 49, 102, 50, 48, 48, 49, 53, 97, 100]⟩ 32) := by
  have e : padU [97, 98, 99] = u_abc := by decide +kernel
  have e2 : hfL (lf r_abc) 8 = hxL ⟨#[98, 97, 55, 56, 49, 54, 98, 102, 56, 102, 48, 49, 99, 102, 101, 97, 52, 49, 52, 49, 52, 48, 100, 101, 53, 100, 97, 101, 50, 50, 50, 51, 98, 48, 48, 51, 54, 49, 97, 51, 57, 54, 49, 55, 55, 97, 57, 99, 98, 52, 49, 48, 102, 102, 54, 49, 102, 50, 48, 48, 49, 53, 97, 100]⟩ 32 := by decide +kernel
  rw [ofS_pad]
  show mkS (hfL (madeF bgn ⟨(padU [97, 98, 99]).toArray⟩) 8) = _
  rw [e, one_block _ _ (by decide +kernel), bgn_lf]
  show mkS (hfL (mixF (lf y_abc) _) 8) = _
  rw [mix_abc, e2]
theorem dig2 : ofS ⟨#[]⟩ = mkS (hxL ⟨#[101, 51, 98, 48, 99, 52, 52, 50, 57, 56, 102, 99, 49, 99, 49, 52, 57, 97, 102, 98, 102, 52, 99, 56, 57, 57, 54, 102, 98, 57, 50, 52, 50, 55, 97, 101, 52, 49, 101, 52, 54, 52, 57, 98, 57, 51, 52, 99, 97, 52, 57, 53, 57, 57, 49, 98, 55, 56, 53, 50, 98, 56, 53, 53]⟩ 32) := by
  have e : padU [] = u_nil := by decide +kernel
  have e2 : hfL (lf r_nil) 8 = hxL ⟨#[101, 51, 98, 48, 99, 52, 52, 50, 57, 56, 102, 99, 49, 99, 49, 52, 57, 97, 102, 98, 102, 52, 99, 56, 57, 57, 54, 102, 98, 57, 50, 52, 50, 55, 97, 101, 52, 49, 101, 52, 54, 52, 57, 98, 57, 51, 52, 99, 97, 52, 57, 53, 57, 57, 49, 98, 55, 56, 53, 50, 98, 56, 53, 53]⟩ 32 := by decide +kernel
  rw [ofS_pad]
  show mkS (hfL (madeF bgn ⟨(padU []).toArray⟩) 8) = _
  rw [e, one_block _ _ (by decide +kernel), bgn_lf]
  show mkS (hfL (mixF (lf y_nil) _) 8) = _
  rw [mix_nil, e2]
theorem dig3 : macS ⟨#[107, 101, 121]⟩ ⟨#[84, 104, 101, 32, 113, 117, 105, 99, 107, 32, 98, 114, 111, 119, 110, 32, 102, 111, 120, 32, 106, 117, 109, 112, 115, 32, 111, 118, 101, 114, 32, 116, 104, 101, 32, 108, 97, 122, 121, 32, 100, 111, 103]⟩ = mkS (hxL ⟨#[102, 55, 98, 99, 56, 51, 102, 52, 51, 48, 53, 51, 56, 52, 50, 52, 98, 49, 51, 50, 57, 56, 101, 54, 97, 97, 54, 102, 98, 49, 52, 51, 101, 102, 52, 100, 53, 57, 97, 49, 52, 57, 52, 54, 49, 55, 53, 57, 57, 55, 52, 55, 57, 100, 98, 99, 50, 100, 49, 97, 51, 99, 100, 56]⟩ 32) := by
  have k : kyS ⟨#[107, 101, 121]⟩ = ⟨#[107, 101, 121]⟩ := by unfold kyS; rw [if_neg (by decide)]
  have e1 : padU ((mkL ⟨#[107, 101, 121]⟩ 54).map (fun n => UInt8.ofNat n.toNat) ++ [84, 104, 101, 32, 113, 117, 105, 99, 107, 32, 98, 114, 111, 119, 110, 32, 102, 111, 120, 32, 106, 117, 109, 112, 115, 32, 111, 118, 101, 114, 32, 116, 104, 101, 32, 108, 97, 122, 121, 32, 100, 111, 103]) = u_i1 ++ u_i2 := by decide +kernel
  have i : ofS (mskS ⟨#[107, 101, 121]⟩ 54 ++ ⟨#[84, 104, 101, 32, 113, 117, 105, 99, 107, 32, 98, 114, 111, 119, 110, 32, 102, 111, 120, 32, 106, 117, 109, 112, 115, 32, 111, 118, 101, 114, 32, 116, 104, 101, 32, 108, 97, 122, 121, 32, 100, 111, 103]⟩) = mkS (hfL (lf r_i2) 8) := by
    rw [ofS_pad, ap_list]
    unfold mskS
    rw [mkS_list]
    show mkS (hfL (madeF bgn ⟨(padU ((mkL ⟨#[107, 101, 121]⟩ 54).map (fun n => UInt8.ofNat n.toNat) ++ [84, 104, 101, 32, 113, 117, 105, 99, 107, 32, 98, 114, 111, 119, 110, 32, 102, 111, 120, 32, 106, 117, 109, 112, 115, 32, 111, 118, 101, 114, 32, 116, 104, 101, 32, 108, 97, 122, 121, 32, 100, 111, 103])).toArray⟩) 8) = _
    rw [e1, two_blocks _ _ _ (by decide +kernel) (by decide +kernel), bgn_lf]
    show mkS (hfL (mixF (mixF (lf y_i1) _) _) 8) = _
    rw [mix_i1]
    show mkS (hfL (mixF (lf y_i2) _) 8) = _
    rw [mix_i2]
  have e2 : padU ((mkL ⟨#[107, 101, 121]⟩ 92).map (fun n => UInt8.ofNat n.toNat) ++ (hfL (lf r_i2) 8).map (fun n => UInt8.ofNat n.toNat)) = u_o1 ++ u_o2 := by decide +kernel
  have e3 : hfL (lf r_o2) 8 = hxL ⟨#[102, 55, 98, 99, 56, 51, 102, 52, 51, 48, 53, 51, 56, 52, 50, 52, 98, 49, 51, 50, 57, 56, 101, 54, 97, 97, 54, 102, 98, 49, 52, 51, 101, 102, 52, 100, 53, 57, 97, 49, 52, 57, 52, 54, 49, 55, 53, 57, 57, 55, 52, 55, 57, 100, 98, 99, 50, 100, 49, 97, 51, 99, 100, 56]⟩ 32 := by decide +kernel
  rw [macS_of, k, i, ofS_pad, ap_list]
  unfold mskS
  rw [mkS_list, mkS_list, e2, two_blocks _ _ _ (by decide +kernel) (by decide +kernel), bgn_lf]
  show mkS (hfL (mixF (mixF (lf y_o1) _) _) 8) = _
  rw [mix_o1]
  show mkS (hfL (mixF (lf y_o2) _) 8) = _
  rw [mix_o2, e3]
theorem awake_any (w : World) (hT : Tab w) : Calls Tryd.prog 10 #[] w fun e w' => e = .returned (.bool true) ∧ Below w.heap.size w w' := by
  refine awake_core _ _ _ w hT (fun W hW => of_any _ (by decide) W hW) (fun W => ?_) (fun W hW => of_any _ (by decide) W hW) (fun W => ?_) (fun W hW => mac_any _ _ (by decide) (by decide) W hW) (fun W => ?_)
  · rw [dig1]; exact hexed_core _ _ 32 (by decide) (by omega) (by omega) (by decide +kernel) rfl W
  · rw [dig2]; exact hexed_core _ _ 32 (by decide) (by omega) (by omega) (by decide +kernel) rfl W
  · rw [dig3]; exact hexed_core _ _ 32 (by decide) (by omega) (by omega) (by decide +kernel) rfl W
end Go.Proofs.YtbmnmmdkpemknaaDoor
