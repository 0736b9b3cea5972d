/- awake tells true: RFC 5869's first example. -/
import Derived.Test.YtiagdffbfomlfaaDoorL1
import Derived.Test.YtiagdffbfomlfaaDoorK1
set_option linter.all false
set_option maxRecDepth 100000
namespace Go.Proofs.YtiagdffbfomlfaaDoor
open Go.RowKit Go.Sort
def rp11 (k : Nat) : ByteArray := ⟨(List.replicate k (11 : UInt8)).toArray⟩
theorem rp11_succ (k : Nat) : rp11 (k + 1) = rp11 k ++ ⟨#[11]⟩ := by
  apply ba_ext
  rw [ap_list]
  show List.replicate (k + 1) (11 : UInt8) = List.replicate k 11 ++ [11]
  exact List.replicate_succ'
theorem rp11_size (k : Nat) : (rp11 k).size = k := by
  show (List.replicate k (11 : UInt8)).toArray.size = k
  simp
set_option maxHeartbeats 4000000 in
theorem awake_core (A F I P O : ByteArray) (w : World) (hT : Tab w) (hI : I = rp11 22) (zP : P.size = 32) (zO : O.size = 42)
    (eP : P.extract 0 8 = ⟨#[7, 119, 9, 54, 44, 46, 50, 223]⟩) (eO : O.extract 0 8 = ⟨#[60, 178, 95, 37, 250, 172, 213, 122]⟩)
    (C1 : ∀ W, Calls Tryd.prog 19 #[.int .u8 0, .int .u8 12] W fun e w' => e = .returned (.string A) ∧ Below W.heap.size W w')
    (C2 : ∀ W, Tab W → Calls Tryd.prog 11 #[.string A, .string I] W fun e w' => e = .returned (.string P) ∧ Below W.heap.size W w')
    (C3 : ∀ W, Calls Tryd.prog 19 #[.int .u8 240, .int .u8 249] W fun e w' => e = .returned (.string F) ∧ Below W.heap.size W w')
    (C4 : ∀ W, Tab W → Calls Tryd.prog 9 #[.string P, .string F, .int .i64 42] W fun e w' => e = .returned (.tuple #[.string O, .int .i64 0]) ∧ Below W.heap.size W w') :
    Calls Tryd.prog 8 #[] w fun e w' => e = .returned (.bool true) ∧ Below w.heap.size w w' := by
  go_enter Tryd.func8, Tryd.ntmps8
  go_wp2_with fail
  go_loopw [1, 5] (fun s i wr => ∃ k : Nat, k ≤ 22 ∧ s = .string (rp11 k) ∧ i = .int .i64 (k : Int) ∧ wr = w) (fun _ i _ => 22 - (intOf i).toNat)
  case atStart => exact ⟨0, by omega, rfl, rfl, rfl⟩
  case round =>
    obtain ⟨k, hk, rfl, rfl, rfl⟩ := hrel
    have k0 : (0 : Int) ≤ (k : Int) := by omega
    have z := rp11_size k
    by_cases hlt : k < 22
    · have k1 : (k : Int) < 22 := by omega
      have HE : Hid (rp11 (k + 1) = rp11 k ++ ⟨#[11]⟩) := rp11_succ k
      clear C1 C2 C3 C4 hI eP eO zP zO
      generalize rp11 k = U at *
      go_wp2_with fail
      exact ⟨⟨k + 1, by omega, by rw [HE.out], by go_num, trivial⟩, by simp [intOf]; omega⟩
    · have e : k = 22 := by omega
      rw [show ((k : Nat) : Int) = 22 by omega]
      subst e
      rw [← hI]
      clear z hI hk hlt k0
      go_wp2_with fail
      refine (C1 _).mono ?_
      rintro e w1 ⟨rfl, B1⟩
      have T1 := hT.to B1
      clear C1
      go_wp2_with fail
      refine (C2 _ T1).mono ?_
      rintro e w2 ⟨rfl, hb⟩
      have B2 := Bel.call B1 hb
      have T2 := T1.to hb
      clear hb C2 B1 T1
      go_wp2_with fail
      refine (C3 _).mono ?_
      rintro e w3 ⟨rfl, hb⟩
      have B3 := Bel.call B2 hb
      have T3 := T2.to hb
      clear hb C3 B2 T2
      go_wp2_with fail
      refine (C4 _ T3).mono ?_
      rintro e w4 ⟨rfl, hb⟩
      have B4 := Bel.call B3 hb
      clear hb C4 B3 T3
      have i1 : (P.size : Int) = 32 := by omega
      have i2 : (O.size : Int) = 42 := by omega
      go_wp2_with fail
      go_ret
      exact ⟨rfl, B4⟩
theorem run1 : mkS (runL 0 (12 + 1)) = ⟨#[0, 1, 2, 3, 4, 5, 6, 7, 8, 9, 10, 11, 12]⟩ := by
  apply ba_ext
  rw [mkS_list]
  decide
theorem run2 : mkS (runL 240 (9 + 1)) = ⟨#[240, 241, 242, 243, 244, 245, 246, 247, 248, 249]⟩ := by
  apply ba_ext
  rw [mkS_list]
  decide
theorem awake_any (w : World) (hT : Tab w) : Calls Tryd.prog 8 #[] w fun e w' => e = .returned (.bool true) ∧ Below w.heap.size w w' := by
  have zP : (macS ⟨#[0, 1, 2, 3, 4, 5, 6, 7, 8, 9, 10, 11, 12]⟩ (rp11 22)).size = 32 := macS_size _ _
  have hr : rp11 22 = ⟨#[11, 11, 11, 11, 11, 11, 11, 11, 11, 11, 11, 11, 11, 11, 11, 11, 11, 11, 11, 11, 11, 11]⟩ := rfl
  refine awake_core ⟨#[0, 1, 2, 3, 4, 5, 6, 7, 8, 9, 10, 11, 12]⟩ ⟨#[240, 241, 242, 243, 244, 245, 246, 247, 248, 249]⟩ (rp11 22) (macS ⟨#[0, 1, 2, 3, 4, 5, 6, 7, 8, 9, 10, 11, 12]⟩ (rp11 22)) (exS (macS ⟨#[0, 1, 2, 3, 4, 5, 6, 7, 8, 9, 10, 11, 12]⟩ (rp11 22)) ⟨#[240, 241, 242, 243, 244, 245, 246, 247, 248, 249]⟩ 42) w hT rfl zP ?_ ?_ ?_
    (fun W => run_core 0 12 _ (by omega) run1.symm W) (fun W hW => extract_any _ _ (by decide) (by rw [rp11_size]; omega) W hW) (fun W => run_core 240 9 _ (by omega) run2.symm W) (fun W hW => expand_any _ _ (by omega) (by decide) 42 W hW)
  · unfold exS
    rw [if_neg (by omega)]
    exact expS_size _ _ 42 (by omega)
  · rw [hr, dig_prk]
    apply ba_ext
    rw [ext_list]
    rfl
  · unfold exS
    rw [if_neg (by omega)]
    show (expS _ _ 42).extract 0 8 = _
    unfold expS allS
    rw [ByteArray.extract_extract]
    show (ctB _).extract 0 8 = _
    rw [ctB_pre (upT_pre (k := 255) _ (show 1 ≤ 255 by omega)) 8 (by rw [upT_blk]; omega)]
    have e : ctB (upT (tB (macS ⟨#[0, 1, 2, 3, 4, 5, 6, 7, 8, 9, 10, 11, 12]⟩ (rp11 22)) ⟨#[240, 241, 242, 243, 244, 245, 246, 247, 248, 249]⟩) 1) = ⟨#[60, 178, 95, 37, 250, 172, 213, 122, 144, 67, 79, 100, 208, 54, 47, 42, 45, 45, 10, 144, 207, 26, 90, 76, 93, 176, 45, 86, 236, 196, 197, 191]⟩ := by
      show (⟨#[]⟩ : ByteArray) ++ tB _ _ 1 = _
      rw [ap_nil, tB, hr, dig_prk]
      have e2 : (tB ⟨#[7, 119, 9, 54, 44, 46, 50, 223, 13, 220, 63, 13, 196, 123, 186, 99, 144, 182, 199, 59, 181, 15, 156, 49, 34, 236, 132, 74, 215, 194, 179, 229]⟩ ⟨#[240, 241, 242, 243, 244, 245, 246, 247, 248, 249]⟩ 0 ++ ⟨#[240, 241, 242, 243, 244, 245, 246, 247, 248, 249]⟩ ++ by1 (((0 : Nat) : Int) + 1)) = ⟨#[240, 241, 242, 243, 244, 245, 246, 247, 248, 249, 1]⟩ := by
        apply ba_ext
        unfold by1
        rw [ap_list, ap_list, mkS_list]
        rfl
      rw [e2, dig_t1]
    rw [e]
    apply ba_ext
    rw [ext_list]
    rfl
end Go.Proofs.YtiagdffbfomlfaaDoor
