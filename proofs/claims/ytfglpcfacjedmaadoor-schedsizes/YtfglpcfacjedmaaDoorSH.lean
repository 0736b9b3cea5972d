/- awake tells true: RFC 8448's early secret, and what is derived of it. -/
import Derived.Test.YtfglpcfacjedmaaDoorSG
import Derived.Test.YtfglpcfacjedmaaDoorK1
set_option linter.all false
set_option maxRecDepth 100000
namespace Go.Proofs.YtfglpcfacjedmaaDoor
open Go.RowKit Go.Sort
def rp0 (k : Nat) : ByteArray := ⟨(List.replicate k (0 : UInt8)).toArray⟩
theorem rp0_succ (k : Nat) : rp0 (k + 1) = rp0 k ++ ⟨#[0]⟩ := by
  apply ba_ext
  rw [ap_list]
  show List.replicate (k + 1) (0 : UInt8) = List.replicate k 0 ++ [0]
  exact List.replicate_succ'
theorem rp0_size (k : Nat) : (rp0 k).size = k := by
  show (List.replicate k (0 : UInt8)).toArray.size = k
  simp
abbrev eLit : ByteArray := ⟨#[227, 176, 196, 66, 152, 252, 28, 20, 154, 251, 244, 200, 153, 111, 185, 36, 39, 174, 65, 228, 100, 155, 147, 76, 164, 149, 153, 27, 120, 82, 184, 85]⟩
set_option maxHeartbeats 4000000 in
theorem awake_core (Z E D H0 H1 H2 H3 : ByteArray) (x : Int) (w : World) (hT : Tab w) (hZ : Z = rp0 32) (zE : E.size = 32) (zD : D.size = 32)
    (eE : E.extract 0 8 = ⟨#[51, 173, 10, 28, 96, 126, 192, 59]⟩) (eD : D.extract 0 8 = ⟨#[111, 38, 21, 161, 8, 199, 2, 197]⟩)
    (C22 : ∀ W, Calls Tryd.prog 22 #[] W fun e w' => e = .returned (.string E) ∧ Below W.heap.size W w')
    (C26 : ∀ W, Calls Tryd.prog 26 #[.string E, .string ⟨#[100, 101, 114, 105, 118, 101, 100]⟩, .string eLit] W fun r w' => r = .returned (.tuple #[.string D, .int .i64 x]) ∧ Below W.heap.size W w')
    (C6 : ∀ W, Tab W → Calls Tryd.prog 6 #[.string Z, .string Z] W fun e w' => e = .returned (.tuple #[sec H0 H1 H2 H3, .int .i64 0]) ∧ Below W.heap.size W w')
    (C11 : ∀ W, Tab W → Calls Tryd.prog 11 #[.string ⟨#[]⟩] W fun e w' => e = .returned (.tuple #[sid ⟨#[]⟩ ⟨#[]⟩, .int .i64 10]) ∧ Below W.heap.size W w')
    (C27 : ∀ W, Calls Tryd.prog 27 #[.string D, .string Z] W fun e w' => e = .returned (.string H0) ∧ Below W.heap.size W w') :
    Calls Tryd.prog 10 #[] w fun e w' => e = .returned (.bool true) ∧ Below w.heap.size w w' := by
  unfold sec sid eLit at *
  go_enter Tryd.func10, Tryd.ntmps10
  go_wp2_with fail
  go_loopw [1, 8] (fun s i wr => ∃ k : Nat, k ≤ 32 ∧ s = .string (rp0 k) ∧ i = .int .i64 (k : Int) ∧ wr = w) (fun _ i _ => 32 - (intOf i).toNat)
  case atStart => exact ⟨0, by omega, rfl, rfl, rfl⟩
  case round =>
    obtain ⟨k, hk, rfl, rfl, rfl⟩ := hrel
    have k0 : (0 : Int) ≤ (k : Int) := by omega
    have z := rp0_size k
    by_cases hlt : k < 32
    · have k1 : (k : Int) < 32 := by omega
      have HE : Hid (rp0 (k + 1) = rp0 k ++ ⟨#[0]⟩) := rp0_succ k
      clear C22 C26 C6 C11 C27 hZ eE eD zE zD
      generalize rp0 k = U at *
      go_wp2_with fail
      exact ⟨⟨k + 1, by omega, by rw [HE.out], by go_num, trivial⟩, by simp [intOf]; omega⟩
    · have e : k = 32 := by omega
      rw [show ((k : Nat) : Int) = 32 by omega]
      subst e
      rw [← hZ]
      clear z hZ hk hlt k0
      go_wp2_with fail
      refine (C22 _).mono ?_
      rintro e w1 ⟨rfl, B1⟩
      have T1 := hT.to B1
      go_wp2_with fail
      refine (C26 _).mono ?_
      rintro e w2 ⟨rfl, hb⟩
      have B2 := Bel.call B1 hb
      have T2 := T1.to hb
      clear hb C26 B1 T1
      go_wp2_with fail
      refine (C6 _ T2).mono ?_
      rintro e w3 ⟨rfl, hb⟩
      have B3 := Bel.call B2 hb
      clear hb C6 B2 T2
      go_wp2_with fail
      generalize hW : World.alloc _ _ = W4
      have AX : Arr W4 w3.heap.size 4 (sx H0 H1 H2 H3) := by
        rw [← hW]
        exact Arr.new _ _ _ _ rfl _ 4 (sx_at _ _ _ _)
      have B4 : Below wr.heap.size wr W4 := by rw [← hW]; exact Bel.al B3 _
      have T4 := hT.to B4
      clear hW B3 hT
      refine (C11 _ T4).mono ?_
      rintro e w5 ⟨rfl, hb⟩
      have AX := AX.to' hb
      have B5 := Bel.call B4 hb
      clear hb C11 B4 T4
      have i1 : (E.size : Int) = 32 := by omega
      have i2 : (D.size : Int) = 32 := by omega
      go_wp2_with fail
      have AX := AX.al' (.cells #[.string ⟨#[]⟩, .string ⟨#[]⟩, .int .u64 0] 35)
      have B6 := Bel.al B5 (.cells #[.string ⟨#[]⟩, .string ⟨#[]⟩, .int .u64 0] 35)
      generalize w5.alloc (.cells #[.string ⟨#[]⟩, .string ⟨#[]⟩, .int .u64 0] 35) = W6 at *
      obtain ⟨⟨k0, k1, k2, k3⟩, y0, y1, y2, y3⟩ := AX.four
      have r0 := fun ds os => cell_regrown k0 ds os
      clear k0 k1 k2 k3 y0 y1 y2 y3 AX B5
      refine wp_region_quiet_below (by kernel_rfl) (by kernel_rfl) ?_
      repeat (go_big_quiet_step (first | (go_at_call 22; exact Calls.regrown_of (C22 _)) | (go_at_call 27; exact Calls.regrown_of (C27 _))))
      refine wpQuiet_nil ?_
      intro w7 hw'
      obtain ⟨⟨dq, osq⟩, hw''⟩ := hw'
      have hb := below_of hw''
      have B7 := Bel.call B6 hb
      clear hw'' r0 C22 C27 hb B6
      go_wp2_with fail
      go_ret
      exact ⟨rfl, B7⟩
theorem ok_z : ok2 z32 z32 := ⟨z32_size, z32_size⟩
theorem ear_is : ear = ⟨#[51, 173, 10, 28, 96, 126, 192, 59, 9, 230, 205, 152, 147, 104, 12, 226, 16, 173, 243, 0, 170, 31, 38, 96, 225, 178, 46, 16, 241, 112, 249, 42]⟩ := dig_ear
theorem inf_der : infS ⟨#[100, 101, 114, 105, 118, 101, 100]⟩ eLit 32 = ⟨#[0, 32, 13, 116, 108, 115, 49, 51, 32, 100, 101, 114, 105, 118, 101, 100, 32, 227, 176, 196, 66, 152, 252, 28, 20, 154, 251, 244, 200, 153, 111, 185, 36, 39, 174, 65, 228, 100, 155, 147, 76, 164, 149, 153, 27, 120, 82, 184, 85]⟩ := by
  have e : infE ⟨#[100, 101, 114, 105, 118, 101, 100]⟩ eLit 32 = 0 := by decide
  unfold infS
  rw [if_pos e]
  apply ba_ext
  decide +kernel
theorem dv_early : dv ear ⟨#[100, 101, 114, 105, 118, 101, 100]⟩ eLit = ⟨#[111, 38, 21, 161, 8, 199, 2, 197, 103, 143, 84, 252, 157, 186, 182, 151, 22, 192, 118, 24, 156, 72, 37, 12, 235, 234, 195, 87, 108, 54, 17, 186]⟩ := by
  have e : infE ⟨#[100, 101, 114, 105, 118, 101, 100]⟩ eLit 32 = 0 := by decide
  unfold dv lbS
  rw [if_pos e, inf_der, ear_is]
  unfold exS
  rw [if_neg (by omega)]
  show (expS _ _ 32) = _
  unfold expS allS
  rw [ctB_pre (upT_pre (k := 255) _ (show 1 ≤ 255 by omega)) 32 (by rw [upT_blk]; omega)]
  have e : ctB (upT (tB ⟨#[51, 173, 10, 28, 96, 126, 192, 59, 9, 230, 205, 152, 147, 104, 12, 226, 16, 173, 243, 0, 170, 31, 38, 96, 225, 178, 46, 16, 241, 112, 249, 42]⟩ ⟨#[0, 32, 13, 116, 108, 115, 49, 51, 32, 100, 101, 114, 105, 118, 101, 100, 32, 227, 176, 196, 66, 152, 252, 28, 20, 154, 251, 244, 200, 153, 111, 185, 36, 39, 174, 65, 228, 100, 155, 147, 76, 164, 149, 153, 27, 120, 82, 184, 85]⟩) 1) = ⟨#[111, 38, 21, 161, 8, 199, 2, 197, 103, 143, 84, 252, 157, 186, 182, 151, 22, 192, 118, 24, 156, 72, 37, 12, 235, 234, 195, 87, 108, 54, 17, 186]⟩ := by
    show (⟨#[]⟩ : ByteArray) ++ tB _ _ 1 = _
    rw [ap_nil, tB]
    have e2 : (tB ⟨#[51, 173, 10, 28, 96, 126, 192, 59, 9, 230, 205, 152, 147, 104, 12, 226, 16, 173, 243, 0, 170, 31, 38, 96, 225, 178, 46, 16, 241, 112, 249, 42]⟩ ⟨#[0, 32, 13, 116, 108, 115, 49, 51, 32, 100, 101, 114, 105, 118, 101, 100, 32, 227, 176, 196, 66, 152, 252, 28, 20, 154, 251, 244, 200, 153, 111, 185, 36, 39, 174, 65, 228, 100, 155, 147, 76, 164, 149, 153, 27, 120, 82, 184, 85]⟩ 0 ++ ⟨#[0, 32, 13, 116, 108, 115, 49, 51, 32, 100, 101, 114, 105, 118, 101, 100, 32, 227, 176, 196, 66, 152, 252, 28, 20, 154, 251, 244, 200, 153, 111, 185, 36, 39, 174, 65, 228, 100, 155, 147, 76, 164, 149, 153, 27, 120, 82, 184, 85]⟩ ++ by1 (((0 : Nat) : Int) + 1)) = ⟨#[0, 32, 13, 116, 108, 115, 49, 51, 32, 100, 101, 114, 105, 118, 101, 100, 32, 227, 176, 196, 66, 152, 252, 28, 20, 154, 251, 244, 200, 153, 111, 185, 36, 39, 174, 65, 228, 100, 155, 147, 76, 164, 149, 153, 27, 120, 82, 184, 85, 1]⟩ := by
      apply ba_ext
      unfold by1
      rw [ap_list, ap_list, mkS_list]
      rfl
    rw [e2, dig_der]
  rw [e]
  apply ba_ext
  rw [ext_list]
  rfl
theorem awake_any (w : World) (hT : Tab w) : Calls Tryd.prog 10 #[] w fun e w' => e = .returned (.bool true) ∧ Below w.heap.size w w' := by
  have zD : (dv ear ⟨#[100, 101, 114, 105, 118, 101, 100]⟩ eLit).size = 32 := by rw [dv_early]; rfl
  have en : ofS ⟨#[]⟩ = eLit := dig_nil
  have e0 : hB z32 z32 = macS (dv ear ⟨#[100, 101, 114, 105, 118, 101, 100]⟩ eLit) z32 := by
    unfold hB
    rw [if_pos ok_z]
    unfold nxs
    rw [en]
  have eE : hE z32 z32 = 0 := by unfold hE; rw [if_pos ok_z]
  refine awake_core z32 ear (dv ear ⟨#[100, 101, 114, 105, 118, 101, 100]⟩ eLit) (hB z32 z32) (hC z32 z32) (hS z32 z32) ⟨#[]⟩ _ w hT rfl ear_size zD ?_ ?_ rearly_any (fun W => rderive_any _ _ _ (by rw [ear_size]; omega) (by decide) (by decide) W) (fun W hW => ?_) (fun W hW => ?_) (fun W => ?_)
  · rw [ear_is]; apply ba_ext; rw [ext_list]; rfl
  · rw [dv_early]; apply ba_ext; rw [ext_list]; rfl
  · have := hand_any z32 z32 (by rw [z32_size]; decide) (by rw [z32_size]; decide) W hW
    rw [eE] at this
    exact this
  · exact side_any ⟨#[]⟩ (by decide) W hW
  · rw [e0]
    exact rextract_any _ _ (by omega) (by rw [z32_size]; omega) W
end Go.Proofs.YtfglpcfacjedmaaDoor
