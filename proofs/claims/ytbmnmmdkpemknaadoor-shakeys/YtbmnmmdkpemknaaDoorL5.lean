/- The law's walk: ShaKeys. -/
import Derived.Test.YtbmnmmdkpemknaaDoorL2
set_option linter.all false
set_option maxRecDepth 100000
namespace Go.Proofs.YtbmnmmdkpemknaaDoor
open Go.RowKit Go.Sort
/-- A key with zeros behind. -/
def kz (key : ByteArray) (z : Nat) : ByteArray := key ++ ⟨(List.replicate z (0 : UInt8)).toArray⟩
theorem kz_size (key : ByteArray) (z : Nat) : (kz key z).size = key.size + z := by unfold kz; rw [app_size, rep_size]
theorem kz_zero (key : ByteArray) : kz key 0 = key := by
  apply ba_ext
  unfold kz
  rw [ap_list]
  simp
theorem kz_succ (key : ByteArray) (z : Nat) : kz key z ++ ⟨#[0]⟩ = kz key (z + 1) := by
  apply ba_ext
  unfold kz
  rw [ap_list, ap_list, ap_list]
  show key.data.toList ++ List.replicate z (0 : UInt8) ++ [0] = key.data.toList ++ List.replicate (z + 1) (0 : UInt8)
  rw [List.replicate_succ', List.append_assoc]
theorem bt_list (s : ByteArray) (j : Nat) : bt s j = ((s.data.toList[j]?).getD 0).toNat := by
  unfold bt
  rw [Array.getElem?_toList]
theorem kz_bt (key : ByteArray) (z j : Nat) : bt (kz key z) j = bt key j := by
  rw [bt_list, bt_list]
  unfold kz
  rw [ap_list]
  show ((((key.data.toList ++ List.replicate z (0 : UInt8))[j]?).getD 0).toNat : Int) = _
  by_cases c : j < key.data.toList.length
  · rw [List.getElem?_append_left c]
  · rw [List.getElem?_append_right (by omega), List.getElem?_eq_none (l := key.data.toList) (by omega), List.getElem?_replicate]
    split <;> rfl
theorem kz_mac (key s : ByteArray) (z : Nat) (h : key.size + z ≤ 64) : macS (kz key z) s = macS key s := by
  have k1 : kyS (kz key z) = kz key z := by unfold kyS; rw [if_neg (by rw [kz_size]; omega)]
  have k2 : kyS key = key := by unfold kyS; rw [if_neg (by omega)]
  have m : ∀ c, mskS (kz key z) c = mskS key c := fun c => by
    unfold mskS mkL
    congr 1
    refine List.map_congr_left fun j _ => ?_
    rw [kz_bt]
  rw [macS_of, macS_of, k1, k2, m, m]
set_option maxHeartbeats 4000000 in
theorem keys_law (key s M : ByteArray) (more : Int) (w : World) (hT : Tab w) (hk : key.size ≤ maxLen) (hs : s.size ≤ maxLen) (m0 : 0 ≤ more) (m1 : more < 256) (hM : M.size = 32)
    (C14 : key.size ≤ 64 → (s.size : Int) ≤ 20000 → ∀ z W, key.size + z ≤ 64 → Tab W → Calls Tryd.prog 14 #[.string (kz key z), .string s] W fun e w' => e = .returned (.string M) ∧ Below W.heap.size W w')
    (CA : ∀ W, Tab W → Calls Tryd.prog 10 #[] W fun e w' => e = .returned (.bool true) ∧ Below W.heap.size W w') :
    Calls Tryd.prog 7 #[.string key, .string s, .int .u8 more] w fun e w' => e = .returned (.bool true) ∧ Below w.heap.size w w' := by
  have SS := fun W => short_any s hs W
  unfold maxLen at hk hs
  have hM' : (M.size : Int) = 32 := by omega
  by_cases c : (s.size : Int) ≤ 20000
  · rw [decide_eq_true c] at SS
    by_cases k : (key.size : Int) ≤ 64
    · have k' : ¬ (64 : Int) < (key.size : Int) := by omega
      have c14 := C14 (by omega) c
      clear C14
      obtain ⟨N, hN, hN2⟩ : ∃ N : Nat, more % 65 = (N : Int) ∧ N ≤ 64 := ⟨(more % 65).toNat, by omega, by omega⟩
      go_enter Tryd.func7, Tryd.ntmps7
      go_wp2_with fail
      refine (SS _).mono ?_
      rintro e w0 ⟨rfl, rfl⟩
      clear SS
      go_wp2_with fail
      go_loopw [7, 21] (fun v i wr => ∃ j z : Nat, j ≤ N ∧ i = .int .i64 j ∧ v = .string (kz key z) ∧ key.size + z ≤ 64 ∧ wr = w0) (fun _ i _ => N - (intOf i).toNat)
      case atStart => exact ⟨0, 0, by omega, rfl, by rw [kz_zero], by omega, rfl⟩
      case round =>
        obtain ⟨j, z, hj, rfl, rfl, hz, rfl⟩ := hrel
        have ks := kz_size key z
        by_cases hlt : j < N
        · have j0 : (0 : Int) ≤ (j : Int) := by omega
          have j1 : (j : Int) < (N : Int) := by omega
          have j2 : (N : Int) ≤ 64 := by omega
          have HS : Hid _ := kz_succ key z
          have HK : Hid _ := ks
          by_cases h64 : key.size + z < 64
          · have l : ((kz key z).size : Int) < 64 := by omega
            generalize kz key z = Z at *
            clear ks c14 CA
            go_wp2_with fail
            rw [HS.out]
            exact ⟨⟨j + 1, z + 1, by omega, by go_num, rfl, by omega, trivial⟩, by simp [intOf]; omega⟩
          · have l : ¬ ((kz key z).size : Int) < 64 := by omega
            have l2 : ((kz key z).size : Int) ≤ 64 := by omega
            generalize hZ : kz key z = Z at *
            have HZ : Hid _ := hZ
            clear ks c14 CA hZ
            go_wp2_with fail
            exact ⟨⟨j + 1, z, by omega, by go_num, by rw [HZ.out], by omega, trivial⟩, by simp [intOf]; omega⟩
        · have j1 : ¬ (j : Int) < (N : Int) := by omega
          have j2 : (N : Int) ≤ 64 := by omega
          have j3 : (j : Int) ≤ 64 := by omega
          have cz := fun W => c14 z W hz
          have ck := fun W => c14 0 W (by omega)
          rw [kz_zero] at ck
          clear c14 ks
          generalize kz key z = Z at *
          go_wp2_with fail
          refine (cz _ hT).mono ?_
          rintro e w1 ⟨rfl, hb⟩
          have B1 := hb
          have T1 := hT.to hb
          clear hb cz
          go_wp2_with fail
          refine (ck _ T1).mono ?_
          rintro e w2 ⟨rfl, hb⟩
          have B2 := Bel.call B1 hb
          have T2 := T1.to hb
          clear hb B1 T1
          go_wp2_with fail
          refine (ck _ T2).mono ?_
          rintro e w3 ⟨rfl, hb⟩
          have B3 := Bel.call B2 hb
          have T3 := T2.to hb
          clear hb B2 T2 ck
          go_wp2_with fail
          refine (CA _ T3).mono ?_
          rintro e w4 ⟨rfl, hb⟩
          have B4 := Bel.call B3 hb
          clear hb B3 T3 CA
          go_wp2_with fail
          go_ret
          exact ⟨rfl, B4⟩
    · have k' : (64 : Int) < (key.size : Int) := by omega
      clear C14
      go_enter Tryd.func7, Tryd.ntmps7
      go_wp2_with fail
      refine (SS _).mono ?_
      rintro e w0 ⟨rfl, rfl⟩
      clear SS
      go_wp2_with fail
      refine (CA _ hT).mono ?_
      rintro e w4 ⟨rfl, hb⟩
      clear CA
      go_wp2_with fail
      go_ret
      exact ⟨rfl, hb⟩
  · rw [decide_eq_false c] at SS
    clear C14
    go_enter Tryd.func7, Tryd.ntmps7
    go_wp2_with fail
    refine (SS _).mono ?_
    rintro e w0 ⟨rfl, rfl⟩
    clear SS
    go_wp2_with fail
    refine (CA _ hT).mono ?_
    rintro e w4 ⟨rfl, hb⟩
    clear CA
    go_wp2_with fail
    go_ret
    exact ⟨rfl, hb⟩
theorem keys_true (key s : ByteArray) (more : Int) (hk : key.size ≤ maxLen) (hs : s.size ≤ maxLen) (m0 : 0 ≤ more) (m1 : more < 256) (w : World) (hT : Tab w) :
    Calls Tryd.prog 7 #[.string key, .string s, .int .u8 more] w fun e w' => e = .returned (.bool true) ∧ Below w.heap.size w w' := by
  refine keys_law key s (macS key s) more w hT hk hs m0 m1 (macS_size key s) (fun h1 h2 z W hz hW => ?_) (fun W hW => awake_any W hW)
  have := mac_any (kz key z) s (by rw [kz_size]; omega) (by omega) W hW
  rw [kz_mac key s z hz] at this
  exact this
end Go.Proofs.YtbmnmmdkpemknaaDoor
