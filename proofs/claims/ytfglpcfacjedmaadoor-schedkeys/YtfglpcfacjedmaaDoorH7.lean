/- The reference's Expand. -/
import Derived.Test.YtfglpcfacjedmaaDoorH6
import Derived.Test.YtfglpcfacjedmaaDoorR5
set_option linter.all false
set_option maxRecDepth 100000
namespace Go.Proofs.YtfglpcfacjedmaaDoor
open Go.RowKit Go.Sort
theorem by1_lo (n : Int) (h0 : 0 ≤ n) (h1 : n < 256) : by1 n = mkS [n] := by unfold by1; rw [show n % 256 = n by omega]
set_option maxHeartbeats 2000000 in
theorem rexpand_core (T U : Nat → ByteArray) (prk info S : ByteArray) (hi : info.size ≤ 10000) (m : Nat) (hm : m ≤ 8160)
    (hT0 : T 0 = ⟨#[]⟩) (hT32 : ∀ k, (T (k + 1)).size = 32) (hU0 : U 0 = ⟨#[]⟩) (hU : ∀ k, U (k + 1) = U k ++ T (k + 1)) (hUs : ∀ k, (U k).size = 32 * k)
    (hS : ∀ k, m ≤ 32 * k → k ≤ 255 → (U k).extract 0 m = S)
    (C22 : ∀ k W, k < 255 → Calls Tryd.prog 31 #[.string prk, .string (T k ++ info ++ mkS [(k : Int) + 1])] W fun e w' => e = .returned (.string (T (k + 1))) ∧ Below W.heap.size W w') (w : World) :
    Calls Tryd.prog 40 #[.string prk, .string info, .int .i64 (m : Int)] w fun e w' => e = .returned (.tuple #[.string S, .int .i64 0]) ∧ Below w.heap.size w w' := by
  have i0 : (0 : Int) ≤ (m : Int) := by omega
  have i1 : (m : Int) ≤ 8160 := by omega
  go_enter Tryd.func40, Tryd.ntmps40
  go_wp2_with fail
  go_loopw [8, 9, 10] (fun o l i wr => ∃ k : Nat, 32 * k < m + 32 ∧ o = .string (U k) ∧ l = .string (T k) ∧ i = .int .i64 ((k : Int) + 1) ∧ Below w.heap.size w wr)
    (fun o _ _ _ => m - 32 * 0 - (match o with | .string s => s.size | _ => 0))
  case atStart => exact ⟨0, by omega, by rw [hU0], by rw [hT0], rfl, Below.refl _ _⟩
  case round =>
    obtain ⟨k, hk, rfl, rfl, rfl, hB⟩ := hrel
    have us := hUs k
    have tk : (T k).size ≤ 32 := by
      cases k with
      | zero => rw [hT0]; decide
      | succ k => rw [hT32]; omega
    by_cases hlt : 32 * k < m
    · have k255 : k < 255 := by omega
      have k0 : (0 : Int) ≤ (k : Int) := by omega
      have k1 : (k : Int) + 1 ≤ 255 := by omega
      have l1 : ((U k).size : Int) < (m : Int) := by omega
      have cv := convC (wr.alloc (.cells #[.int .u8 ((k : Int) + 1)] 5)) wr.heap.size 1 1 [(k : Int) + 1] rfl (news_new wr [.int .u8 ((k : Int) + 1)] 5)
      have c22 := fun W => C22 k W k255
      have bs : (mkS [(k : Int) + 1]).size = 1 := mkS_size _
      have t32 := hT32 k
      have HU : Hid (U (k + 1) = U k ++ T (k + 1)) := hU k
      have us' := hUs (k + 1)
      have HUS : Hid ((U (k + 1)).size = 32 * (k + 1)) := us'
      have HUK : Hid ((U k).size = 32 * k) := us
      obtain ⟨tn, htn⟩ : ∃ x, T (k + 1) = x := ⟨_, rfl⟩
      rw [htn] at c22 t32
      have HN : Hid (T (k + 1) = tn) := htn
      clear htn C22 hS us' hU hUs hT32
      generalize mkS [(k : Int) + 1] = bn at *
      go_wp2_with (go_at_call 31; refine (c22 _).mono ?_; rintro e w1 ⟨rfl, hb⟩)
      have e1 := HU.out
      rw [HN.out] at e1
      refine ⟨⟨k + 1, by omega, by rw [e1], by rw [HN.out], by go_num, Bel.call (Bel.al hB _) hb⟩, ?_⟩
      have z1 := HUK.out
      have z2 : (U k ++ tn).size = (U k).size + 32 := by rw [ByteArray.size_append, t32]
      show m - 32 * 0 - (U k ++ tn).size < m - 32 * 0 - (U k).size
      omega
    · have l1 : ¬ ((U k).size : Int) < (m : Int) := by omega
      have l2 : (m : Int) ≤ ((U k).size : Int) := by omega
      have HS : Hid ((U k).extract 0 m = S) := hS k (by omega) (by omega)
      have l3 : ((U k).size : Int) ≤ 10000 := by omega
      clear C22 hS hU hUs hT32
      go_wp2_with fail
      refine bodyPost_ret (v := .tuple #[.string S, .int .i64 0]) (by simp [results, Tryd.results40, go_sem]; exact HS.out) rfl ?_
      exact ⟨rfl, hB⟩
theorem rexpand_yes (prk info : ByteArray) (hp : prk.size ≤ 100000) (hi : info.size ≤ 10000) (m : Nat) (hm : m ≤ 8160) (w : World) :
    Calls Tryd.prog 40 #[.string prk, .string info, .int .i64 (m : Int)] w fun e w' => e = .returned (.tuple #[.string (expS prk info m), .int .i64 0]) ∧ Below w.heap.size w w' := by
  refine rexpand_core (tB prk info) (fun k => ctB (upT (tB prk info) k)) prk info _ hi m hm rfl (tB_size prk info) rfl (fun k => ?_) (upT_blk prk info) (fun k h1 h2 => ?_) (fun k W hk => ?_) w
  · show ctB (upT (tB prk info) (k + 1)) = _
    rw [upT_succ, ctB_snoc]
  · unfold expS allS
    exact (ctB_pre (upT_pre _ h2) m (by rw [upT_blk]; exact h1)).symm
  · have := rmac_any prk (tB prk info k ++ info ++ by1 ((k : Int) + 1)) hp (by rw [app_size, app_size, by1_size]; have := tB_le prk info k; omega) W
    rw [by1_lo _ (by omega) (by omega)] at this
    show Calls _ _ _ _ _
    rw [tB, by1_lo _ (by omega) (by omega)]
    exact this
theorem rexpand_no (prk info : ByteArray) (n : Int) (hn : n < 0 ∨ 8160 < n) (w : World) :
    Calls Tryd.prog 40 #[.string prk, .string info, .int .i64 n] w fun e w' => e = .returned (.tuple #[.string ⟨#[]⟩, .int .i64 13]) ∧ Below w.heap.size w w' := by
  rcases hn with h | h
  · go_enter Tryd.func40, Tryd.ntmps40
    go_wp2_with fail
    refine bodyPost_ret (v := .tuple #[.string ⟨#[]⟩, .int .i64 13]) (by simp [results, Tryd.results40, go_sem]) rfl ?_
    exact ⟨rfl, Below.refl _ _⟩
  · go_enter Tryd.func40, Tryd.ntmps40
    go_wp2_with fail
    refine bodyPost_ret (v := .tuple #[.string ⟨#[]⟩, .int .i64 13]) (by simp [results, Tryd.results40, go_sem]) rfl ?_
    exact ⟨rfl, Below.refl _ _⟩
theorem rexpand_any (prk info : ByteArray) (hp : prk.size ≤ 100000) (hi : info.size ≤ 10000) (n : Int) (w : World) :
    Calls Tryd.prog 40 #[.string prk, .string info, .int .i64 n] w fun e w' => e = .returned (.tuple #[.string (exS prk info n), .int .i64 (exE n)]) ∧ Below w.heap.size w w' := by
  unfold exS exE
  by_cases h : n < 0 ∨ 8160 < n
  · rw [if_pos h, if_pos h]; exact rexpand_no prk info n h w
  · rw [if_neg h, if_neg h]
    have e : ((n.toNat : Nat) : Int) = n := by omega
    have := rexpand_yes prk info hp hi n.toNat (by omega) w
    rwa [e] at this
theorem extract_any (a b : ByteArray) (ha : a.size ≤ 1000000) (hb : b.size ≤ 1000000) (w : World) (hT : Tab w) : Calls Tryd.prog 36 #[.string a, .string b] w fun e w' => e = .returned (.string (macS a b)) ∧ Below w.heap.size w w' := by
  have C := mac_any a b ha hb w hT
  generalize macS a b = S at *
  go_enter Tryd.func36, Tryd.ntmps36
  go_wp2_with (go_at_call 30; refine C.mono ?_; rintro e w1 ⟨rfl, hb⟩)
  go_ret
  exact ⟨rfl, hb⟩
theorem rextract_any (a b : ByteArray) (ha : a.size ≤ 100000) (hb : b.size ≤ 100000) (w : World) : Calls Tryd.prog 27 #[.string a, .string b] w fun e w' => e = .returned (.string (macS a b)) ∧ Below w.heap.size w w' := by
  have C := rmac_any a b ha hb w
  generalize macS a b = S at *
  go_enter Tryd.func27, Tryd.ntmps27
  go_wp2_with (go_at_call 31; refine C.mono ?_; rintro e w1 ⟨rfl, hb⟩)
  go_ret
  exact ⟨rfl, hb⟩
end Go.Proofs.YtfglpcfacjedmaaDoor
