/- The reference: kinds, heads, the nonce of a direction. -/
import Derived.Test.YtjaljnfijhfkcaaGreatDoorJ20
set_option linter.all false
set_option maxRecDepth 100000
namespace Go.Proofs.YtjaljnfijhfkcaaGreatDoor
open Go.RowKit Go.Sort Lin
theorem rknown_any (k : Int) (w : World) : Calls Tryz.prog 22 #[.int .i64 k] w fun e w' => e = .returned (.bool (knB k)) ∧ w' = w := by
  cases h : knB k with
  | true =>
    obtain ⟨h1, h2⟩ := (knB_iff k).1 h
    clear h
    go_enter Tryz.func22, Tryz.ntmps22
    go_wp2
    go_ret
    exact ⟨by simp [h1, h2], rfl⟩
  | false =>
    have h' : ¬ (21 ≤ k ∧ k ≤ 23) := fun c => by rw [(knB_iff k).2 c] at h; cases h
    clear h
    by_cases h1 : 21 ≤ k
    · have h2 : ¬ k ≤ 23 := fun c => h' ⟨h1, c⟩
      clear h'
      go_enter Tryz.func22, Tryz.ntmps22
      go_wp2
      go_ret
      exact ⟨by simp [h1, h2], rfl⟩
    · clear h'
      go_enter Tryz.func22, Tryz.ntmps22
      go_wp2
      go_ret
      exact ⟨by simp [h1], rfl⟩
theorem rhead_any (k n : Int) (n0 : 0 ≤ n) (n1 : n ≤ 9223372036854775807) (w : World) : Calls Tryz.prog 23 #[.int .i64 k, .int .i64 n] w fun e w' => e = .returned (.string (hdS k n)) ∧ Below w.heap.size w w' := by
  have cv := convC (w.alloc (.cells #[.int .u8 (k % 256), .int .u8 3, .int .u8 3, .int .u8 (n / 256 % 256), .int .u8 (n % 256)] 5)) w.heap.size 5 5 [k % 256, 3, 3, n / 256 % 256, n % 256] rfl (news_new w [.int .u8 (k % 256), .int .u8 3, .int .u8 3, .int .u8 (n / 256 % 256), .int .u8 (n % 256)] 5)
  rw [show mkS [k % 256, 3, 3, n / 256 % 256, n % 256] = hdS k n from rfl] at cv
  generalize hdS k n = S at *
  have t1 : n.tdiv 256 = n / 256 := Int.tdiv_eq_ediv_of_nonneg n0
  have t2 : n.tmod 256 = n % 256 := Int.tmod_eq_emod_of_nonneg n0
  have t3 : n % 256 % 256 = n % 256 := by omega
  go_enter Tryz.func23, Tryz.ntmps23
  go_wp2_with fail
  go_ret
  exact ⟨rfl, by go_grown⟩
set_option maxHeartbeats 1000000 in
theorem rNonce_core (key iv T : ByteArray) (q : Int) (hk : key.size = 16) (hi : iv.size = 12) (q0 : 0 ≤ q) (q1 : q < 18446744073709551616) (hT : noS iv q = T) (w : World) :
    Calls Tryz.prog 9 #[sdV key iv q] w fun e w' => e = .returned (.tuple #[.string T, .int .i64 0]) ∧ Below w.heap.size w w' := by
  unfold sdV
  have k16 : (key.size : Int) = 16 := by omega
  have i12 : (iv.size : Int) = 12 := by omega
  go_enter Tryz.func9, Tryz.ntmps9
  obtain ⟨cap, w2, hcv, A, hg, B2⟩ := conv_row (w.alloc (.cells #[.string key, .string iv, .int .u64 q] 24)) iv
  have A0 := (Arr.new w _ 24 _ rfl _ 3 (sd3_at key iv q)).to' B2
  replace B2 : Below w.heap.size w w2 := Bel.call (by go_grown) B2
  rw [World.size_alloc] at hcv A hg
  rw [hi] at A
  go_wp2_with fail
  clear hcv
  have hgw : ∃ g, w.heap.size + 1 = g := ⟨_, rfl⟩
  obtain ⟨g, eg⟩ := hgw
  rw [eg] at A hg ⊢
  have wg : w.heap.size < g := by omega
  clear eg
  generalize hb0 : w.heap.size = b at *
  have HB0 : Hid (w.heap.size = b) := hb0
  clear hb0
  go_loopw [5] (fun i wr => ∃ k : Nat, k ≤ 8 ∧ i = .int .i64 k ∧ Below b w wr ∧ g < wr.heap.size ∧ Arr wr b 3 (sd3 key iv q) ∧ Arr wr g 12 (bc (noF (bF iv) q k))) (fun i _ => 8 - (intOf i).toNat)
  case atStart => exact ⟨0, by omega, rfl, B2, hg, A0, A.congr fun j _ => by unfold bc noF; rw [if_neg (by omega)]⟩
  case round =>
    clear A hg B2 A0
    obtain ⟨k, hk, rfl, hB, hg, A0, A⟩ := hrel
    by_cases hlt : k < 8
    · have k0 : (0 : Int) ≤ (k : Int) := by omega
      have k1 : (k : Int) < 8 := by omega
      obtain ⟨m, hm⟩ : ∃ m : Nat, 11 - k = m := ⟨_, rfl⟩
      have m0 : (11 : Int) - (k : Int) = (m : Int) := by omega
      have m1 : (m : Int) ≤ 11 := by omega
      have m2 : m < 12 := by omega
      have HM : Hid (11 - k = m) := hm
      clear hm
      have r0 := fun ds os => cell_regrown (A.cv m m2 (.int .u8 ((bF iv m).val : Int)) (by unfold bc noF; rw [if_neg (by have := HM.out; omega)])) ds os
      have r1 := fun ds os => cell_regrown (A0.cv 2 (by omega) (.int .u64 q) rfl) ds os
      have X : bits .xor .u8 ((bF iv m).val : Int) (q / 2 ^ (8 * k) % 256) = ((xr (bF iv m) (qB q k)).val : Int) := by rw [← qB_is]; exact xr8 _ _
      have HS : Hid (∀ j, j < 12 → (if j = m then Value.int .u8 ((xr (bF iv m) (qB q k)).val : Int) else bc (noF (bF iv) q k) j) = bc (noF (bF iv) q (k + 1)) j) := by
        show ∀ j, j < 12 → _
        intro j hj
        have hm := HM.out
        unfold bc noF
        by_cases e : j = m
        · subst e; rw [if_pos rfl, if_pos (by omega), show 11 - j = k by omega]
        · rw [if_neg e]
          by_cases e2 : 12 - k ≤ j
          · rw [if_pos e2, if_pos (by omega)]
          · rw [if_neg e2, if_neg (by omega)]
      generalize xr (bF iv m) (qB q k) = c at *
      go_wp2_with fail
      refine wp_region_below_tail 16 (by kernel_rfl) (by kernel_rfl) ?_
      simp only [List.take_succ_cons, List.take_zero, List.drop_succ_cons, List.drop_zero]
      repeat (go_big_quiet_step (fail))
      refine wpQuiet_nil ?_
      intro w3 hw'
      obtain ⟨⟨dq, osq⟩, hw''⟩ := hw'
      have hb := below_of hw''
      clear hw'' r0 r1 X
      have A3 := A.below hb hg
      have A03 := A0.to' hb
      have hB3 := hB.trans (hb.mono (by omega))
      have hg3 : g < w3.heap.size := Nat.lt_of_lt_of_le hg hb.size
      clear A A0 hB hb
      have c0 := A3.c m m2
      have z0 := A3.z m m2
      go_wp2_with fail
      exact ⟨⟨k + 1, by omega, by go_num, hB3.setCell (p := ⟨g, m, none⟩) (by show b ≤ g; omega) _, by rw [size_set]; exact hg3, A03.other (by omega) _, (A3.set m m2 _).congr HS.out⟩, by simp [intOf]; omega⟩
    · have e : k = 8 := by omega
      subst e
      have cv := convC wr g 12 cap ((List.range 12).map fun j => ((noF (bF iv) q 8 j).val : Int)) rfl (by
        intro j v hv
        rw [Addr.add_mid, Nat.zero_add]
        have hj : j < 12 := by have := (List.getElem?_eq_some_iff.1 hv).1; simpa using this
        rw [A.c j hj, ← hv]
        simp [hj, bc])
      rw [show mkS ((List.range 12).map fun j => ((noF (bF iv) q 8 j).val : Int)) = T from hT] at cv
      clear A
      rw [← HB0.out] at hB
      go_wp2_with fail
      refine bodyPost_ret (v := .tuple #[.string T, .int .i64 0]) (by simp [results, Tryz.results9, go_sem]) rfl ⟨rfl, hB⟩
set_option maxHeartbeats 1000000 in
theorem rNonce_no (key iv : ByteArray) (q : Int) (h : ¬ (key.size = 16 ∧ iv.size = 12)) (w : World) :
    Calls Tryz.prog 9 #[sdV key iv q] w fun e w' => e = .returned (.tuple #[.string ⟨#[]⟩, .int .i64 10]) ∧ Below w.heap.size w w' := by
  unfold sdV
  by_cases h1 : key.size = 16
  · have k16 : (key.size : Int) = 16 := by omega
    have i12 : ¬ (iv.size : Int) = 12 := by omega
    clear h h1
    go_enter Tryz.func9, Tryz.ntmps9
    go_wp2_with fail
    refine bodyPost_ret (v := .tuple #[.string ⟨#[]⟩, .int .i64 10]) (by simp [results, Tryz.results9, go_sem]) rfl ⟨rfl, by go_grown⟩
  · have k16 : ¬ (key.size : Int) = 16 := by omega
    clear h h1
    go_enter Tryz.func9, Tryz.ntmps9
    go_wp2_with fail
    refine bodyPost_ret (v := .tuple #[.string ⟨#[]⟩, .int .i64 10]) (by simp [results, Tryz.results9, go_sem]) rfl ⟨rfl, by go_grown⟩
theorem rNonce_any (key iv : ByteArray) (q : Int) (q0 : 0 ≤ q) (q1 : q < 18446744073709551616) (w : World) :
    Calls Tryz.prog 9 #[sdV key iv q] w fun e w' => e = .returned (.tuple #[.string (noR key iv q), .int .i64 (noE key iv)]) ∧ Below w.heap.size w w' := by
  unfold noR
  by_cases h : key.size = 16 ∧ iv.size = 12
  · have e : noE key iv = 0 := by unfold noE; rw [if_pos h]
    rw [e, if_pos rfl]
    exact rNonce_core key iv _ q h.1 h.2 q0 q1 rfl w
  · have e : noE key iv = 10 := by unfold noE; rw [if_neg h]
    rw [e, if_neg (by decide)]
    exact rNonce_no key iv q h w
end Go.Proofs.YtjaljnfijhfkcaaGreatDoor
