/- The reference: kinds, heads, Frame (small seat). -/
import Derived.Test.YtjaljnfijhfkcaaE10
set_option linter.all false
set_option maxRecDepth 100000
namespace Go.Proofs.Ytjaljnfijhfkcaa
open Go.RowKit Go.Sort
theorem rknown_any (k : Int) (w : World) : Calls Try.prog 16 #[.int .i64 k] w fun e w' => e = .returned (.bool (knB k)) ∧ w' = w := by
  cases h : knB k with
  | true =>
    obtain ⟨h1, h2⟩ := (knB_iff k).1 h
    clear h
    go_enter Try.func16, Try.ntmps16
    go_wp2
    go_ret
    exact ⟨by simp [h1, h2], rfl⟩
  | false =>
    have h' : ¬ (21 ≤ k ∧ k ≤ 23) := fun c => by rw [(knB_iff k).2 c] at h; cases h
    clear h
    by_cases h1 : 21 ≤ k
    · have h2 : ¬ k ≤ 23 := fun c => h' ⟨h1, c⟩
      clear h'
      go_enter Try.func16, Try.ntmps16
      go_wp2
      go_ret
      exact ⟨by simp [h1, h2], rfl⟩
    · clear h'
      go_enter Try.func16, Try.ntmps16
      go_wp2
      go_ret
      exact ⟨by simp [h1], rfl⟩
theorem rhead_any (k n : Int) (n0 : 0 ≤ n) (n1 : n ≤ 9223372036854775807) (w : World) : Calls Try.prog 18 #[.int .i64 k, .int .i64 n] w fun e w' => e = .returned (.string (hdS k n)) ∧ Below w.heap.size w w' := by
  have cv := convC (w.alloc (.cells #[.int .u8 (k % 256), .int .u8 3, .int .u8 3, .int .u8 (n / 256 % 256), .int .u8 (n % 256)] 5)) w.heap.size 5 5 [k % 256, 3, 3, n / 256 % 256, n % 256] rfl (news_new w [.int .u8 (k % 256), .int .u8 3, .int .u8 3, .int .u8 (n / 256 % 256), .int .u8 (n % 256)] 5)
  rw [show mkS [k % 256, 3, 3, n / 256 % 256, n % 256] = hdS k n from rfl] at cv
  generalize hdS k n = S at *
  have t1 : n.tdiv 256 = n / 256 := Int.tdiv_eq_ediv_of_nonneg n0
  have t2 : n.tmod 256 = n % 256 := Int.tmod_eq_emod_of_nonneg n0
  have t3 : n % 256 % 256 = n % 256 := by omega
  go_enter Try.func18, Try.ntmps18
  go_wp2_with fail
  go_ret
  exact ⟨rfl, by go_grown⟩
theorem rmost_any (k : Int) (w : World) : Calls Try.prog 17 #[.int .i64 k] w fun e w' => e = .returned (.int .i64 (mst k : Int)) ∧ w' = w := by
  unfold mst
  by_cases h3 : k = 23
  · rw [if_pos h3]
    go_enter Try.func17, Try.ntmps17
    go_wp2
    go_ret
    exact ⟨rfl, rfl⟩
  rw [if_neg h3]
  go_enter Try.func17, Try.ntmps17
  go_wp2
  go_ret
  exact ⟨rfl, rfl⟩
theorem rFrame_1 (k : Int) (b : ByteArray) (w : World)
    (C1 : ∀ W, Calls Try.prog 16 #[.int .i64 k] W fun e w' => e = .returned (.bool false) ∧ w' = W) :
    Calls Try.prog 7 #[rcV k b] w fun e w' => e = .returned (.tuple #[.string ⟨#[]⟩, .int .i64 23]) ∧ Below w.heap.size w w' := by
  unfold rcV
  go_enter Try.func7, Try.ntmps7
  go_wp2_with (go_at_call 16; refine (C1 _).mono ?_; rintro e w1 ⟨rfl, rfl⟩)
  refine bodyPost_ret (v := .tuple #[.string ⟨#[]⟩, .int .i64 23]) (by simp [results, Try.results7, go_sem]) rfl ⟨rfl, by go_grown⟩
theorem rFrame_2 (k : Int) (b S : ByteArray) (m : Int) (r : Bool) (hr : decide (m < (b.size : Int)) = r) (z : S.size = 5) (hb : r = false → b.size ≤ 1000000) (w : World)
    (C1 : ∀ W, Calls Try.prog 16 #[.int .i64 k] W fun e w' => e = .returned (.bool true) ∧ w' = W)
    (C2 : ∀ W, Calls Try.prog 17 #[.int .i64 k] W fun e w' => e = .returned (.int .i64 m) ∧ Below W.heap.size W w')
    (C3 : b.size ≤ 1000000 → ∀ W, Calls Try.prog 18 #[.int .i64 k, .int .i64 (b.size : Int)] W fun e w' => e = .returned (.string S) ∧ Below W.heap.size W w') :
    Calls Try.prog 7 #[rcV k b] w fun e w' => e = .returned (.tuple (if r = true then #[.string ⟨#[]⟩, .int .i64 12] else #[.string (S ++ b), .int .i64 0])) ∧ Below w.heap.size w w' := by
  unfold rcV
  go_enter Try.func7, Try.ntmps7
  go_wp2_with (go_at_call 16; refine (C1 _).mono ?_; rintro e w1 ⟨rfl, rfl⟩)
  have A0 := Arr.new w _ 23 _ rfl _ 2 (rc2_at k b)
  have B0 : Below w.heap.size w (w.alloc (.cells #[.int .i64 k, .string b] 23)) := by go_grown
  generalize w.alloc (.cells #[.int .i64 k, .string b] 23) = W at *
  have r0 := fun ds os => cell_regrown (A0.cv 0 (by omega) (.int .i64 k) rfl) ds os
  have r1 := fun ds os => cell_regrown (A0.cv 1 (by omega) (.string b) rfl) ds os
  refine wp_region_quiet_below (by kernel_rfl) (by kernel_rfl) ?_
  repeat (go_big_quiet_step (first | (go_at_call 17; exact Calls.regrown_of (C2 _))))
  refine wpQuiet_nil ?_
  intro w1 hw'
  obtain ⟨⟨dq, osq⟩, hw''⟩ := hw'
  have hb1 := below_of hw''
  clear hw'' r0 r1
  have A1 := A0.to' hb1
  have B1 := Bel.call B0 hb1
  clear A0 B0 hb1 C1 C2
  cases r with
  | true =>
    go_wp2_with fail
    refine bodyPost_ret (v := .tuple #[.string ⟨#[]⟩, .int .i64 12]) (by simp [results, Try.results7, go_sem]) rfl ⟨rfl, B1⟩
  | false =>
    have hb := hb rfl
    replace C3 := C3 hb
    have zb : (b.size : Int) ≤ 1000000 := by omega
    have zs : (S.size : Int) = 5 := by omega
    go_wp2_with fail
    have r0 := fun ds os => cell_regrown (A1.cv 0 (by omega) (.int .i64 k) rfl) ds os
    have r1 := fun ds os => cell_regrown (A1.cv 1 (by omega) (.string b) rfl) ds os
    refine wp_region_quiet_below (by kernel_rfl) (by kernel_rfl) ?_
    repeat (go_big_quiet_step (first | (go_at_call 18; exact Calls.regrown_of (C3 _))))
    refine wpQuiet_nil ?_
    intro w2 hw'
    obtain ⟨⟨dq, osq⟩, hw''⟩ := hw'
    have hb2 := below_of hw''
    clear hw'' r0 r1
    have B2 := Bel.call B1 hb2
    go_wp2_with fail
    refine bodyPost_ret (v := .tuple #[.string (S ++ b), .int .i64 0]) (by simp [results, Try.results7, go_sem]) rfl ⟨rfl, B2⟩
theorem rFrame_any (k : Int) (b : ByteArray) (w : World) : Calls Try.prog 7 #[rcV k b] w fun e w' => e = .returned (.tuple #[.string (frS k b), .int .i64 (frE k b)]) ∧ Below w.heap.size w w' := by
  unfold frS
  cases h : knB k with
  | false =>
    have e : frE k b = 23 := by unfold frE; rw [if_neg (by rw [h]; decide)]
    rw [e, if_neg (by decide)]
    exact rFrame_1 k b w (fun W => by rw [← h]; exact rknown_any k W)
  | true =>
    have C := fun r hr hb => rFrame_2 k b (hdS k (b.size : Int)) (mst k : Int) r hr (hdS_size _ _) hb w (fun W => by rw [← h]; exact rknown_any k W) (cB (fun W => rmost_any k W)) (fun hb W => rhead_any k _ (by omega) (by omega) W)
    by_cases hm : mst k < b.size
    · have e : frE k b = 12 := by unfold frE; rw [if_pos h, if_pos hm]
      rw [e, if_neg (by decide)]
      exact C true (decide_eq_true (by omega)) (by intro h; cases h)
    · have e : frE k b = 0 := by unfold frE; rw [if_pos h, if_neg hm]
      rw [e, if_pos rfl]
      exact C false (decide_eq_false (by omega)) (fun _ => by have := mst_cases k; omega)
end Go.Proofs.Ytjaljnfijhfkcaa
