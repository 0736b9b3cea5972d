/- Records as bytes: kinds, the most bytes of a kind, heads, Frame, of the program. -/
import Derived.Test.YtjaljnfijhfkcaaB3
set_option linter.all false
set_option maxRecDepth 100000
namespace Go.Proofs.Ytjaljnfijhfkcaa
open Go.RowKit Go.Sort
/-- A kind of records. -/
def knB (k : Int) : Bool := k == 21 || k == 22 || k == 23
theorem knB_iff (k : Int) : knB k = true ↔ 21 ≤ k ∧ k ≤ 23 := by unfold knB; simp; omega
/-- How many bytes a record of a kind may have. -/
def mst (k : Int) : Nat := if k = 23 then 16640 else 16384
theorem mst_cases (k : Int) : mst k = 16640 ∨ mst k = 16384 := by unfold mst; split <;> simp
theorem isKind_any (k : Int) (w : World) : Calls Try.prog 13 #[.int .i64 k] w fun e w' => e = .returned (.bool (knB k)) ∧ w' = w := by
  by_cases h1 : k = 21
  · subst h1
    rw [show knB 21 = true from rfl]
    go_enter Try.func13, Try.ntmps13
    go_wp2
    go_ret
    exact ⟨rfl, rfl⟩
  by_cases h2 : k = 22
  · subst h2
    rw [show knB 22 = true from rfl]
    go_enter Try.func13, Try.ntmps13
    go_wp2
    go_ret
    exact ⟨rfl, rfl⟩
  by_cases h3 : k = 23
  · subst h3
    rw [show knB 23 = true from rfl]
    go_enter Try.func13, Try.ntmps13
    go_wp2
    go_ret
    exact ⟨rfl, rfl⟩
  unfold knB
  go_enter Try.func13, Try.ntmps13
  go_wp2
  go_ret
  exact ⟨by simp [h1, h2, h3], rfl⟩
theorem mostBytes_any (k : Int) (w : World) : Calls Try.prog 14 #[.int .i64 k] w fun e w' => e = .returned (.int .i64 (mst k : Int)) ∧ w' = w := by
  unfold mst
  by_cases h3 : k = 23
  · rw [if_pos h3]
    go_enter Try.func14, Try.ntmps14
    go_wp2
    go_ret
    exact ⟨rfl, rfl⟩
  rw [if_neg h3]
  go_enter Try.func14, Try.ntmps14
  go_wp2
  go_ret
  exact ⟨rfl, rfl⟩
/-- What stands ahead of n bytes. -/
def hdS (k n : Int) : ByteArray := mkS [k % 256, 3, 3, n / 256 % 256, n % 256]
theorem hdS_size (k n : Int) : (hdS k n).size = 5 := by unfold hdS; rw [mkS_size]; rfl
theorem hdS_is (k n : Int) : mkS [k % 256] ++ (⟨#[3, 3]⟩ : ByteArray) ++ mkS [n / 256 % 256, n % 256] = hdS k n := by
  apply ba_ext
  unfold hdS
  rw [ap_list, ap_list, mkS_list, mkS_list, mkS_list]
  rfl
theorem head_any (k n : Int) (w : World) : Calls Try.prog 15 #[.int .i64 k, .int .i64 n] w fun e w' => e = .returned (.string (hdS k n)) ∧ Below w.heap.size w w' := by
  have cv := convC (w.alloc (.cells #[.int .u8 (k % 256)] 5)) w.heap.size 1 1 [k % 256] rfl (news_new w [.int .u8 (k % 256)] 5)
  have cv2 := convC ((w.alloc (.cells #[.int .u8 (k % 256)] 5)).alloc (.cells #[.int .u8 (n / 256 % 256), .int .u8 (n % 256)] 5)) (w.heap.size + 1) 2 2 [n / 256 % 256, n % 256] rfl (by have := news_new (w.alloc (.cells #[.int .u8 (k % 256)] 5)) [.int .u8 (n / 256 % 256), .int .u8 (n % 256)] 5; simpa using this)
  have H := hdS_is k n
  have z1 : (mkS [k % 256]).size = 1 := by rw [mkS_size]; rfl
  have z2 : (mkS [n / 256 % 256, n % 256]).size = 2 := by rw [mkS_size]; rfl
  generalize mkS [k % 256] = S at *
  generalize mkS [n / 256 % 256, n % 256] = S2 at *
  have H2 : Hid (S ++ (⟨#[3, 3]⟩ : ByteArray) ++ S2 = hdS k n) := H
  clear H
  go_enter Try.func15, Try.ntmps15
  go_wp2_with fail
  go_ret
  exact ⟨by rw [← H2.out]; rfl, by go_grown⟩
/-- A record, its cells. -/
def rcV (k : Int) (b : ByteArray) : Value := .agg #[.int .i64 k, .string b]
def rc2 (k : Int) (b : ByteArray) (j : Nat) : Value := if j = 0 then .int .i64 k else .string b
theorem rc2_at (k : Int) (b : ByteArray) (j : Nat) (hj : j < 2) : (#[.int .i64 k, .string b] : Array Value)[j]? = some (rc2 k b j) := by
  have : j = 0 ∨ j = 1 := by omega
  rcases this with rfl | rfl <;> rfl
/-- What is wrong with a record, and what it is as bytes. -/
def frE (k : Int) (b : ByteArray) : Int := if knB k = true then (if mst k < b.size then 12 else 0) else 23
def frS (k : Int) (b : ByteArray) : ByteArray := if frE k b = 0 then hdS k (b.size : Int) ++ b else ⟨#[]⟩
theorem Frame_1 (k : Int) (b : ByteArray) (w : World)
    (C1 : ∀ W, Calls Try.prog 13 #[.int .i64 k] W fun e w' => e = .returned (.bool false) ∧ w' = W) :
    Calls Try.prog 6 #[rcV k b] w fun e w' => e = .returned (.tuple #[.string ⟨#[]⟩, .int .i64 23]) ∧ Below w.heap.size w w' := by
  unfold rcV
  go_enter Try.func6, Try.ntmps6
  go_wp2_with (go_at_call 13; refine (C1 _).mono ?_; rintro e w1 ⟨rfl, rfl⟩)
  refine bodyPost_ret (v := .tuple #[.string ⟨#[]⟩, .int .i64 23]) (by simp [results, Try.results6, go_sem]) rfl ⟨rfl, by go_grown⟩
theorem Frame_2 (k : Int) (b S : ByteArray) (m : Int) (r : Bool) (hr : decide (m < (b.size : Int)) = r) (z : S.size = 5) (hb : r = false → b.size ≤ 1000000) (w : World)
    (C1 : ∀ W, Calls Try.prog 13 #[.int .i64 k] W fun e w' => e = .returned (.bool true) ∧ w' = W)
    (C2 : ∀ W, Calls Try.prog 14 #[.int .i64 k] W fun e w' => e = .returned (.int .i64 m) ∧ Below W.heap.size W w')
    (C3 : ∀ W, Calls Try.prog 15 #[.int .i64 k, .int .i64 (b.size : Int)] W fun e w' => e = .returned (.string S) ∧ Below W.heap.size W w') :
    Calls Try.prog 6 #[rcV k b] w fun e w' => e = .returned (.tuple (if r = true then #[.string ⟨#[]⟩, .int .i64 12] else #[.string (S ++ b), .int .i64 0])) ∧ Below w.heap.size w w' := by
  unfold rcV
  go_enter Try.func6, Try.ntmps6
  go_wp2_with (go_at_call 13; refine (C1 _).mono ?_; rintro e w1 ⟨rfl, rfl⟩)
  have A0 := Arr.new w _ 23 _ rfl _ 2 (rc2_at k b)
  have B0 : Below w.heap.size w (w.alloc (.cells #[.int .i64 k, .string b] 23)) := by go_grown
  generalize w.alloc (.cells #[.int .i64 k, .string b] 23) = W at *
  have r0 := fun ds os => cell_regrown (A0.cv 0 (by omega) (.int .i64 k) rfl) ds os
  have r1 := fun ds os => cell_regrown (A0.cv 1 (by omega) (.string b) rfl) ds os
  refine wp_region_quiet_below (by kernel_rfl) (by kernel_rfl) ?_
  repeat (go_big_quiet_step (first | (go_at_call 14; exact Calls.regrown_of (C2 _))))
  refine wpQuiet_nil ?_
  intro w1 hw'
  obtain ⟨⟨dq, osq⟩, hw''⟩ := hw'
  have hb1 := below_of hw''
  clear hw'' r0 r1
  have A1 := A0.to' hb1
  have B1 := Bel.call B0 hb1
  clear A0 B0 hb1 C1 C2
  cases r with
  | true =>
    go_wp2_with fail
    refine bodyPost_ret (v := .tuple #[.string ⟨#[]⟩, .int .i64 12]) (by simp [results, Try.results6, go_sem]) rfl ⟨rfl, B1⟩
  | false =>
    have hb := hb rfl
    have zb : (b.size : Int) ≤ 1000000 := by omega
    have zs : (S.size : Int) = 5 := by omega
    go_wp2_with fail
    have r0 := fun ds os => cell_regrown (A1.cv 0 (by omega) (.int .i64 k) rfl) ds os
    have r1 := fun ds os => cell_regrown (A1.cv 1 (by omega) (.string b) rfl) ds os
    refine wp_region_quiet_below (by kernel_rfl) (by kernel_rfl) ?_
    repeat (go_big_quiet_step (first | (go_at_call 15; exact Calls.regrown_of (C3 _))))
    refine wpQuiet_nil ?_
    intro w2 hw'
    obtain ⟨⟨dq, osq⟩, hw''⟩ := hw'
    have hb2 := below_of hw''
    clear hw'' r0 r1
    have B2 := Bel.call B1 hb2
    go_wp2_with fail
    refine bodyPost_ret (v := .tuple #[.string (S ++ b), .int .i64 0]) (by simp [results, Try.results6, go_sem]) rfl ⟨rfl, B2⟩
theorem cB {f : Nat} {a : Array Value} {v : Value} (h : ∀ W, Calls Try.prog f a W fun e w' => e = .returned v ∧ w' = W) (W : World) : Calls Try.prog f a W fun e w' => e = .returned v ∧ Below W.heap.size W w' :=
  (h W).mono (by rintro e w' ⟨h, rfl⟩; exact ⟨h, Below.refl _ _⟩)
theorem Frame_any (k : Int) (b : ByteArray) (w : World) : Calls Try.prog 6 #[rcV k b] w fun e w' => e = .returned (.tuple #[.string (frS k b), .int .i64 (frE k b)]) ∧ Below w.heap.size w w' := by
  unfold frS
  cases h : knB k with
  | false =>
    have e : frE k b = 23 := by unfold frE; rw [if_neg (by rw [h]; decide)]
    rw [e, if_neg (by decide)]
    exact Frame_1 k b w (fun W => by rw [← h]; exact isKind_any k W)
  | true =>
    have C := fun r hr hb => Frame_2 k b (hdS k (b.size : Int)) (mst k : Int) r hr (hdS_size _ _) hb w (fun W => by rw [← h]; exact isKind_any k W) (cB (fun W => mostBytes_any k W)) (fun W => head_any k _ W)
    by_cases hm : mst k < b.size
    · have e : frE k b = 12 := by unfold frE; rw [if_pos h, if_pos hm]
      rw [e, if_neg (by decide)]
      exact C true (decide_eq_true (by omega)) (by intro h; cases h)
    · have e : frE k b = 0 := by unfold frE; rw [if_pos h, if_neg hm]
      rw [e, if_pos rfl]
      exact C false (decide_eq_false (by omega)) (fun _ => by have := mst_cases k; omega)
end Go.Proofs.Ytjaljnfijhfkcaa
