/- awake tells true: FIPS 197's example. -/
import Derived.Test.YtnmikancbfaejaaK1
set_option linter.all false
set_option maxRecDepth 100000
namespace Go.Proofs.Ytnmikancbfaejaa
open Go.RowKit Go.Sort
/-- The multiples of c, below k of them. -/
def mlL (c k : Nat) : List Int := (List.range k).map fun j => ((c * j : Nat) : Int)
theorem mlL_succ (c k : Nat) : mlL c (k + 1) = mlL c k ++ [((c * k : Nat) : Int)] := by simp [mlL, List.range_succ]
theorem mkS_app (a b : List Int) : mkS (a ++ b) = mkS a ++ mkS b := by
  apply ba_ext
  rw [ap_list, mkS_list, mkS_list, mkS_list, List.map_append]
set_option maxHeartbeats 4000000 in
theorem awake_core (A B C : ByteArray) (w : World) (hA : A = mkS (mlL 1 16)) (hB0 : B = mkS (mlL 17 16)) (hC : C = ⟨#[105, 196, 224, 216, 106, 123, 4, 48, 216, 205, 183, 128, 112, 180, 197, 90]⟩)
    (C15 : ∀ W, Calls Try.prog 15 #[.string A, .string B] W fun e w' => e = .returned (.tuple #[.string C, .int .i64 0]) ∧ Below W.heap.size W w')
    (C10 : ∀ W, Calls Try.prog 10 #[.int .u8 0] W fun e w' => e = .returned (.int .u8 99) ∧ Below W.heap.size W w')
    (C8 : ∀ W, Calls Try.prog 8 #[.int .u8 2, .int .u8 128] W fun e w' => e = .returned (.int .u8 27) ∧ w' = W) :
    Calls Try.prog 12 #[] w fun e w' => e = .returned (.bool true) ∧ Below w.heap.size w w' := by
  go_enter Try.func12, Try.ntmps12
  go_wp2_with fail
  go_loopw [1, 2, 6] (fun s t i wr => ∃ k : Nat, k ≤ 16 ∧ s = .string (mkS (mlL 1 k)) ∧ t = .string (mkS (mlL 17 k)) ∧ i = .int .i64 (k : Int) ∧ Below w.heap.size w wr) (fun _ _ i _ => 16 - (intOf i).toNat)
  case atStart => exact ⟨0, by omega, rfl, rfl, rfl, Below.refl _ _⟩
  case round =>
    obtain ⟨k, hk, rfl, rfl, rfl, hB⟩ := hrel
    have k0 : (0 : Int) ≤ (k : Int) := by omega
    have z1 : (mkS (mlL 1 k)).size = k := by rw [mkS_size]; simp [mlL]
    have z17 : (mkS (mlL 17 k)).size = k := by rw [mkS_size]; simp [mlL]
    by_cases hlt : k < 16
    · have k1 : (k : Int) < 16 := by omega
      have cv1 := convC (wr.alloc (.cells #[.int .u8 (k : Int)] 5)) wr.heap.size 1 1 [(k : Int)] rfl (news_new wr [.int .u8 (k : Int)] 5)
      have cv2 := convC ((wr.alloc (.cells #[.int .u8 (k : Int)] 5)).alloc (.cells #[.int .u8 (17 * (k : Int))] 5)) (wr.heap.size + 1) 1 1 [17 * (k : Int)] rfl (by
        have := news_new (wr.alloc (.cells #[.int .u8 (k : Int)] 5)) [.int .u8 (17 * (k : Int))] 5
        rwa [World.size_alloc] at this)
      have e1 : mkS (mlL 1 (k + 1)) = mkS (mlL 1 k) ++ mkS [(k : Int)] := by rw [mlL_succ, mkS_app, Nat.one_mul]
      have e2 : mkS (mlL 17 (k + 1)) = mkS (mlL 17 k) ++ mkS [17 * (k : Int)] := by rw [mlL_succ, mkS_app]; simp
      have H1 : Hid _ := e1
      have H2 : Hid _ := e2
      have y1 : (mkS [(k : Int)]).size = 1 := mkS_size _
      have y2 : (mkS [17 * (k : Int)]).size = 1 := mkS_size _
      clear e1 e2 hA hB0 hC C15 C10 C8
      generalize mkS [(k : Int)] = b1 at *
      generalize mkS [17 * (k : Int)] = b2 at *
      generalize mkS (mlL 1 k) = U at *
      generalize mkS (mlL 17 k) = V at *
      go_wp2_with fail
      exact ⟨⟨k + 1, by omega, by rw [H1.out], by rw [H2.out], by go_num, Bel.al (Bel.al hB _) _⟩, by simp [intOf]; omega⟩
    · have e : k = 16 := by omega
      rw [show ((k : Nat) : Int) = 16 by omega]
      subst e
      rw [← hA, ← hB0]
      clear z1 z17 hA hB0 hk hlt k0
      go_wp2_with fail
      refine (C15 _).mono ?_
      rintro e w1 ⟨rfl, hb⟩
      have B1 := Bel.call hB hb
      clear hb C15 hB
      subst hC
      go_wp2_with fail
      refine (C10 _).mono ?_
      rintro e w2 ⟨rfl, hb⟩
      have B2 := Bel.call B1 hb
      clear hb C10 B1
      go_wp2_with fail
      refine (C8 _).mono ?_
      rintro e w3 ⟨rfl, rfl⟩
      clear C8
      go_wp2_with fail
      go_ret
      exact ⟨rfl, B2⟩
theorem fipK_is : fipK = mkS (mlL 1 16) := by
  apply ba_ext
  rw [mkS_list]
  decide
theorem fipB_is : fipB = mkS (mlL 17 16) := by
  apply ba_ext
  rw [mkS_list]
  decide
theorem awake_any (w : World) : Calls Try.prog 12 #[] w fun e w' => e = .returned (.bool true) ∧ Below w.heap.size w w' := by
  refine awake_core fipK fipB fipC w fipK_is fipB_is rfl (fun W => ?_) (fun W => ?_) (fun W => ?_)
  · have := encrypt_any fipK fipB W
    rw [ex_rfs, if_pos rfl, ex_enc] at this
    exact this
  · have := sub_any 0 W
    rw [show sb 0 = 99 by decide +kernel] at this
    exact this
  · have := times_any 2 128 W
    rw [show tmF 2 128 = 27 by decide +kernel] at this
    exact this
end Go.Proofs.Ytnmikancbfaejaa
