/- Products of bytes: the program's and the reference's. -/
import Derived.Test.YtogkijjmimaccaaJ3
set_option linter.all false
set_option maxRecDepth 100000
namespace Go.Proofs.Ytogkijjmimaccaa
open Go.RowKit Go.Sort Lin
theorem S_none : ∀ n v, S T8 (fun i => (0 : Nat).testBit i) n v = 0 := by
  intro n
  induction n with
  | zero => intro v; rfl
  | succ n ih => intro v; simp [S]; simpa using ih (T8 v)
/-- What is left to add: the bits of b, n of them. -/
def rst (n : Nat) (b : Nat) (v : Nat) : Nat := S T8 (fun i => b.testBit i) n v
theorem rst_step (n b v : Nat) : rst (n + 1) b v = (if b % 2 = 1 then v else 0) ^^^ rst n (b / 2) (T8 v) := by
  unfold rst
  show (if b.testBit 0 = true then v else 0) ^^^ S T8 (fun i => b.testBit (i + 1)) n (T8 v) = _
  have e : (fun i => b.testBit (i + 1)) = fun i => (b / 2).testBit i := by funext i; rw [Nat.testBit_succ]
  rw [e, Nat.testBit_zero]
  simp
theorem rst_0 (n v : Nat) : rst n 0 v = 0 := S_none n v
theorem dbW_lo (h : By) : dbW (h.val : Int) = ((dF h).val : Int) := by
  have e : ∀ x : By, (x.val : Int) = wd 0 0 0 x := fun x => by unfold wd wdN; simp
  rw [e, dbW_wd, e]
  have : dF 0 = 0 := by decide
  rw [this]
set_option maxHeartbeats 1000000 in
theorem dbl_any (x : Int) (w : World) : Calls Try.prog 78 #[.int .u32 x] w fun e w' => e = .returned (.int .u32 (dbW x)) ∧ w' = w := by
  go_enter Try.func78, Try.ntmps78
  go_wp2
  go_ret
  exact ⟨rfl, rfl⟩
theorem and1 (b : Nat) (hb : b < 256) : bits .and .u8 (b : Int) 1 = ((b % 2 : Nat) : Int) := by
  have := (bits_ao8 b 1 hb (by decide)).1
  rw [show ((1 : Nat) : Int) = 1 from rfl] at this
  rw [this, Nat.and_one_is_mod]
theorem times_any (a b : By) (w : World) : Calls Try.prog 84 #[.int .u8 (a.val : Int), .int .u8 (b.val : Int)] w fun e w' => e = .returned (.int .u8 ((tmF a b).val : Int)) ∧ w' = w := by
  have D := fun (h : By) W => dbl_any (h.val : Int) W
  have a0 : (0 : Int) ≤ (a.val : Int) := by omega
  have a1 : (a.val : Int) < 256 := by have := a.2; omega
  go_enter Try.func84, Try.ntmps84
  go_wp2_with fail
  go_loopw [1, 5, 6] (fun x y z wr => ∃ (n b' : Nat) (h s : By), x = .int .u8 (b' : Int) ∧ y = .int .u32 (h.val : Int) ∧ z = .int .u32 (s.val : Int) ∧ b' < 256 ∧ b' < 2 ^ n ∧ s.val ^^^ rst n b' h.val = tm a.val b.val ∧ wr = w) (fun x _ _ _ => (intOf x).toNat)
  case atStart => exact ⟨8, b.val, a, 0, rfl, rfl, rfl, b.2, b.2, by rw [show (0 : By).val = 0 from rfl, Nat.zero_xor]; rfl, rfl⟩
  case round =>
    obtain ⟨n, b', h, s, rfl, rfl, rfl, hb, hn, hs, rfl⟩ := hrel
    have b0 : (0 : Int) ≤ (b' : Int) := by omega
    have b1 : (b' : Int) < 256 := by omega
    by_cases hz : 0 < b'
    · have z : (0 : Int) < (b' : Int) := by omega
      obtain ⟨m, rfl⟩ : ∃ m, n = m + 1 := ⟨n - 1, by
        rcases n with _ | n
        · simp at hn; omega
        · omega⟩
      have HS : Hid (s.val ^^^ rst (m + 1) b' h.val = tm a.val b.val) := hs
      have HN : Hid (b' < 2 ^ (m + 1)) := hn
      have d := D h
      rw [dbW_lo] at d
      have ea := and1 b' hb
      clear hs hn D
      by_cases p : b' % 2 = 1
      · rw [p] at ea
        rw [show ((1 : Nat) : Int) = 1 from rfl] at ea
        have ex := bits_xor32 s.val h.val (by omega) (by omega)
        have HX : Hid (s.val ^^^ h.val = (xr s h).val) := rfl
        have HD : Hid ((dF h).val = T8 h.val) := rfl
        generalize dF h = h' at *
        go_wp2_with (go_at_call 78; refine (d _).mono ?_; rintro e w1 ⟨rfl, rfl⟩)
        refine ⟨⟨m, b' / 2, h', xr s h, by go_num, rfl, by rw [← HX.out], by omega, ?_, ?_, trivial⟩, by simp [intOf]; omega⟩
        · have := HN.out; rw [Nat.pow_succ] at this; omega
        · have := HS.out
          rw [rst_step, if_pos p, ← Nat.xor_assoc, HX.out] at this
          rw [HD.out]
          exact this
      · have p0 : b' % 2 = 0 := by omega
        rw [p0] at ea
        rw [show ((0 : Nat) : Int) = 0 from rfl] at ea
        have HD : Hid ((dF h).val = T8 h.val) := rfl
        generalize dF h = h' at *
        go_wp2_with (go_at_call 78; refine (d _).mono ?_; rintro e w1 ⟨rfl, rfl⟩)
        refine ⟨⟨m, b' / 2, h', s, by go_num, rfl, rfl, by omega, ?_, ?_, trivial⟩, by simp [intOf]; omega⟩
        · have := HN.out; rw [Nat.pow_succ] at this; omega
        · have := HS.out
          rw [rst_step, if_neg p, Nat.zero_xor] at this
          rw [HD.out]
          exact this
    · have e0 : b' = 0 := by omega
      subst e0
      rw [rst_0, Nat.xor_zero] at hs
      have z : ¬ (0 : Int) < ((0 : Nat) : Int) := by omega
      have s0 : (0 : Int) ≤ (s.val : Int) := by omega
      have s1 : (s.val : Int) < 256 := by have := s.2; omega
      have HS : Hid (s.val = tm a.val b.val) := hs
      clear hs D
      go_wp2_with fail
      go_ret
      refine ⟨?_, rfl⟩
      rw [show (tmF a b).val = s.val from HS.out.symm]
      rfl
theorem hi_is : ∀ a : By, bits .and .u8 (a.val : Int) 128 = ((an a 128).val : Int) := fun a => (bits_ao8 a.val 128 a.2 (by decide)).1
theorem dF_no : ∀ a : By, (an a 128).val = 0 → (dF a).val = a.val * 2 % 256 := by decide +kernel
theorem dF_yes : ∀ a : By, (an a 128).val ≠ 0 → (dF a).val = (a.val * 2 % 256) ^^^ 27 := by decide +kernel
set_option maxHeartbeats 1000000 in
theorem rtimes_any (a b : By) (w : World) : Calls Try.prog 70 #[.int .u8 (a.val : Int), .int .u8 (b.val : Int)] w fun e w' => e = .returned (.int .u8 ((tmF a b).val : Int)) ∧ w' = w := by
  go_enter Try.func70, Try.ntmps70
  go_wp2_with fail
  go_loopw [0, 1, 5, 6] (fun y x z i wr => ∃ (k n b' : Nat) (h s : By), n + k = 8 ∧ i = .int .i64 (k : Int) ∧ x = .int .u8 (b' : Int) ∧ y = .int .u8 (h.val : Int) ∧ z = .int .u8 (s.val : Int) ∧ b' < 256 ∧ s.val ^^^ rst n b' h.val = tm a.val b.val ∧ wr = w) (fun _ _ _ i _ => 8 - (intOf i).toNat)
  case atStart => exact ⟨0, 8, b.val, a, 0, rfl, rfl, rfl, rfl, rfl, b.2, by rw [show (0 : By).val = 0 from rfl, Nat.zero_xor]; rfl, rfl⟩
  case round =>
    obtain ⟨k, n, b', h, s, hk, rfl, rfl, rfl, rfl, hb, hs, rfl⟩ := hrel
    have b0 : (0 : Int) ≤ (b' : Int) := by omega
    have b1 : (b' : Int) < 256 := by omega
    have k0 : (0 : Int) ≤ (k : Int) := by omega
    have k8 : (k : Int) ≤ 8 := by omega
    by_cases hz : k < 8
    · have z : (k : Int) < 8 := by omega
      obtain ⟨m, rfl⟩ : ∃ m, n = m + 1 := ⟨n - 1, by omega⟩
      have HS : Hid (s.val ^^^ rst (m + 1) b' h.val = tm a.val b.val) := hs
      have ea := and1 b' hb
      have eh := hi_is h
      have h0 : (0 : Int) ≤ (h.val : Int) := by omega
      have h1 : (h.val : Int) < 256 := by have := h.2; omega
      have ex : bits .xor .u8 (s.val : Int) (h.val : Int) = ((s.val ^^^ h.val : Nat) : Int) := bits_xor8 s.val h.val s.2 h.2
      have HX : Hid (s.val ^^^ h.val = (xr s h).val) := rfl
      have HD : Hid ((dF h).val = T8 h.val) := rfl
      have HK : Hid (m + 1 + k = 8) := hk
      clear hs hk
      have key : ∀ s' : By, s'.val ^^^ rst m (b' / 2) (dF h).val = tm a.val b.val → Hid (s'.val ^^^ rst m (b' / 2) (dF h).val = tm a.val b.val) := fun _ h => h
      have step : Hid ((if b' % 2 = 1 then xr s h else s).val ^^^ rst m (b' / 2) (dF h).val = tm a.val b.val) := by
        have := HS.out
        rw [rst_step, ← HD.out] at this
        show _ = _
        split
        · next p => rw [if_pos p, ← Nat.xor_assoc] at this; exact this
        · next p => rw [if_neg p, Nat.zero_xor] at this; exact this
      clear HS
      have dn : (an h 128).val = 0 → Hid (((h.val : Int) * 2) % 256 = ((dF h).val : Int)) := fun q => by show _ = _; rw [dF_no h q]; omega
      have dy : (an h 128).val ≠ 0 → Hid (bits .xor .u8 (((h.val : Int) * 2) % 256) 27 = ((dF h).val : Int)) := fun q => by
        show _ = _
        have := bits_xor8 (h.val * 2 % 256) 27 (by omega) (by decide)
        rw [show ((27 : Nat) : Int) = 27 from rfl, show ((h.val * 2 % 256 : Nat) : Int) = (h.val : Int) * 2 % 256 by omega] at this
        rw [this, dF_yes h q]
      by_cases p : b' % 2 = 1
      · rw [p, show ((1 : Nat) : Int) = 1 from rfl] at ea
        rw [if_pos p] at step
        by_cases q : (an h 128).val = 0
        · rw [q, show ((0 : Nat) : Int) = 0 from rfl] at eh
          have D := dn q
          clear dn dy
          go_wp2_with fail
          refine ⟨⟨k + 1, m, b' / 2, dF h, xr s h, by have := HK.out; omega, by go_num, by go_num, ?_, by rw [← HX.out], by omega, step.out, trivial⟩, by simp [intOf]; omega⟩
          rw [← D.out]
        · have q' : ¬ ((an h 128).val : Int) = 0 := by omega
          have D := dy q
          clear dn dy
          go_wp2_with fail
          refine ⟨⟨k + 1, m, b' / 2, dF h, xr s h, by have := HK.out; omega, by go_num, by go_num, ?_, by rw [← HX.out], by omega, step.out, trivial⟩, by simp [intOf]; omega⟩
          rw [← D.out]
      · have p0 : b' % 2 = 0 := by omega
        rw [p0, show ((0 : Nat) : Int) = 0 from rfl] at ea
        rw [if_neg p] at step
        by_cases q : (an h 128).val = 0
        · rw [q, show ((0 : Nat) : Int) = 0 from rfl] at eh
          have D := dn q
          clear dn dy
          go_wp2_with fail
          refine ⟨⟨k + 1, m, b' / 2, dF h, s, by have := HK.out; omega, by go_num, by go_num, ?_, rfl, by omega, step.out, trivial⟩, by simp [intOf]; omega⟩
          rw [← D.out]
        · have q' : ¬ ((an h 128).val : Int) = 0 := by omega
          have D := dy q
          clear dn dy
          go_wp2_with fail
          refine ⟨⟨k + 1, m, b' / 2, dF h, s, by have := HK.out; omega, by go_num, by go_num, ?_, rfl, by omega, step.out, trivial⟩, by simp [intOf]; omega⟩
          rw [← D.out]
    · have e8 : k = 8 := by omega
      have en : n = 0 := by omega
      have z : ¬ (k : Int) < 8 := by omega
      subst en
      have HS : Hid (s.val = tm a.val b.val) := by
        rw [show rst 0 b' h.val = 0 from rfl, Nat.xor_zero] at hs
        exact hs
      clear hs
      go_wp2_with fail
      go_ret
      refine ⟨?_, rfl⟩
      rw [show (tmF a b).val = s.val from HS.out.symm]
      rfl
end Go.Proofs.Ytogkijjmimaccaa
