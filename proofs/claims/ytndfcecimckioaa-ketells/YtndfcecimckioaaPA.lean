/- The program: pair, number, size, refused, head, records. -/
import Derived.Test.YtndfcecimckioaaPW
import Derived.Test.YtndfcecimckioaaK5
import Derived.Laws.BitsLemmas
import Derived.Laws.Bits64
set_option linter.all false
set_option maxRecDepth 100000
namespace Go.Proofs.Ytndfcecimckioaa
open Go.RowKit Go.Shelf Go.Sort Go.Lib
set_option maxHeartbeats 1000000 in
theorem pair_any (n : Nat) (h : n < 65536) (w : World) : Calls Try.prog 29 #[.int .i64 (n : Int)] w fun e w' => e = .returned (.string (baL (twL n))) ∧ Below w.heap.size w w' := by
  rw [← twL_mk n h]
  have n0 : (0 : Int) ≤ (n : Int) := by omega
  have n1 : (n : Int) < 65536 := by omega
  have q0 : (0 : Int) ≤ (n : Int) / 256 := by omega
  have q1 : (n : Int) / 256 < 256 := by omega
  have q2 : (0 : Int) ≤ (n : Int) % 256 := by omega
  have q3 : (n : Int) % 256 < 256 := by omega
  have C := fun (W : World) => convC (W.alloc (.cells #[.int .u8 ((n : Int) / 256), .int .u8 ((n : Int) % 256)] 5)) W.heap.size 2 2 [(n : Int) / 256, (n : Int) % 256] rfl (news_new W [.int .u8 ((n : Int) / 256), .int .u8 ((n : Int) % 256)] 5)
  go_enter Try.func29, Try.ntmps29
  go_wp2
  go_ret
  refine ⟨?_, by go_grown⟩
  rfl
theorem size_any (r : Ke) (hs : r.s.size ≤ 9223372036854775000) (w : World) : Calls Try.prog 23 #[keV r] w fun e w' => e = .returned (.int .i64 (4 + (r.s.size : Int))) ∧ Below w.heap.size w w' := by
  obtain ⟨c, k, s⟩ := r
  unfold keV
  have h0 : (0 : Int) ≤ (s.size : Int) := by omega
  have h1 : (s.size : Int) ≤ 9223372036854775000 := by simp only at hs; omega
  clear hs
  dsimp only
  go_enter Try.func23, Try.ntmps23
  go_wp2
  go_ret
  refine ⟨rfl, by go_grown⟩
theorem or_low8 (x d : Int) (x0 : 0 ≤ x) (x1 : x < 256) (hd : 0 ≤ d ∧ d < 256) : bits .or .i64 (x * 256) d = x * 256 + d := by
  obtain ⟨a, rfl⟩ := Int.eq_ofNat_of_zero_le x0
  obtain ⟨b, rfl⟩ := Int.eq_ofNat_of_zero_le hd.1
  have ha : a < 256 := by omega
  have hb : b < 256 := by omega
  have h1 : (BitVec.ofInt 64 ((a * 256 : Nat) : Int)).toNat = a * 256 := by rw [BitVec.ofInt_natCast, BitVec.toNat_ofNat]; exact Nat.mod_eq_of_lt (by omega)
  have h2 : (BitVec.ofInt 64 (b : Int)).toNat = b := by rw [BitVec.ofInt_natCast, BitVec.toNat_ofNat]; exact Nat.mod_eq_of_lt (by omega)
  have e : a * 256 ||| b = a * 256 + b := by
    have := Nat.shiftLeft_add_eq_or_of_lt (i := 8) (b := b) (by omega) a
    rw [Nat.shiftLeft_eq] at this
    exact this.symm
  show IntKind.i64.wrap ((BitVec.ofInt 64 ((a : Int) * 256) ||| BitVec.ofInt 64 (b : Int)).toNat : Int) = _
  rw [show (a : Int) * 256 = ((a * 256 : Nat) : Int) by omega, BitVec.toNat_or, h1, h2, e, IntKind.wrap_i64]
  omega
/-- The number of k bytes behind the first. -/
def lv (s : ByteArray) : Nat → Int
  | 0 => 0
  | k + 1 => lv s k * 256 + bt s (k + 1)
theorem number_any (s : ByteArray) (h : 2 ≤ s.size) (w : World) : Calls Try.prog 30 #[.string s] w fun e w' => e = .returned (.int .i64 (bt s 0 * 256 + bt s 1)) ∧ Below w.heap.size w w' := by
  have b0 := bt_bd s 0
  have b1 := bt_bd s 1
  have I0 := fun W => idxS s 0 (by omega) W
  have I1 := fun W => idxS s 1 (by omega) W
  rw [show ((0 : Nat) : Int) = 0 from rfl] at I0
  rw [show ((1 : Nat) : Int) = 1 from rfl] at I1
  generalize bt s 0 = y at *
  generalize bt s 1 = z at *
  obtain ⟨y0, y1⟩ := b0
  obtain ⟨z0, z1⟩ := b1
  have e1 : y * 256 % 18446744073709551616 = y * 256 := by omega
  have i1 : (1 : Int) < (s.size : Int) := by omega
  have i0 : (0 : Int) < (s.size : Int) := by omega
  go_enter Try.func30, Try.ntmps30
  go_wp2_with fail
  refine wp_region_quiet_below (by kernel_rfl) (by kernel_rfl) ?_
  repeat (go_big_quiet_step (skip))
  refine wpQuiet_nil ?_
  intro w3 hw'
  obtain ⟨⟨dq, osq⟩, hw''⟩ := hw'
  have hb := below_of hw''
  clear hw''
  rw [or_low8 y z y0 y1 ⟨z0, z1⟩]
  go_wp2_with fail
  go_ret
  exact ⟨rfl, hb⟩
set_option maxHeartbeats 1000000 in
theorem refused_any (r : Ke) (hs : r.s.size ≤ 9223372036854775807) (w : World) : Calls Try.prog 22 #[keV r] w fun e w' => e = .returned (.int .i64 (okE r)) ∧ Below w.heap.size w w' := by
  unfold okE
  obtain ⟨c, k, s⟩ := r
  unfold keV
  have h0 : (0 : Int) ≤ (s.size : Int) := by omega
  have h1 : (s.size : Int) ≤ 9223372036854775807 := by simp only at hs; omega
  clear hs
  dsimp only
  by_cases g0 : k < 0
  · rw [if_pos (.inl g0)]
    go_enter Try.func22, Try.ntmps22
    go_wp2
    go_ret
    refine ⟨rfl, by go_grown⟩
  by_cases g1 : 32767 < k
  · rw [if_pos (.inr g1)]
    have g2 : (32768 : Int) ≤ k := by omega
    clear g1
    go_enter Try.func22, Try.ntmps22
    go_wp2
    go_ret
    refine ⟨rfl, by go_grown⟩
  have g2 : ¬ (32768 : Int) ≤ k := by omega
  rw [if_neg (by omega)]
  by_cases g3 : 1024 < s.size
  · rw [if_pos g3]
    have g4 : (1024 : Int) < (s.size : Int) := by omega
    clear g1 g3
    go_enter Try.func22, Try.ntmps22
    go_wp2
    go_ret
    refine ⟨rfl, by go_grown⟩
  · rw [if_neg g3]
    have g4 : ¬ (1024 : Int) < (s.size : Int) := by omega
    clear g1 g3
    go_enter Try.func22, Try.ntmps22
    go_wp2
    go_ret
    refine ⟨rfl, by go_grown⟩
set_option maxHeartbeats 1000000 in
theorem head_any (r : Ke) (k0 : 0 ≤ r.k) (k1 : r.k ≤ 32767) (hs : r.s.size ≤ 1024) (w : World) : Calls Try.prog 25 #[keV r] w fun e w' => e = .returned (.string (baL (twL (keN r)) ++ baL (twL r.s.size))) ∧ Below w.heap.size w w' := by
  have C1 := fun W => pair_any (keN r) (keN_lt r k1) W
  have C2 := fun W => pair_any r.s.size (by omega) W
  have s1 : (baL (twL (keN r))).size = 2 := by rw [baL_size]; rfl
  have s2 : (baL (twL r.s.size)).size = 2 := by rw [baL_size]; rfl
  have hN : ((keN r : Nat) : Int) = r.k + (if r.c = true then 32768 else 0) := by unfold keN; split <;> omega
  rw [hN] at C1
  clear hN
  obtain ⟨c, k, s⟩ := r
  unfold keV
  have h0 : (0 : Int) ≤ (s.size : Int) := by omega
  have h1 : (s.size : Int) ≤ 1024 := by simp only at hs; omega
  clear hs
  dsimp only at *
  generalize baL (twL (keN ⟨c, k, s⟩)) = A at *
  generalize baL (twL s.size) = B at *
  cases c
  case true =>
    rw [if_pos rfl] at C1
    have A1 := Arr.new w #[Value.bool true, .int .i64 k, .string s] 47 _ rfl _ 3 (keC_at ⟨true, k, s⟩)
    have B0 := Bel.al (Below.refl w.heap.size w) (.cells #[.bool true, .int .i64 k, .string s] 47)
    go_enter Try.func25, Try.ntmps25
    go_wp2_with fail
    generalize w.alloc (.cells #[.bool true, .int .i64 k, .string s] 47) = W at *
    have R2 := fun ds os => cell_regrown (A1.cv 2 (by omega) (.string s) rfl) ds os
    clear A1
    refine wp_region_quiet_below (by kernel_rfl) (by kernel_rfl) ?_
    repeat (go_big_quiet_step (first | (go_at_call 29; first | with_reducible exact Calls.regrown_of (C1 _) | with_reducible exact Calls.regrown_of (C2 _))))
    refine wpQuiet_nil ?_
    intro w3 hw'
    obtain ⟨⟨dq, osq⟩, hw''⟩ := hw'
    have hb := below_of hw''
    clear hw'' R2 C1 C2
    have B1 := Bel.call B0 hb
    go_wp2_with fail
    go_ret
    exact ⟨rfl, B1⟩
  case false =>
    rw [if_neg (by decide), Int.add_zero] at C1
    have A1 := Arr.new w #[Value.bool false, .int .i64 k, .string s] 47 _ rfl _ 3 (keC_at ⟨false, k, s⟩)
    have B0 := Bel.al (Below.refl w.heap.size w) (.cells #[.bool false, .int .i64 k, .string s] 47)
    go_enter Try.func25, Try.ntmps25
    go_wp2_with fail
    generalize w.alloc (.cells #[.bool false, .int .i64 k, .string s] 47) = W at *
    have R2 := fun ds os => cell_regrown (A1.cv 2 (by omega) (.string s) rfl) ds os
    clear A1
    refine wp_region_quiet_below (by kernel_rfl) (by kernel_rfl) ?_
    repeat (go_big_quiet_step (first | (go_at_call 29; first | with_reducible exact Calls.regrown_of (C1 _) | with_reducible exact Calls.regrown_of (C2 _))))
    refine wpQuiet_nil ?_
    intro w3 hw'
    obtain ⟨⟨dq, osq⟩, hw''⟩ := hw'
    have hb := below_of hw''
    clear hw'' R2 C1 C2
    have B1 := Bel.call B0 hb
    go_wp2_with fail
    go_ret
    exact ⟨rfl, B1⟩
theorem records_any (s : ByteArray) (w : World) : Calls Try.prog 28 #[.string s] w fun e w' => e = .returned (.func (.func 33) #[] #[.pointer (some ⟨w.heap.size, 0, none⟩)]) ∧ w' = w.alloc (.cells #[.string s] 9) := by
  have hmf : ∀ (fn : Fn) (first cap : Array Value) (w : World), (Instr.makeFunc fn first cap).run Try.prog w = .ok (.func fn first cap) w := fun _ _ _ _ => rfl
  go_enter Try.func28, Try.ntmps28
  go_wp2
  go_ret
  exact ⟨rfl, rfl⟩
end Go.Proofs.Ytndfcecimckioaa
