/- What the statements' common end answers: chapter 1's examples hold. -/
import Derived.Test.YtpigofooblmdhaaJ9
set_option linter.all false
set_option maxRecDepth 100000
namespace Go.Proofs.Ytpigofooblmdhaa
open Go.RowKit
theorem nv_eq {N a b c d : Int} (h0 : lim N 0 = a) (h1 : lim N 1 = b) (h2 : lim N 2 = c) (h3 : lim N 3 = d) : nv N = .agg #[.int .u64 a, .int .u64 b, .int .u64 c, .int .u64 d] := by
  simp only [nv, h0, h1, h2, h3]
theorem nvTop : nv 115792089237316195423570985008687907853269984665640564039457584007913129639935 = .agg #[.int .u64 18446744073709551615, .int .u64 18446744073709551615, .int .u64 18446744073709551615, .int .u64 18446744073709551615] := nv_eq (by decide) (by decide) (by decide) (by decide)
theorem nvTopp : nv (115792089237316195423570985008687907853269984665640564039457584007913129639935 + 1) = .agg #[.int .u64 0, .int .u64 0, .int .u64 0, .int .u64 0] := nv_eq (by decide) (by decide) (by decide) (by decide)
theorem nvS (n : Int) (h0 : 0 ≤ n) (h1 : n < 18446744073709551616) : nv n = .agg #[.int .u64 n, .int .u64 0, .int .u64 0, .int .u64 0] :=
  nv_eq (by rw [lim0]; omega) (by rw [lim1]; omega) (by rw [lim2]; omega) (by rw [lim3]; omega)
theorem nv0 : nv 0 = .agg #[.int .u64 0, .int .u64 0, .int .u64 0, .int .u64 0] := nvS 0 (by omega) (by omega)
theorem nvHalf : nv 57896044618658097711785492504343953926634992332820282019728792003956564819968 = .agg #[.int .u64 0, .int .u64 0, .int .u64 0, .int .u64 9223372036854775808] := nv_eq (by decide) (by decide) (by decide) (by decide)
theorem aw_add (w : World) : Calls Try.prog 56 #[.agg #[.int .u64 18446744073709551615, .int .u64 18446744073709551615, .int .u64 18446744073709551615, .int .u64 18446744073709551615], .agg #[.int .u64 1, .int .u64 0, .int .u64 0, .int .u64 0]] w fun e w' => e = .returned (.tuple #[.agg #[.int .u64 0, .int .u64 0, .int .u64 0, .int .u64 0], .int .u64 1]) ∧ Below w.heap.size w w' := by
  have h := add_any 115792089237316195423570985008687907853269984665640564039457584007913129639935 1 (by decide) (by decide) (by decide) (by decide) w
  rw [nvTop, nvTopp, nvS 1 (by decide) (by decide), show lim (115792089237316195423570985008687907853269984665640564039457584007913129639935 + 1) 4 = 1 by decide] at h
  exact h
theorem aw_mul (w : World) : Calls Try.prog 57 #[.agg #[.int .u64 0, .int .u64 0, .int .u64 0, .int .u64 9223372036854775808], .agg #[.int .u64 2, .int .u64 0, .int .u64 0, .int .u64 0]] w fun e w' => e = .returned (.tuple #[.agg #[.int .u64 0, .int .u64 0, .int .u64 0, .int .u64 0], .agg #[.int .u64 1, .int .u64 0, .int .u64 0, .int .u64 0]]) ∧ Below w.heap.size w w' := by
  have h := mul_any 57896044618658097711785492504343953926634992332820282019728792003956564819968 2 (by decide) (by decide) (by decide) (by decide) w
  rw [nvHalf, nvS 2 (by decide) (by decide), show nv (57896044618658097711785492504343953926634992332820282019728792003956564819968 * 2) = .agg #[.int .u64 0, .int .u64 0, .int .u64 0, .int .u64 0] from nv_eq (by decide) (by decide) (by decide) (by decide), show (57896044618658097711785492504343953926634992332820282019728792003956564819968 * 2 : Int) / top256 = 1 by decide, nvS 1 (by decide) (by decide)] at h
  exact h
theorem aw_div (w : World) : Calls Try.prog 58 #[.agg #[.int .u64 7, .int .u64 0, .int .u64 0, .int .u64 0], .agg #[.int .u64 0, .int .u64 0, .int .u64 0, .int .u64 0], .agg #[.int .u64 2, .int .u64 0, .int .u64 0, .int .u64 0]] w fun e w' => e = .returned (.tuple #[.agg #[.int .u64 3, .int .u64 0, .int .u64 0, .int .u64 0], .agg #[.int .u64 0, .int .u64 0, .int .u64 0, .int .u64 0], .agg #[.int .u64 1, .int .u64 0, .int .u64 0, .int .u64 0], .int .i64 0]) ∧ Below w.heap.size w w' := by
  have h := div_any 7 0 2 (by decide) (by decide) (by decide) (by decide) (by decide) (by decide) w
  rw [show ((7 : Int) + 0 * top256) / 2 = 3 by decide, show ((7 : Int) + 0 * top256) % 2 = 1 by decide, show (3 : Int) / top256 = 0 by decide, nvS 7 (by decide) (by decide), nvS 2 (by decide) (by decide), nvS 3 (by decide) (by decide), nvS 1 (by decide) (by decide), nv0] at h
  exact h
theorem bitLen_top256 : bitLen (115792089237316195423570985008687907853269984665640564039457584007913129639935 : Int).toNat = 256 := by
  have sp := bitLen_spec (115792089237316195423570985008687907853269984665640564039457584007913129639935 : Int).toNat
  have lo := sp.2 (by decide)
  have hi := sp.1
  have e : (115792089237316195423570985008687907853269984665640564039457584007913129639935 : Int).toNat = 115792089237316195423570985008687907853269984665640564039457584007913129639935 := by decide
  rw [e] at lo hi ⊢
  by_cases c : bitLen 115792089237316195423570985008687907853269984665640564039457584007913129639935 ≤ 255
  · have := Nat.pow_le_pow_right (n := 2) (by omega) c
    have e2 : (2 : Nat) ^ 255 = 57896044618658097711785492504343953926634992332820282019728792003956564819968 := by decide
    omega
  · by_cases c2 : bitLen 115792089237316195423570985008687907853269984665640564039457584007913129639935 ≤ 256
    · omega
    · have := Nat.pow_le_pow_right (n := 2) (by omega) (show 256 ≤ bitLen 115792089237316195423570985008687907853269984665640564039457584007913129639935 - 1 by omega)
      have e2 : (2 : Nat) ^ 256 = 115792089237316195423570985008687907853269984665640564039457584007913129639936 := by decide
      omega
theorem aw_len (w : World) : Calls Try.prog 59 #[.agg #[.int .u64 18446744073709551615, .int .u64 18446744073709551615, .int .u64 18446744073709551615, .int .u64 18446744073709551615]] w fun e w' => e = .returned (.int .i64 256) ∧ Below w.heap.size w w' := by
  have h := len_any 115792089237316195423570985008687907853269984665640564039457584007913129639935 (by decide) (by decide) w
  rw [nvTop, bitLen_top256] at h
  exact h
theorem txS_size (N : Int) : (txS N).size = 64 := by
  have key : ∀ (l : List Int) (s : ByteArray), (l.foldl (fun r n => r.push (UInt8.ofNat n.toNat)) s).size = s.size + l.length := by
    intro l
    induction l with
    | nil => intro s; rfl
    | cons a l ih => intro s; rw [List.foldl_cons, ih, ByteArray.size_push, List.length_cons]; omega
  unfold txS
  rw [key]; simp [txL]
theorem aw_text (w : World) : Calls Try.prog 14 #[.agg #[.int .u64 10, .int .u64 0, .int .u64 0, .int .u64 0]] w fun e w' => e = .returned (.string (txS 10)) ∧ Below w.heap.size w w' := by
  have h := text_any 10 (by decide) (by decide) w
  rw [nvS 10 (by decide) (by decide)] at h
  exact h
theorem tx10 : ((txS 10).extract 63 64).toList = [97] := by decide +kernel
attribute [local go_sem] eq24
set_option maxHeartbeats 4000000 in
theorem awake_any (w : World) : Calls Try.prog 20 #[] w fun e w' => e = .returned (.bool true) ∧ Below w.heap.size w w' := by
  have sz := txS_size 10
  have HT : Hid (((txS 10).extract 63 64).toList = [97]) := tx10
  have AT := fun W => aw_text W
  generalize txS 10 = S at *
  go_enter Try.func20, Try.ntmps20
  go_wp2_with fail
  refine (aw_add _).mono ?_
  rintro e w1 ⟨rfl, hb1⟩
  have A1 := (Arr.mk4 (f := fun j => .int .u64 18446744073709551615) (b := w.heap.size) (by simp [go_sem]) (by simp [go_sem]) (by simp [go_sem]) (by simp [go_sem]) (by simp [go_sem]) (by simp [go_sem]) (by simp [go_sem]) (by simp [go_sem]) ).below hb1 (by go_size)
  have s1 : w.heap.size < w1.heap.size := by have := hb1.size; simp at this; omega
  have hB1 : Below w.heap.size w w1 := Below.trans (by go_grown) (hb1.mono (by go_size))
  clear hb1
  go_wp2_with fail
  refine (aw_mul _).mono ?_
  rintro e w2 ⟨rfl, hb2⟩
  have A1' := (A1.alloc s1 _).below hb2 (by go_size)
  have A2 := (Arr.mk4 (f := fun j => .int .u64 0) (b := w1.heap.size) (by simp [go_sem]) (by simp [go_sem]) (by simp [go_sem]) (by simp [go_sem]) (by simp [go_sem]) (by simp [go_sem]) (by simp [go_sem]) (by simp [go_sem]) ).below hb2 (by go_size)
  have s2 : w1.heap.size < w2.heap.size := by have := hb2.size; simp at this; omega
  have hB2 : Below w.heap.size w w2 := (hB1.alloc (by go_size) _).trans (hb2.mono (by go_size))
  clear hb2 A1 hB1
  go_wp2_with fail
  refine (aw_div _).mono ?_
  rintro e w3 ⟨rfl, hb3⟩
  have s3 : w2.heap.size + 1 < w3.heap.size := by have := hb3.size; simp at this; omega
  have A1 := ((A1'.alloc (by omega) _).alloc (by go_size) _).below hb3 (by go_size)
  have A2' := ((A2.alloc (by omega) _).alloc (by go_size) _).below hb3 (by go_size)
  have A4 := (Arr.mk4 (f := fun j => .int .u64 0) (b := w2.heap.size) (by simp [go_sem]) (by simp [go_sem]) (by simp [go_sem]) (by simp [go_sem]) (by simp [go_sem]) (by simp [go_sem]) (by simp [go_sem]) (by simp [go_sem]) ).below hb3 (by go_size)
  have A5 := (Arr.mk4 (f := fun j => .int .u64 (if j = 0 then 1 else 0)) (b := w2.heap.size + 1) (by simp [go_sem]) (by simp [go_sem]) (by simp [go_sem]) (by simp [go_sem]) (by simp [go_sem]) (by simp [go_sem]) (by simp [go_sem]) (by simp [go_sem]) ).below hb3 (by go_size)
  have hB3 : Below w.heap.size w w3 := ((hB2.alloc (by go_size) _).alloc (by go_size) _).trans (hb3.mono (by go_size))
  have c1 : ∀ o1 o2 o3 j, j < 4 → (((w3.alloc o1).alloc o2).alloc o3).cell? ⟨w.heap.size, j, none⟩ = some (.int .u64 18446744073709551615) := fun o1 o2 o3 j hj => (((A1.alloc (by omega) o1).alloc (by go_size) o2).alloc (by go_size) o3).c j hj
  have c2 : ∀ o1 o2 o3 j, j < 4 → (((w3.alloc o1).alloc o2).alloc o3).cell? ⟨w1.heap.size, j, none⟩ = some (.int .u64 0) := fun o1 o2 o3 j hj => (((A2'.alloc (by omega) o1).alloc (by go_size) o2).alloc (by go_size) o3).c j hj
  have c4 : ∀ o1 o2 o3 j, j < 4 → (((w3.alloc o1).alloc o2).alloc o3).cell? ⟨w2.heap.size, j, none⟩ = some (.int .u64 0) := fun o1 o2 o3 j hj => (((A4.alloc (by omega) o1).alloc (by go_size) o2).alloc (by go_size) o3).c j hj
  have c5 : ∀ o1 o2 o3 j, j < 4 → (((w3.alloc o1).alloc o2).alloc o3).cell? ⟨w2.heap.size + 1, j, none⟩ = some (.int .u64 (if j = 0 then 1 else 0)) := fun o1 o2 o3 j hj => (((A5.alloc (by omega) o1).alloc (by go_size) o2).alloc (by go_size) o3).c j hj
  clear hb3 A1 A1' A2 A2' A4 A5 hB2
  go_wp2_with fail
  refine (aw_len _).mono ?_
  rintro e w4 ⟨rfl, hb4⟩
  have hB4 : Below w.heap.size w w4 := (((hB3.alloc (by go_size) _).alloc (by go_size) _).alloc (by go_size) _).trans (hb4.mono (by go_size))
  clear hb4 hB3 c1 c2 c4 c5
  go_wp2_with fail
  refine (AT _).mono ?_
  rintro e w5 ⟨rfl, hb5⟩
  have hB5 : Below w.heap.size w w5 := hB4.trans (hb5.mono hB4.size)
  clear hb5 hB4 AT
  have ht : ((S.extract 63 64).toList == [97]) = true := by rw [HT.out]; rfl
  go_wp2_with fail
  go_ret
  exact ⟨rfl, hB5⟩
end Go.Proofs.Ytpigofooblmdhaa
