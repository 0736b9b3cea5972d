/- What math/bits.Div64 answers where the divisor has its top bit set. -/
import Derived.Test.YtpigofooblmdhaaJ2
set_option linter.all false
namespace Go.Proofs.Ytpigofooblmdhaa
open Go.RowKit
theorem bitLen_top (y : Int) (h : 9223372036854775808 ≤ y) (h1 : y < 18446744073709551616) : bitLen y.toNat = 64 := by
  have s := bitLen_spec y.toNat
  have l := ln64_le y h1
  by_cases c : bitLen y.toNat ≤ 63
  · have : (2 : Nat) ^ bitLen y.toNat ≤ 2 ^ 63 := Nat.pow_le_pow_right (by omega) c
    have e : (2 : Nat) ^ 63 = 9223372036854775808 := by decide
    omega
  · omega
set_option maxHeartbeats 1000000 in
theorem lz_top (y : Int) (h : 9223372036854775808 ≤ y) (h1 : y < 18446744073709551616) (w : World) :
    Calls Try.prog 110 #[.int .u64 y] w fun e w' => e = .returned (.int .i64 0) ∧ w' = w := by
  have c := fun W => len64_any y (by omega) h1 W
  rw [bitLen_top y h h1] at c
  go_enter Try.func110, Try.ntmps110
  go_wp2_with (go_at_call 91; refine (c _).mono ?_; rintro e w' ⟨rfl, rfl⟩)
  go_returns
  exact ⟨rfl, rfl⟩
theorem or_zero (x : Int) (h0 : 0 ≤ x) (h1 : x < 18446744073709551616) : bits .or .u64 x 0 = x := by
  have := bits_join .u64 64 (by decide) wraps_u64_64 0 x 0 h0 (by omega) h1 (by omega) (by omega) (by omega)
  omega
theorem hl_bd {U u y y1 q r : Int} (H : HL U u y y1 q r) (hU : 0 ≤ U) (hu : 0 ≤ u) (hy : 0 < y) : 0 ≤ q ∧ q ≤ 4294967297 ∧ 0 ≤ r ∧ r < 4294967296 := by
  have := dig_nn hU hu hy
  obtain ⟨_, r0, r1, q1, d⟩ := H
  omega
theorem mul_bd32 {q y0 : Int} (h0 : 0 ≤ q) (h1 : q < 4294967296) (g0 : 0 ≤ y0) (g1 : y0 < 4294967296) : 0 ≤ q * y0 ∧ q * y0 ≤ 18446744065119617025 := prod_bound q y0 h0 (by omega) g0 (by omega)
set_option maxHeartbeats 8000000 in
theorem div64_core (hi lo y y1 y0 u1 u0 D1 D0 U2 R : Int) (w : World) (h0 : 0 < hi) (hhi : hi < y) (l0 : 0 ≤ lo) (l1 : lo < 18446744073709551616) (h : 9223372036854775808 ≤ y) (h1 : y < 18446744073709551616)
    (ey1 : y / 4294967296 = y1) (my : bits .and .u64 y 4294967295 = y0) (el1 : lo / 4294967296 = u1) (ml : bits .and .u64 lo 4294967295 = u0)
    (EY : Hid (y = y1 * 4294967296 + y0)) (by1 : 2147483648 ≤ y1) (by1' : y1 < 4294967296) (by0 : 0 ≤ y0) (by0' : y0 < 4294967296)
    (bu1 : 0 ≤ u1) (bu1' : u1 < 4294967296) (bu0 : 0 ≤ u0) (bu0' : u0 < 4294967296)
    (HD1 : Hid (D1 = (hi * 4294967296 + u1) / y)) (HD0 : Hid (D0 = (U2 * 4294967296 + u0) / y)) (bD1 : 0 ≤ D1) (bD1' : D1 < 4294967296) (bD0 : 0 ≤ D0) (bD0' : D0 < 4294967296) (bU2 : 0 ≤ U2) (bU2' : U2 < y)
    (LW1 : IntKind.u64.wrap (IntKind.u64.wrap (IntKind.u64.wrap (hi * 4294967296) + u1) - IntKind.u64.wrap (D1 * y)) = U2)
    (LW2 : IntKind.u64.wrap (IntKind.u64.wrap (IntKind.u64.wrap (U2 * 4294967296) + u0) - IntKind.u64.wrap (D0 * y)) = R) :
    Calls Try.prog 93 #[.int .u64 hi, .int .u64 lo, .int .u64 y] w fun e w' => e = .returned (.tuple #[.int .u64 (D1 * 4294967296 + D0), .int .u64 R]) ∧ w' = w := by
  have o := or_zero hi (by omega) (by omega)
  have q0 : lo / 18446744073709551616 = 0 := by omega
  have yp : 0 < y := by omega
  go_enter Try.func93, Try.ntmps93
  go_wp2_with (go_at_call 110; refine (lz_top y h h1 _).mono ?_; rintro e w' ⟨rfl, rfl⟩)
  go_loop [15, 16] (fun a b => ∃ q r, a = .int .u64 q ∧ b = .int .u64 r ∧ HL hi u1 y y1 q r) (fun a _ => (intOf a).toNat)
  case atStart =>
    have S := hl_start (U := hi) (u := u1) (by omega) hhi bu1' EY.out by1 by1' by0 by0'
    refine ⟨_, _, rfl, ?_, S.1⟩
    congr 1
    simp only [IntKind.wrap_u64]
    omega
  case round =>
    obtain ⟨q, r, rfl, rfl, H⟩ := hrel
    obtain ⟨b1, b2, b3, b4⟩ := hl_bd H (by omega) bu1 yp
    by_cases t1 : 4294967296 ≤ q
    · by_cases t3 : r + y1 < 4294967296
      · go_wp2
        go_round
        case rel => exact ⟨_, _, rfl, rfl, hl_step H (by omega) hhi bu1 bu1' EY.out yp (by omega) (.inl t1) t3⟩
        case measure => simp [intOf]; omega
      · have E := hl_break H (by omega) hhi bu1 bu1' EY.out yp by0 by0' (.inl t1) (by omega)
        rw [← HD1.out] at E
        clear H
        go_wp2
        go_loop [18, 16] (fun a b => ∃ q r, a = .int .u64 q ∧ b = .int .u64 r ∧ HL U2 u0 y y1 q r) (fun a _ => (intOf a).toNat)
        case atStart =>
          have S := hl_start (U := U2) (u := u0) bU2 bU2' bu0' EY.out by1 by1' by0 by0'
          refine ⟨_, _, rfl, ?_, S.1⟩
          congr 1
          simp only [IntKind.wrap_u64]
          omega
        case round =>
          clear b1 b2 b3 b4 t1
          obtain ⟨q', r', rfl, rfl, H⟩ := hrel
          obtain ⟨b1, b2, b3, b4⟩ := hl_bd H bU2 bu0 yp
          by_cases t1 : 4294967296 ≤ q'
          · by_cases t3' : r' + y1 < 4294967296
            · go_wp2
              go_round
              case rel => exact ⟨_, _, rfl, rfl, hl_step H bU2 bU2' bu0 bu0' EY.out yp (by omega) (.inl t1) t3'⟩
              case measure => simp [intOf]; omega
            · have E' := hl_break H bU2 bU2' bu0 bu0' EY.out yp by0 by0' (.inl t1) (by omega)
              rw [← HD0.out] at E'
              clear H
              go_wp2
              go_returns
              exact ⟨rfl, rfl⟩
          · have pb' := mul_bd32 b1 (by omega) by0 by0'
            by_cases t2' : 4294967296 * r' + u0 < q' * y0
            · have q1' := (hl_over H bU2 bU2' bu0 bu0' EY.out yp (.inr t2')).2
              by_cases t3' : r' + y1 < 4294967296
              · go_wp2
                go_round
                case rel => exact ⟨_, _, rfl, rfl, hl_step H bU2 bU2' bu0 bu0' EY.out yp (by omega) (.inr t2') t3'⟩
                case measure => simp [intOf]; omega
              · have E' := hl_break H bU2 bU2' bu0 bu0' EY.out yp by0 by0' (.inr t2') (by omega)
                rw [← HD0.out] at E'
                clear H
                go_wp2
                go_returns
                exact ⟨rfl, rfl⟩
            · have E' := hl_exit H EY.out yp (by omega)
              rw [← HD0.out] at E'
              clear H
              subst E'
              go_wp2
              go_returns
              exact ⟨rfl, rfl⟩
    · have pb := mul_bd32 b1 (by omega) by0 by0'
      by_cases t2 : 4294967296 * r + u1 < q * y0
      · have q1 := (hl_over H (by omega) hhi bu1 bu1' EY.out yp (.inr t2)).2
        by_cases t3 : r + y1 < 4294967296
        · go_wp2
          go_round
          case rel => exact ⟨_, _, rfl, rfl, hl_step H (by omega) hhi bu1 bu1' EY.out yp (by omega) (.inr t2) t3⟩
          case measure => simp [intOf]; omega
        · have E := hl_break H (by omega) hhi bu1 bu1' EY.out yp by0 by0' (.inr t2) (by omega)
          rw [← HD1.out] at E
          clear H
          go_wp2
          go_loop [18, 16] (fun a b => ∃ q r, a = .int .u64 q ∧ b = .int .u64 r ∧ HL U2 u0 y y1 q r) (fun a _ => (intOf a).toNat)
          case atStart =>
            have S := hl_start (U := U2) (u := u0) bU2 bU2' bu0' EY.out by1 by1' by0 by0'
            refine ⟨_, _, rfl, ?_, S.1⟩
            congr 1
            simp only [IntKind.wrap_u64]
            omega
          case round =>
            clear b1 b2 b3 b4 t1
            obtain ⟨q', r', rfl, rfl, H⟩ := hrel
            obtain ⟨b1, b2, b3, b4⟩ := hl_bd H bU2 bu0 yp
            by_cases t1 : 4294967296 ≤ q'
            · by_cases t3' : r' + y1 < 4294967296
              · go_wp2
                go_round
                case rel => exact ⟨_, _, rfl, rfl, hl_step H bU2 bU2' bu0 bu0' EY.out yp (by omega) (.inl t1) t3'⟩
                case measure => simp [intOf]; omega
              · have E' := hl_break H bU2 bU2' bu0 bu0' EY.out yp by0 by0' (.inl t1) (by omega)
                rw [← HD0.out] at E'
                clear H
                go_wp2
                go_returns
                exact ⟨rfl, rfl⟩
            · have pb' := mul_bd32 b1 (by omega) by0 by0'
              by_cases t2' : 4294967296 * r' + u0 < q' * y0
              · have q1' := (hl_over H bU2 bU2' bu0 bu0' EY.out yp (.inr t2')).2
                by_cases t3' : r' + y1 < 4294967296
                · go_wp2
                  go_round
                  case rel => exact ⟨_, _, rfl, rfl, hl_step H bU2 bU2' bu0 bu0' EY.out yp (by omega) (.inr t2') t3'⟩
                  case measure => simp [intOf]; omega
                · have E' := hl_break H bU2 bU2' bu0 bu0' EY.out yp by0 by0' (.inr t2') (by omega)
                  rw [← HD0.out] at E'
                  clear H
                  go_wp2
                  go_returns
                  exact ⟨rfl, rfl⟩
              · have E' := hl_exit H EY.out yp (by omega)
                rw [← HD0.out] at E'
                clear H
                subst E'
                go_wp2
                go_returns
                exact ⟨rfl, rfl⟩
      · have E := hl_exit H EY.out yp (by omega)
        rw [← HD1.out] at E
        clear H
        subst E
        go_wp2
        go_loop [18, 16] (fun a b => ∃ q r, a = .int .u64 q ∧ b = .int .u64 r ∧ HL U2 u0 y y1 q r) (fun a _ => (intOf a).toNat)
        case atStart =>
          have S := hl_start (U := U2) (u := u0) bU2 bU2' bu0' EY.out by1 by1' by0 by0'
          refine ⟨_, _, rfl, ?_, S.1⟩
          congr 1
          simp only [IntKind.wrap_u64]
          omega
        case round =>
          clear b1 b2 b3 b4 t1
          obtain ⟨q', r', rfl, rfl, H⟩ := hrel
          obtain ⟨b1, b2, b3, b4⟩ := hl_bd H bU2 bu0 yp
          by_cases t1 : 4294967296 ≤ q'
          · by_cases t3' : r' + y1 < 4294967296
            · go_wp2
              go_round
              case rel => exact ⟨_, _, rfl, rfl, hl_step H bU2 bU2' bu0 bu0' EY.out yp (by omega) (.inl t1) t3'⟩
              case measure => simp [intOf]; omega
            · have E' := hl_break H bU2 bU2' bu0 bu0' EY.out yp by0 by0' (.inl t1) (by omega)
              rw [← HD0.out] at E'
              clear H
              go_wp2
              go_returns
              exact ⟨rfl, rfl⟩
          · have pb' := mul_bd32 b1 (by omega) by0 by0'
            by_cases t2' : 4294967296 * r' + u0 < q' * y0
            · have q1' := (hl_over H bU2 bU2' bu0 bu0' EY.out yp (.inr t2')).2
              by_cases t3' : r' + y1 < 4294967296
              · go_wp2
                go_round
                case rel => exact ⟨_, _, rfl, rfl, hl_step H bU2 bU2' bu0 bu0' EY.out yp (by omega) (.inr t2') t3'⟩
                case measure => simp [intOf]; omega
              · have E' := hl_break H bU2 bU2' bu0 bu0' EY.out yp by0 by0' (.inr t2') (by omega)
                rw [← HD0.out] at E'
                clear H
                go_wp2
                go_returns
                exact ⟨rfl, rfl⟩
            · have E' := hl_exit H EY.out yp (by omega)
              rw [← HD0.out] at E'
              clear H
              subst E'
              go_wp2
              go_returns
              exact ⟨rfl, rfl⟩
set_option maxHeartbeats 4000000 in
theorem div64_zero (lo y : Int) (l0 : 0 ≤ lo) (l1 : lo < 18446744073709551616) (h : 9223372036854775808 ≤ y) (h1 : y < 18446744073709551616) (w : World) :
    Calls Try.prog 93 #[.int .u64 0, .int .u64 lo, .int .u64 y] w fun e w' => e = .returned (.tuple #[.int .u64 (lo / y), .int .u64 (lo % y)]) ∧ Below w.heap.size w w' := by
  have hy : ¬ y = 0 := by omega
  go_enter Try.func93, Try.ntmps93
  go_wp2
  go_region
  go_wp2
  go_returns
  exact ⟨rfl, by go_grown⟩
end Go.Proofs.Ytpigofooblmdhaa
