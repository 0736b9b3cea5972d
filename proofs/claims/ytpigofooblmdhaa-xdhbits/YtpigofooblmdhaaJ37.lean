/- A walk of XdhBits. -/
import Derived.Test.YtpigofooblmdhaaJ36
set_option linter.all false
set_option maxRecDepth 100000
namespace Go.Proofs.Ytpigofooblmdhaa
open Go.RowKit Go.Sort
theorem wp_abs {P : Program} {c : Code} {Q : Exit → Act → World → Prop} {a : Act} {w W : World} (hB : Below w.heap.size w W) (h : ∀ W', Below w.heap.size w W' → Code.wp P c Q a W') : Code.wp P c Q a W := h W hB
set_option maxHeartbeats 8000000 in
theorem xb_core (k u S tt sx sy sz m mu s1 j v : ByteArray) (M N bo l a0 a31 c31 p0 p1 p2 x y z : Int) (hk : k.size = 32) (hu : u.size = 32) (w : World)
    (I0 : ∀ W, (Instr.index 9 (.string k) (.int .i64 0)).run Try.prog W = .ok (.int .u8 a0) W)
    (I1 : ∀ W, (Instr.index 9 (.string k) (.int .i64 31)).run Try.prog W = .ok (.int .u8 a31) W)
    (I2 : ∀ W, (Instr.index 9 (.string u) (.int .i64 31)).run Try.prog W = .ok (.int .u8 c31) W)
    (e0 : bits .and .u8 a0 248 = p0) (e1 : bits .and .u8 l 7 = p1) (e2 : bits .or .u8 p0 p1 = x) (e3 : bits .and .u8 l 128 = p2) (e4 : bits .xor .u8 a31 p2 = y) (e5 : bits .xor .u8 c31 p2 = z)
    (S1 : ∀ W, (Instr.slice 9 (.string k) (some (.int .i64 1)) (some (.int .i64 31)) none).run Try.prog W = .ok (.string m) W)
    (S2 : ∀ W, (Instr.slice 9 (.string u) none (some (.int .i64 31)) none).run Try.prog W = .ok (.string mu) W)
    (V1 : ∀ W g, W.cell? ⟨g, 0, none⟩ = some (.int .u8 x) → (convert 43 9 (.slice (some ⟨g, 0, none⟩) 1 1)).run Try.prog W = .ok (.string sx) W)
    (V2 : ∀ W g, W.cell? ⟨g, 0, none⟩ = some (.int .u8 y) → (convert 43 9 (.slice (some ⟨g, 0, none⟩) 1 1)).run Try.prog W = .ok (.string sy) W)
    (V3 : ∀ W g, W.cell? ⟨g, 0, none⟩ = some (.int .u8 z) → (convert 43 9 (.slice (some ⟨g, 0, none⟩) 1 1)).run Try.prog W = .ok (.string sz) W)
    (P1 : ∀ W, (Op.stringOp .add sx m).run Try.prog W = .ok (.string s1) W)
    (P2 : ∀ W, (Op.stringOp .add s1 sy).run Try.prog W = .ok (.string j) W)
    (P3 : ∀ W, (Op.stringOp .add mu sz).run Try.prog W = .ok (.string v) W)
    (CR1 : ∀ W, Calls Try.prog 42 #[.string k, .string u] W fun e w' => e = .returned (.tuple #[.string S, .int .i64 0]) ∧ Below W.heap.size W w')
    (CR2 : ∀ W, Calls Try.prog 42 #[.string j, .string v] W fun e w' => e = .returned (.tuple #[.string S, .int .i64 0]) ∧ Below W.heap.size W w')
    (CF : ∀ W, Calls Try.prog 13 #[.string u] W fun e w' => e = .returned (.tuple #[nv N, .int .i64 0]) ∧ Below W.heap.size W w')
    (q0 : lim N 0 = lim M 0) (q1 : lim N 1 = lim M 1) (q2 : lim N 2 = lim M 2) (q3 : bits .and .u64 (lim N 3) 9223372036854775807 = lim M 3)
    (hcase : (¬ lim M 0 < 19) ∨ (lim M 0 < 19 ∧ ¬ lim M 1 = 0) ∨ (lim M 0 < 19 ∧ lim M 1 = 0 ∧ ¬ lim M 2 = 0) ∨ (lim M 0 < 19 ∧ lim M 1 = 0 ∧ lim M 2 = 0 ∧ ¬ lim M 3 = 0) ∨
      (lim M 0 < 19 ∧ lim M 1 = 0 ∧ lim M 2 = 0 ∧ lim M 3 = 0 ∧ (∀ W, Calls Try.prog 47 #[.agg #[.int .u64 (lim M 0), .int .u64 0, .int .u64 0, .int .u64 0], .agg #[.int .u64 18446744073709551597, .int .u64 18446744073709551615, .int .u64 18446744073709551615, .int .u64 9223372036854775807]] W fun e w' => e = .returned (.tuple #[nv (M + pp), .int .u64 bo]) ∧ Below W.heap.size W w') ∧
        (∀ W, Calls Try.prog 19 #[nv (M + pp)] W fun e w' => e = .returned (.string tt) ∧ Below W.heap.size W w') ∧
        (∀ W, Calls Try.prog 42 #[.string k, .string tt] W fun e w' => e = .returned (.tuple #[.string S, .int .i64 0]) ∧ Below W.heap.size W w'))) :
    Calls Try.prog 7 #[.string k, .string u, .int .u8 l] w fun e w' => e = .returned (.bool true) ∧ Below w.heap.size w w' := by
  have hk' : (k.size : Int) = 32 := by omega
  have hu' : (u.size : Int) = 32 := by omega
  go_enter Try.func7, Try.ntmps7
  go_wp2_with fail
  go_region
  all_goals
    go_wp2_with fail
    refine wp_abs (w := w) (by go_grown) (fun wA hA => ?_)
    clear S1 V1 V2 P1 P2 I0 I1 e0 e1 e2 e4
    have hSA := hA.size
    go_region
    go_wp2_with fail
    refine (CR1 _).mono ?_
    rintro e w1 ⟨rfl, hb⟩
    have hB := Bel.call ((Bel.al hA (.cells #[.int .u8 z] 5)).drew) hb
    clear hb hA hSA CR1 S2 V3 P3 I2 e3 e5
    go_wp2_with fail
    refine (CR2 _).mono ?_
    rintro e w2 ⟨rfl, hb⟩
    have hB2 := Bel.call hB hb
    clear hb hB CR2
    go_wp2_with fail
    refine (CF _).mono ?_
    rintro e w3 ⟨rfl, hb⟩
    have hB3 := Bel.call hB2 hb
    have hS3 := hB3.size
    clear hb hB2 CF
    rcases hcase with h | ⟨h1, h⟩ | ⟨h1, h2, h⟩ | ⟨h1, h2, h3, h⟩ | ⟨h1, h2, h3, h4, CA, CL, CR⟩
    iterate 3
      · go_wp2_with fail
        refine (awake3 _).mono ?_
        rintro e w4 ⟨rfl, hb⟩
        have hB4 := Bel.call (Bel.al hB3 _) hb
        go_wp2_with fail
        go_returns
        exact ⟨rfl, hB4⟩
    · have h' : (lim M 3 != 0) = true := by simpa using h
      go_wp2_with fail
      refine (awake3 _).mono ?_
      rintro e w4 ⟨rfl, hb⟩
      have hB4 := Bel.call (Bel.al hB3 _) hb
      go_wp2_with fail
      go_returns
      exact ⟨rfl, hB4⟩
    · go_wp2_with fail
      refine (CA _).mono ?_
      rintro e w4 ⟨rfl, hb⟩
      have hB4 := Bel.call (Bel.al hB3 _) hb
      clear hb hB3 CA
      go_wp2_with fail
      refine (CL _).mono ?_
      rintro e w5 ⟨rfl, hb⟩
      have hB5 := Bel.call (Bel.al hB4 _) hb
      clear hb hB4 CL
      go_wp2_with fail
      refine (CR _).mono ?_
      rintro e w6 ⟨rfl, hb⟩
      have hB6 := Bel.call hB5 hb
      clear hb hB5 CR
      go_wp2_with fail
      refine (awake3 _).mono ?_
      rintro e w7 ⟨rfl, hb⟩
      have hB7 := Bel.call hB6 hb
      clear hb hB6
      go_wp2_with fail
      go_returns
      exact ⟨rfl, hB7⟩
end Go.Proofs.Ytpigofooblmdhaa
