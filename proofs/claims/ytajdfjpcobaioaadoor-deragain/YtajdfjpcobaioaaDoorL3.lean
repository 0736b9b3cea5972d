/- DerAgain's walk. -/
import Derived.Test.YtajdfjpcobaioaaDoorL2
import Derived.Test.YtajdfjpcobaioaaDoorM5
import Derived.Test.YtajdfjpcobaioaaDoorM6
import Derived.Test.YtajdfjpcobaioaaDoorD20
set_option linter.all false
set_option maxRecDepth 100000
namespace Go.Proofs.YtajdfjpcobaioaaDoor
open Go.RowKit Go.Sort
set_option maxHeartbeats 8000000 in
theorem again_core (a0 a1 a2 a3 b0 b1 b2 b3 t u e1 e2 e3 e4 e5 : Int) (v : Value) (l L : List Int) (SA s O X : ByteArray) (w : World) (hT : Tab w)
    (EQ : ∀ W, (Op.equalIn 10000 48 (.agg #[.int .u64 a0, .int .u64 a1, .int .u64 a2, .int .u64 a3]) (.agg #[.int .u64 a0, .int .u64 a1, .int .u64 a2, .int .u64 a3])).run Tryd.prog W = .ok true W)
    (IA : ∀ W, Calls Tryd.prog 18 #[.agg #[.int .u64 a0, .int .u64 a1, .int .u64 a2, .int .u64 a3]] W fun e w' => e = .returned (.string SA) ∧ Below W.heap.size W w')
    (TA : ∀ W, Calls Tryd.prog 17 #[.string SA] W fun e w' => e = .returned (.tuple #[.agg #[.int .u64 a0, .int .u64 a1, .int .u64 a2, .int .u64 a3], .int .i64 0]) ∧ Below W.heap.size W w')
    (TS : ∀ W, Calls Tryd.prog 17 #[.string s] W fun e w' => e = .returned (.tuple #[.agg #[.int .u64 b0, .int .u64 b1, .int .u64 b2, .int .u64 b3], .int .i64 e1]) ∧ Below W.heap.size W w')
    (IS : e1 = 0 → ∀ W, Calls Tryd.prog 18 #[.agg #[.int .u64 b0, .int .u64 b1, .int .u64 b2, .int .u64 b3]] W fun e w' => e = .returned (.string s) ∧ Below W.heap.size W w')
    (OL : ∀ W, Below w.heap.size w W → Calls Tryd.prog 19 #[v] W fun e w' => e = .returned (.tuple #[.string O, .int .i64 e2]) ∧ Below W.heap.size W w')
    (TO : e2 = 0 → ∀ W, Calls Tryd.prog 20 #[.string O] W fun e w' => (∃ m, e = .returned (.tuple #[m, .int .i64 0]) ∧ Wds w' m l) ∧ Below W.heap.size W w')
    (WD : ∀ m W, Below w.heap.size w W → Wds W m l → Calls Tryd.prog 21 #[m, v] W fun e w' => e = .returned (.bool true) ∧ Below W.heap.size W w')
    (TS2 : ∀ W, Calls Tryd.prog 20 #[.string s] W fun e w' => (∃ m, e = .returned (.tuple #[m, .int .i64 e3]) ∧ Wds w' m L ∧ ∀ a k c, m = .slice (some a) k c → c ≤ maxLen) ∧ Below W.heap.size W w')
    (OS : e3 = 0 → ∀ m W, Wds W m L → (∀ a k c, m = .slice (some a) k c → c ≤ maxLen) → Calls Tryd.prog 19 #[m] W fun e w' => e = .returned (.tuple #[.string s, .int .i64 0]) ∧ Below W.heap.size W w')
    (T1 : ∀ W, Tab W → Calls Tryd.prog 22 #[.int .i64 t] W fun e w' => e = .returned (.tuple #[.string X, .int .i64 e4]) ∧ Below W.heap.size W w')
    (T2 : e4 = 0 → ∀ W, Calls Tryd.prog 23 #[.string X] W fun e w' => e = .returned (.tuple #[.int .i64 t, .int .i64 0]) ∧ Below W.heap.size W w')
    (T3 : ∀ W, Calls Tryd.prog 23 #[.string s] W fun e w' => e = .returned (.tuple #[.int .i64 u, .int .i64 e5]) ∧ Below W.heap.size W w')
    (T4 : e5 = 0 → ∀ W, Tab W → Calls Tryd.prog 22 #[.int .i64 u] W fun e w' => e = .returned (.tuple #[.string s, .int .i64 0]) ∧ Below W.heap.size W w')
    (CA : ∀ W, Tab W → Calls Tryd.prog 7 #[] W fun e w' => e = .returned (.bool true) ∧ Below W.heap.size W w') :
    Calls Tryd.prog 5 #[.agg #[.int .u64 a0, .int .u64 a1, .int .u64 a2, .int .u64 a3], v, .int .i64 t, .string s] w fun e w' => e = .returned (.bool true) ∧ Below w.heap.size w w' := by
  go_enter Tryd.func5, Tryd.ntmps5
  go_wp2_with fail
  refine (IA _).mono ?_
  rintro e' w1 ⟨rfl, hb⟩
  have KA := (C4.new w (.int .u64 a0) (.int .u64 a1) (.int .u64 a2) (.int .u64 a3) 48).to hb
  have hB : Below w.heap.size w w1 := Bel.call (below_al w _) hb
  clear hb
  go_wp2_with fail
  refine (TA _).mono ?_
  rintro e' w2 ⟨rfl, hb⟩
  replace KA := KA.to hb
  replace hB := Bel.call hB hb
  clear hb IA TA
  go_upto_region 2 with (fail)
  have KB := C4.new w2 (.int .u64 a0) (.int .u64 a1) (.int .u64 a2) (.int .u64 a3) 48
  replace KA := KA.to (below_al w2 (.cells #[.int .u64 a0, .int .u64 a1, .int .u64 a2, .int .u64 a3] 48))
  replace hB := Bel.al hB (.cells #[.int .u64 a0, .int .u64 a1, .int .u64 a2, .int .u64 a3] 48)
  generalize hq : w2.heap.size = q2 at *
  generalize w2.alloc (.cells #[.int .u64 a0, .int .u64 a1, .int .u64 a2, .int .u64 a3] 48) = w3 at *
  clear hq
  obtain ⟨x0, x1, x2, x3⟩ := KA
  obtain ⟨y0, y1, y2, y3⟩ := KB
  go_wp2_with fail
  clear x0 x1 x2 x3 y0 y1 y2 y3
  refine (TS _).mono ?_
  rintro e' w4 ⟨rfl, hb⟩
  replace hB := Bel.call hB hb
  clear hb
  by_cases h1 : e1 = 0
  · have IS' := IS h1
    subst h1
    go_upto_region 5 with (fail)
    have KC := C4.new w4 (.int .u64 b0) (.int .u64 b1) (.int .u64 b2) (.int .u64 b3) 48
    replace hB := Bel.al hB (.cells #[.int .u64 b0, .int .u64 b1, .int .u64 b2, .int .u64 b3] 48)
    generalize hq : w4.heap.size = q4 at *
    generalize w4.alloc (.cells #[.int .u64 b0, .int .u64 b1, .int .u64 b2, .int .u64 b3] 48) = w4' at *
    clear hq
    obtain ⟨y0, y1, y2, y3⟩ := KC
    go_wp2_with fail
    refine (IS' _).mono ?_
    rintro e' w5' ⟨rfl, hb⟩
    replace hB := Bel.call hB hb
    clear hb
    clear y0 y1 y2 y3
    go_wp2_with fail
    refine (OL _ hB).mono ?_
    rintro e' w5 ⟨rfl, hb⟩
    replace hB := Bel.call hB hb
    clear hb
    by_cases h2 : e2 = 0
    · have TO' := TO h2
      subst h2
      go_wp2_with fail
      refine (TO' _).mono ?_
      rintro e' w6 ⟨⟨m2, rfl, W2⟩, hb⟩
      replace hB := Bel.call hB hb
      clear hb
      have WD' := WD m2 _ hB W2
      clear W2
      go_wp2_with fail
      refine (WD').mono ?_
      rintro e' w7 ⟨rfl, hb⟩
      replace hB := Bel.call hB hb
      clear hb
      go_wp2_with fail
      refine (TS2 _).mono ?_
      rintro e' wa ⟨⟨m3, rfl, W3, C3⟩, hb⟩
      replace hB := Bel.call hB hb
      clear hb
      by_cases h3 : e3 = 0
      · have OS' := OS h3 m3 _ W3 C3
        subst h3
        go_wp2_with fail
        refine (OS').mono ?_
        rintro e' wb ⟨rfl, hb⟩
        replace hB := Bel.call hB hb
        clear hb
        clear W3 C3
        go_wp2_with fail
        refine (T1 _ (hT.to hB)).mono ?_
        rintro e' wc ⟨rfl, hb⟩
        replace hB := Bel.call hB hb
        clear hb
        by_cases h4 : e4 = 0
        · have T2' := T2 h4
          subst h4
          go_wp2_with fail
          refine (T2' _).mono ?_
          rintro e' wd ⟨rfl, hb⟩
          replace hB := Bel.call hB hb
          clear hb
          go_wp2_with fail
          refine (T3 _).mono ?_
          rintro e' we ⟨rfl, hb⟩
          replace hB := Bel.call hB hb
          clear hb
          by_cases h5 : e5 = 0
          · have T4' := T4 h5
            subst h5
            go_wp2_with fail
            refine (T4' _ (hT.to hB)).mono ?_
            rintro e' wf ⟨rfl, hb⟩
            replace hB := Bel.call hB hb
            clear hb
            go_wp2_with fail
            refine (CA _ (hT.to hB)).mono ?_
            rintro e' wz ⟨rfl, hb⟩
            replace hB := Bel.call hB hb
            clear hb
            go_wp2_with fail
            go_ret
            exact ⟨rfl, hB⟩
          · go_wp2_with fail
            refine (CA _ (hT.to hB)).mono ?_
            rintro e' wz ⟨rfl, hb⟩
            replace hB := Bel.call hB hb
            clear hb
            go_wp2_with fail
            go_ret
            exact ⟨rfl, hB⟩
        · go_wp2_with fail
          refine (T3 _).mono ?_
          rintro e' we ⟨rfl, hb⟩
          replace hB := Bel.call hB hb
          clear hb
          by_cases h5 : e5 = 0
          · have T4' := T4 h5
            subst h5
            go_wp2_with fail
            refine (T4' _ (hT.to hB)).mono ?_
            rintro e' wf ⟨rfl, hb⟩
            replace hB := Bel.call hB hb
            clear hb
            go_wp2_with fail
            refine (CA _ (hT.to hB)).mono ?_
            rintro e' wz ⟨rfl, hb⟩
            replace hB := Bel.call hB hb
            clear hb
            go_wp2_with fail
            go_ret
            exact ⟨rfl, hB⟩
          · go_wp2_with fail
            refine (CA _ (hT.to hB)).mono ?_
            rintro e' wz ⟨rfl, hb⟩
            replace hB := Bel.call hB hb
            clear hb
            go_wp2_with fail
            go_ret
            exact ⟨rfl, hB⟩
      · clear W3 C3
        go_wp2_with fail
        refine (T1 _ (hT.to hB)).mono ?_
        rintro e' wc ⟨rfl, hb⟩
        replace hB := Bel.call hB hb
        clear hb
        by_cases h4 : e4 = 0
        · have T2' := T2 h4
          subst h4
          go_wp2_with fail
          refine (T2' _).mono ?_
          rintro e' wd ⟨rfl, hb⟩
          replace hB := Bel.call hB hb
          clear hb
          go_wp2_with fail
          refine (T3 _).mono ?_
          rintro e' we ⟨rfl, hb⟩
          replace hB := Bel.call hB hb
          clear hb
          by_cases h5 : e5 = 0
          · have T4' := T4 h5
            subst h5
            go_wp2_with fail
            refine (T4' _ (hT.to hB)).mono ?_
            rintro e' wf ⟨rfl, hb⟩
            replace hB := Bel.call hB hb
            clear hb
            go_wp2_with fail
            refine (CA _ (hT.to hB)).mono ?_
            rintro e' wz ⟨rfl, hb⟩
            replace hB := Bel.call hB hb
            clear hb
            go_wp2_with fail
            go_ret
            exact ⟨rfl, hB⟩
          · go_wp2_with fail
            refine (CA _ (hT.to hB)).mono ?_
            rintro e' wz ⟨rfl, hb⟩
            replace hB := Bel.call hB hb
            clear hb
            go_wp2_with fail
            go_ret
            exact ⟨rfl, hB⟩
        · go_wp2_with fail
          refine (T3 _).mono ?_
          rintro e' we ⟨rfl, hb⟩
          replace hB := Bel.call hB hb
          clear hb
          by_cases h5 : e5 = 0
          · have T4' := T4 h5
            subst h5
            go_wp2_with fail
            refine (T4' _ (hT.to hB)).mono ?_
            rintro e' wf ⟨rfl, hb⟩
            replace hB := Bel.call hB hb
            clear hb
            go_wp2_with fail
            refine (CA _ (hT.to hB)).mono ?_
            rintro e' wz ⟨rfl, hb⟩
            replace hB := Bel.call hB hb
            clear hb
            go_wp2_with fail
            go_ret
            exact ⟨rfl, hB⟩
          · go_wp2_with fail
            refine (CA _ (hT.to hB)).mono ?_
            rintro e' wz ⟨rfl, hb⟩
            replace hB := Bel.call hB hb
            clear hb
            go_wp2_with fail
            go_ret
            exact ⟨rfl, hB⟩
    · go_wp2_with fail
      refine (TS2 _).mono ?_
      rintro e' wa ⟨⟨m3, rfl, W3, C3⟩, hb⟩
      replace hB := Bel.call hB hb
      clear hb
      by_cases h3 : e3 = 0
      · have OS' := OS h3 m3 _ W3 C3
        subst h3
        go_wp2_with fail
        refine (OS').mono ?_
        rintro e' wb ⟨rfl, hb⟩
        replace hB := Bel.call hB hb
        clear hb
        clear W3 C3
        go_wp2_with fail
        refine (T1 _ (hT.to hB)).mono ?_
        rintro e' wc ⟨rfl, hb⟩
        replace hB := Bel.call hB hb
        clear hb
        by_cases h4 : e4 = 0
        · have T2' := T2 h4
          subst h4
          go_wp2_with fail
          refine (T2' _).mono ?_
          rintro e' wd ⟨rfl, hb⟩
          replace hB := Bel.call hB hb
          clear hb
          go_wp2_with fail
          refine (T3 _).mono ?_
          rintro e' we ⟨rfl, hb⟩
          replace hB := Bel.call hB hb
          clear hb
          by_cases h5 : e5 = 0
          · have T4' := T4 h5
            subst h5
            go_wp2_with fail
            refine (T4' _ (hT.to hB)).mono ?_
            rintro e' wf ⟨rfl, hb⟩
            replace hB := Bel.call hB hb
            clear hb
            go_wp2_with fail
            refine (CA _ (hT.to hB)).mono ?_
            rintro e' wz ⟨rfl, hb⟩
            replace hB := Bel.call hB hb
            clear hb
            go_wp2_with fail
            go_ret
            exact ⟨rfl, hB⟩
          · go_wp2_with fail
            refine (CA _ (hT.to hB)).mono ?_
            rintro e' wz ⟨rfl, hb⟩
            replace hB := Bel.call hB hb
            clear hb
            go_wp2_with fail
            go_ret
            exact ⟨rfl, hB⟩
        · go_wp2_with fail
          refine (T3 _).mono ?_
          rintro e' we ⟨rfl, hb⟩
          replace hB := Bel.call hB hb
          clear hb
          by_cases h5 : e5 = 0
          · have T4' := T4 h5
            subst h5
            go_wp2_with fail
            refine (T4' _ (hT.to hB)).mono ?_
            rintro e' wf ⟨rfl, hb⟩
            replace hB := Bel.call hB hb
            clear hb
            go_wp2_with fail
            refine (CA _ (hT.to hB)).mono ?_
            rintro e' wz ⟨rfl, hb⟩
            replace hB := Bel.call hB hb
            clear hb
            go_wp2_with fail
            go_ret
            exact ⟨rfl, hB⟩
          · go_wp2_with fail
            refine (CA _ (hT.to hB)).mono ?_
            rintro e' wz ⟨rfl, hb⟩
            replace hB := Bel.call hB hb
            clear hb
            go_wp2_with fail
            go_ret
            exact ⟨rfl, hB⟩
      · clear W3 C3
        go_wp2_with fail
        refine (T1 _ (hT.to hB)).mono ?_
        rintro e' wc ⟨rfl, hb⟩
        replace hB := Bel.call hB hb
        clear hb
        by_cases h4 : e4 = 0
        · have T2' := T2 h4
          subst h4
          go_wp2_with fail
          refine (T2' _).mono ?_
          rintro e' wd ⟨rfl, hb⟩
          replace hB := Bel.call hB hb
          clear hb
          go_wp2_with fail
          refine (T3 _).mono ?_
          rintro e' we ⟨rfl, hb⟩
          replace hB := Bel.call hB hb
          clear hb
          by_cases h5 : e5 = 0
          · have T4' := T4 h5
            subst h5
            go_wp2_with fail
            refine (T4' _ (hT.to hB)).mono ?_
            rintro e' wf ⟨rfl, hb⟩
            replace hB := Bel.call hB hb
            clear hb
            go_wp2_with fail
            refine (CA _ (hT.to hB)).mono ?_
            rintro e' wz ⟨rfl, hb⟩
            replace hB := Bel.call hB hb
            clear hb
            go_wp2_with fail
            go_ret
            exact ⟨rfl, hB⟩
          · go_wp2_with fail
            refine (CA _ (hT.to hB)).mono ?_
            rintro e' wz ⟨rfl, hb⟩
            replace hB := Bel.call hB hb
            clear hb
            go_wp2_with fail
            go_ret
            exact ⟨rfl, hB⟩
        · go_wp2_with fail
          refine (T3 _).mono ?_
          rintro e' we ⟨rfl, hb⟩
          replace hB := Bel.call hB hb
          clear hb
          by_cases h5 : e5 = 0
          · have T4' := T4 h5
            subst h5
            go_wp2_with fail
            refine (T4' _ (hT.to hB)).mono ?_
            rintro e' wf ⟨rfl, hb⟩
            replace hB := Bel.call hB hb
            clear hb
            go_wp2_with fail
            refine (CA _ (hT.to hB)).mono ?_
            rintro e' wz ⟨rfl, hb⟩
            replace hB := Bel.call hB hb
            clear hb
            go_wp2_with fail
            go_ret
            exact ⟨rfl, hB⟩
          · go_wp2_with fail
            refine (CA _ (hT.to hB)).mono ?_
            rintro e' wz ⟨rfl, hb⟩
            replace hB := Bel.call hB hb
            clear hb
            go_wp2_with fail
            go_ret
            exact ⟨rfl, hB⟩
  · go_upto_region 5 with (fail)
    have KC := C4.new w4 (.int .u64 b0) (.int .u64 b1) (.int .u64 b2) (.int .u64 b3) 48
    replace hB := Bel.al hB (.cells #[.int .u64 b0, .int .u64 b1, .int .u64 b2, .int .u64 b3] 48)
    generalize hq : w4.heap.size = q4 at *
    generalize w4.alloc (.cells #[.int .u64 b0, .int .u64 b1, .int .u64 b2, .int .u64 b3] 48) = w4' at *
    clear hq
    clear KC
    go_wp2_with fail
    refine (OL _ hB).mono ?_
    rintro e' w5 ⟨rfl, hb⟩
    replace hB := Bel.call hB hb
    clear hb
    by_cases h2 : e2 = 0
    · have TO' := TO h2
      subst h2
      go_wp2_with fail
      refine (TO' _).mono ?_
      rintro e' w6 ⟨⟨m2, rfl, W2⟩, hb⟩
      replace hB := Bel.call hB hb
      clear hb
      have WD' := WD m2 _ hB W2
      clear W2
      go_wp2_with fail
      refine (WD').mono ?_
      rintro e' w7 ⟨rfl, hb⟩
      replace hB := Bel.call hB hb
      clear hb
      go_wp2_with fail
      refine (TS2 _).mono ?_
      rintro e' wa ⟨⟨m3, rfl, W3, C3⟩, hb⟩
      replace hB := Bel.call hB hb
      clear hb
      by_cases h3 : e3 = 0
      · have OS' := OS h3 m3 _ W3 C3
        subst h3
        go_wp2_with fail
        refine (OS').mono ?_
        rintro e' wb ⟨rfl, hb⟩
        replace hB := Bel.call hB hb
        clear hb
        clear W3 C3
        go_wp2_with fail
        refine (T1 _ (hT.to hB)).mono ?_
        rintro e' wc ⟨rfl, hb⟩
        replace hB := Bel.call hB hb
        clear hb
        by_cases h4 : e4 = 0
        · have T2' := T2 h4
          subst h4
          go_wp2_with fail
          refine (T2' _).mono ?_
          rintro e' wd ⟨rfl, hb⟩
          replace hB := Bel.call hB hb
          clear hb
          go_wp2_with fail
          refine (T3 _).mono ?_
          rintro e' we ⟨rfl, hb⟩
          replace hB := Bel.call hB hb
          clear hb
          by_cases h5 : e5 = 0
          · have T4' := T4 h5
            subst h5
            go_wp2_with fail
            refine (T4' _ (hT.to hB)).mono ?_
            rintro e' wf ⟨rfl, hb⟩
            replace hB := Bel.call hB hb
            clear hb
            go_wp2_with fail
            refine (CA _ (hT.to hB)).mono ?_
            rintro e' wz ⟨rfl, hb⟩
            replace hB := Bel.call hB hb
            clear hb
            go_wp2_with fail
            go_ret
            exact ⟨rfl, hB⟩
          · go_wp2_with fail
            refine (CA _ (hT.to hB)).mono ?_
            rintro e' wz ⟨rfl, hb⟩
            replace hB := Bel.call hB hb
            clear hb
            go_wp2_with fail
            go_ret
            exact ⟨rfl, hB⟩
        · go_wp2_with fail
          refine (T3 _).mono ?_
          rintro e' we ⟨rfl, hb⟩
          replace hB := Bel.call hB hb
          clear hb
          by_cases h5 : e5 = 0
          · have T4' := T4 h5
            subst h5
            go_wp2_with fail
            refine (T4' _ (hT.to hB)).mono ?_
            rintro e' wf ⟨rfl, hb⟩
            replace hB := Bel.call hB hb
            clear hb
            go_wp2_with fail
            refine (CA _ (hT.to hB)).mono ?_
            rintro e' wz ⟨rfl, hb⟩
            replace hB := Bel.call hB hb
            clear hb
            go_wp2_with fail
            go_ret
            exact ⟨rfl, hB⟩
          · go_wp2_with fail
            refine (CA _ (hT.to hB)).mono ?_
            rintro e' wz ⟨rfl, hb⟩
            replace hB := Bel.call hB hb
            clear hb
            go_wp2_with fail
            go_ret
            exact ⟨rfl, hB⟩
      · clear W3 C3
        go_wp2_with fail
        refine (T1 _ (hT.to hB)).mono ?_
        rintro e' wc ⟨rfl, hb⟩
        replace hB := Bel.call hB hb
        clear hb
        by_cases h4 : e4 = 0
        · have T2' := T2 h4
          subst h4
          go_wp2_with fail
          refine (T2' _).mono ?_
          rintro e' wd ⟨rfl, hb⟩
          replace hB := Bel.call hB hb
          clear hb
          go_wp2_with fail
          refine (T3 _).mono ?_
          rintro e' we ⟨rfl, hb⟩
          replace hB := Bel.call hB hb
          clear hb
          by_cases h5 : e5 = 0
          · have T4' := T4 h5
            subst h5
            go_wp2_with fail
            refine (T4' _ (hT.to hB)).mono ?_
            rintro e' wf ⟨rfl, hb⟩
            replace hB := Bel.call hB hb
            clear hb
            go_wp2_with fail
            refine (CA _ (hT.to hB)).mono ?_
            rintro e' wz ⟨rfl, hb⟩
            replace hB := Bel.call hB hb
            clear hb
            go_wp2_with fail
            go_ret
            exact ⟨rfl, hB⟩
          · go_wp2_with fail
            refine (CA _ (hT.to hB)).mono ?_
            rintro e' wz ⟨rfl, hb⟩
            replace hB := Bel.call hB hb
            clear hb
            go_wp2_with fail
            go_ret
            exact ⟨rfl, hB⟩
        · go_wp2_with fail
          refine (T3 _).mono ?_
          rintro e' we ⟨rfl, hb⟩
          replace hB := Bel.call hB hb
          clear hb
          by_cases h5 : e5 = 0
          · have T4' := T4 h5
            subst h5
            go_wp2_with fail
            refine (T4' _ (hT.to hB)).mono ?_
            rintro e' wf ⟨rfl, hb⟩
            replace hB := Bel.call hB hb
            clear hb
            go_wp2_with fail
            refine (CA _ (hT.to hB)).mono ?_
            rintro e' wz ⟨rfl, hb⟩
            replace hB := Bel.call hB hb
            clear hb
            go_wp2_with fail
            go_ret
            exact ⟨rfl, hB⟩
          · go_wp2_with fail
            refine (CA _ (hT.to hB)).mono ?_
            rintro e' wz ⟨rfl, hb⟩
            replace hB := Bel.call hB hb
            clear hb
            go_wp2_with fail
            go_ret
            exact ⟨rfl, hB⟩
    · go_wp2_with fail
      refine (TS2 _).mono ?_
      rintro e' wa ⟨⟨m3, rfl, W3, C3⟩, hb⟩
      replace hB := Bel.call hB hb
      clear hb
      by_cases h3 : e3 = 0
      · have OS' := OS h3 m3 _ W3 C3
        subst h3
        go_wp2_with fail
        refine (OS').mono ?_
        rintro e' wb ⟨rfl, hb⟩
        replace hB := Bel.call hB hb
        clear hb
        clear W3 C3
        go_wp2_with fail
        refine (T1 _ (hT.to hB)).mono ?_
        rintro e' wc ⟨rfl, hb⟩
        replace hB := Bel.call hB hb
        clear hb
        by_cases h4 : e4 = 0
        · have T2' := T2 h4
          subst h4
          go_wp2_with fail
          refine (T2' _).mono ?_
          rintro e' wd ⟨rfl, hb⟩
          replace hB := Bel.call hB hb
          clear hb
          go_wp2_with fail
          refine (T3 _).mono ?_
          rintro e' we ⟨rfl, hb⟩
          replace hB := Bel.call hB hb
          clear hb
          by_cases h5 : e5 = 0
          · have T4' := T4 h5
            subst h5
            go_wp2_with fail
            refine (T4' _ (hT.to hB)).mono ?_
            rintro e' wf ⟨rfl, hb⟩
            replace hB := Bel.call hB hb
            clear hb
            go_wp2_with fail
            refine (CA _ (hT.to hB)).mono ?_
            rintro e' wz ⟨rfl, hb⟩
            replace hB := Bel.call hB hb
            clear hb
            go_wp2_with fail
            go_ret
            exact ⟨rfl, hB⟩
          · go_wp2_with fail
            refine (CA _ (hT.to hB)).mono ?_
            rintro e' wz ⟨rfl, hb⟩
            replace hB := Bel.call hB hb
            clear hb
            go_wp2_with fail
            go_ret
            exact ⟨rfl, hB⟩
        · go_wp2_with fail
          refine (T3 _).mono ?_
          rintro e' we ⟨rfl, hb⟩
          replace hB := Bel.call hB hb
          clear hb
          by_cases h5 : e5 = 0
          · have T4' := T4 h5
            subst h5
            go_wp2_with fail
            refine (T4' _ (hT.to hB)).mono ?_
            rintro e' wf ⟨rfl, hb⟩
            replace hB := Bel.call hB hb
            clear hb
            go_wp2_with fail
            refine (CA _ (hT.to hB)).mono ?_
            rintro e' wz ⟨rfl, hb⟩
            replace hB := Bel.call hB hb
            clear hb
            go_wp2_with fail
            go_ret
            exact ⟨rfl, hB⟩
          · go_wp2_with fail
            refine (CA _ (hT.to hB)).mono ?_
            rintro e' wz ⟨rfl, hb⟩
            replace hB := Bel.call hB hb
            clear hb
            go_wp2_with fail
            go_ret
            exact ⟨rfl, hB⟩
      · clear W3 C3
        go_wp2_with fail
        refine (T1 _ (hT.to hB)).mono ?_
        rintro e' wc ⟨rfl, hb⟩
        replace hB := Bel.call hB hb
        clear hb
        by_cases h4 : e4 = 0
        · have T2' := T2 h4
          subst h4
          go_wp2_with fail
          refine (T2' _).mono ?_
          rintro e' wd ⟨rfl, hb⟩
          replace hB := Bel.call hB hb
          clear hb
          go_wp2_with fail
          refine (T3 _).mono ?_
          rintro e' we ⟨rfl, hb⟩
          replace hB := Bel.call hB hb
          clear hb
          by_cases h5 : e5 = 0
          · have T4' := T4 h5
            subst h5
            go_wp2_with fail
            refine (T4' _ (hT.to hB)).mono ?_
            rintro e' wf ⟨rfl, hb⟩
            replace hB := Bel.call hB hb
            clear hb
            go_wp2_with fail
            refine (CA _ (hT.to hB)).mono ?_
            rintro e' wz ⟨rfl, hb⟩
            replace hB := Bel.call hB hb
            clear hb
            go_wp2_with fail
            go_ret
            exact ⟨rfl, hB⟩
          · go_wp2_with fail
            refine (CA _ (hT.to hB)).mono ?_
            rintro e' wz ⟨rfl, hb⟩
            replace hB := Bel.call hB hb
            clear hb
            go_wp2_with fail
            go_ret
            exact ⟨rfl, hB⟩
        · go_wp2_with fail
          refine (T3 _).mono ?_
          rintro e' we ⟨rfl, hb⟩
          replace hB := Bel.call hB hb
          clear hb
          by_cases h5 : e5 = 0
          · have T4' := T4 h5
            subst h5
            go_wp2_with fail
            refine (T4' _ (hT.to hB)).mono ?_
            rintro e' wf ⟨rfl, hb⟩
            replace hB := Bel.call hB hb
            clear hb
            go_wp2_with fail
            refine (CA _ (hT.to hB)).mono ?_
            rintro e' wz ⟨rfl, hb⟩
            replace hB := Bel.call hB hb
            clear hb
            go_wp2_with fail
            go_ret
            exact ⟨rfl, hB⟩
          · go_wp2_with fail
            refine (CA _ (hT.to hB)).mono ?_
            rintro e' wz ⟨rfl, hb⟩
            replace hB := Bel.call hB hb
            clear hb
            go_wp2_with fail
            go_ret
            exact ⟨rfl, hB⟩
end Go.Proofs.YtajdfjpcobaioaaDoor
