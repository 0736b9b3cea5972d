/- PROVED: the function pendulumlaw01.NumBack answers true for every input, and each argument reads behind the call as it read before; no condition. -/
import Derived.Test.YtfgeilnaiijldaaT5
import Derived.Test.YtfgeilnaiijldaaM9
import Derived.Test.YtfgeilnaiijldaaN20
import Derived.Test.YtfgeilnaiijldaaN2
import Derived.Test.YtfgeilnaiijldaaF0
set_option linter.all false
namespace Go.Proofs.Ytfgeilnaiijldaa
open Go.ChangeShapes Go.WideShapes Go.ChangeAt Go.RowKit
open Go.ChangeMaps (open_string shut_string)
/-- Four cells of block b hold f. -/
abbrev R4 (w' : World) (b : Nat) (f : Nat → Value) : Prop := ∀ j, j < 4 → w'.cell? ⟨b, j, none⟩ = some (f j)
theorem R4.to {w w' : World} {b n : Nat} {f : Nat → Value} (h : R4 w b f) (hb : Below n w w') (hn : b < n) : R4 w' b f := fun j hj => (hb.cell (p := ⟨b, j, none⟩) hn).trans (h j hj)
theorem r4lt {w : World} {b : Nat} {f : Nat → Value} (h : R4 w b f) : b < w.heap.size := block_lt_of_cell (h 0 (by omega))
theorem R4.to' {w w' : World} {b : Nat} {f : Nat → Value} (h : R4 w b f) (hb : Below w.heap.size w w') : R4 w' b f := R4.to h hb (r4lt h)
theorem R4.al' {w : World} {b : Nat} {f : Nat → Value} (h : R4 w b f) (o : Obj) : R4 (w.alloc o) b f := fun j hj => (World.cell?_alloc_past (w := w) o b j (r4lt h)).trans (h j hj)
theorem R4.of {w : World} {b : Nat} {f : Nat → Value} (h0 : w.cell? ⟨b, 0, none⟩ = some (f 0)) (h1 : w.cell? ⟨b, 1, none⟩ = some (f 1)) (h2 : w.cell? ⟨b, 2, none⟩ = some (f 2)) (h3 : w.cell? ⟨b, 3, none⟩ = some (f 3)) : R4 w b f := by
  intro j hj
  have h : j = 0 ∨ j = 1 ∨ j = 2 ∨ j = 3 := by omega
  rcases h with rfl | rfl | rfl | rfl <;> assumption
theorem Arr.lt {w : World} {b n : Nat} {f : Nat → Value} (h : Arr w b (n + 1) f) : b < w.heap.size := block_lt_of_cell (h 0 (by omega)).1
theorem Arr.to' {w w' : World} {b : Nat} {f : Nat → Value} (h : Arr w b 4 f) (hb : Below w.heap.size w w') : Arr w' b 4 f := h.below hb h.lt
theorem Arr.al' {w : World} {b : Nat} {f : Nat → Value} (h : Arr w b 4 f) (o : Obj) : Arr (w.alloc o) b 4 f := h.alloc h.lt o
theorem Bel.call {w W w' : World} (h : Below w.heap.size w W) (hb : Below W.heap.size W w') : Below w.heap.size w w' := h.trans (hb.mono h.size)
theorem Bel.al {w W : World} (h : Below w.heap.size w W) (o : Obj) : Below w.heap.size w (W.alloc o) := h.alloc h.size o
section
attribute [local go_sem] eq24
set_option maxRecDepth 100000 in
set_option maxHeartbeats 8000000 in
theorem back_core (A B c : Int) (T G K S : ByteArray) (w : World)
    (C14 : ∀ W, Calls Try.prog 14 #[nv A] W fun e w' => e = .returned (.string T) ∧ Below W.heap.size W w')
    (C8 : ∀ W, Calls Try.prog 8 #[.string T] W fun e w' => e = .returned (.tuple #[nv A, .int .i64 0]) ∧ Below W.heap.size W w')
    (C16 : ∀ W, Calls Try.prog 16 #[nv A] W fun e w' => e = .returned (.string G) ∧ Below W.heap.size W w')
    (C10 : ∀ W, Calls Try.prog 10 #[.string G] W fun e w' => e = .returned (.tuple #[nv A, .int .i64 0]) ∧ Below W.heap.size W w')
    (C18 : ∀ W, Calls Try.prog 18 #[nv A] W fun e w' => e = .returned (.string K) ∧ Below W.heap.size W w')
    (C12 : ∀ W, Calls Try.prog 12 #[.string K] W fun e w' => e = .returned (.tuple #[nv A, .int .i64 0]) ∧ Below W.heap.size W w')
    (CP : ∀ W, Calls Try.prog 8 #[.string S] W fun e w' => (∃ n E : Int, e = .returned (.tuple #[nv n, .int .i64 E]) ∧ ((E = 0 ∧ ∀ W, Calls Try.prog 14 #[nv n] W fun e w' => e = .returned (.string S) ∧ Below W.heap.size W w') ∨ ¬ E = 0)) ∧ Below W.heap.size W w')
    (C21 : ∀ W, Calls Try.prog 21 #[nv A, nv B] W fun e w' => e = .returned (.tuple #[nv (A + B), .int .u64 c]) ∧ Below W.heap.size W w')
    (C23 : ∀ W, Calls Try.prog 23 #[nv (A + B), nv B] W fun e w' => e = .returned (.tuple #[nv A, .int .u64 c]) ∧ Below W.heap.size W w') :
    Calls Try.prog 6 #[nv A, nv B, .string S] w fun e w' => e = .returned (.bool true) ∧ Below w.heap.size w w' := by
  go_enter Try.func6, Try.ntmps6
  go_wp2_with fail
  refine (C14 _).mono ?_
  rintro e w1 ⟨rfl, hb⟩
  have RA : R4 w1 w.heap.size (fun j => .int .u64 (lim A j)) := R4.to (R4.of (by simp [go_sem]) (by simp [go_sem]) (by simp [go_sem]) (by simp [go_sem])) hb (by go_size)
  have RB : R4 w1 (w.heap.size + 1) (fun j => .int .u64 (lim B j)) := R4.to (R4.of (by simp [go_sem]) (by simp [go_sem]) (by simp [go_sem]) (by simp [go_sem])) hb (by go_size)
  have hB : Below w.heap.size w w1 := Below.trans (by go_grown) (hb.mono (by go_size))
  clear hb
  go_wp2_with fail
  refine (C8 _).mono ?_
  rintro e w2 ⟨rfl, hb⟩
  have RA2 := R4.to' RA hb
  have RB2 := R4.to' RB hb
  have hB2 := Bel.call hB hb
  clear RA RB hB hb 
  have RA := RA2
  have RB := RB2
  have hB := hB2
  clear RA2 RB2 hB2 
  have ca := fun o => R4.al' RA o
  go_wp2_with fail
  refine (C16 _).mono ?_
  rintro e w3 ⟨rfl, hb⟩
  clear ca
  have N1 := Arr.to' (Arr.mk4 (w := w2.alloc (.cells #[.int .u64 (lim A 0), .int .u64 (lim A 1), .int .u64 (lim A 2), .int .u64 (lim A 3)] 24)) (b := w2.heap.size) (f := fun j => .int .u64 (lim A j)) (by simp [go_sem]) (by simp [go_sem]) (by simp [go_sem]) (by simp [go_sem]) (by simp [go_sem]) (by simp [go_sem]) (by simp [go_sem]) (by simp [go_sem])) hb
  have RA2 := R4.to' (R4.al' RA (.cells #[.int .u64 (lim A 0), .int .u64 (lim A 1), .int .u64 (lim A 2), .int .u64 (lim A 3)] 24)) hb
  have RB2 := R4.to' (R4.al' RB (.cells #[.int .u64 (lim A 0), .int .u64 (lim A 1), .int .u64 (lim A 2), .int .u64 (lim A 3)] 24)) hb
  have hB2 := Bel.call (Bel.al hB (.cells #[.int .u64 (lim A 0), .int .u64 (lim A 1), .int .u64 (lim A 2), .int .u64 (lim A 3)] 24)) hb
  clear RA RB hB hb 
  have RA := RA2
  have RB := RB2
  have hB := hB2
  clear RA2 RB2 hB2 
  go_wp2_with fail
  refine (C10 _).mono ?_
  rintro e w4 ⟨rfl, hb⟩
  have RA2 := R4.to' RA hb
  have RB2 := R4.to' RB hb
  have hB2 := Bel.call hB hb
  have N12 := Arr.to' N1 hb
  clear RA RB hB hb N1
  have RA := RA2
  have RB := RB2
  have hB := hB2
  have N1 := N12
  clear RA2 RB2 hB2 N12
  have ca := fun o => R4.al' RA o
  go_wp2_with fail
  refine (C18 _).mono ?_
  rintro e w5 ⟨rfl, hb⟩
  clear ca
  have N2 := Arr.to' (Arr.mk4 (w := w4.alloc (.cells #[.int .u64 (lim A 0), .int .u64 (lim A 1), .int .u64 (lim A 2), .int .u64 (lim A 3)] 24)) (b := w4.heap.size) (f := fun j => .int .u64 (lim A j)) (by simp [go_sem]) (by simp [go_sem]) (by simp [go_sem]) (by simp [go_sem]) (by simp [go_sem]) (by simp [go_sem]) (by simp [go_sem]) (by simp [go_sem])) hb
  have RA2 := R4.to' (R4.al' RA (.cells #[.int .u64 (lim A 0), .int .u64 (lim A 1), .int .u64 (lim A 2), .int .u64 (lim A 3)] 24)) hb
  have RB2 := R4.to' (R4.al' RB (.cells #[.int .u64 (lim A 0), .int .u64 (lim A 1), .int .u64 (lim A 2), .int .u64 (lim A 3)] 24)) hb
  have hB2 := Bel.call (Bel.al hB (.cells #[.int .u64 (lim A 0), .int .u64 (lim A 1), .int .u64 (lim A 2), .int .u64 (lim A 3)] 24)) hb
  have N12 := Arr.to' (Arr.al' N1 (.cells #[.int .u64 (lim A 0), .int .u64 (lim A 1), .int .u64 (lim A 2), .int .u64 (lim A 3)] 24)) hb
  clear RA RB hB hb N1
  have RA := RA2
  have RB := RB2
  have hB := hB2
  have N1 := N12
  clear RA2 RB2 hB2 N12
  go_wp2_with fail
  refine (C12 _).mono ?_
  rintro e w6 ⟨rfl, hb⟩
  have RA2 := R4.to' RA hb
  have RB2 := R4.to' RB hb
  have hB2 := Bel.call hB hb
  have N12 := Arr.to' N1 hb
  have N22 := Arr.to' N2 hb
  clear RA RB hB hb N1 N2
  have RA := RA2
  have RB := RB2
  have hB := hB2
  have N1 := N12
  have N2 := N22
  clear RA2 RB2 hB2 N12 N22
  have ca := fun o => R4.al' RA o
  have cN1 := fun o => (Arr.al' N1 o).c
  have cN2 := fun o => (Arr.al' N2 o).c
  go_wp2_with fail
  refine (CP _).mono ?_
  rintro e w7 ⟨⟨n, E, rfl, hcase⟩, hb⟩
  clear ca cN1 cN2
  clear N1 N2
  have RA2 := R4.to' (R4.al' RA (.cells #[.int .u64 (lim A 0), .int .u64 (lim A 1), .int .u64 (lim A 2), .int .u64 (lim A 3)] 24)) hb
  have RB2 := R4.to' (R4.al' RB (.cells #[.int .u64 (lim A 0), .int .u64 (lim A 1), .int .u64 (lim A 2), .int .u64 (lim A 3)] 24)) hb
  have hB2 := Bel.call (Bel.al hB (.cells #[.int .u64 (lim A 0), .int .u64 (lim A 1), .int .u64 (lim A 2), .int .u64 (lim A 3)] 24)) hb
  clear RA RB hB hb 
  have RA := RA2
  have RB := RB2
  have hB := hB2
  clear RA2 RB2 hB2 
  rcases hcase with ⟨rfl, CT⟩ | hE
  · skip
    have ca := fun o => R4.al' RA o
    have cb := fun o => R4.al' RB o
    go_wp2_with fail
    refine (CT _).mono ?_
    rintro e w8 ⟨rfl, hb⟩
    clear ca cb
    have RA2 := R4.to' (R4.al' RA (.cells #[.int .u64 (lim n 0), .int .u64 (lim n 1), .int .u64 (lim n 2), .int .u64 (lim n 3)] 24)) hb
    have RB2 := R4.to' (R4.al' RB (.cells #[.int .u64 (lim n 0), .int .u64 (lim n 1), .int .u64 (lim n 2), .int .u64 (lim n 3)] 24)) hb
    have hB2 := Bel.call (Bel.al hB (.cells #[.int .u64 (lim n 0), .int .u64 (lim n 1), .int .u64 (lim n 2), .int .u64 (lim n 3)] 24)) hb
    clear RA RB hB hb 
    have RA := RA2
    have RB := RB2
    have hB := hB2
    clear RA2 RB2 hB2 
    go_wp2_with fail
    refine (C21 _).mono ?_
    rintro e w9 ⟨rfl, hb⟩
    have RA2 := R4.to' RA hb
    have RB2 := R4.to' RB hb
    have hB2 := Bel.call hB hb
    clear RA RB hB hb 
    have RA := RA2
    have RB := RB2
    have hB := hB2
    clear RA2 RB2 hB2 
    have cb := fun o => R4.al' RB o
    go_wp2_with fail
    refine (C23 _).mono ?_
    rintro e w10 ⟨rfl, hb⟩
    clear cb
    have RA2 := R4.to' (R4.al' RA (.cells #[.int .u64 (lim (A + B) 0), .int .u64 (lim (A + B) 1), .int .u64 (lim (A + B) 2), .int .u64 (lim (A + B) 3)] 24)) hb
    have RB2 := R4.to' (R4.al' RB (.cells #[.int .u64 (lim (A + B) 0), .int .u64 (lim (A + B) 1), .int .u64 (lim (A + B) 2), .int .u64 (lim (A + B) 3)] 24)) hb
    have hB2 := Bel.call (Bel.al hB (.cells #[.int .u64 (lim (A + B) 0), .int .u64 (lim (A + B) 1), .int .u64 (lim (A + B) 2), .int .u64 (lim (A + B) 3)] 24)) hb
    clear RA RB hB hb 
    have RA := RA2
    have RB := RB2
    have hB := hB2
    clear RA2 RB2 hB2 
    have ca := fun o => R4.al' RA o
    go_wp2_with fail
    refine (awake_any _).mono ?_
    rintro e w11 ⟨rfl, hb⟩
    clear ca
    have RA2 := R4.to' (R4.al' RA (.cells #[.int .u64 (lim A 0), .int .u64 (lim A 1), .int .u64 (lim A 2), .int .u64 (lim A 3)] 24)) hb
    have RB2 := R4.to' (R4.al' RB (.cells #[.int .u64 (lim A 0), .int .u64 (lim A 1), .int .u64 (lim A 2), .int .u64 (lim A 3)] 24)) hb
    have hB2 := Bel.call (Bel.al hB (.cells #[.int .u64 (lim A 0), .int .u64 (lim A 1), .int .u64 (lim A 2), .int .u64 (lim A 3)] 24)) hb
    clear RA RB hB hb 
    have RA := RA2
    have RB := RB2
    have hB := hB2
    clear RA2 RB2 hB2 
    clear RA RB
    go_wp2_with fail
    go_ret
    exact ⟨rfl, hB⟩
  · skip
    have ca := fun o => R4.al' RA o
    have cb := fun o => R4.al' RB o
    have hE' : (E == 0) = false := by simp [hE]
    go_wp2_with fail
    refine (C21 _).mono ?_
    rintro e w9 ⟨rfl, hb⟩
    clear ca cb
    have RA2 := R4.to' (R4.al' RA (.cells #[.int .u64 (lim n 0), .int .u64 (lim n 1), .int .u64 (lim n 2), .int .u64 (lim n 3)] 24)) hb
    have RB2 := R4.to' (R4.al' RB (.cells #[.int .u64 (lim n 0), .int .u64 (lim n 1), .int .u64 (lim n 2), .int .u64 (lim n 3)] 24)) hb
    have hB2 := Bel.call (Bel.al hB (.cells #[.int .u64 (lim n 0), .int .u64 (lim n 1), .int .u64 (lim n 2), .int .u64 (lim n 3)] 24)) hb
    clear RA RB hB hb 
    have RA := RA2
    have RB := RB2
    have hB := hB2
    clear RA2 RB2 hB2 
    have cb := fun o => R4.al' RB o
    go_wp2_with fail
    refine (C23 _).mono ?_
    rintro e w10 ⟨rfl, hb⟩
    clear cb
    have RA2 := R4.to' (R4.al' RA (.cells #[.int .u64 (lim (A + B) 0), .int .u64 (lim (A + B) 1), .int .u64 (lim (A + B) 2), .int .u64 (lim (A + B) 3)] 24)) hb
    have RB2 := R4.to' (R4.al' RB (.cells #[.int .u64 (lim (A + B) 0), .int .u64 (lim (A + B) 1), .int .u64 (lim (A + B) 2), .int .u64 (lim (A + B) 3)] 24)) hb
    have hB2 := Bel.call (Bel.al hB (.cells #[.int .u64 (lim (A + B) 0), .int .u64 (lim (A + B) 1), .int .u64 (lim (A + B) 2), .int .u64 (lim (A + B) 3)] 24)) hb
    clear RA RB hB hb 
    have RA := RA2
    have RB := RB2
    have hB := hB2
    clear RA2 RB2 hB2 
    have ca := fun o => R4.al' RA o
    go_wp2_with fail
    refine (awake_any _).mono ?_
    rintro e w11 ⟨rfl, hb⟩
    clear ca
    have RA2 := R4.to' (R4.al' RA (.cells #[.int .u64 (lim A 0), .int .u64 (lim A 1), .int .u64 (lim A 2), .int .u64 (lim A 3)] 24)) hb
    have RB2 := R4.to' (R4.al' RB (.cells #[.int .u64 (lim A 0), .int .u64 (lim A 1), .int .u64 (lim A 2), .int .u64 (lim A 3)] 24)) hb
    have hB2 := Bel.call (Bel.al hB (.cells #[.int .u64 (lim A 0), .int .u64 (lim A 1), .int .u64 (lim A 2), .int .u64 (lim A 3)] 24)) hb
    clear RA RB hB hb 
    have RA := RA2
    have RB := RB2
    have hB := hB2
    clear RA2 RB2 hB2 
    clear RA RB
    go_wp2_with fail
    go_ret
    exact ⟨rfl, hB⟩
end
theorem dg4 (s : ByteArray) : (64 : Nat) = 4 * 16 := rfl
theorem parse_yes (s : ByteArray) (hs : s.size = 64) (hall : alld s 64) (w : World) :
    Calls Try.prog 8 #[.string s] w fun e w' => e = .returned (.tuple #[nv (pn 4 (dg s) 64), .int .i64 0]) ∧ Below w.heap.size w w' := by
  refine (parse_64 s hs w).mono ?_
  rintro e w' ⟨⟨_, rfl⟩ | ⟨hn, _⟩, hb⟩
  · refine ⟨?_, hb⟩
    rw [show (64 : Nat) = 4 * 16 from rfl, nv_pb 4 16 (dg s) (by omega) (by omega) (dg_4 s)]
  · exact absurd hall hn
theorem nv_nil : nv 0 = .agg #[.int .u64 0, .int .u64 0, .int .u64 0, .int .u64 0] := by
  have h : ∀ k, lim 0 k = 0 := fun k => by simp [lim]
  simp only [nv, h]
theorem pn_top (s : ByteArray) : 0 ≤ pn 4 (dg s) 64 ∧ pn 4 (dg s) 64 < top256 :=
  ⟨pn_nn 4 (dg s) (fun i => (dg_4 s i).1) 64, by have := pn_lt 4 (dg s) (dg_4 s) 64; rw [top_pow]; exact this⟩
theorem parse_says (s : ByteArray) (hs : s.size ≤ maxLen) (w : World) :
    Calls Try.prog 8 #[.string s] w fun e w' => (∃ n E : Int, e = .returned (.tuple #[nv n, .int .i64 E]) ∧ ((E = 0 ∧ ∀ W, Calls Try.prog 14 #[nv n] W fun e w' => e = .returned (.string s) ∧ Below W.heap.size W w') ∨ ¬ E = 0)) ∧ Below w.heap.size w w' := by
  by_cases h : s.size = 64
  · refine (parse_64 s h w).mono ?_
    rintro e w' ⟨⟨hall, rfl⟩ | ⟨_, rfl⟩, hb⟩
    · refine ⟨⟨pn 4 (dg s) 64, 0, ?_, .inl ⟨rfl, fun W => ?_⟩⟩, hb⟩
      · rw [← nv_pb 4 16 (dg s) (by omega) (by omega) (dg_4 s)]
      · have t := text_any (pn 4 (dg s) 64) (pn_top s).1 (pn_top s).2 W
        rw [parse_back s h hall] at t
        exact t
    · exact ⟨⟨0, 10, by rw [nv_nil], .inr (by omega)⟩, hb⟩
  · refine (parse_no s hs h w).mono ?_
    rintro e w' ⟨rfl, hb⟩
    refine ⟨⟨0, lenE s.size 64, by rw [nv_nil], .inr ?_⟩, hb⟩
    unfold lenE; split <;> (try split) <;> omega
theorem back_any (A B : Int) (S : ByteArray) (hA : 0 ≤ A) (hA' : A < top256) (hB : 0 ≤ B) (hB' : B < top256) (hS : S.size ≤ maxLen) (w : World) :
    Calls Try.prog 6 #[nv A, nv B, .string S] w fun e w' => e = .returned (.bool true) ∧ Below w.heap.size w w' := by
  refine back_core A B (lim (A + B) 4) (txS A) (mkS (bgL A)) (mkS (ltL A)) S w (fun W => text_any A hA hA' W) (fun W => ?_) (fun W => big_any A hA hA' W) (fun W => ?_) (fun W => little_any A hA hA' W) (fun W => ?_) (fun W => parse_says S hS W) (fun W => add_any A B hA hA' hB hB' W) (fun W => ?_)
  · have := parse_yes (txS A) (txS_size A) (text_alld A) W
    rw [text_back A hA hA'] at this
    exact this
  · have := fromBig_yes (mkS (bgL A)) (by rw [mkS_size]; simp [bgL]) W
    rw [big_back A hA hA'] at this
    exact this
  · have sz : (mkS (ltL A)).size = 32 := by rw [mkS_size]; simp [ltL]
    refine fromLittle_ok (mkS (ltL A)) sz A (fun W => ?_) W
    have := fromBig_yes (mkS (tnL (mkS (ltL A)))) (by rw [mkS_size]; simp [tnL]) W
    have e : pn 8 (bt (mkS (tnL (mkS (ltL A))))) 32 = A := by
      rw [pn_congr 8 (bt (mkS (tnL (mkS (ltL A))))) (byt A) 32 ?_, pn_all A hA hA']
      intro i hi
      have b := bt_bd (mkS (ltL A)) (31 - i)
      rw [mkS_bt _ i _ (tnL_at _ i hi) b.1 b.2]
      have b2 := byt_bd A (31 - (31 - i))
      rw [mkS_bt _ (31 - i) _ (ltL_at A (31 - i) (by omega)) b2.1 b2.2, show 31 - (31 - i) = i by omega]
    rw [e] at this
    exact this
  · have s := sub_any ((A + B) % top256) B (Int.emod_nonneg _ (by decide)) (Int.emod_lt_of_pos _ (by decide)) hB hB' W
    have e1 : nv ((A + B) % top256 - B) = nv A := by
      rw [← nv_mod ((A + B) % top256 - B), ← nv_mod A]
      congr 1
      unfold top256 at *; omega
    have e2 : bor ((A + B) % top256) B = lim (A + B) 4 := by
      unfold bor; rw [lim4]; unfold top256 at *; split <;> omega
    rw [nv_mod, e1, e2] at s
    exact s
set_option maxRecDepth 100000 in
theorem lifted6 (os : Os) (started : os.Started) (H : Type) (enc : TypeId × Value → H) :
    ReturnsInHanded {} Try.checked os 6 .any (Rows.numBackSpec.pre6 enc Try.prog Try.f6 Rows.numBackRow.domain false) (Rows.numBackSpec.post enc Try.prog Try.f6 false true false false) := by
  refine returnsInHanded_of_change (C := Try.checked) own started (by kernel_rfl) Try.func6
    (ChangeSpec.witness6 (enc := enc) (C := Try.checked) false ⟨#[], #[.agg #[.int .u64 0, .int .u64 0, .int .u64 0, .int .u64 0], .agg #[.int .u64 0, .int .u64 0, .int .u64 0, .int .u64 0], .string ⟨#[]⟩], []⟩ 8 (by kernel_rfl) (by kernel_rfl) (by kernel_rfl) (by kernel_rfl)) ?_
  intro W base args ds gs before hval0 hW hcnd _
  have hval : ∀ (j : Nat) t v, Try.f6.params[j]? = some t → args[j]? = some v → Value.okWide Try.prog W .any base t v := hval0
  have hW' := hW
  obtain ⟨p, q, hA0, hV, rfl, hfz, hnd⟩ := hW
  have hA : DataW.TrodAll enc Try.prog W 0 (fun _ => true) true Try.f6.params.toList args.toList ds p := hA0
  rw [Try.params6] at hA hval
  obtain ⟨v0, vs0, d0, ds0, p0, q0, hargs, rfl, rfl, h0, r0⟩ := trodAll_cons hA
  obtain ⟨v1, vs1, d1, ds1, p1, q1, rfl, rfl, rfl, h1, r1⟩ := trodAll_cons r0
  obtain ⟨v2, vs2, d2, ds2, p2, q2, rfl, rfl, rfl, h2, r2⟩ := trodAll_cons r1
  obtain ⟨rfl, rfl, rfl⟩ := trodAll_nil r2
  obtain rfl : args = #[v0, v1, v2] := by cases args; simp_all
  obtain ⟨rfl, rfl⟩ := trodVars_none hV
  have k0 := h0
  have k1 := h1
  have k2 := h2
  have lt0 : ∀ x ∈ p0, x.block < W.heap.size := by obtain ⟨m, hm⟩ := k0; exact DataW.trod_lt m _ _ _ hm
  have lt1 : ∀ x ∈ p1, x.block < W.heap.size := by obtain ⟨m, hm⟩ := k1; exact DataW.trod_lt m _ _ _ hm
  have lt2 : ∀ x ∈ p2, x.block < W.heap.size := by obtain ⟨m, hm⟩ := k2; exact DataW.trod_lt m _ _ _ hm
  obtain ⟨N0, n0, n0', rfl⟩ := open24 (hval 0 24 v0 rfl rfl) h0
  obtain ⟨N1, n1, n1', rfl⟩ := open24 (hval 1 24 v1 rfl rfl) h1
  obtain ⟨S2, rfl, rfl, rfl, hs2⟩ := open_string Try.underlying9 (hval 2 9 v2 rfl rfl) h2
  clear hA0 hval0
  refine (back_any N0 N1 S2 n0 n0' n1 n1' hs2 W).mono fun e W' ⟨he, bel⟩ => ?_
  subst he
  exact ⟨_, rfl, _, _, _, [], _, [], hW', trodAll_mk1 (shut_bool Try.underlying4 _), (trodAll_cons_mk (Below.trod laidOut (by kernel_rfl) (of_decide_eq_true (by kernel_rfl)) k0 bel lt0) (trodAll_cons_mk (Below.trod laidOut (by kernel_rfl) (of_decide_eq_true (by kernel_rfl)) k1 bel lt1) (trodAll_cons_mk (Below.trod laidOut (by kernel_rfl) (of_decide_eq_true (by kernel_rfl)) k2 bel lt2) trodAll_mk0))), rfl, bel.frame _, fun h => by cases h⟩
theorem numBack_holds : Rows.NumBackSaid :=
  OpenClaim.holds_of_wide 6 Try.f6 rfl rfl rfl rfl rfl rfl rfl ⟨rfl, rfl, rfl, rfl, rfl⟩ rfl rfl rfl rfl rfl (by kernel_rfl) Try.func6 (by kernel_rfl)
    (of_decide_eq_true (by kernel_rfl)) (by unfold Func.isWrapper; rw [if_neg (of_decide_eq_false (by kernel_rfl))]; exact ⟨rfl, rfl⟩)
    (fun os started H enc _ => lifted6 os started H enc)
#print axioms numBack_holds
end Go.Proofs.Ytfgeilnaiijldaa
