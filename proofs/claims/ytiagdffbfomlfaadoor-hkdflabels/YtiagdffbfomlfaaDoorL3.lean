/- The laws' walks: HkdfExpands, HkdfLabels. -/
import Derived.Test.YtiagdffbfomlfaaDoorL2
set_option linter.all false
set_option maxRecDepth 100000
namespace Go.Proofs.YtiagdffbfomlfaaDoor
open Go.RowKit Go.Sort
def g3 (a b c : ByteArray) : Nat → ByteArray
  | 0 => a
  | 1 => b
  | _ => c
theorem g3_at (a b c : ByteArray) (j : Nat) (hj : j < 3) : (#[.string a, .string b, .string c] : Array Value)[j]? = some (.string (g3 a b c j)) := by
  match j, hj with
  | 0, _ => rfl
  | 1, _ => rfl
  | 2, _ => rfl
theorem g3_all (a b c : ByteArray) : allB (g3 a b c) 3 = (decide (a.size ≤ 5000) && (decide (b.size ≤ 5000) && decide (c.size ≤ 5000))) := by
  simp [allB, List.range_succ, g3, Bool.and_assoc]
theorem short3 (a b c : ByteArray) (ha : a.size ≤ maxLen) (hb : b.size ≤ maxLen) (hc : c.size ≤ maxLen) (w : World) :
    Calls Tryd.prog 7 #[.slice (some ⟨w.heap.size, 0, none⟩) 3 3] (w.alloc (.cells #[.string a, .string b, .string c] 9)) fun e w' => e = .returned (.bool (allB (g3 a b c) 3)) ∧ w' = w.alloc (.cells #[.string a, .string b, .string c] 9) :=
  short_core (g3 a b c) 3 w.heap.size (by omega) _ rfl (fun j hj => by
    match j, hj with
    | 0, _ => exact ha
    | 1, _ => exact hb
    | 2, _ => exact hc) _ (Arr.new w _ 9 _ rfl _ 3 (g3_at a b c))
set_option maxHeartbeats 4000000 in
theorem expands_core (a b c X M : ByteArray) (n e : Int) (r : Bool) (w : World) (hT : Tab w)
    (C7 : Calls Tryd.prog 7 #[.slice (some ⟨w.heap.size, 0, none⟩) 3 3] (w.alloc (.cells #[.string a, .string b, .string c] 9)) fun e w' => e = .returned (.bool r) ∧ w' = w.alloc (.cells #[.string a, .string b, .string c] 9))
    (C9 : r = true → ∀ W, Tab W → Calls Tryd.prog 9 #[.string a, .string c, .int .i64 n] W fun q w' => q = .returned (.tuple #[.string X, .int .i64 e]) ∧ Below W.heap.size W w')
    (C10 : r = true → ∀ W, Calls Tryd.prog 10 #[.string a, .string c, .int .i64 n] W fun q w' => q = .returned (.tuple #[.string X, .int .i64 e]) ∧ Below W.heap.size W w')
    (C11 : r = true → ∀ W, Tab W → Calls Tryd.prog 11 #[.string a, .string b] W fun q w' => q = .returned (.string M) ∧ Below W.heap.size W w')
    (C12 : r = true → ∀ W, Calls Tryd.prog 12 #[.string a, .string b] W fun q w' => q = .returned (.string M) ∧ Below W.heap.size W w')
    (CA : ∀ W, Tab W → Calls Tryd.prog 8 #[] W fun e w' => e = .returned (.bool true) ∧ Below W.heap.size W w') :
    Calls Tryd.prog 3 #[.string a, .string b, .string c, .int .i64 n] w fun e w' => e = .returned (.bool true) ∧ Below w.heap.size w w' := by
  have T0 := hT.al (.cells #[.string a, .string b, .string c] 9)
  have B0 : Below w.heap.size w (w.alloc (.cells #[.string a, .string b, .string c] 9)) := by go_grown
  cases r with
  | false =>
    go_enter Tryd.func3, Tryd.ntmps3
    go_wp2_with (go_at_call 7; refine C7.mono ?_; rintro q w1 ⟨rfl, rfl⟩)
    refine (CA _ T0).mono ?_
    rintro q w1 ⟨rfl, hb⟩
    go_wp2_with fail
    go_ret
    exact ⟨rfl, Bel.call B0 hb⟩
  | true =>
    have C9' := C9 rfl
    have C10' := C10 rfl
    have C11' := C11 rfl
    have C12' := C12 rfl
    clear C9 C10 C11 C12
    go_enter Tryd.func3, Tryd.ntmps3
    go_wp2_with (go_at_call 7; refine C7.mono ?_; rintro q w1 ⟨rfl, rfl⟩)
    generalize w.alloc (.cells #[.string a, .string b, .string c] 9) = w0 at *
    clear C7
    refine (C9' _ T0).mono ?_
    rintro q w1 ⟨rfl, hb⟩
    have B1 := Bel.call B0 hb
    have T1 := T0.to hb
    clear hb B0 T0 C9'
    go_wp2_with fail
    refine (C10' _).mono ?_
    rintro q w2 ⟨rfl, hb⟩
    have B2 := Bel.call B1 hb
    have T2 := T1.to hb
    clear hb B1 T1 C10'
    go_wp2_with fail
    refine (C11' _ T2).mono ?_
    rintro q w3 ⟨rfl, hb⟩
    have B3 := Bel.call B2 hb
    have T3 := T2.to hb
    clear hb B2 T2 C11'
    go_wp2_with fail
    refine (C12' _).mono ?_
    rintro q w4 ⟨rfl, hb⟩
    have B4 := Bel.call B3 hb
    have T4 := T3.to hb
    clear hb B3 T3 C12'
    go_wp2_with fail
    refine (CA _ T4).mono ?_
    rintro q w5 ⟨rfl, hb⟩
    have B5 := Bel.call B4 hb
    clear hb
    go_wp2_with fail
    go_ret
    exact ⟨rfl, B5⟩
theorem g3_yes {a b c : ByteArray} (h : allB (g3 a b c) 3 = true) : a.size ≤ 5000 ∧ b.size ≤ 5000 ∧ c.size ≤ 5000 := by
  rw [g3_all] at h
  simpa using h
theorem expands_law (a b c : ByteArray) (n : Int) (ha : a.size ≤ maxLen) (hb : b.size ≤ maxLen) (hc : c.size ≤ maxLen) (w : World) (hT : Tab w) :
    Calls Tryd.prog 3 #[.string a, .string b, .string c, .int .i64 n] w fun e w' => e = .returned (.bool true) ∧ Below w.heap.size w w' :=
  expands_core a b c _ _ n _ _ w hT (short3 a b c ha hb hc w) (fun h W hW => expand_any a c (by have := g3_yes h; omega) (by have := g3_yes h; omega) n W hW) (fun h W => rexpand_any a c (by have := g3_yes h; omega) (by have := g3_yes h; omega) n W)
    (fun h W hW => extract_any a b (by have := g3_yes h; omega) (by have := g3_yes h; omega) W hW) (fun h W => rextract_any a b (by have := g3_yes h; omega) (by have := g3_yes h; omega) W) (fun W hW => awake_any W hW)
set_option maxHeartbeats 4000000 in
theorem labels_core (a b c X M D : ByteArray) (n e1 e2 e3 : Int) (r : Bool) (w : World) (hT : Tab w)
    (C7 : Calls Tryd.prog 7 #[.slice (some ⟨w.heap.size, 0, none⟩) 3 3] (w.alloc (.cells #[.string a, .string b, .string c] 9)) fun e w' => e = .returned (.bool r) ∧ w' = w.alloc (.cells #[.string a, .string b, .string c] 9))
    (C13 : r = true → ∀ W, Calls Tryd.prog 13 #[.string b, .string c, .int .i64 n] W fun q w' => q = .returned (.tuple #[.string X, .int .i64 e1]) ∧ Below W.heap.size W w')
    (C14 : r = true → ∀ W, Calls Tryd.prog 14 #[.string b, .string c, .int .i64 n] W fun q w' => q = .returned (.tuple #[.string X, .int .i64 e1]) ∧ Below W.heap.size W w')
    (C15 : r = true → ∀ W, Tab W → Calls Tryd.prog 15 #[.string a, .string b, .string c, .int .i64 n] W fun q w' => q = .returned (.tuple #[.string M, .int .i64 e2]) ∧ Below W.heap.size W w')
    (C16 : r = true → ∀ W, Calls Tryd.prog 16 #[.string a, .string b, .string c, .int .i64 n] W fun q w' => q = .returned (.tuple #[.string M, .int .i64 e2]) ∧ Below W.heap.size W w')
    (C17 : r = true → ∀ W, Tab W → Calls Tryd.prog 17 #[.string a, .string b, .string c] W fun q w' => q = .returned (.tuple #[.string D, .int .i64 e3]) ∧ Below W.heap.size W w')
    (C18 : r = true → ∀ W, Calls Tryd.prog 18 #[.string a, .string b, .string c] W fun q w' => q = .returned (.tuple #[.string D, .int .i64 e3]) ∧ Below W.heap.size W w')
    (CA : ∀ W, Tab W → Calls Tryd.prog 8 #[] W fun e w' => e = .returned (.bool true) ∧ Below W.heap.size W w') :
    Calls Tryd.prog 4 #[.string a, .string b, .string c, .int .i64 n] w fun e w' => e = .returned (.bool true) ∧ Below w.heap.size w w' := by
  have T0 := hT.al (.cells #[.string a, .string b, .string c] 9)
  have B0 : Below w.heap.size w (w.alloc (.cells #[.string a, .string b, .string c] 9)) := by go_grown
  cases r with
  | false =>
    go_enter Tryd.func4, Tryd.ntmps4
    go_wp2_with (go_at_call 7; refine C7.mono ?_; rintro q w1 ⟨rfl, rfl⟩)
    refine (CA _ T0).mono ?_
    rintro q w1 ⟨rfl, hb⟩
    go_wp2_with fail
    go_ret
    exact ⟨rfl, Bel.call B0 hb⟩
  | true =>
    have C1 := C13 rfl
    have C2 := C14 rfl
    have C3 := C15 rfl
    have C4 := C16 rfl
    have C5 := C17 rfl
    have C6 := C18 rfl
    clear C13 C14 C15 C16 C17 C18
    go_enter Tryd.func4, Tryd.ntmps4
    go_wp2_with (go_at_call 7; refine C7.mono ?_; rintro q w1 ⟨rfl, rfl⟩)
    generalize w.alloc (.cells #[.string a, .string b, .string c] 9) = w0 at *
    clear C7
    refine (C1 _).mono ?_
    rintro q w1 ⟨rfl, hb⟩
    have B1 := Bel.call B0 hb
    have T1 := T0.to hb
    clear hb B0 T0 C1
    go_wp2_with fail
    refine (C2 _).mono ?_
    rintro q w2 ⟨rfl, hb⟩
    have B2 := Bel.call B1 hb
    have T2 := T1.to hb
    clear hb B1 T1 C2
    go_wp2_with fail
    refine (C3 _ T2).mono ?_
    rintro q w3 ⟨rfl, hb⟩
    have B3 := Bel.call B2 hb
    have T3 := T2.to hb
    clear hb B2 T2 C3
    go_wp2_with fail
    refine (C4 _).mono ?_
    rintro q w4 ⟨rfl, hb⟩
    have B4 := Bel.call B3 hb
    have T4 := T3.to hb
    clear hb B3 T3 C4
    go_wp2_with fail
    refine (C5 _ T4).mono ?_
    rintro q w5 ⟨rfl, hb⟩
    have B5 := Bel.call B4 hb
    have T5 := T4.to hb
    clear hb B4 T4 C5
    go_wp2_with fail
    refine (C6 _).mono ?_
    rintro q w6 ⟨rfl, hb⟩
    have B6 := Bel.call B5 hb
    have T6 := T5.to hb
    clear hb B5 T5 C6
    go_wp2_with fail
    refine (CA _ T6).mono ?_
    rintro q w7 ⟨rfl, hb⟩
    have B7 := Bel.call B6 hb
    clear hb
    go_wp2_with fail
    go_ret
    exact ⟨rfl, B7⟩
theorem labels_law (a b c : ByteArray) (n : Int) (ha : a.size ≤ maxLen) (hb : b.size ≤ maxLen) (hc : c.size ≤ maxLen) (w : World) (hT : Tab w) :
    Calls Tryd.prog 4 #[.string a, .string b, .string c, .int .i64 n] w fun e w' => e = .returned (.bool true) ∧ Below w.heap.size w w' :=
  labels_core a b c _ _ _ n _ _ _ _ w hT (short3 a b c ha hb hc w) (fun h W => info_any b c hb hc n W) (fun h W => rinfo_any b c hb hc n W)
    (fun h W hW => label_any a b c (by have := g3_yes h; omega) (by have := g3_yes h; omega) (by have := g3_yes h; omega) n W hW) (fun h W => rlabel_any a b c (by have := g3_yes h; omega) (by have := g3_yes h; omega) (by have := g3_yes h; omega) n W)
    (fun h W hW => derive_any a b c (by have := g3_yes h; omega) (by have := g3_yes h; omega) (by have := g3_yes h; omega) W hW) (fun h W => rderive_any a b c (by have := g3_yes h; omega) (by have := g3_yes h; omega) (by have := g3_yes h; omega) W) (fun W hW => awake_any W hW)
end Go.Proofs.YtiagdffbfomlfaaDoor
