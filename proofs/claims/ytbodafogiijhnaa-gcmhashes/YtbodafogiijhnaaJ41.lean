/- The laws' walks: GcmHashes, GcmSeals. -/
import Derived.Test.YtbodafogiijhnaaJ34
import Derived.Test.YtbodafogiijhnaaJ38
set_option linter.all false
set_option maxRecDepth 100000
namespace Go.Proofs.Ytbodafogiijhnaa
open Go.RowKit Go.Sort Lin
def g3 (a b c : ByteArray) : Nat → ByteArray
  | 0 => a
  | 1 => b
  | _ => c
theorem g3_at (a b c : ByteArray) (j : Nat) (hj : j < 3) : (#[.string a, .string b, .string c] : Array Value)[j]? = some (.string (g3 a b c j)) := by
  match j, hj with
  | 0, _ => rfl
  | 1, _ => rfl
  | 2, _ => rfl
theorem g3_all {a b c : ByteArray} (h : allB (g3 a b c) 3 = true) : a.size ≤ 1000 ∧ b.size ≤ 1000 ∧ c.size ≤ 1000 := by
  simpa [allB, List.range_succ, g3, and_assoc] using h
theorem short3 (a b c : ByteArray) (ha : a.size ≤ maxLen) (hb : b.size ≤ maxLen) (hc : c.size ≤ maxLen) (w : World) :
    Calls Try.prog 8 #[.slice (some ⟨w.heap.size, 0, none⟩) 3 3] (w.alloc (.cells #[.string a, .string b, .string c] 9)) fun e w' => e = .returned (.bool (allB (g3 a b c) 3)) ∧ w' = w.alloc (.cells #[.string a, .string b, .string c] 9) :=
  short_core (g3 a b c) 3 w.heap.size (by omega) _ rfl (fun j hj => by
    match j, hj with
    | 0, _ => exact ha
    | 1, _ => exact hb
    | 2, _ => exact hc) _ (Arr.new w _ 9 _ rfl _ 3 (g3_at a b c))
def g4 (a b c d : ByteArray) : Nat → ByteArray
  | 0 => a
  | 1 => b
  | 2 => c
  | _ => d
theorem g4_at (a b c d : ByteArray) (j : Nat) (hj : j < 4) : (#[.string a, .string b, .string c, .string d] : Array Value)[j]? = some (.string (g4 a b c d j)) := by
  match j, hj with
  | 0, _ => rfl
  | 1, _ => rfl
  | 2, _ => rfl
  | 3, _ => rfl
theorem g4_all {a b c d : ByteArray} (h : allB (g4 a b c d) 4 = true) : a.size ≤ 1000 ∧ b.size ≤ 1000 ∧ c.size ≤ 1000 ∧ d.size ≤ 1000 := by
  simpa [allB, List.range_succ, g4, and_assoc] using h
theorem short4 (a b c d : ByteArray) (ha : a.size ≤ maxLen) (hb : b.size ≤ maxLen) (hc : c.size ≤ maxLen) (hd : d.size ≤ maxLen) (w : World) :
    Calls Try.prog 8 #[.slice (some ⟨w.heap.size, 0, none⟩) 4 4] (w.alloc (.cells #[.string a, .string b, .string c, .string d] 9)) fun e w' => e = .returned (.bool (allB (g4 a b c d) 4)) ∧ w' = w.alloc (.cells #[.string a, .string b, .string c, .string d] 9) :=
  short_core (g4 a b c d) 4 w.heap.size (by omega) _ rfl (fun j hj => by
    match j, hj with
    | 0, _ => exact ha
    | 1, _ => exact hb
    | 2, _ => exact hc
    | 3, _ => exact hd) _ (Arr.new w _ 9 _ rfl _ 4 (g4_at a b c d))
set_option maxHeartbeats 1000000 in
theorem hashes_core (a b s X U : ByteArray) (e g : Int) (r : Bool) (w : World)
    (C8 : Calls Try.prog 8 #[.slice (some ⟨w.heap.size, 0, none⟩) 3 3] (w.alloc (.cells #[.string a, .string b, .string s] 9)) fun e w' => e = .returned (.bool r) ∧ w' = w.alloc (.cells #[.string a, .string b, .string s] 9))
    (C10 : ∀ W, Calls Try.prog 10 #[.string a, .string b] W fun q w' => q = .returned (.tuple #[.string X, .int .i64 e]) ∧ Below W.heap.size W w')
    (C11 : ∀ W, Calls Try.prog 11 #[.string a, .string b] W fun q w' => q = .returned (.tuple #[.string X, .int .i64 e]) ∧ Below W.heap.size W w')
    (C12 : r = true → ∀ W, Calls Try.prog 12 #[.string a, .string b, .string s] W fun q w' => q = .returned (.tuple #[.string U, .int .i64 g]) ∧ Below W.heap.size W w')
    (C13 : r = true → ∀ W, Calls Try.prog 13 #[.string a, .string b, .string s] W fun q w' => q = .returned (.tuple #[.string U, .int .i64 g]) ∧ Below W.heap.size W w')
    (C9 : ∀ W, Calls Try.prog 9 #[] W fun e w' => e = .returned (.bool true) ∧ Below W.heap.size W w') :
    Calls Try.prog 3 #[.string a, .string b, .string s] w fun e w' => e = .returned (.bool true) ∧ Below w.heap.size w w' := by
  have B0 : Below w.heap.size w (w.alloc (.cells #[.string a, .string b, .string s] 9)) := by go_grown
  have hnot : ∀ (x : Bool) (w : World), (Op.unary .not (.bool x)).run Try.prog w = .ok (.bool (!x)) w := fun _ _ => rfl
  cases r with
  | false =>
    clear C12 C13
    go_enter Try.func3, Try.ntmps3
    go_wp2_with (go_at_call 8; refine C8.mono ?_; rintro q w1 ⟨rfl, rfl⟩)
    refine (C9 _).mono ?_
    rintro q w1 ⟨rfl, hb⟩
    go_wp2_with fail
    go_ret
    exact ⟨rfl, Bel.call B0 hb⟩
  | true =>
    have C12' := C12 rfl
    have C13' := C13 rfl
    clear C12 C13
    go_enter Try.func3, Try.ntmps3
    go_wp2_with (go_at_call 8; refine C8.mono ?_; rintro q w1 ⟨rfl, rfl⟩)
    generalize w.alloc (.cells #[.string a, .string b, .string s] 9) = w0 at *
    clear C8
    refine (C10 _).mono ?_
    rintro q w1 ⟨rfl, hb⟩
    have B1 := Bel.call B0 hb
    clear hb B0 C10
    go_wp2_with fail
    refine (C11 _).mono ?_
    rintro q w2 ⟨rfl, hb⟩
    have B2 := Bel.call B1 hb
    clear hb B1 C11
    go_wp2_with fail
    refine (C12' _).mono ?_
    rintro q w3 ⟨rfl, hb⟩
    have B3 := Bel.call B2 hb
    clear hb B2 C12'
    go_wp2_with fail
    refine (C13' _).mono ?_
    rintro q w4 ⟨rfl, hb⟩
    have B4 := Bel.call B3 hb
    clear hb B3 C13'
    go_wp2_with fail
    refine (C9 _).mono ?_
    rintro q w5 ⟨rfl, hb⟩
    go_wp2_with fail
    go_ret
    exact ⟨rfl, Bel.call B4 hb⟩
theorem hashes_law (a b s : ByteArray) (ha : a.size ≤ maxLen) (hb : b.size ≤ maxLen) (hs : s.size ≤ maxLen) (w : World) :
    Calls Try.prog 3 #[.string a, .string b, .string s] w fun e w' => e = .returned (.bool true) ∧ Below w.heap.size w w' :=
  hashes_core a b s (tmS a b) (hsS a b s) (tmE a b) (hsE a) _ w (short3 a b s ha hb hs w) (fun W => gTimes_any a b W) (fun W => rgTimes_any a b W)
    (fun h W => by have := g3_all h; exact gHash_any a b s (by omega) (by omega) W) (fun h W => by have := g3_all h; exact rHash_any a b s (by omega) (by omega) W) (fun W => awake_any W)
set_option maxHeartbeats 1000000 in
theorem seals_core (k n a s X U : ByteArray) (e g : Int) (r : Bool) (w : World)
    (C8 : Calls Try.prog 8 #[.slice (some ⟨w.heap.size, 0, none⟩) 4 4] (w.alloc (.cells #[.string k, .string n, .string a, .string s] 9)) fun e w' => e = .returned (.bool r) ∧ w' = w.alloc (.cells #[.string k, .string n, .string a, .string s] 9))
    (C14 : r = true → ∀ W, Calls Try.prog 14 #[.string k, .string n, .string a, .string s] W fun q w' => q = .returned (.tuple #[.string X, .int .i64 e]) ∧ Below W.heap.size W w')
    (C15 : r = true → ∀ W, Calls Try.prog 15 #[.string k, .string n, .string a, .string s] W fun q w' => q = .returned (.tuple #[.string X, .int .i64 e]) ∧ Below W.heap.size W w')
    (C16 : r = true → ∀ W, Calls Try.prog 16 #[.string k, .string n, .string a, .string s] W fun q w' => q = .returned (.tuple #[.string U, .int .i64 g]) ∧ Below W.heap.size W w')
    (C17 : r = true → ∀ W, Calls Try.prog 17 #[.string k, .string n, .string a, .string s] W fun q w' => q = .returned (.tuple #[.string U, .int .i64 g]) ∧ Below W.heap.size W w')
    (C9 : ∀ W, Calls Try.prog 9 #[] W fun e w' => e = .returned (.bool true) ∧ Below W.heap.size W w') :
    Calls Try.prog 4 #[.string k, .string n, .string a, .string s] w fun e w' => e = .returned (.bool true) ∧ Below w.heap.size w w' := by
  have B0 : Below w.heap.size w (w.alloc (.cells #[.string k, .string n, .string a, .string s] 9)) := by go_grown
  have hnot : ∀ (x : Bool) (w : World), (Op.unary .not (.bool x)).run Try.prog w = .ok (.bool (!x)) w := fun _ _ => rfl
  cases r with
  | false =>
    clear C14 C15 C16 C17
    go_enter Try.func4, Try.ntmps4
    go_wp2_with (go_at_call 8; refine C8.mono ?_; rintro q w1 ⟨rfl, rfl⟩)
    refine (C9 _).mono ?_
    rintro q w1 ⟨rfl, hb⟩
    go_wp2_with fail
    go_ret
    exact ⟨rfl, Bel.call B0 hb⟩
  | true =>
    replace C14 := C14 rfl
    replace C15 := C15 rfl
    replace C16 := C16 rfl
    replace C17 := C17 rfl
    go_enter Try.func4, Try.ntmps4
    go_wp2_with (go_at_call 8; refine C8.mono ?_; rintro q w1 ⟨rfl, rfl⟩)
    generalize w.alloc (.cells #[.string k, .string n, .string a, .string s] 9) = w0 at *
    clear C8
    refine (C14 _).mono ?_
    rintro q w1 ⟨rfl, hb⟩
    have B1 := Bel.call B0 hb
    clear hb B0 C14
    go_wp2_with fail
    refine (C15 _).mono ?_
    rintro q w2 ⟨rfl, hb⟩
    have B2 := Bel.call B1 hb
    clear hb B1 C15
    go_wp2_with fail
    refine (C16 _).mono ?_
    rintro q w3 ⟨rfl, hb⟩
    have B3 := Bel.call B2 hb
    clear hb B2 C16
    go_wp2_with fail
    refine (C17 _).mono ?_
    rintro q w4 ⟨rfl, hb⟩
    have B4 := Bel.call B3 hb
    clear hb B3 C17
    go_wp2_with fail
    refine (C9 _).mono ?_
    rintro q w5 ⟨rfl, hb⟩
    go_wp2_with fail
    go_ret
    exact ⟨rfl, Bel.call B4 hb⟩
theorem seals_law (k n a s : ByteArray) (hk : k.size ≤ maxLen) (hn : n.size ≤ maxLen) (ha : a.size ≤ maxLen) (hs : s.size ≤ maxLen) (w : World) :
    Calls Try.prog 4 #[.string k, .string n, .string a, .string s] w fun e w' => e = .returned (.bool true) ∧ Below w.heap.size w w' :=
  seals_core k n a s (seR k n a s) (opS k n a s) (rfg k n) (opE k n a s) _ w (short4 k n a s hk hn ha hs w)
    (fun h W => by have := g4_all h; exact gSeal_any k n a s (by omega) (by omega) (by omega) W) (fun h W => by have := g4_all h; exact rSeal_any k n a s (by omega) (by omega) (by omega) W)
    (fun h W => by have := g4_all h; exact gOpen_any k n a s (by omega) (by omega) (by omega) W) (fun h W => by have := g4_all h; exact rOpen_any k n a s (by omega) (by omega) (by omega) W) (fun W => awake_any W)
end Go.Proofs.Ytbodafogiijhnaa
