/- SivTags, SivSeals: walks of the laws. -/
import Derived.Test.YtogkijjmimaccaaJ27
import Derived.Test.YtogkijjmimaccaaJ36
set_option linter.all false
set_option maxRecDepth 100000
namespace Go.Proofs.Ytogkijjmimaccaa
open Go.RowKit Go.Sort Lin
theorem two_txs (k s : ByteArray) (w : World) : Txs (w.alloc (.cells #[.string k, .string s] 9)) (.slice (some ⟨w.heap.size, 0, none⟩) 2 2) [k, s] := by
  refine .inr ⟨⟨w.heap.size, 0, none⟩, 2, rfl, Nat.le_refl _, fun i t hi => ?_⟩
  rw [Addr.add_mid, Nat.zero_add, World.cell?_alloc_at (w := w) _ 9 _ i rfl]
  match i, hi with
  | 0, hi => cases hi; rfl
  | 1, hi => cases hi; rfl
theorem short2 (k s : ByteArray) (hk : k.size ≤ maxLen) (hs : s.size ≤ maxLen) (w : World) : Calls Try.prog 8 #[(.slice (some ⟨w.heap.size, 0, none⟩) 2 2)] (w.alloc (.cells #[.string k, .string s] 9)) fun e w' => e = .returned (.bool (shB [k, s])) ∧ w' = (w.alloc (.cells #[.string k, .string s] 9)) :=
  short_any [k, s] _ (by unfold maxLen; show 2 ≤ 2 ^ 63 - 1; decide) (fun t ht => by
    rcases List.mem_cons.1 ht with rfl | ht
    · exact hk
    · rw [List.mem_singleton.1 ht]; exact hs) _ (two_txs k s w)
theorem sh2 {k s : ByteArray} (h : shB [k, s] = true) : k.size ≤ 600 ∧ s.size ≤ 600 := ⟨(shB_1 h).2 k (by simp), (shB_1 h).2 s (by simp)⟩
set_option maxHeartbeats 1000000 in
theorem tags_none1 (k s : ByteArray) (v : Value) (w : World)
    (C8 : Calls Try.prog 8 #[(.slice (some ⟨w.heap.size, 0, none⟩) 2 2)] (w.alloc (.cells #[.string k, .string s] 9)) fun e w' => e = .returned (.bool false) ∧ w' = (w.alloc (.cells #[.string k, .string s] 9)))
    (C9 : ∀ W, Calls Try.prog 9 #[] W fun e w' => e = .returned (.bool true) ∧ Below W.heap.size W w') :
    Calls Try.prog 3 #[.string k, .string s, v] w fun e w' => e = .returned (.bool true) ∧ Below w.heap.size w w' := by
  have B0 : Below w.heap.size w (w.alloc (.cells #[.string k, .string s] 9)) := by go_grown
  have hnot : ∀ (x : Bool) (w : World), (Op.unary .not (.bool x)).run Try.prog w = .ok (.bool (!x)) w := fun _ _ => rfl
  go_enter Try.func3, Try.ntmps3
  go_wp2_with (go_at_call 8; refine C8.mono ?_; rintro q w1 ⟨rfl, rfl⟩)
  refine (C9 _).mono ?_
  rintro q w1 ⟨rfl, hb⟩
  go_wp2_with fail
  go_ret
  exact ⟨rfl, Bel.call B0 hb⟩
set_option maxHeartbeats 1000000 in
theorem tags_none2 (k s : ByteArray) (v : Value) (w : World)
    (C8 : Calls Try.prog 8 #[(.slice (some ⟨w.heap.size, 0, none⟩) 2 2)] (w.alloc (.cells #[.string k, .string s] 9)) fun e w' => e = .returned (.bool true) ∧ w' = (w.alloc (.cells #[.string k, .string s] 9)))
    (C8l : Calls Try.prog 8 #[v] (w.alloc (.cells #[.string k, .string s] 9)) fun e w' => e = .returned (.bool false) ∧ w' = (w.alloc (.cells #[.string k, .string s] 9)))
    (C9 : ∀ W, Calls Try.prog 9 #[] W fun e w' => e = .returned (.bool true) ∧ Below W.heap.size W w') :
    Calls Try.prog 3 #[.string k, .string s, v] w fun e w' => e = .returned (.bool true) ∧ Below w.heap.size w w' := by
  have B0 : Below w.heap.size w (w.alloc (.cells #[.string k, .string s] 9)) := by go_grown
  have hnot : ∀ (x : Bool) (w : World), (Op.unary .not (.bool x)).run Try.prog w = .ok (.bool (!x)) w := fun _ _ => rfl
  go_enter Try.func3, Try.ntmps3
  go_wp2_with fail
  refine C8.mono ?_
  rintro q w1 ⟨rfl, rfl⟩
  clear C8
  go_wp2_with fail
  refine C8l.mono ?_
  rintro q w1 ⟨rfl, rfl⟩
  clear C8l
  go_wp2_with fail
  refine (C9 _).mono ?_
  rintro q w1 ⟨rfl, hb⟩
  go_wp2_with fail
  go_ret
  exact ⟨rfl, Bel.call B0 hb⟩
set_option maxHeartbeats 2000000 in
theorem tags_yes (k s : ByteArray) (v : Value) (l : List ByteArray) (A C X : ByteArray) (a c x : Int) (w : World) (hv : Txs w v l)
    (C8 : Calls Try.prog 8 #[(.slice (some ⟨w.heap.size, 0, none⟩) 2 2)] (w.alloc (.cells #[.string k, .string s] 9)) fun e w' => e = .returned (.bool true) ∧ w' = (w.alloc (.cells #[.string k, .string s] 9)))
    (C8l : Calls Try.prog 8 #[v] (w.alloc (.cells #[.string k, .string s] 9)) fun e w' => e = .returned (.bool true) ∧ w' = (w.alloc (.cells #[.string k, .string s] 9)))
    (C10 : ∀ W, Calls Try.prog 10 #[.string k, .string s] W fun e w' => e = .returned (.tuple #[.string A, .int .i64 a]) ∧ Below W.heap.size W w')
    (C11 : ∀ W, Calls Try.prog 11 #[.string k, .string s] W fun e w' => e = .returned (.tuple #[.string A, .int .i64 a]) ∧ Below W.heap.size W w')
    (C12 : ∀ W, Txs W v l → Calls Try.prog 12 #[.string k, v] W fun q w' => q = .returned (.tuple #[.string C, .int .i64 c]) ∧ Below W.heap.size W w')
    (C13 : ∀ W, Txs W v l → Calls Try.prog 13 #[.string k, v] W fun q w' => q = .returned (.tuple #[.string C, .int .i64 c]) ∧ Below W.heap.size W w')
    (C14 : ∀ W, Calls Try.prog 14 #[.string s] W fun e w' => e = .returned (.tuple #[.string X, .int .i64 x]) ∧ Below W.heap.size W w')
    (C15 : ∀ W, Calls Try.prog 15 #[.string s] W fun e w' => e = .returned (.tuple #[.string X, .int .i64 x]) ∧ Below W.heap.size W w')
    (C9 : ∀ W, Calls Try.prog 9 #[] W fun e w' => e = .returned (.bool true) ∧ Below W.heap.size W w') :
    Calls Try.prog 3 #[.string k, .string s, v] w fun e w' => e = .returned (.bool true) ∧ Below w.heap.size w w' := by
  have B0 : Below w.heap.size w (w.alloc (.cells #[.string k, .string s] 9)) := by go_grown
  have hnot : ∀ (x : Bool) (w : World), (Op.unary .not (.bool x)).run Try.prog w = .ok (.bool (!x)) w := fun _ _ => rfl
  go_enter Try.func3, Try.ntmps3
  go_wp2_with fail
  refine C8.mono ?_
  rintro q w1 ⟨rfl, rfl⟩
  clear C8
  go_wp2_with fail
  refine C8l.mono ?_
  rintro q w1 ⟨rfl, rfl⟩
  clear C8l
  have hX0 := hv.to B0
  clear hv
  generalize (w.alloc (.cells #[.string k, .string s] 9)) = w0 at *
  go_wp2_with fail
  refine (C10 _).mono ?_
  rintro q w1 ⟨rfl, hb⟩
  have B1 := Bel.call B0 hb
  have hX1 := hX0.to hb
  clear hb B0 hX0
  go_wp2_with fail
  refine (C11 _).mono ?_
  rintro q w2 ⟨rfl, hb⟩
  have B2 := Bel.call B1 hb
  have hX2 := hX1.to hb
  clear hb B1 hX1
  go_wp2_with fail
  refine (C12 _ hX2).mono ?_
  rintro q w3 ⟨rfl, hb⟩
  have B3 := Bel.call B2 hb
  have hX3 := hX2.to hb
  clear hb B2 hX2
  go_wp2_with fail
  refine (C13 _ hX3).mono ?_
  rintro q w4 ⟨rfl, hb⟩
  have B4 := Bel.call B3 hb
  have hX4 := hX3.to hb
  clear hb B3 hX3
  go_wp2_with fail
  refine (C14 _).mono ?_
  rintro q w5 ⟨rfl, hb⟩
  have B5 := Bel.call B4 hb
  have hX5 := hX4.to hb
  clear hb B4 hX4
  go_wp2_with fail
  refine (C15 _).mono ?_
  rintro q w6 ⟨rfl, hb⟩
  have B6 := Bel.call B5 hb
  have hX6 := hX5.to hb
  clear hb B5 hX5
  clear C10 C11 C12 C13 C14 C15
  go_wp2_with fail
  refine (C9 _).mono ?_
  rintro q w7 ⟨rfl, hb⟩
  go_wp2_with fail
  go_ret
  exact ⟨rfl, Bel.call B6 hb⟩
theorem tags_law (k s : ByteArray) (v : Value) (l : List ByteArray) (hk : k.size ≤ maxLen) (hs : s.size ≤ maxLen) (hn : l.length ≤ maxLen) (hg : ∀ t ∈ l, t.size ≤ maxLen) (w : World) (hv : Txs w v l) :
    Calls Try.prog 3 #[.string k, .string s, v] w fun e w' => e = .returned (.bool true) ∧ Below w.heap.size w w' := by
  have C8 := short2 k s hk hs w
  have C8l := short_any l v hn hg _ (hv.to (show Below w.heap.size w (w.alloc (.cells #[.string k, .string s] 9)) by go_grown))
  cases h1 : shB [k, s] with
  | false =>
    rw [h1] at C8
    exact tags_none1 k s v w C8 (fun W => awake_any W)
  | true =>
    rw [h1] at C8
    cases h2 : shB l with
    | false =>
      rw [h2] at C8l
      exact tags_none2 k s v w C8 C8l (fun W => awake_any W)
    | true =>
      rw [h2] at C8l
      obtain ⟨z1, z2⟩ := sh2 h1
      obtain ⟨z3, z4⟩ := shB_1 h2
      exact tags_yes k s v l _ _ _ _ _ _ w hv C8 C8l (fun W => sCmac_any k s (by omega) W) (fun W => rCmac_any k s (by omega) W) (fun W hW => sS2v_any k v l (by omega) (fun t ht => Nat.le_trans (z4 t ht) (by decide)) W hW) (fun W hW => rS2v_any k v l (fun t ht => Nat.le_trans (z4 t ht) (by decide)) W hW) (fun W => sTwice_any s W) (fun W => rTwice_any s W) (fun W => awake_any W)
set_option maxHeartbeats 1000000 in
theorem seals_none1 (k s : ByteArray) (v : Value) (w : World)
    (C8 : Calls Try.prog 8 #[(.slice (some ⟨w.heap.size, 0, none⟩) 2 2)] (w.alloc (.cells #[.string k, .string s] 9)) fun e w' => e = .returned (.bool false) ∧ w' = (w.alloc (.cells #[.string k, .string s] 9)))
    (C9 : ∀ W, Calls Try.prog 9 #[] W fun e w' => e = .returned (.bool true) ∧ Below W.heap.size W w') :
    Calls Try.prog 4 #[.string k, v, .string s] w fun e w' => e = .returned (.bool true) ∧ Below w.heap.size w w' := by
  have B0 : Below w.heap.size w (w.alloc (.cells #[.string k, .string s] 9)) := by go_grown
  have hnot : ∀ (x : Bool) (w : World), (Op.unary .not (.bool x)).run Try.prog w = .ok (.bool (!x)) w := fun _ _ => rfl
  go_enter Try.func4, Try.ntmps4
  go_wp2_with (go_at_call 8; refine C8.mono ?_; rintro q w1 ⟨rfl, rfl⟩)
  refine (C9 _).mono ?_
  rintro q w1 ⟨rfl, hb⟩
  go_wp2_with fail
  go_ret
  exact ⟨rfl, Bel.call B0 hb⟩
set_option maxHeartbeats 1000000 in
theorem seals_none2 (k s : ByteArray) (v : Value) (w : World)
    (C8 : Calls Try.prog 8 #[(.slice (some ⟨w.heap.size, 0, none⟩) 2 2)] (w.alloc (.cells #[.string k, .string s] 9)) fun e w' => e = .returned (.bool true) ∧ w' = (w.alloc (.cells #[.string k, .string s] 9)))
    (C8l : Calls Try.prog 8 #[v] (w.alloc (.cells #[.string k, .string s] 9)) fun e w' => e = .returned (.bool false) ∧ w' = (w.alloc (.cells #[.string k, .string s] 9)))
    (C9 : ∀ W, Calls Try.prog 9 #[] W fun e w' => e = .returned (.bool true) ∧ Below W.heap.size W w') :
    Calls Try.prog 4 #[.string k, v, .string s] w fun e w' => e = .returned (.bool true) ∧ Below w.heap.size w w' := by
  have B0 : Below w.heap.size w (w.alloc (.cells #[.string k, .string s] 9)) := by go_grown
  have hnot : ∀ (x : Bool) (w : World), (Op.unary .not (.bool x)).run Try.prog w = .ok (.bool (!x)) w := fun _ _ => rfl
  go_enter Try.func4, Try.ntmps4
  go_wp2_with fail
  refine C8.mono ?_
  rintro q w1 ⟨rfl, rfl⟩
  clear C8
  go_wp2_with fail
  refine C8l.mono ?_
  rintro q w1 ⟨rfl, rfl⟩
  clear C8l
  go_wp2_with fail
  refine (C9 _).mono ?_
  rintro q w1 ⟨rfl, hb⟩
  go_wp2_with fail
  go_ret
  exact ⟨rfl, Bel.call B0 hb⟩
set_option maxHeartbeats 2000000 in
theorem seals_yes (k s : ByteArray) (v : Value) (l : List ByteArray) (A C : ByteArray) (a c : Int) (w : World) (hv : Txs w v l)
    (C8 : Calls Try.prog 8 #[(.slice (some ⟨w.heap.size, 0, none⟩) 2 2)] (w.alloc (.cells #[.string k, .string s] 9)) fun e w' => e = .returned (.bool true) ∧ w' = (w.alloc (.cells #[.string k, .string s] 9)))
    (C8l : Calls Try.prog 8 #[v] (w.alloc (.cells #[.string k, .string s] 9)) fun e w' => e = .returned (.bool true) ∧ w' = (w.alloc (.cells #[.string k, .string s] 9)))
    (C16 : ∀ W, Txs W v l → Calls Try.prog 16 #[.string k, v, .string s] W fun q w' => q = .returned (.tuple #[.string A, .int .i64 a]) ∧ Below W.heap.size W w')
    (C17 : ∀ W, Txs W v l → Calls Try.prog 17 #[.string k, v, .string s] W fun q w' => q = .returned (.tuple #[.string A, .int .i64 a]) ∧ Below W.heap.size W w')
    (C18 : ∀ W, Txs W v l → Calls Try.prog 18 #[.string k, v, .string s] W fun q w' => q = .returned (.tuple #[.string C, .int .i64 c]) ∧ Below W.heap.size W w')
    (C19 : ∀ W, Txs W v l → Calls Try.prog 19 #[.string k, v, .string s] W fun q w' => q = .returned (.tuple #[.string C, .int .i64 c]) ∧ Below W.heap.size W w')
    (C9 : ∀ W, Calls Try.prog 9 #[] W fun e w' => e = .returned (.bool true) ∧ Below W.heap.size W w') :
    Calls Try.prog 4 #[.string k, v, .string s] w fun e w' => e = .returned (.bool true) ∧ Below w.heap.size w w' := by
  have B0 : Below w.heap.size w (w.alloc (.cells #[.string k, .string s] 9)) := by go_grown
  have hnot : ∀ (x : Bool) (w : World), (Op.unary .not (.bool x)).run Try.prog w = .ok (.bool (!x)) w := fun _ _ => rfl
  go_enter Try.func4, Try.ntmps4
  go_wp2_with fail
  refine C8.mono ?_
  rintro q w1 ⟨rfl, rfl⟩
  clear C8
  go_wp2_with fail
  refine C8l.mono ?_
  rintro q w1 ⟨rfl, rfl⟩
  clear C8l
  have hX0 := hv.to B0
  clear hv
  generalize (w.alloc (.cells #[.string k, .string s] 9)) = w0 at *
  go_wp2_with fail
  refine (C16 _ hX0).mono ?_
  rintro q w1 ⟨rfl, hb⟩
  have B1 := Bel.call B0 hb
  have hX1 := hX0.to hb
  clear hb B0 hX0
  go_wp2_with fail
  refine (C17 _ hX1).mono ?_
  rintro q w2 ⟨rfl, hb⟩
  have B2 := Bel.call B1 hb
  have hX2 := hX1.to hb
  clear hb B1 hX1
  go_wp2_with fail
  refine (C18 _ hX2).mono ?_
  rintro q w3 ⟨rfl, hb⟩
  have B3 := Bel.call B2 hb
  have hX3 := hX2.to hb
  clear hb B2 hX2
  go_wp2_with fail
  refine (C19 _ hX3).mono ?_
  rintro q w4 ⟨rfl, hb⟩
  have B4 := Bel.call B3 hb
  have hX4 := hX3.to hb
  clear hb B3 hX3
  clear C16 C17 C18 C19
  go_wp2_with fail
  refine (C9 _).mono ?_
  rintro q w7 ⟨rfl, hb⟩
  go_wp2_with fail
  go_ret
  exact ⟨rfl, Bel.call B4 hb⟩
theorem seals_law (k : ByteArray) (v : Value) (l : List ByteArray) (s : ByteArray) (hk : k.size ≤ maxLen) (hs : s.size ≤ maxLen) (hn : l.length ≤ maxLen) (hg : ∀ t ∈ l, t.size ≤ maxLen) (w : World) (hv : Txs w v l) :
    Calls Try.prog 4 #[.string k, v, .string s] w fun e w' => e = .returned (.bool true) ∧ Below w.heap.size w w' := by
  have C8 := short2 k s hk hs w
  have C8l := short_any l v hn hg _ (hv.to (show Below w.heap.size w (w.alloc (.cells #[.string k, .string s] 9)) by go_grown))
  cases h1 : shB [k, s] with
  | false =>
    rw [h1] at C8
    exact seals_none1 k s v w C8 (fun W => awake_any W)
  | true =>
    rw [h1] at C8
    cases h2 : shB l with
    | false =>
      rw [h2] at C8l
      exact seals_none2 k s v w C8 C8l (fun W => awake_any W)
    | true =>
      rw [h2] at C8l
      obtain ⟨z1, z2⟩ := sh2 h1
      obtain ⟨z3, z4⟩ := shB_1 h2
      have z5 : ∀ t ∈ l, t.size ≤ 1000000 := fun t ht => Nat.le_trans (z4 t ht) (by decide)
      exact seals_yes k s v l _ _ _ _ w hv C8 C8l (fun W hW => sSeal_any k v l s (by omega) z5 (by omega) W hW) (fun W hW => rSeal_any k v l s z5 (by omega) W hW) (fun W hW => sOpen_any k v l s (by omega) z5 (by omega) W hW) (fun W hW => rOpen_any k v l s z5 (by omega) W hW) (fun W => awake_any W)
end Go.Proofs.Ytogkijjmimaccaa
