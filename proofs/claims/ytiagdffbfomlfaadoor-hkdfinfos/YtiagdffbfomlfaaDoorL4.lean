/- The laws' walks: HkdfFewer, HkdfInfos. -/
import Derived.Test.YtiagdffbfomlfaaDoorL2
set_option linter.all false
set_option maxRecDepth 100000
namespace Go.Proofs.YtiagdffbfomlfaaDoor
open Go.RowKit Go.Sort
def g2 (a b : ByteArray) : Nat → ByteArray
  | 0 => a
  | _ => b
theorem g2_at (a b : ByteArray) (j : Nat) (hj : j < 2) : (#[.string a, .string b] : Array Value)[j]? = some (.string (g2 a b j)) := by
  match j, hj with
  | 0, _ => rfl
  | 1, _ => rfl
theorem g2_yes {a b : ByteArray} (h : allB (g2 a b) 2 = true) : a.size ≤ 5000 ∧ b.size ≤ 5000 := by
  have : allB (g2 a b) 2 = (decide (a.size ≤ 5000) && decide (b.size ≤ 5000)) := by simp [allB, List.range_succ, g2]
  rw [this] at h
  simpa using h
theorem short2 (a b : ByteArray) (ha : a.size ≤ maxLen) (hb : b.size ≤ maxLen) (w : World) :
    Calls Tryd.prog 7 #[.slice (some ⟨w.heap.size, 0, none⟩) 2 2] (w.alloc (.cells #[.string a, .string b] 9)) fun e w' => e = .returned (.bool (allB (g2 a b) 2)) ∧ w' = w.alloc (.cells #[.string a, .string b] 9) :=
  short_core (g2 a b) 2 w.heap.size (by omega) _ rfl (fun j hj => by
    match j, hj with
    | 0, _ => exact ha
    | 1, _ => exact hb) _ (Arr.new w _ 9 _ rfl _ 2 (g2_at a b))
set_option maxHeartbeats 4000000 in
theorem fewer_core (a b X Y : ByteArray) (n m : Int) (n0 : 0 ≤ n) (n1 : n < 65536) (m0 : 0 ≤ m) (m1 : m < 65536) (r : Bool) (w : World) (hT : Tab w) (zX : (X.size : Int) = n % 8000) (zY : (Y.size : Int) = n % 8000 + m % 160) (eY : Y.extract 0 (n % 8000).toNat = X)
    (C7 : Calls Tryd.prog 7 #[.slice (some ⟨w.heap.size, 0, none⟩) 2 2] (w.alloc (.cells #[.string a, .string b] 9)) fun e w' => e = .returned (.bool r) ∧ w' = w.alloc (.cells #[.string a, .string b] 9))
    (C1 : r = true → ∀ W, Tab W → Calls Tryd.prog 9 #[.string a, .string b, .int .i64 (n % 8000)] W fun q w' => q = .returned (.tuple #[.string X, .int .i64 0]) ∧ Below W.heap.size W w')
    (C2 : r = true → ∀ W, Tab W → Calls Tryd.prog 9 #[.string a, .string b, .int .i64 (n % 8000 + m % 160)] W fun q w' => q = .returned (.tuple #[.string Y, .int .i64 0]) ∧ Below W.heap.size W w')
    (CA : ∀ W, Tab W → Calls Tryd.prog 8 #[] W fun e w' => e = .returned (.bool true) ∧ Below W.heap.size W w') :
    Calls Tryd.prog 5 #[.string a, .string b, .int .u16 n, .int .u16 m] w fun e w' => e = .returned (.bool true) ∧ Below w.heap.size w w' := by
  have T0 := hT.al (.cells #[.string a, .string b] 9)
  have B0 : Below w.heap.size w (w.alloc (.cells #[.string a, .string b] 9)) := by go_grown
  cases r with
  | false =>
    go_enter Tryd.func5, Tryd.ntmps5
    go_wp2_with (go_at_call 7; refine C7.mono ?_; rintro q w1 ⟨rfl, rfl⟩)
    refine (CA _ T0).mono ?_
    rintro q w1 ⟨rfl, hb⟩
    go_wp2_with fail
    go_ret
    exact ⟨rfl, Bel.call B0 hb⟩
  | true =>
    have C1' := C1 rfl
    have C2' := C2 rfl
    clear C1 C2
    go_enter Tryd.func5, Tryd.ntmps5
    go_wp2_with (go_at_call 7; refine C7.mono ?_; rintro q w1 ⟨rfl, rfl⟩)
    generalize w.alloc (.cells #[.string a, .string b] 9) = w0 at *
    clear C7
    refine (C1' _ T0).mono ?_
    rintro q w1 ⟨rfl, hb⟩
    have B1 := Bel.call B0 hb
    have T1 := T0.to hb
    clear hb B0 T0 C1'
    go_wp2_with fail
    refine (C2' _ T1).mono ?_
    rintro q w2 ⟨rfl, hb⟩
    have B2 := Bel.call B1 hb
    have T2 := T1.to hb
    clear hb B1 T1 C2'
    have i1 : (X.size : Int) ≤ (Y.size : Int) := by omega
    have i2 : (Y.size : Int) ≤ 8160 := by omega
    go_wp2_with fail
    refine (CA _ T2).mono ?_
    rintro q w3 ⟨rfl, hb⟩
    have B3 := Bel.call B2 hb
    clear hb
    go_wp2_with fail
    go_ret
    exact ⟨rfl, B3⟩
theorem fewer_law (a b : ByteArray) (n m : Int) (n0 : 0 ≤ n) (n1 : n < 65536) (m0 : 0 ≤ m) (m1 : m < 65536) (ha : a.size ≤ maxLen) (hb : b.size ≤ maxLen) (w : World) (hT : Tab w) :
    Calls Tryd.prog 5 #[.string a, .string b, .int .u16 n, .int .u16 m] w fun e w' => e = .returned (.bool true) ∧ Below w.heap.size w w' := by
  obtain ⟨N, hN, hN2⟩ : ∃ N : Nat, n % 8000 = (N : Int) ∧ N < 8000 := ⟨(n % 8000).toNat, by omega, by omega⟩
  obtain ⟨M, hM, hM2⟩ : ∃ M : Nat, m % 160 = (M : Int) ∧ M < 160 := ⟨(m % 160).toNat, by omega, by omega⟩
  have z1 := expS_size a b N (by omega)
  have z2 := expS_size a b (N + M) (by omega)
  have e1 : (expS a b (N + M)).extract 0 N = expS a b N := by
    unfold expS
    rw [ByteArray.extract_extract]
    congr 1
    omega
  refine fewer_core a b (expS a b N) (expS a b (N + M)) n m n0 n1 m0 m1 _ w hT (by omega) (by omega) (by rw [hN]; exact e1) (short2 a b ha hb w) (fun h W hW => ?_) (fun h W hW => ?_) (fun W hW => awake_any W hW)
  · rw [hN]; exact expand_yes a b (by have := g2_yes h; omega) (by have := g2_yes h; omega) N (by omega) W hW
  · rw [hN, hM, show (N : Int) + (M : Int) = ((N + M : Nat) : Int) by omega]; exact expand_yes a b (by have := g2_yes h; omega) (by have := g2_yes h; omega) (N + M) (by omega) W hW
/-- Infos are alike just where all three are. -/
theorem infT_size (l c : ByteArray) (n : Int) : (infT l c n).size = l.size + c.size + 10 := by
  unfold infT
  rw [ByteArray.size_append, ByteArray.size_append, ByteArray.size_append, by1_size, by1_size, ctS_size, ctS_size, ByteArray.size_append, tls_size]
  omega
theorem byte_inj {a b : Int} (a0 : 0 ≤ a) (a1 : a < 256) (b0 : 0 ≤ b) (b1 : b < 256) (h : UInt8.ofNat a.toNat = UInt8.ofNat b.toNat) : a = b := by
  have := congrArg UInt8.toNat h
  rw [UInt8.toNat_ofNat', UInt8.toNat_ofNat'] at this
  omega
theorem infT_inj {a b c d : ByteArray} {m n : Int} (ha : a.size ≤ 249) (hb : b.size ≤ 255) (hc : c.size ≤ 249) (hd : d.size ≤ 255) (m0 : 0 ≤ m) (m1 : m ≤ 65535) (n0 : 0 ≤ n) (n1 : n ≤ 65535) (h : infT a b m = infT c d n) : a = c ∧ b = d ∧ m = n := by
  have e := congrArg (fun s : ByteArray => s.data.toList) h
  simp only [infT_list, List.cons_append, List.nil_append, List.append_assoc, List.cons.injEq] at e
  obtain ⟨e1, e2, e3, e4⟩ := e
  have q1 := byte_inj (by omega) (by omega) (by omega) (by omega) e1
  have q2 := byte_inj (by omega) (by omega) (by omega) (by omega) e2
  have q3 := byte_inj (by omega) (by omega) (by omega) (by omega) e3
  have sz : a.size = c.size := by omega
  have e5 := List.append_cancel_left e4
  have e6 := List.append_inj e5 (by rw [len_list, len_list, sz])
  have e7 := e6.2
  rw [List.cons.injEq] at e7
  exact ⟨ba_ext e6.1, ba_ext e7.2, by omega⟩
set_option maxHeartbeats 4000000 in
theorem infos_core (a b c d X Y : ByteArray) (m n e f : Int) (zX : e = 0 → f = 0 → (X.size : Int) = (a.size : Int) + (b.size : Int) + 10 ∧ a.size ≤ 249 ∧ b.size ≤ 255)
    (hi : e = 0 → f = 0 → X = Y → a = c ∧ b = d ∧ m = n) (hj : a = c → b = d → m = n → X = Y) (w : World) (hT : Tab w)
    (C1 : ∀ W, Calls Tryd.prog 13 #[.string a, .string b, .int .i64 m] W fun q w' => q = .returned (.tuple #[.string X, .int .i64 e]) ∧ Below W.heap.size W w')
    (C2 : ∀ W, Calls Tryd.prog 13 #[.string c, .string d, .int .i64 n] W fun q w' => q = .returned (.tuple #[.string Y, .int .i64 f]) ∧ Below W.heap.size W w')
    (CA : ∀ W, Tab W → Calls Tryd.prog 8 #[] W fun e w' => e = .returned (.bool true) ∧ Below W.heap.size W w') :
    Calls Tryd.prog 6 #[.string a, .string b, .int .i64 m, .string c, .string d, .int .i64 n] w fun e w' => e = .returned (.bool true) ∧ Below w.heap.size w w' := by
  go_enter Tryd.func6, Tryd.ntmps6
  go_wp2_with fail
  refine (C1 _).mono ?_
  rintro q w1 ⟨rfl, B1⟩
  have T1 := hT.to B1
  clear C1
  go_wp2_with fail
  refine (C2 _).mono ?_
  rintro q w2 ⟨rfl, hb⟩
  have B2 := Bel.call B1 hb
  have T2 := T1.to hb
  clear C2 hb B1 T1
  by_cases he : e = 0
  · by_cases hf : f = 0
    · subst he
      subst hf
      obtain ⟨zX', s1, s2⟩ := zX rfl rfl
      have hi' := hi rfl rfl
      have i1 : (a.size : Int) ≤ 249 := by omega
      have i2 : (b.size : Int) ≤ 255 := by omega
      clear zX hi
      have fin : ∀ W, Tab W → Below w.heap.size w W → Calls Tryd.prog 8 #[] W fun e w' => e = .returned (.bool true) ∧ Below w.heap.size w w' := fun W hW hB => (CA W hW).mono (fun e w' h => ⟨h.1, Bel.call hB h.2⟩)
      have F2 := fin w2 T2 B2
      clear fin CA
      have tl : ∀ s t : ByteArray, s.toList = t.toList → s = t := fun s t h => ba_ext (by rw [← ByteArray.toList_eq, ← ByteArray.toList_eq]; exact h)
      by_cases p : a.toList = c.toList
      · have p' := tl _ _ p
        subst p'
        clear p
        by_cases q : b.toList = d.toList
        · have q' := tl _ _ q
          subst q'
          clear q
          by_cases r : m = n
          · subst r
            have x := hj rfl rfl rfl
            subst x
            clear hj hi' tl
            go_wp2_with fail
            refine F2.mono ?_
            rintro e w3 ⟨rfl, hB⟩
            go_wp2_with fail
            go_ret
            exact ⟨rfl, hB⟩
          · have x : ¬ X.toList = Y.toList := fun h => r (hi' (tl _ _ h)).2.2
            have xb : (X.toList == Y.toList) = false := beq_eq_false_iff_ne.2 x
            have rb : (m == n) = false := beq_eq_false_iff_ne.2 r
            clear hj hi' tl
            go_wp2_with fail
            refine F2.mono ?_
            rintro e w3 ⟨rfl, hB⟩
            go_wp2_with fail
            go_ret
            exact ⟨rfl, hB⟩
        · have x : ¬ X.toList = Y.toList := fun h => q (by rw [(hi' (tl _ _ h)).2.1])
          have xb : (X.toList == Y.toList) = false := beq_eq_false_iff_ne.2 x
          have rb : (b.toList == d.toList) = false := beq_eq_false_iff_ne.2 q
          clear hj hi' tl
          go_wp2_with fail
          refine F2.mono ?_
          rintro e w3 ⟨rfl, hB⟩
          go_wp2_with fail
          go_ret
          exact ⟨rfl, hB⟩
      · have x : ¬ X.toList = Y.toList := fun h => p (by rw [(hi' (tl _ _ h)).1])
        have xb : (X.toList == Y.toList) = false := beq_eq_false_iff_ne.2 x
        have rb : (a.toList == c.toList) = false := beq_eq_false_iff_ne.2 p
        clear hj hi' tl
        go_wp2_with fail
        refine F2.mono ?_
        rintro e w3 ⟨rfl, hB⟩
        go_wp2_with fail
        go_ret
        exact ⟨rfl, hB⟩
    · subst he
      clear zX hi hj
      go_wp2_with fail
      refine (CA _ T2).mono ?_
      rintro q w3 ⟨rfl, hb⟩
      go_wp2_with fail
      go_ret
      exact ⟨rfl, Bel.call B2 hb⟩
  · clear zX hi hj
    by_cases hf : f = 0
    · subst hf
      go_wp2_with fail
      refine (CA _ T2).mono ?_
      rintro q w3 ⟨rfl, hb⟩
      go_wp2_with fail
      go_ret
      exact ⟨rfl, Bel.call B2 hb⟩
    · go_wp2_with fail
      refine (CA _ T2).mono ?_
      rintro q w3 ⟨rfl, hb⟩
      go_wp2_with fail
      go_ret
      exact ⟨rfl, Bel.call B2 hb⟩
theorem infE_yes {l c : ByteArray} {n : Int} (h : infE l c n = 0) : 0 ≤ n ∧ n ≤ 65535 ∧ l.size ≤ 249 ∧ c.size ≤ 255 ∧ infS l c n = infT l c n := by
  rcases infE_cases l c n with ⟨_, e1, e2⟩ | ⟨a, b, _, e1, e2⟩ | ⟨a, b, p, q, e1, e2⟩
  · omega
  · omega
  · exact ⟨a, b, p, q, e2⟩
theorem infos_law (a b c d : ByteArray) (m n : Int) (ha : a.size ≤ maxLen) (hb : b.size ≤ maxLen) (hc : c.size ≤ maxLen) (hd : d.size ≤ maxLen) (w : World) (hT : Tab w) :
    Calls Tryd.prog 6 #[.string a, .string b, .int .i64 m, .string c, .string d, .int .i64 n] w fun e w' => e = .returned (.bool true) ∧ Below w.heap.size w w' := by
  refine infos_core a b c d _ _ m n _ _ (fun h1 h2 => ?_) (fun h1 h2 h => ?_) (fun h1 h2 h3 => by rw [h1, h2, h3]) w hT (fun W => info_any a b ha hb m W) (fun W => info_any c d hc hd n W) (fun W hW => awake_any W hW)
  · obtain ⟨_, _, p, q, r⟩ := infE_yes h1
    rw [r, infT_size]
    exact ⟨by omega, p, q⟩
  · obtain ⟨x1, x2, x3, x4, x5⟩ := infE_yes h1
    obtain ⟨y1, y2, y3, y4, y5⟩ := infE_yes h2
    rw [x5, y5] at h
    exact infT_inj x3 x4 y3 y4 x1 x2 y1 y2 h
end Go.Proofs.YtiagdffbfomlfaaDoor
