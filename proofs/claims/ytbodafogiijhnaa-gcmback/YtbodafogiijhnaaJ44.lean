/- There and back: GcmBack. -/
import Derived.Test.YtbodafogiijhnaaJ41
set_option linter.all false
set_option maxRecDepth 100000
namespace Go.Proofs.Ytbodafogiijhnaa
open Go.RowKit Go.Sort Lin
theorem xS_bF (a b : ByteArray) (j : Nat) (hj : j < a.size) : bF (xS a b) j = xr (bF a j) (bF b j) := by
  apply Fin.ext
  have := mkS_bt (xL a.size (bF a) (bF b)) j ((xr (bF a j) (bF b j)).val : Int) (by simp [xL, hj]) (by omega) (by have := (xr (bF a j) (bF b j)).2; omega)
  have e := bF_bt (xS a b) j
  unfold xS at e ⊢
  omega
theorem text_ext {a b : ByteArray} (hs : a.size = b.size) (h : ∀ j, j < a.size → bF a j = bF b j) : a = b := by
  apply ba_ext
  apply List.ext_getElem?
  intro j
  by_cases hj : j < a.size
  · have e := h j hj
    have h1 : j < a.data.size := hj
    have h2 : j < b.data.size := by show j < b.size; omega
    rw [Array.getElem?_toList, Array.getElem?_toList, Array.getElem?_eq_getElem h1, Array.getElem?_eq_getElem h2]
    have v := congrArg Fin.val e
    simp only [bF, bt, Array.getElem?_eq_getElem h1, Array.getElem?_eq_getElem h2, Option.getD_some, Int.toNat_natCast] at v
    exact congrArg some (UInt8.toNat_inj.1 v)
  · rw [List.getElem?_eq_none (by rw [len_list]; omega), List.getElem?_eq_none (by rw [len_list]; omega)]
/-- Crossed twice is not at all. -/
theorem cr_cr (key nonce t : ByteArray) : crS key nonce (crS key nonce t) = t := by
  refine text_ext (by rw [crS_size, crS_size]) (fun j hj => ?_)
  rw [crS_size, crS_size] at hj
  have e : crS key nonce (crS key nonce t) = xS (crS key nonce t) (smS key (bF (nonce ++ n2)) t.size) := by
    show xS (crS key nonce t) (smS key (bF (nonce ++ n2)) (crS key nonce t).size) = _
    rw [crS_size]
  rw [e, xS_bF _ _ j (by rw [crS_size]; exact hj)]
  show xr (bF (xS t (smS key (bF (nonce ++ n2)) t.size)) j) _ = _
  rw [xS_bF _ _ j hj, xr_back]
theorem ext_all (a : ByteArray) : a.extract 0 a.size = a := by
  apply ba_ext
  rw [ext_list, List.drop_zero, Nat.sub_zero, List.take_of_length_le (by rw [len_list]; exact Nat.le_refl _)]
theorem cut1_app (c t : ByteArray) (ht : t.size = 16) : cut1 (c ++ t) = c := by
  unfold cut1
  rw [app_size, ht, Nat.add_sub_cancel, ext_app_lo _ _ _ (Nat.le_refl _), ext_all]
theorem cut2_app (c t : ByteArray) (ht : t.size = 16) : cut2 (c ++ t) = t := by
  unfold cut2
  apply ba_ext
  rw [ext_list, ap_list, app_size, ht, Nat.add_sub_cancel, List.drop_left' (len_list c), List.take_of_length_le (by rw [len_list]; omega)]
theorem cut_back (s : ByteArray) (hs : 16 ≤ s.size) : cut1 s ++ cut2 s = s := by
  apply ba_ext
  unfold cut1 cut2
  rw [ap_list, ext_list, ext_list, List.drop_zero, Nat.sub_zero]
  rw [List.take_of_length_le (l := s.data.toList.drop (s.size - 16)) (by rw [List.length_drop, len_list]; omega)]
  exact List.take_append_drop _ _
theorem seS_size (k n a p : ByteArray) : (seS k n a p).size = p.size + 16 := by unfold seS; rw [app_size, tN_size, crS_size]
/-- What is sealed is opened. -/
theorem op_se (k n a p : ByteArray) (h : rfg k n = 0) : opE k n a (seS k n a p) = 0 ∧ opS k n a (seS k n a p) = p := by
  have z := seS_size k n a p
  have c1 : cut1 (seS k n a p) = crS k n p := cut1_app _ _ (tN_size _)
  have c2 : cut2 (seS k n a p) = tN (tgN k n a (crS k n p)) := cut2_app _ _ (tN_size _)
  have e : opE k n a (seS k n a p) = 0 := by
    unfold opE
    rw [if_pos h, if_neg (by omega), c1, c2, bN_tN (tgN_lt _ _ _ _), if_pos rfl]
  refine ⟨e, ?_⟩
  unfold opS
  rw [if_pos e, c1, cr_cr]
theorem opE_0 {k n a s : ByteArray} (h : opE k n a s = 0) : rfg k n = 0 ∧ 16 ≤ s.size ∧ tgN k n a (cut1 s) = bN (cut2 s) := by
  unfold opE at h
  by_cases h1 : rfg k n = 0
  · rw [if_pos h1] at h
    by_cases h2 : s.size < 16
    · rw [if_pos h2] at h; omega
    · rw [if_neg h2] at h
      by_cases h3 : tgN k n a (cut1 s) = bN (cut2 s)
      · exact ⟨h1, by omega, h3⟩
      · rw [if_neg h3] at h; omega
  · rw [if_neg h1] at h; exact absurd h h1
/-- What is opened is what sealing makes of that again. -/
theorem se_op {k n a s : ByteArray} (h : opE k n a s = 0) : seR k n a (opS k n a s) = s ∧ (opS k n a s).size ≤ s.size := by
  obtain ⟨h1, h2, h3⟩ := opE_0 h
  have e : opS k n a s = crS k n (cut1 s) := by unfold opS; rw [if_pos h]
  have ds : (cut2 s).size = 16 := by unfold cut2; rw [ByteArray.size_extract]; omega
  constructor
  · unfold seR
    rw [if_pos h1, e]
    unfold seS
    rw [cr_cr, h3, tN_bN _ ds, cut_back s h2]
  · rw [e, crS_size]
    unfold cut1
    rw [ByteArray.size_extract]
    omega
set_option maxHeartbeats 1000000 in
theorem back_none (k n a s : ByteArray) (w : World)
    (C8 : Calls Try.prog 8 #[.slice (some ⟨w.heap.size, 0, none⟩) 4 4] (w.alloc (.cells #[.string k, .string n, .string a, .string s] 9)) fun e w' => e = .returned (.bool false) ∧ w' = w.alloc (.cells #[.string k, .string n, .string a, .string s] 9))
    (C9 : ∀ W, Calls Try.prog 9 #[] W fun e w' => e = .returned (.bool true) ∧ Below W.heap.size W w') :
    Calls Try.prog 5 #[.string k, .string n, .string a, .string s] w fun e w' => e = .returned (.bool true) ∧ Below w.heap.size w w' := by
  have B0 : Below w.heap.size w (w.alloc (.cells #[.string k, .string n, .string a, .string s] 9)) := by go_grown
  have hnot : ∀ (x : Bool) (w : World), (Op.unary .not (.bool x)).run Try.prog w = .ok (.bool (!x)) w := fun _ _ => rfl
  go_enter Try.func5, Try.ntmps5
  go_wp2_with (go_at_call 8; refine C8.mono ?_; rintro q w1 ⟨rfl, rfl⟩)
  refine (C9 _).mono ?_
  rintro q w1 ⟨rfl, hb⟩
  go_wp2_with fail
  go_ret
  exact ⟨rfl, Bel.call B0 hb⟩
set_option maxHeartbeats 1000000 in
theorem back_no (k n a s X U : ByteArray) (e g : Int) (he : ¬ e = 0) (hg : ¬ g = 0) (b16 b32 b12 : Bool) (h16 : ((k.size : Int) == 16) = b16) (h32 : ((k.size : Int) == 32) = b32) (h12 : ((n.size : Int) == 12) = b12) (hb : ((b16 || b32) && b12) = false) (w : World)
    (C8 : Calls Try.prog 8 #[.slice (some ⟨w.heap.size, 0, none⟩) 4 4] (w.alloc (.cells #[.string k, .string n, .string a, .string s] 9)) fun e w' => e = .returned (.bool true) ∧ w' = w.alloc (.cells #[.string k, .string n, .string a, .string s] 9))
    (C14 : ∀ W, Calls Try.prog 14 #[.string k, .string n, .string a, .string s] W fun q w' => q = .returned (.tuple #[.string X, .int .i64 e]) ∧ Below W.heap.size W w')
    (C16 : ∀ W, Calls Try.prog 16 #[.string k, .string n, .string a, .string s] W fun q w' => q = .returned (.tuple #[.string U, .int .i64 g]) ∧ Below W.heap.size W w')
    (C9 : ∀ W, Calls Try.prog 9 #[] W fun e w' => e = .returned (.bool true) ∧ Below W.heap.size W w') :
    Calls Try.prog 5 #[.string k, .string n, .string a, .string s] w fun e w' => e = .returned (.bool true) ∧ Below w.heap.size w w' := by
  have B0 : Below w.heap.size w (w.alloc (.cells #[.string k, .string n, .string a, .string s] 9)) := by go_grown
  have hnot : ∀ (x : Bool) (w : World), (Op.unary .not (.bool x)).run Try.prog w = .ok (.bool (!x)) w := fun _ _ => rfl
  have nb : ¬ (b16 = true ∧ b32 = true) := by
    rintro ⟨p, q⟩
    rw [p] at h16
    rw [q] at h32
    have p1 : (k.size : Int) = 16 := by simpa using h16
    have p2 : (k.size : Int) = 32 := by simpa using h32
    omega
  cases b16 <;> cases b32 <;> cases b12 <;> simp at hb nb
  all_goals
    go_enter Try.func5, Try.ntmps5
    go_wp2_with (go_at_call 8; refine C8.mono ?_; rintro q w1 ⟨rfl, rfl⟩)
    generalize w.alloc (.cells #[.string k, .string n, .string a, .string s] 9) = w0 at *
    refine (C14 _).mono ?_
    rintro q w1 ⟨rfl, hb⟩
    have B1 := Bel.call B0 hb
    clear hb
    go_wp2_with fail
    refine (C16 _).mono ?_
    rintro q w2 ⟨rfl, hb⟩
    have B2 := Bel.call B1 hb
    clear hb
    go_wp2_with fail
    refine (C9 _).mono ?_
    rintro q w3 ⟨rfl, hb⟩
    go_wp2_with fail
    go_ret
    exact ⟨rfl, Bel.call B2 hb⟩
set_option maxHeartbeats 2000000 in
theorem back_yes (k n a s X U : ByteArray) (g : Int) (hk : (k.size : Int) = 16 ∨ (k.size : Int) = 32) (h12 : (n.size : Int) = 12) (hX : (X.size : Int) = (s.size : Int) + 16) (hs : (s.size : Int) ≤ 1000) (w : World)
    (C8 : Calls Try.prog 8 #[.slice (some ⟨w.heap.size, 0, none⟩) 4 4] (w.alloc (.cells #[.string k, .string n, .string a, .string s] 9)) fun e w' => e = .returned (.bool true) ∧ w' = w.alloc (.cells #[.string k, .string n, .string a, .string s] 9))
    (C14 : ∀ W, Calls Try.prog 14 #[.string k, .string n, .string a, .string s] W fun q w' => q = .returned (.tuple #[.string X, .int .i64 0]) ∧ Below W.heap.size W w')
    (C16X : ∀ W, Calls Try.prog 16 #[.string k, .string n, .string a, .string X] W fun q w' => q = .returned (.tuple #[.string s, .int .i64 0]) ∧ Below W.heap.size W w')
    (C16 : ∀ W, Calls Try.prog 16 #[.string k, .string n, .string a, .string s] W fun q w' => q = .returned (.tuple #[.string U, .int .i64 g]) ∧ Below W.heap.size W w')
    (C14U : g = 0 → ∀ W, Calls Try.prog 14 #[.string k, .string n, .string a, .string U] W fun q w' => q = .returned (.tuple #[.string s, .int .i64 0]) ∧ Below W.heap.size W w')
    (C9 : ∀ W, Calls Try.prog 9 #[] W fun e w' => e = .returned (.bool true) ∧ Below W.heap.size W w') :
    Calls Try.prog 5 #[.string k, .string n, .string a, .string s] w fun e w' => e = .returned (.bool true) ∧ Below w.heap.size w w' := by
  have B0 : Below w.heap.size w (w.alloc (.cells #[.string k, .string n, .string a, .string s] 9)) := by go_grown
  have hnot : ∀ (x : Bool) (w : World), (Op.unary .not (.bool x)).run Try.prog w = .ok (.bool (!x)) w := fun _ _ => rfl
  rcases hk with hk | hk
  all_goals
    go_enter Try.func5, Try.ntmps5
    go_wp2_with (go_at_call 8; refine C8.mono ?_; rintro q w1 ⟨rfl, rfl⟩)
    generalize w.alloc (.cells #[.string k, .string n, .string a, .string s] 9) = w0 at *
    clear C8
    refine (C14 _).mono ?_
    rintro q w1 ⟨rfl, hb⟩
    have B1 := Bel.call B0 hb
    clear hb B0 C14
    go_wp2_with fail
    refine (C16X _).mono ?_
    rintro q w2 ⟨rfl, hb⟩
    have B2 := Bel.call B1 hb
    clear hb B1 C16X
    go_wp2_with fail
    refine (C16 _).mono ?_
    rintro q w3 ⟨rfl, hb⟩
    have B3 := Bel.call B2 hb
    clear hb B2 C16
    by_cases hg : g = 0
    · have D := C14U hg
      subst hg
      clear C14U
      go_wp2_with fail
      refine (D _).mono ?_
      rintro q w4 ⟨rfl, hb⟩
      have B4 := Bel.call B3 hb
      clear hb B3 D
      go_wp2_with fail
      refine (C9 _).mono ?_
      rintro q w5 ⟨rfl, hb⟩
      go_wp2_with fail
      go_ret
      exact ⟨rfl, Bel.call B4 hb⟩
    · clear C14U
      go_wp2_with fail
      refine (C9 _).mono ?_
      rintro q w5 ⟨rfl, hb⟩
      go_wp2_with fail
      go_ret
      exact ⟨rfl, Bel.call B3 hb⟩
theorem back_law (k n a s : ByteArray) (hk : k.size ≤ maxLen) (hn : n.size ≤ maxLen) (ha : a.size ≤ maxLen) (hs : s.size ≤ maxLen) (w : World) :
    Calls Try.prog 5 #[.string k, .string n, .string a, .string s] w fun e w' => e = .returned (.bool true) ∧ Below w.heap.size w w' := by
  have C8 := short4 k n a s hk hn ha hs w
  cases hr : allB (g4 k n a s) 4 with
  | false =>
    rw [hr] at C8
    exact back_none k n a s w C8 (fun W => awake_any W)
  | true =>
    rw [hr] at C8
    obtain ⟨z1, z2, z3, z4⟩ := g4_all hr
    have C14 := fun W => gSeal_any k n a s (by omega) (by omega) (by omega) W
    have C16 := fun W => gOpen_any k n a s (by omega) (by omega) (by omega) W
    by_cases h : rfg k n = 0
    · obtain ⟨h1, h2⟩ := rfg_0 h
      have e : seR k n a s = seS k n a s := by unfold seR; rw [if_pos h]
      have z := seS_size k n a s
      rw [e, h] at C14
      refine back_yes k n a s _ _ _ (by rcases h1 with h1 | h1 <;> omega) (by omega) (by omega) (by omega) w C8 C14 (fun W => ?_) C16 (fun hg W => ?_) (fun W => awake_any W)
      · have := gOpen_any k n a (seS k n a s) (by omega) (by omega) (by omega) W
        rwa [(op_se k n a s h).1, (op_se k n a s h).2] at this
      · obtain ⟨q1, q2⟩ := se_op hg
        have := gSeal_any k n a (opS k n a s) (by omega) (by omega) (by omega) W
        rwa [q1, h] at this
    · have hg : ¬ opE k n a s = 0 := fun q => h (opE_0 q).1
      refine back_no k n a s _ _ _ _ h hg _ _ _ rfl rfl rfl ?_ w C8 C14 C16 (fun W => awake_any W)
      have hn : ¬ (Key k ∧ n.size = 12) := fun q => h (by unfold rfg; rw [if_pos ((isK_iff k).2 q.1), if_pos q.2])
      by_cases q1 : (k.size : Int) = 16
      · by_cases q3 : (n.size : Int) = 12
        · exact absurd ⟨.inl (by omega), by omega⟩ hn
        · simp [q3]
      · by_cases q2 : (k.size : Int) = 32
        · by_cases q3 : (n.size : Int) = 12
          · exact absurd ⟨.inr (by omega), by omega⟩ hn
          · simp [q3]
        · simp [q1, q2]
end Go.Proofs.Ytbodafogiijhnaa
