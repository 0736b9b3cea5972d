/- One byte changed: GcmTurned. -/
import Derived.Test.YtbodafogiijhnaaJ44
set_option linter.all false
set_option maxRecDepth 100000
namespace Go.Proofs.Ytbodafogiijhnaa
open Go.RowKit Go.Sort Lin
/-- A text, one byte of which is changed. -/
def chF (X : ByteArray) (q : Nat) (v : By) (j : Nat) : By := if j = q then xr (bF X j) v else bF X j
def chL (X : ByteArray) (q : Nat) (v : By) : List Int := (List.range X.size).map fun j => ((chF X q v j).val : Int)
def chS (X : ByteArray) (q : Nat) (v : By) : ByteArray := mkS (chL X q v)
theorem chS_size (X : ByteArray) (q : Nat) (v : By) : (chS X q v).size = X.size := by unfold chS chL; rw [mkS_size]; simp
theorem chS_0 (X : ByteArray) (q : Nat) : chS X q 0 = X := by
  refine text_ext (chS_size X q 0) (fun j hj => ?_)
  rw [chS_size] at hj
  apply Fin.ext
  have e0 : chF X q 0 j = bF X j := by unfold chF; split <;> simp [xr_zero]
  have := mkS_bt (chL X q 0) j ((chF X q 0 j).val : Int) (by simp [chL, hj]) (by omega) (by have := (chF X q 0 j).2; omega)
  have e := bF_bt (chS X q 0) j
  unfold chS at e ⊢
  rw [e0] at this
  omega
set_option maxHeartbeats 1000000 in
theorem turned_no (k n a s X : ByteArray) (at_ : Int) (v : By) (e : Int) (he : ¬ e = 0) (w : World)
    (C8 : Calls Try.prog 8 #[.slice (some ⟨w.heap.size, 0, none⟩) 4 4] (w.alloc (.cells #[.string k, .string n, .string a, .string s] 9)) fun e w' => e = .returned (.bool true) ∧ w' = w.alloc (.cells #[.string k, .string n, .string a, .string s] 9))
    (C14 : ∀ W, Calls Try.prog 14 #[.string k, .string n, .string a, .string s] W fun q w' => q = .returned (.tuple #[.string X, .int .i64 e]) ∧ Below W.heap.size W w')
    (C9 : ∀ W, Calls Try.prog 9 #[] W fun e w' => e = .returned (.bool true) ∧ Below W.heap.size W w') :
    Calls Try.prog 7 #[.string k, .string n, .string a, .string s, .int .i64 at_, .int .u8 (v.val : Int)] w fun e w' => e = .returned (.bool true) ∧ Below w.heap.size w w' := by
  have B0 : Below w.heap.size w (w.alloc (.cells #[.string k, .string n, .string a, .string s] 9)) := by go_grown
  have hnot : ∀ (x : Bool) (w : World), (Op.unary .not (.bool x)).run Try.prog w = .ok (.bool (!x)) w := fun _ _ => rfl
  have he' : (e != 0) = true := by simp [he]
  go_enter Try.func7, Try.ntmps7
  go_wp2_with (go_at_call 8; refine C8.mono ?_; rintro q w1 ⟨rfl, rfl⟩)
  generalize w.alloc (.cells #[.string k, .string n, .string a, .string s] 9) = w0 at *
  refine (C14 _).mono ?_
  rintro q w1 ⟨rfl, hb⟩
  have B1 := Bel.call B0 hb
  clear hb
  go_wp2_with fail
  refine (C9 _).mono ?_
  rintro q w3 ⟨rfl, hb⟩
  go_wp2_with fail
  go_ret
  exact ⟨rfl, Bel.call B1 hb⟩
set_option maxHeartbeats 1000000 in
theorem turned_none (k n a s : ByteArray) (at_ : Int) (v : By) (w : World)
    (C8 : Calls Try.prog 8 #[.slice (some ⟨w.heap.size, 0, none⟩) 4 4] (w.alloc (.cells #[.string k, .string n, .string a, .string s] 9)) fun e w' => e = .returned (.bool false) ∧ w' = w.alloc (.cells #[.string k, .string n, .string a, .string s] 9))
    (C9 : ∀ W, Calls Try.prog 9 #[] W fun e w' => e = .returned (.bool true) ∧ Below W.heap.size W w') :
    Calls Try.prog 7 #[.string k, .string n, .string a, .string s, .int .i64 at_, .int .u8 (v.val : Int)] w fun e w' => e = .returned (.bool true) ∧ Below w.heap.size w w' := by
  have B0 : Below w.heap.size w (w.alloc (.cells #[.string k, .string n, .string a, .string s] 9)) := by go_grown
  have hnot : ∀ (x : Bool) (w : World), (Op.unary .not (.bool x)).run Try.prog w = .ok (.bool (!x)) w := fun _ _ => rfl
  go_enter Try.func7, Try.ntmps7
  go_wp2_with (go_at_call 8; refine C8.mono ?_; rintro q w1 ⟨rfl, rfl⟩)
  refine (C9 _).mono ?_
  rintro q w1 ⟨rfl, hb⟩
  go_wp2_with fail
  go_ret
  exact ⟨rfl, Bel.call B0 hb⟩
set_option maxHeartbeats 2000000 in
theorem turned_yes (k n a s X Y P : ByteArray) (at_ f : Int) (v : By) (q m : Nat) (hm : X.size = m) (m16 : 16 ≤ m) (m2 : m ≤ 2000) (hq : wrap64 ((IntKind.u64.wrap at_).tmod (m : Int)) = (q : Int)) (hqm : q < m) (hY : mkS (chL X q v) = Y) (hf : f = 0 ∨ (f = 17 ∧ ¬ (v.val : Int) = 0)) (w : World)
    (C8 : Calls Try.prog 8 #[.slice (some ⟨w.heap.size, 0, none⟩) 4 4] (w.alloc (.cells #[.string k, .string n, .string a, .string s] 9)) fun e w' => e = .returned (.bool true) ∧ w' = w.alloc (.cells #[.string k, .string n, .string a, .string s] 9))
    (C14 : ∀ W, Calls Try.prog 14 #[.string k, .string n, .string a, .string s] W fun q w' => q = .returned (.tuple #[.string X, .int .i64 0]) ∧ Below W.heap.size W w')
    (C16 : ∀ W, Calls Try.prog 16 #[.string k, .string n, .string a, .string Y] W fun q w' => q = .returned (.tuple #[.string P, .int .i64 f]) ∧ Below W.heap.size W w')
    (C17 : ∀ W, Calls Try.prog 17 #[.string k, .string n, .string a, .string Y] W fun q w' => q = .returned (.tuple #[.string P, .int .i64 f]) ∧ Below W.heap.size W w')
    (C9 : ∀ W, Calls Try.prog 9 #[] W fun e w' => e = .returned (.bool true) ∧ Below W.heap.size W w') :
    Calls Try.prog 7 #[.string k, .string n, .string a, .string s, .int .i64 at_, .int .u8 (v.val : Int)] w fun e w' => e = .returned (.bool true) ∧ Below w.heap.size w w' := by
  have B0 : Below w.heap.size w (w.alloc (.cells #[.string k, .string n, .string a, .string s] 9)) := by go_grown
  have hnot : ∀ (x : Bool) (w : World), (Op.unary .not (.bool x)).run Try.prog w = .ok (.bool (!x)) w := fun _ _ => rfl
  have x0 : (X.size : Int) = (m : Int) := by omega
  have x1 : ¬ (m : Int) < 16 := by omega
  have x2 : (m : Int) ≤ 2000 := by omega
  have x3 : ¬ (m : Int) = 0 := by omega
  have q0 : (0 : Int) ≤ (q : Int) := by omega
  have q1 : (q : Int) < (m : Int) := by omega
  have q2 : (q : Int) ≤ 2000 := by omega
  go_enter Try.func7, Try.ntmps7
  go_wp2_with (go_at_call 8; refine C8.mono ?_; rintro q w1 ⟨rfl, rfl⟩)
  generalize w.alloc (.cells #[.string k, .string n, .string a, .string s] 9) = w0 at *
  clear C8
  refine (C14 _).mono ?_
  rintro q' w1 ⟨rfl, hb⟩
  have B1 := Bel.call B0 hb
  clear hb B0 C14
  obtain ⟨cap, w2, hcv, A, hg, B2⟩ := conv_row w1 X
  rw [hm] at hcv A
  have B1s := B1.size
  replace B2 := Bel.call B1 B2
  have HM : Hid (X.size = m) := hm
  clear B1 hm
  have cq := A.cv q hqm (.int .u8 ((bF X q).val : Int)) rfl
  have zq := A.z q hqm
  have E := xr8 (bF X q) v
  obtain ⟨c, hc⟩ : ∃ c, xr (bF X q) v = c := ⟨_, rfl⟩
  rw [hc] at E
  have HC : Hid (xr (bF X q) v = c) := hc
  clear hc
  have A3 : Arr (w2.setCell ⟨w1.heap.size, q, none⟩ (.int .u8 (c.val : Int))) w1.heap.size m (bc (chF X q v)) := (A.set q hqm _).congr fun j hj => by
    unfold bc chF
    by_cases e : j = q
    · subst e; rw [if_pos rfl, if_pos rfl, HC.out]
    · rw [if_neg e, if_neg e]
  have B3 := Bel.st B2 B1s (k := q) (.int .u8 (c.val : Int))
  have cv := convC (w2.setCell ⟨w1.heap.size, q, none⟩ (.int .u8 (c.val : Int))) w1.heap.size m cap (chL X q v) (by simp [chL]; exact HM.out) (by
    intro j u hu
    rw [Addr.add_mid, Nat.zero_add]
    have hj : j < m := by have := (List.getElem?_eq_some_iff.1 hu).1; rw [← HM.out]; simpa [chL] using this
    rw [A3.c j hj, ← hu]
    have hj' : j < X.size := by rw [HM.out]; exact hj
    simp [chL, hj', bc])
  rw [hY] at cv
  clear A B2
  go_upto_region 8 with (fail)
  have hg3 : w1.heap.size < (w2.setCell ⟨w1.heap.size, q, none⟩ (.int .u8 (c.val : Int))).heap.size := by rw [size_set]; exact hg
  clear hcv cq zq E hg
  generalize w2.setCell ⟨w1.heap.size, q, none⟩ (.int .u8 (c.val : Int)) = w3 at *
  generalize w1.heap.size = g at *
  go_wp2_with fail
  refine (C16 _).mono ?_
  rintro q' w4 ⟨rfl, hb⟩
  have A4 := A3.below hb hg3
  have B4 := Bel.call B3 hb
  clear hb B3 C16 cv A3
  have cv := convC w4 g m cap (chL X q v) (by simp [chL]; exact HM.out) (by
    intro j u hu
    rw [Addr.add_mid, Nat.zero_add]
    have hj : j < m := by have := (List.getElem?_eq_some_iff.1 hu).1; rw [← HM.out]; simpa [chL] using this
    rw [A4.c j hj, ← hu]
    have hj' : j < X.size := by rw [HM.out]; exact hj
    simp [chL, hj', bc])
  rw [hY] at cv
  clear A4 hY
  go_wp2_with fail
  refine (C17 _).mono ?_
  rintro q' w5 ⟨rfl, hb⟩
  have B5 := Bel.call B4 hb
  clear hb B4 C17 cv
  rcases hf with rfl | ⟨rfl, hv⟩
  · obtain ⟨bb, hbb⟩ : ∃ bb, ((v.val : Int) != 0) = bb := ⟨_, rfl⟩
    cases bb
    all_goals
      go_wp2_with fail
      refine (C9 _).mono ?_
      rintro q' w6 ⟨rfl, hb⟩
      have B6 := Bel.call B5 hb
      clear hb B5 C9
      go_wp2_with fail
      go_ret
      refine ⟨?_, B6⟩
      first | rfl | simp
  · have hv' : ((v.val : Int) != 0) = true := by simp [bne, beq_false_of_ne hv]
    clear hv
    go_wp2_with fail
    refine (C9 _).mono ?_
    rintro q' w6 ⟨rfl, hb⟩
    have B6 := Bel.call B5 hb
    clear hb B5 C9
    go_wp2_with fail
    go_ret
    refine ⟨?_, B6⟩
    first | rfl | simp
theorem at_is (at_ : Int) (m : Nat) (m16 : 16 ≤ m) (m2 : m ≤ 2000) : ∃ q : Nat, wrap64 ((IntKind.u64.wrap at_).tmod (m : Int)) = (q : Int) ∧ q < m := by
  have u0 : 0 ≤ IntKind.u64.wrap at_ := by rw [IntKind.wrap_u64]; omega
  generalize IntKind.u64.wrap at_ = u at *
  rw [Int.tmod_eq_emod_of_nonneg u0]
  refine ⟨(u % (m : Int)).toNat, ?_, ?_⟩
  · have h0 : 0 ≤ u % (m : Int) := Int.emod_nonneg _ (by omega)
    have h1 : u % (m : Int) < (m : Int) := Int.emod_lt_of_pos _ (by omega)
    generalize u % (m : Int) = z at *
    rw [Int.toNat_of_nonneg h0]
    unfold wrap64
    first | omega | (split <;> omega) | (rw [Int.emod_eq_of_lt] <;> omega)
  · have h0 : 0 ≤ u % (m : Int) := Int.emod_nonneg _ (by omega)
    have h1 : u % (m : Int) < (m : Int) := Int.emod_lt_of_pos _ (by omega)
    omega
theorem turned_law (k n a s : ByteArray) (at_ : Int) (v : By) (hk : k.size ≤ maxLen) (hn : n.size ≤ maxLen) (ha : a.size ≤ maxLen) (hs : s.size ≤ maxLen) (w : World) :
    Calls Try.prog 7 #[.string k, .string n, .string a, .string s, .int .i64 at_, .int .u8 (v.val : Int)] w fun e w' => e = .returned (.bool true) ∧ Below w.heap.size w w' := by
  have C8 := short4 k n a s hk hn ha hs w
  cases hr : allB (g4 k n a s) 4 with
  | false =>
    rw [hr] at C8
    exact turned_none k n a s at_ v w C8 (fun W => awake_any W)
  | true =>
    rw [hr] at C8
    obtain ⟨z1, z2, z3, z4⟩ := g4_all hr
    have C14 := fun W => gSeal_any k n a s (by omega) (by omega) (by omega) W
    by_cases h : rfg k n = 0
    · have e : seR k n a s = seS k n a s := by unfold seR; rw [if_pos h]
      have z := seS_size k n a s
      rw [e, h] at C14
      obtain ⟨q, hq, hqm⟩ := at_is at_ (seS k n a s).size (by omega) (by omega)
      have zc := chS_size (seS k n a s) q v
      refine turned_yes k n a s _ (chS (seS k n a s) q v) _ at_ (opE k n a (chS (seS k n a s) q v)) v q _ rfl (by omega) (by omega) hq hqm rfl ?_ w C8 C14 (fun W => gOpen_any k n a _ (by omega) (by omega) (by omega) W) (fun W => rOpen_any k n a _ (by omega) (by omega) (by omega) W) (fun W => awake_any W)
      by_cases h0 : opE k n a (chS (seS k n a s) q v) = 0
      · exact .inl h0
      · refine .inr ⟨?_, fun hv => ?_⟩
        · unfold opE at h0 ⊢
          rw [if_pos h, if_neg (by omega)] at h0 ⊢
          by_cases ht : tgN k n a (cut1 (chS (seS k n a s) q v)) = bN (cut2 (chS (seS k n a s) q v))
          · rw [if_pos ht] at h0; exact absurd rfl h0
          · rw [if_neg ht]
        · have v0 : v = 0 := Fin.ext (by show v.val = 0; omega)
          rw [v0, chS_0] at h0
          exact h0 (op_se k n a s h).1
    · exact turned_no k n a s _ at_ v _ h w C8 C14 (fun W => awake_any W)
end Go.Proofs.Ytbodafogiijhnaa
