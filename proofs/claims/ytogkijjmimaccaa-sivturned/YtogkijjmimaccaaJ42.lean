/- One byte changed: SivTurned. -/
import Derived.Test.YtogkijjmimaccaaJ40
set_option linter.all false
set_option maxRecDepth 100000
namespace Go.Proofs.Ytogkijjmimaccaa
open Go.RowKit Go.Sort Lin
/-- A text, one byte of which is changed. -/
def chF (X : ByteArray) (q : Nat) (v : By) (j : Nat) : By := if j = q then xr (bF X j) v else bF X j
def chL (X : ByteArray) (q : Nat) (v : By) : List Int := (List.range X.size).map fun j => ((chF X q v j).val : Int)
def chS (X : ByteArray) (q : Nat) (v : By) : ByteArray := mkS (chL X q v)
theorem chS_size (X : ByteArray) (q : Nat) (v : By) : (chS X q v).size = X.size := by unfold chS chL; rw [mkS_size]; simp
theorem chS_0 (X : ByteArray) (q : Nat) : chS X q 0 = X := by
  refine text_ext (chS_size X q 0) (fun j hj => ?_)
  rw [chS_size] at hj
  apply Fin.ext
  have e0 : chF X q 0 j = bF X j := by unfold chF; split <;> simp [xr_zero]
  have := mkS_bt (chL X q 0) j ((chF X q 0 j).val : Int) (by simp [chL, hj]) (by omega) (by have := (chF X q 0 j).2; omega)
  have e := bF_bt (chS X q 0) j
  unfold chS at e ⊢
  rw [e0] at this
  omega
theorem at_is (at_ : Int) (m : Nat) (m16 : 16 ≤ m) (m2 : m ≤ 2000) : ∃ q : Nat, wrap64 ((IntKind.u64.wrap at_).tmod (m : Int)) = (q : Int) ∧ q < m := by
  have u0 : 0 ≤ IntKind.u64.wrap at_ := by rw [IntKind.wrap_u64]; omega
  generalize IntKind.u64.wrap at_ = u at *
  rw [Int.tmod_eq_emod_of_nonneg u0]
  refine ⟨(u % (m : Int)).toNat, ?_, ?_⟩
  · have h0 : 0 ≤ u % (m : Int) := Int.emod_nonneg _ (by omega)
    have h1 : u % (m : Int) < (m : Int) := Int.emod_lt_of_pos _ (by omega)
    generalize u % (m : Int) = z at *
    rw [Int.toNat_of_nonneg h0]
    unfold wrap64
    first | omega | (split <;> omega) | (rw [Int.emod_eq_of_lt] <;> omega)
  · have h0 : 0 ≤ u % (m : Int) := Int.emod_nonneg _ (by omega)
    have h1 : u % (m : Int) < (m : Int) := Int.emod_lt_of_pos _ (by omega)
    omega
set_option maxHeartbeats 1000000 in
theorem turned_none1 (k s : ByteArray) (v : Value) (at_ : Int) (v' : By) (w : World)
    (C8 : Calls Try.prog 8 #[(.slice (some ⟨w.heap.size, 0, none⟩) 2 2)] (w.alloc (.cells #[.string k, .string s] 9)) fun e w' => e = .returned (.bool false) ∧ w' = (w.alloc (.cells #[.string k, .string s] 9)))
    (C9 : ∀ W, Calls Try.prog 9 #[] W fun e w' => e = .returned (.bool true) ∧ Below W.heap.size W w') :
    Calls Try.prog 6 #[.string k, v, .string s, .int .i64 at_, .int .u8 (v'.val : Int)] w fun e w' => e = .returned (.bool true) ∧ Below w.heap.size w w' := by
  have B0 : Below w.heap.size w (w.alloc (.cells #[.string k, .string s] 9)) := by go_grown
  have hnot : ∀ (x : Bool) (w : World), (Op.unary .not (.bool x)).run Try.prog w = .ok (.bool (!x)) w := fun _ _ => rfl
  go_enter Try.func6, Try.ntmps6
  go_wp2_with (go_at_call 8; refine C8.mono ?_; rintro q w1 ⟨rfl, rfl⟩)
  refine (C9 _).mono ?_
  rintro q w1 ⟨rfl, hb⟩
  go_wp2_with fail
  go_ret
  exact ⟨rfl, Bel.call B0 hb⟩
set_option maxHeartbeats 1000000 in
theorem turned_none2 (k s : ByteArray) (v : Value) (at_ : Int) (v' : By) (w : World)
    (C8 : Calls Try.prog 8 #[(.slice (some ⟨w.heap.size, 0, none⟩) 2 2)] (w.alloc (.cells #[.string k, .string s] 9)) fun e w' => e = .returned (.bool true) ∧ w' = (w.alloc (.cells #[.string k, .string s] 9)))
    (C8l : Calls Try.prog 8 #[v] (w.alloc (.cells #[.string k, .string s] 9)) fun e w' => e = .returned (.bool false) ∧ w' = (w.alloc (.cells #[.string k, .string s] 9)))
    (C9 : ∀ W, Calls Try.prog 9 #[] W fun e w' => e = .returned (.bool true) ∧ Below W.heap.size W w') :
    Calls Try.prog 6 #[.string k, v, .string s, .int .i64 at_, .int .u8 (v'.val : Int)] w fun e w' => e = .returned (.bool true) ∧ Below w.heap.size w w' := by
  have B0 : Below w.heap.size w (w.alloc (.cells #[.string k, .string s] 9)) := by go_grown
  have hnot : ∀ (x : Bool) (w : World), (Op.unary .not (.bool x)).run Try.prog w = .ok (.bool (!x)) w := fun _ _ => rfl
  go_enter Try.func6, Try.ntmps6
  go_wp2_with fail
  refine C8.mono ?_
  rintro q w1 ⟨rfl, rfl⟩
  clear C8
  go_wp2_with fail
  refine C8l.mono ?_
  rintro q w1 ⟨rfl, rfl⟩
  clear C8l
  go_wp2_with fail
  refine (C9 _).mono ?_
  rintro q w1 ⟨rfl, hb⟩
  go_wp2_with fail
  go_ret
  exact ⟨rfl, Bel.call B0 hb⟩
set_option maxHeartbeats 1000000 in
theorem turned_no (k s : ByteArray) (v : Value) (l : List ByteArray) (X : ByteArray) (at_ : Int) (v' : By) (e : Int) (he : ¬ e = 0) (w : World) (hv : Txs w v l)
    (C8 : Calls Try.prog 8 #[(.slice (some ⟨w.heap.size, 0, none⟩) 2 2)] (w.alloc (.cells #[.string k, .string s] 9)) fun e w' => e = .returned (.bool true) ∧ w' = (w.alloc (.cells #[.string k, .string s] 9)))
    (C8l : Calls Try.prog 8 #[v] (w.alloc (.cells #[.string k, .string s] 9)) fun e w' => e = .returned (.bool true) ∧ w' = (w.alloc (.cells #[.string k, .string s] 9)))
    (C16 : ∀ W, Txs W v l → Calls Try.prog 16 #[.string k, v, .string s] W fun q w' => q = .returned (.tuple #[.string X, .int .i64 e]) ∧ Below W.heap.size W w')
    (C9 : ∀ W, Calls Try.prog 9 #[] W fun e w' => e = .returned (.bool true) ∧ Below W.heap.size W w') :
    Calls Try.prog 6 #[.string k, v, .string s, .int .i64 at_, .int .u8 (v'.val : Int)] w fun e w' => e = .returned (.bool true) ∧ Below w.heap.size w w' := by
  have he' : (e != 0) = true := by simp [he]
  have B0 : Below w.heap.size w (w.alloc (.cells #[.string k, .string s] 9)) := by go_grown
  have hnot : ∀ (x : Bool) (w : World), (Op.unary .not (.bool x)).run Try.prog w = .ok (.bool (!x)) w := fun _ _ => rfl
  go_enter Try.func6, Try.ntmps6
  go_wp2_with fail
  refine C8.mono ?_
  rintro q w1 ⟨rfl, rfl⟩
  clear C8
  go_wp2_with fail
  refine C8l.mono ?_
  rintro q w1 ⟨rfl, rfl⟩
  clear C8l
  have hX0 := hv.to B0
  clear hv
  generalize (w.alloc (.cells #[.string k, .string s] 9)) = w0 at *
  go_wp2_with fail
  refine (C16 _ hX0).mono ?_
  rintro q w1 ⟨rfl, hb⟩
  have B1 := Bel.call B0 hb
  have hX1 := hX0.to hb
  clear hb B0 hX0
  clear C16
  go_wp2_with fail
  refine (C9 _).mono ?_
  rintro q w3 ⟨rfl, hb⟩
  go_wp2_with fail
  go_ret
  exact ⟨rfl, Bel.call B1 hb⟩
set_option maxHeartbeats 2000000 in
theorem turned_yes (k s : ByteArray) (v : Value) (l : List ByteArray) (X Y P : ByteArray) (at_ f : Int) (v' : By) (q m : Nat) (hm : X.size = m) (m16 : 16 ≤ m) (m2 : m ≤ 2000) (hq : wrap64 ((IntKind.u64.wrap at_).tmod (m : Int)) = (q : Int)) (hqm : q < m) (hY : mkS (chL X q v') = Y) (hf : ¬ (v'.val : Int) = 0 ∨ (f = 0 ∧ P = s)) (w : World) (hv : Txs w v l)
    (C8 : Calls Try.prog 8 #[(.slice (some ⟨w.heap.size, 0, none⟩) 2 2)] (w.alloc (.cells #[.string k, .string s] 9)) fun e w' => e = .returned (.bool true) ∧ w' = (w.alloc (.cells #[.string k, .string s] 9)))
    (C8l : Calls Try.prog 8 #[v] (w.alloc (.cells #[.string k, .string s] 9)) fun e w' => e = .returned (.bool true) ∧ w' = (w.alloc (.cells #[.string k, .string s] 9)))
    (C16 : ∀ W, Txs W v l → Calls Try.prog 16 #[.string k, v, .string s] W fun q w' => q = .returned (.tuple #[.string X, .int .i64 0]) ∧ Below W.heap.size W w')
    (C18 : ∀ W, Txs W v l → Calls Try.prog 18 #[.string k, v, .string Y] W fun q w' => q = .returned (.tuple #[.string P, .int .i64 f]) ∧ Below W.heap.size W w')
    (C19 : ∀ W, Txs W v l → Calls Try.prog 19 #[.string k, v, .string Y] W fun q w' => q = .returned (.tuple #[.string P, .int .i64 f]) ∧ Below W.heap.size W w')
    (C9 : ∀ W, Calls Try.prog 9 #[] W fun e w' => e = .returned (.bool true) ∧ Below W.heap.size W w') :
    Calls Try.prog 6 #[.string k, v, .string s, .int .i64 at_, .int .u8 (v'.val : Int)] w fun e w' => e = .returned (.bool true) ∧ Below w.heap.size w w' := by
  have x0 : (X.size : Int) = (m : Int) := by omega
  have x1 : ¬ (m : Int) < 16 := by omega
  have x2 : (m : Int) ≤ 2000 := by omega
  have x3 : ¬ (m : Int) = 0 := by omega
  have q0 : (0 : Int) ≤ (q : Int) := by omega
  have q1 : (q : Int) < (m : Int) := by omega
  have q2 : (q : Int) ≤ 2000 := by omega
  have HF : Hid (¬ (v'.val : Int) = 0 ∨ (f = 0 ∧ P = s)) := hf
  clear hf
  have B0 : Below w.heap.size w (w.alloc (.cells #[.string k, .string s] 9)) := by go_grown
  have hnot : ∀ (x : Bool) (w : World), (Op.unary .not (.bool x)).run Try.prog w = .ok (.bool (!x)) w := fun _ _ => rfl
  go_enter Try.func6, Try.ntmps6
  go_wp2_with fail
  refine C8.mono ?_
  rintro q w1 ⟨rfl, rfl⟩
  clear C8
  go_wp2_with fail
  refine C8l.mono ?_
  rintro q w1 ⟨rfl, rfl⟩
  clear C8l
  have hX0 := hv.to B0
  clear hv
  generalize (w.alloc (.cells #[.string k, .string s] 9)) = w0 at *
  go_wp2_with fail
  refine (C16 _ hX0).mono ?_
  rintro q w1 ⟨rfl, hb⟩
  have B1 := Bel.call B0 hb
  have hX1 := hX0.to hb
  clear hb B0 hX0
  clear C16
  obtain ⟨cap, w2, hcv, A, hg, B2⟩ := conv_row w1 X
  rw [hm] at hcv A
  have B1s := B1.size
  have hX0 := hX1
  have hbb := B2
  clear hX1
  replace B2 := Bel.call B1 B2
  have HM : Hid (X.size = m) := hm
  clear B1 hm
  have cq := A.cv q hqm (.int .u8 ((bF X q).val : Int)) rfl
  have zq := A.z q hqm
  have E := xr8 (bF X q) v'
  obtain ⟨c, hc⟩ : ∃ c, xr (bF X q) v' = c := ⟨_, rfl⟩
  rw [hc] at E
  have HC : Hid (xr (bF X q) v' = c) := hc
  clear hc
  have A3 : Arr (w2.setCell ⟨w1.heap.size, q, none⟩ (.int .u8 (c.val : Int))) w1.heap.size m (vc (chF X q v')) := (A.set q hqm _).congr fun j hj => by
    unfold vc chF
    by_cases e : j = q
    · subst e; rw [if_pos rfl, if_pos rfl, HC.out]
    · rw [if_neg e, if_neg e]
  have hX3 : Txs (w2.setCell ⟨w1.heap.size, q, none⟩ (.int .u8 (c.val : Int))) v l := hX0.to (Bel.st hbb (Nat.le_refl _) _)
  have B3 := Bel.st B2 B1s (k := q) (.int .u8 (c.val : Int))
  have cv := convC (w2.setCell ⟨w1.heap.size, q, none⟩ (.int .u8 (c.val : Int))) w1.heap.size m cap (chL X q v') (by simp [chL]; exact HM.out) (by
    intro j u hu
    rw [Addr.add_mid, Nat.zero_add]
    have hj : j < m := by have := (List.getElem?_eq_some_iff.1 hu).1; rw [← HM.out]; simpa [chL] using this
    rw [A3.c j hj, ← hu]
    have hj' : j < X.size := by rw [HM.out]; exact hj
    simp [chL, hj', vc])
  rw [hY] at cv
  clear A B2
  go_upto_region 8 with (fail)
  have hg3 : w1.heap.size < (w2.setCell ⟨w1.heap.size, q, none⟩ (.int .u8 (c.val : Int))).heap.size := by rw [size_set]; exact hg
  clear hcv cq zq E hg
  generalize w2.setCell ⟨w1.heap.size, q, none⟩ (.int .u8 (c.val : Int)) = w3 at *
  generalize w1.heap.size = g at *
  go_wp2_with fail
  refine (C18 _ hX3).mono ?_
  rintro q' w4 ⟨rfl, hb⟩
  have A4 := A3.below hb hg3
  have B4 := Bel.call B3 hb
  replace hX3 := hX3.to hb
  clear hb B3 C18 cv A3
  have cv := convC w4 g m cap (chL X q v') (by simp [chL]; exact HM.out) (by
    intro j u hu
    rw [Addr.add_mid, Nat.zero_add]
    have hj : j < m := by have := (List.getElem?_eq_some_iff.1 hu).1; rw [← HM.out]; simpa [chL] using this
    rw [A4.c j hj, ← hu]
    have hj' : j < X.size := by rw [HM.out]; exact hj
    simp [chL, hj', vc])
  rw [hY] at cv
  clear A4 hY
  go_wp2_with fail
  refine (C19 _ hX3).mono ?_
  rintro q' w5 ⟨rfl, hb⟩
  have B5 := Bel.call B4 hb
  clear hb B4 C19 cv hX3
  by_cases hv0 : (v'.val : Int) = 0
  · obtain ⟨rfl, rfl⟩ : f = 0 ∧ P = s := HF.out.elim (fun h => absurd hv0 h) id
    have hv1 : ((v'.val : Int) != 0) = false := by simp [hv0]
    clear HF
    go_wp2_with fail
    refine (C9 _).mono ?_
    rintro q' w6 ⟨rfl, hb⟩
    have B6 := Bel.call B5 hb
    clear hb B5 C9
    go_wp2_with fail
    go_ret
    refine ⟨?_, B6⟩
    first | rfl | simp
  · have hv1 : ((v'.val : Int) != 0) = true := by simp [bne, beq_false_of_ne hv0]
    clear HF
    go_wp2_with fail
    refine (C9 _).mono ?_
    rintro q' w6 ⟨rfl, hb⟩
    have B6 := Bel.call B5 hb
    clear hb B5 C9
    go_wp2_with fail
    go_ret
    refine ⟨?_, B6⟩
    first | rfl | simp
theorem turned_law (k : ByteArray) (v : Value) (l : List ByteArray) (s : ByteArray) (at_ : Int) (v' : By) (hk : k.size ≤ maxLen) (hs : s.size ≤ maxLen) (hn : l.length ≤ maxLen) (hg : ∀ t ∈ l, t.size ≤ maxLen) (w : World) (hv : Txs w v l) :
    Calls Try.prog 6 #[.string k, v, .string s, .int .i64 at_, .int .u8 (v'.val : Int)] w fun e w' => e = .returned (.bool true) ∧ Below w.heap.size w w' := by
  have C8 := short2 k s hk hs w
  have C8l := short_any l v hn hg _ (hv.to (show Below w.heap.size w (w.alloc (.cells #[.string k, .string s] 9)) by go_grown))
  cases h1 : shB [k, s] with
  | false =>
    rw [h1] at C8
    exact turned_none1 k s v at_ v' w C8 (fun W => awake_any W)
  | true =>
    rw [h1] at C8
    cases h2 : shB l with
    | false =>
      rw [h2] at C8l
      exact turned_none2 k s v at_ v' w C8 C8l (fun W => awake_any W)
    | true =>
      rw [h2] at C8l
      obtain ⟨z1, z2⟩ := sh2 h1
      obtain ⟨z3, z4⟩ := shB_1 h2
      have z5 : ∀ t ∈ l, t.size ≤ 1000000 := fun t ht => Nat.le_trans (z4 t ht) (by decide)
      have C16 := fun W hW => sSeal_any k v l s (by omega) z5 (by omega) W hW
      by_cases h : slE k l.length = 0
      · have e : seR k l s = seS k l s := by unfold seR; rw [if_pos h]
        rw [e, h] at C16
        have z := seS_size k l s
        obtain ⟨q, hq, hqm⟩ := at_is at_ (seS k l s).size (by omega) (by omega)
        have zc := chS_size (seS k l s) q v'
        refine turned_yes k s v l _ (chS (seS k l s) q v') _ at_ (opE k l (chS (seS k l s) q v')) v' q _ rfl (by omega) (by omega) hq hqm rfl ?_ w hv C8 C8l C16 (fun W hW => sOpen_any k v l _ (by omega) z5 (by omega) W hW) (fun W hW => rOpen_any k v l _ z5 (by omega) W hW) (fun W => awake_any W)
        by_cases h0 : (v'.val : Int) = 0
        · have v0 : v' = 0 := Fin.ext (by show v'.val = 0; omega)
          rw [v0, chS_0]
          exact .inr (op_se k l s h)
        · exact .inl h0
      · exact turned_no k s v l _ at_ v' _ h w hv C8 C8l C16 (fun W => awake_any W)
end Go.Proofs.Ytogkijjmimaccaa
