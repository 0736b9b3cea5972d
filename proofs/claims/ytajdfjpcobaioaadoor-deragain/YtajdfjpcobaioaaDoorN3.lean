/- Numbers compared, laid open, there and back (carried). -/
import Derived.Test.YtajdfjpcobaioaaDoorN2
import Derived.ProofKit
import Derived.OpenShut
import Derived.ShutString
import Derived.ChangeOld
import Derived.Below
import Derived.Laws.IdiomArrays
import Derived.BigQuiet
set_option linter.all false
set_option maxRecDepth 100000
namespace Go.Proofs.YtajdfjpcobaioaaDoor
open Go.RowKit Go.Sort
theorem eq24g (d : Nat) (he : ∀ (a b : Int) (w : World), (Op.equalIn d 46 (.int .u64 a) (.int .u64 b)).run Tryd.prog w = .ok (a == b) w) (a0 a1 a2 a3 b0 b1 b2 b3 : Int) (w : World) : (Op.equalIn (d + 1) 48 (.agg #[.int .u64 a0, .int .u64 a1, .int .u64 a2, .int .u64 a3]) (.agg #[.int .u64 b0, .int .u64 b1, .int .u64 b2, .int .u64 b3])).run Tryd.prog w = .ok (a0 == b0 && (a1 == b1 && (a2 == b2 && a3 == b3))) w := by
  have p0 : ∀ (v0 v1 v2 v3 : Int) (w : World), (part 46 #[.int .u64 v0, .int .u64 v1, .int .u64 v2, .int .u64 v3] 0).run Tryd.prog w = .ok (.int .u64 v0) w := fun _ _ _ _ _ => by kernel_rfl
  have p1 : ∀ (v0 v1 v2 v3 : Int) (w : World), (part 46 #[.int .u64 v0, .int .u64 v1, .int .u64 v2, .int .u64 v3] 1).run Tryd.prog w = .ok (.int .u64 v1) w := fun _ _ _ _ _ => by kernel_rfl
  have p2 : ∀ (v0 v1 v2 v3 : Int) (w : World), (part 46 #[.int .u64 v0, .int .u64 v1, .int .u64 v2, .int .u64 v3] 2).run Tryd.prog w = .ok (.int .u64 v2) w := fun _ _ _ _ _ => by kernel_rfl
  have p3 : ∀ (v0 v1 v2 v3 : Int) (w : World), (part 46 #[.int .u64 v0, .int .u64 v1, .int .u64 v2, .int .u64 v3] 3).run Tryd.prog w = .ok (.int .u64 v3) w := fun _ _ _ _ _ => by kernel_rfl
  have hs : ∀ w, (Go.sizeOf 46).run Tryd.prog w = .ok 1 w := fun _ => by kernel_rfl
  simp only [Op.equalIn, Sem.run_bind, run_underlying Tryd.underlying48, Result.andThen_ok, hs]
  cases h0 : (a0 == b0) <;> cases h1 : (a1 == b1) <;> cases h2 : (a2 == b2) <;> cases h3 : (a3 == b3) <;> simp [Std.Legacy.Range.forIn_eq_forIn_range', List.range', he, p0, p1, p2, p3, h0, h1, h2, h3, Sem.run_bind, Sem.run_ite]
theorem eq24 (a0 a1 a2 a3 b0 b1 b2 b3 : Int) (w : World) : (Op.equalIn 10000 48 (.agg #[.int .u64 a0, .int .u64 a1, .int .u64 a2, .int .u64 a3]) (.agg #[.int .u64 b0, .int .u64 b1, .int .u64 b2, .int .u64 b3])).run Tryd.prog w = .ok (a0 == b0 && (a1 == b1 && (a2 == b2 && a3 == b3))) w :=
  eq24g 9999 (fun a b w => run_equalIn_int w 9998 46 .u64 .u64 a b Tryd.underlying46) a0 a1 a2 a3 b0 b1 b2 b3 w
attribute [local go_sem] idx24_0 idx24_1 idx24_2 idx24_3
/-- Where the guess stands: L less 2^256 times what is owed is what is left by q. -/
def DL (T D q L o : Int) : Prop := L - top256 * o = T - q * D ∧ 0 ≤ L ∧ L < top256 ∧ 0 ≤ o ∧ T - q * D < D ∧ 0 ≤ q ∧ q ≤ 18446744073709551615
theorem DL.bd {T D q L o : Int} (H : DL T D q L o) (hT : 0 ≤ T) (hD : 0 ≤ D) (hD' : D < top256) : 0 ≤ o ∧ o ≤ 18446744073709551615 := by
  obtain ⟨e, l0, l1, o0, _, q0, q1⟩ := H
  have h1 : q * D ≤ 18446744073709551615 * 115792089237316195423570985008687907853269984665640564039457584007913129639935 := Int.mul_le_mul q1 (by unfold top256 at hD'; omega) hD (by omega)
  refine ⟨o0, ?_⟩
  unfold top256 at *
  generalize q * D = p at *
  omega
theorem top_pow : top256 = 2 ^ 256 := by decide
attribute [local go_sem] eq24
theorem pn_congr (wd : Nat) (f g : Nat → Int) : ∀ k, (∀ i, i < k → f i = g i) → pn wd f k = pn wd g k := by
  intro k
  induction k with
  | zero => intro _; rfl
  | succ k ih => intro h; show pn wd f k * _ + f k = pn wd g k * _ + g k; rw [ih (fun i hi => h i (by omega)), h k (by omega)]
theorem pn_byt (N : Int) (h0 : 0 ≤ N) (h1 : N < top256) : ∀ k, k ≤ 32 → pn 8 (byt N) k = N / 2 ^ (8 * (32 - k)) := by
  intro k
  induction k with
  | zero =>
    intro _
    show 0 = _
    rw [show 8 * (32 - 0) = 256 from rfl, ← top_pow]
    exact (Int.ediv_eq_zero_of_lt h0 h1).symm
  | succ k ih =>
    intro hk
    show pn 8 (byt N) k * 2 ^ 8 + byt N k = _
    rw [ih (by omega)]
    unfold byt
    rw [show 8 * (32 - k) = 8 * (31 - k) + 8 by omega, show 8 * (32 - (k + 1)) = 8 * (31 - k) by omega, Int.pow_add, ← Int.ediv_ediv_of_nonneg (Int.le_of_lt (Int.pow_pos (by omega)))]
    generalize N / 2 ^ (8 * (31 - k)) = x
    rw [show (2 : Int) ^ 8 = 256 by decide]
    omega
theorem pn_all (N : Int) (h0 : 0 ≤ N) (h1 : N < top256) : pn 8 (byt N) 32 = N := by
  rw [pn_byt N h0 h1 32 (Nat.le_refl _)]; simp
theorem big_back (N : Int) (h0 : 0 ≤ N) (h1 : N < top256) : pn 8 (bt (mkS (bgL N))) 32 = N := by
  have e : pn 8 (bt (mkS (bgL N))) 32 = pn 8 (byt N) 32 := pn_congr 8 _ _ 32 fun i hi => by
    have b := byt_bd N i
    exact mkS_bt _ i _ (bgL_at N i hi) b.1 b.2
  rw [e, pn_all N h0 h1]
open Go.ChangeMaps (open_string shut_string)
theorem own : ownKnob Tryd.prog.godebug = none := by kernel_rfl
theorem laidOut : laidOutB Tryd.prog = true := by kernel_rfl
theorem cells22 : Tryd.prog.cellsOf 46 = 1 := by kernel_rfl
theorem cells24 : Tryd.prog.cellsOf 48 = 4 := by kernel_rfl
theorem list4 {α : Type} (l : List α) (h : (⟨l⟩ : Array α).size = 4) : ∃ a b c d, l = [a, b, c, d] := by
  match l, h with
  | [a, b, c, d], _ => exact ⟨a, b, c, d, rfl⟩
set_option maxRecDepth 100000 in
theorem open24 {H : Type} {enc : TypeId × Value → H} {W : World} {base : Nat} {v : Value} {d : DataW H} {p : List MemPlace}
    (hv : Value.okWide Tryd.prog W .any base 48 v) (h : DataW.Trod enc Tryd.prog W 0 (fun _ => true) true 48 v d p) : ∃ N : Int, 0 ≤ N ∧ N < top256 ∧ v = nv N := by
  obtain ⟨cs, rfl, hsz, _⟩ : ∃ cs, v = .agg cs ∧ cs.size = Tryd.prog.cellsOf 48 ∧ Row.okWide Tryd.prog W .any base 48 cs := by
    simpa [Value.okWide, Tryd.underlying48] using hv
  rw [cells24] at hsz
  obtain ⟨l⟩ := cs
  obtain ⟨c0, c1, c2, c3, rfl⟩ := list4 l hsz
  obtain ⟨fuel, hf⟩ := h
  obtain ⟨y0, y1, y2, y3, m, hx, hy0, hy1, hy2, hy3⟩ := Go.ChangeShapes.trod_array4 Tryd.underlying48 cells22 hf
  obtain ⟨x0, e0, rfl, w0⟩ := DataW.trod_int Tryd.underlying46 hy0
  obtain ⟨x1, e1, rfl, w1⟩ := DataW.trod_int Tryd.underlying46 hy1
  obtain ⟨x2, e2, rfl, w2⟩ := DataW.trod_int Tryd.underlying46 hy2
  obtain ⟨x3, e3, rfl, w3⟩ := DataW.trod_int Tryd.underlying46 hy3
  simp at e0 e1 e2 e3
  subst e0 e1 e2 e3
  have b0 := bounds_u64 w0
  have b1 := bounds_u64 w1
  have b2 := bounds_u64 w2
  have b3 := bounds_u64 w3
  have bd := V4_bd b0.1 (by omega) b1.1 (by omega) b2.1 (by omega) b3.1 (show x3 < 18446744073709551616 by omega)
  refine ⟨V4 x0 x1 x2 x3, bd.1, bd.2, ?_⟩
  obtain ⟨k0, k1, k2, k3⟩ := lims_of (N := V4 x0 x1 x2 x3) (q := 0) b0.1 (by omega) b1.1 (by omega) b2.1 (by omega) b3.1 (by omega) (by omega)
  simp only [nv, k0, k1, k2, k3]
theorem Arr.drewN {w : World} {b n : Nat} {f : Nat → Value} (h : Arr w b n f) (m : Nat) : Arr (w.drewN m) b n f := fun j hj => ⟨by rw [World.cell?_drewN]; exact (h j hj).1, by rw [World.frozen?_drewN]; exact (h j hj).2⟩
theorem belowN {B : Nat} {a w : World} (h : Below B a w) (m : Nat) : Below B a (w.drewN m) := below_drewN h m
theorem div_succ (A : Int) (m : Nat) : A / 18446744073709551616 ^ m = 18446744073709551616 * (A / 18446744073709551616 ^ (m + 1)) + lim A m := by
  have hp : (0 : Int) < 18446744073709551616 ^ m := Int.pow_pos (by omega)
  rw [Int.pow_succ, ← Int.ediv_ediv_of_nonneg (Int.le_of_lt hp)]
  unfold lim
  omega
theorem hi_lt {A B : Int} {m : Nat} (h : A / 18446744073709551616 ^ (m + 1) = B / 18446744073709551616 ^ (m + 1)) (hl : lim A m < lim B m) : A < B := by
  have a := div_succ A m
  have b := div_succ B m
  by_cases c : A < B
  · exact c
  · have hp : (0 : Int) < 18446744073709551616 ^ m := Int.pow_pos (by omega)
    have := Int.ediv_le_ediv hp (show B ≤ A by omega)
    omega
theorem hi_eq {A B : Int} {m : Nat} (h : A / 18446744073709551616 ^ (m + 1) = B / 18446744073709551616 ^ (m + 1)) (hl : lim A m = lim B m) : A / 18446744073709551616 ^ m = B / 18446744073709551616 ^ m := by
  have a := div_succ A m
  have b := div_succ B m
  omega
set_option maxHeartbeats 2000000 in
theorem refCmp_any (A Bv : Int) (hA : 0 ≤ A) (hA' : A < top256) (hBv : 0 ≤ Bv) (hB' : Bv < top256) (w : World) :
    Calls Tryd.prog 24 #[nv A, nv Bv] w fun e w' => e = .returned (.int .i64 (sg A Bv)) ∧ Below w.heap.size w w' := by
  go_enter Tryd.func24, Tryd.ntmps24
  go_wp2_with fail
  go_loopw [5] (fun i wr => ∃ k : Nat, k ≤ 4 ∧ i = .int .i64 ((k : Int) - 1) ∧ Hid (A / 18446744073709551616 ^ k = Bv / 18446744073709551616 ^ k) ∧ Below w.heap.size w wr ∧
      Arr wr w.heap.size 4 (fun j => .int .u64 (lim A j)) ∧ Arr wr (w.heap.size + 1) 4 (fun j => .int .u64 (lim Bv j)))
    (fun i _ => (intOf i + 1).toNat)
  case atStart =>
    refine ⟨4, by omega, by go_num, ?_, by go_grown, Arr.mk4 (by simp [go_sem]) (by simp [go_sem]) (by simp [go_sem]) (by simp [go_sem]) (by simp [go_sem]) (by simp [go_sem]) (by simp [go_sem]) (by simp [go_sem]) , Arr.mk4 (by simp [go_sem]) (by simp [go_sem]) (by simp [go_sem]) (by simp [go_sem]) (by simp [go_sem]) (by simp [go_sem]) (by simp [go_sem]) (by simp [go_sem]) ⟩
    have e : (18446744073709551616 : Int) ^ 4 = top256 := by decide
    show A / 18446744073709551616 ^ 4 = Bv / 18446744073709551616 ^ 4
    rw [e, Int.ediv_eq_zero_of_lt hA hA', Int.ediv_eq_zero_of_lt hBv hB']
  case round =>
    obtain ⟨k, hk, rfl, HE, hB, C0, C1⟩ := hrel
    match k, hk with
    | 0, _ =>
      have e : A = Bv := by have := HE.out; simpa using this
      have es : sg A Bv = 0 := by rw [e]; unfold sg; simp
      have i1 : ((0 : Nat) : Int) - 1 = -1 := by omega
      go_wp2_with fail
      go_ret
      exact ⟨by rw [es]; rfl, hB⟩
    | m + 1, hm =>
      have i1 : ((m + 1 : Nat) : Int) - 1 = (m : Int) := by omega
      rw [i1]
      have m0 : (0 : Int) ≤ (m : Int) := by omega
      have m4 : (m : Int) < 4 := by omega
      have ra := C0.c m (by omega)
      have rb := C1.c m (by omega)
      by_cases h1 : lim A m < lim Bv m
      · have es : sg A Bv = -1 := by unfold sg; rw [if_pos (hi_lt HE.out h1)]
        have ES : Hid _ := es
        clear es
        go_wp2_with fail
        go_quiet (fail)
        go_wp2_with fail
        go_ret
        exact ⟨by rw [ES.out]; rfl, belowN hB _⟩
      · by_cases h2 : lim Bv m < lim A m
        · have es : sg A Bv = 1 := by
            have := hi_lt HE.out.symm h2
            unfold sg; rw [if_neg (by omega), if_pos this]
          have ES : Hid _ := es
          clear es
          go_wp2_with fail
          go_quiet (fail)
          go_wp2_with fail
          go_quiet (fail)
          go_wp2_with fail
          go_ret
          exact ⟨by rw [ES.out]; rfl, belowN (belowN hB _) _⟩
        · have HE' : Hid _ := hi_eq HE.out (show lim A m = lim Bv m by omega)
          go_wp2_with fail
          go_quiet (fail)
          go_wp2_with fail
          go_quiet (fail)
          go_wp2_with fail
          go_roundw
          case rel => exact ⟨m, by omega, by go_num, HE', belowN hB _, C0.drewN _, C1.drewN _⟩
          case measure => simp [intOf]
theorem pn_first (wd : Nat) (g : Nat → Int) (b : Nat) : pn wd g (b + 1) = g 0 * 2 ^ (wd * b) + pn wd (sh g 1) b := by
  have := pn_add wd g 1 b
  rw [Nat.add_comm 1 b] at this
  rw [this]
  show (0 * 2 ^ wd + g 0) * _ + _ = _
  rw [Int.zero_mul, Int.zero_add]
/-- Part j when k bytes have come, the lowest first. -/
def pl (f : Nat → Int) : Nat → Nat → Int
  | 0, _ => 0
  | k + 1, j => if j = k / 8 then pl f k j + f k * 2 ^ (8 * (k % 8)) else pl f k j
theorem pl_is (f : Nat → Int) : ∀ k j, pl f k j = if k ≤ 8 * j then 0 else if k ≤ 8 * j + 8 then pn 8 (fun i => f (k - 1 - i)) (k - 8 * j) else pn 8 (fun i => f (8 * j + 7 - i)) 8 := by
  intro k
  induction k with
  | zero => intro j; simp [pl]
  | succ k ih =>
    intro j
    have hi := ih j
    show (if j = k / 8 then pl f k j + f k * 2 ^ (8 * (k % 8)) else pl f k j) = _
    by_cases c : j = k / 8
    · rw [if_pos c, hi, if_neg (show ¬ k + 1 ≤ 8 * j by omega), if_pos (show k + 1 ≤ 8 * j + 8 by omega)]
      have e : k + 1 - 8 * j = (k - 8 * j) + 1 := by omega
      rw [e, pn_first 8 (fun i => f (k + 1 - 1 - i)) (k - 8 * j)]
      have e2 : (fun i => f (k + 1 - 1 - i)) 0 = f k := by simp
      have e3 : sh (fun i => f (k + 1 - 1 - i)) 1 = fun i => f (k - 1 - i) := by funext i; unfold sh; simp only; congr 1; omega
      rw [e3, show k - 8 * j = k % 8 by omega]
      show _ = f (k + 1 - 1 - 0) * _ + _
      rw [show k + 1 - 1 - 0 = k by omega]
      by_cases c2 : k ≤ 8 * j
      · rw [if_pos c2, show k % 8 = 0 by omega]
        simp [pn]
      · rw [if_neg c2, if_pos (show k ≤ 8 * j + 8 by omega), Int.add_comm]
    · rw [if_neg c, hi]
      by_cases c2 : k + 1 ≤ 8 * j
      · rw [if_pos c2, if_pos (by omega)]
      · rw [if_neg c2]
        by_cases c3 : k ≤ 8 * j
        · omega
        · rw [if_neg c3, if_neg (show ¬ k + 1 ≤ 8 * j + 8 by omega)]
          by_cases c4 : k ≤ 8 * j + 8
          · have ek : k = 8 * j + 8 := by omega
            rw [if_pos c4, ek, show 8 * j + 8 - 8 * j = 8 by omega]
            rfl
          · rw [if_neg c4]
theorem pl_lim (f : Nat → Int) (hf : ∀ i, 0 ≤ f i ∧ f i < 2 ^ 8) (j : Nat) (hj : j < 4) : pl f 32 j = lim (pn 8 (fun i => f (31 - i)) 32) j := by
  have h := pb_lim 8 8 (fun i => f (31 - i)) (by omega) (by omega) (fun i => hf _) j hj
  rw [show (4 * 8 : Nat) = 32 from rfl] at h
  have e : j = 0 ∨ j = 1 ∨ j = 2 ∨ j = 3 := by omega
  rw [← h, pb_is 8 8 _ (by omega) 32 j hj (by omega), pl_is]
  rcases e with rfl | rfl | rfl | rfl <;> rfl
theorem pl_bd (f : Nat → Int) (hf : ∀ i, 0 ≤ f i ∧ f i < 2 ^ 8) (k : Nat) : 0 ≤ pl f k (k / 8) ∧ pl f k (k / 8) < 2 ^ (8 * (k % 8)) := by
  rw [pl_is]
  by_cases c : k ≤ 8 * (k / 8)
  · rw [if_pos c]; exact ⟨Int.le_refl _, Int.pow_pos (by omega)⟩
  · rw [if_neg c, if_pos (show k ≤ 8 * (k / 8) + 8 by omega), show k - 8 * (k / 8) = k % 8 by omega]
    exact ⟨pn_nn 8 _ (fun i => (hf _).1) _, pn_lt 8 _ (fun i => hf _) _⟩
theorem or_up (x d : Int) (r : Nat) (hr : r < 8) (x0 : 0 ≤ x) (x1 : x < 2 ^ (8 * r)) (d0 : 0 ≤ d) (d1 : d < 256) :
    bits .or .u64 x (IntKind.u64.wrap (d * 2 ^ (8 * r))) = x + d * 2 ^ (8 * r) := by
  by_cases c : r = 0
  · subst c
    have hx : x = 0 := by simp at x1; omega
    subst hx
    have w : IntKind.u64.wrap (d * 2 ^ (8 * 0)) = d := by rw [IntKind.wrap_u64]; simp; omega
    rw [w]
    have b := bits_or_u64_nat 0 d.toNat (by omega) (by omega)
    rw [Int.toNat_of_nonneg d0] at b
    have e : bits .or .u64 0 d = d := by
      have : ((0 : Nat) : Int) = 0 := rfl
      rw [← this, b]
      simp; omega
    rw [e]; simp
  · have p : (0 : Int) < 2 ^ (64 - 8 * r) := Int.pow_pos (by omega)
    have sp : (2 : Int) ^ (8 * r) * 2 ^ (64 - 8 * r) = 18446744073709551616 := pow_split (8 * r) (by omega)
    have h0 : 0 ≤ x * 2 ^ (64 - 8 * r) := Int.mul_nonneg x0 (Int.le_of_lt p)
    have h1 : x * 2 ^ (64 - 8 * r) < 18446744073709551616 := by rw [← sp]; exact Int.mul_lt_mul_of_pos_right x1 p
    have j := or_join (x * 2 ^ (64 - 8 * r)) d (64 - 8 * r) (by omega) h0 h1 d0
    rw [Int.mul_ediv_cancel _ (Int.ne_of_gt p), show 64 - (64 - 8 * r) = 8 * r by omega] at j
    have hd : d % 2 ^ (64 - 8 * r) = d := by
      refine Int.emod_eq_of_lt d0 ?_
      have : (2 : Nat) ^ 8 ≤ 2 ^ (64 - 8 * r) := Nat.pow_le_pow_right (by omega) (by omega)
      have q : ((2 ^ 8 : Nat) : Int) ≤ ((2 ^ (64 - 8 * r) : Nat) : Int) := Int.ofNat_le.2 this
      have e1 : ((2 ^ 8 : Nat) : Int) = 256 := rfl
      have e2 : ((2 ^ (64 - 8 * r) : Nat) : Int) = 2 ^ (64 - 8 * r) := by push_cast; rfl
      omega
    rw [hd] at j
    exact j
end Go.Proofs.YtajdfjpcobaioaaDoor
