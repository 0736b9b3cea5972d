/- Numbers compared, laid open, there and back (carried). -/
import Derived.Test.YtajdfjpcobaioaaGreatDoorN2
import Derived.ProofKit
import Derived.OpenShut
import Derived.ShutString
import Derived.ChangeOld
import Derived.Below
import Derived.Laws.IdiomArrays
import Derived.BigQuiet
set_option linter.all false
set_option maxRecDepth 100000
namespace Go.Proofs.YtajdfjpcobaioaaGreatDoor
open Go.RowKit Go.Sort
theorem eq24g (d : Nat) (he : ∀ (a b : Int) (w : World), (Op.equalIn d 22 (.int .u64 a) (.int .u64 b)).run Tryz.prog w = .ok (a == b) w) (a0 a1 a2 a3 b0 b1 b2 b3 : Int) (w : World) : (Op.equalIn (d + 1) 24 (.agg #[.int .u64 a0, .int .u64 a1, .int .u64 a2, .int .u64 a3]) (.agg #[.int .u64 b0, .int .u64 b1, .int .u64 b2, .int .u64 b3])).run Tryz.prog w = .ok (a0 == b0 && (a1 == b1 && (a2 == b2 && a3 == b3))) w := by
  have p0 : ∀ (v0 v1 v2 v3 : Int) (w : World), (part 22 #[.int .u64 v0, .int .u64 v1, .int .u64 v2, .int .u64 v3] 0).run Tryz.prog w = .ok (.int .u64 v0) w := fun _ _ _ _ _ => by kernel_rfl
  have p1 : ∀ (v0 v1 v2 v3 : Int) (w : World), (part 22 #[.int .u64 v0, .int .u64 v1, .int .u64 v2, .int .u64 v3] 1).run Tryz.prog w = .ok (.int .u64 v1) w := fun _ _ _ _ _ => by kernel_rfl
  have p2 : ∀ (v0 v1 v2 v3 : Int) (w : World), (part 22 #[.int .u64 v0, .int .u64 v1, .int .u64 v2, .int .u64 v3] 2).run Tryz.prog w = .ok (.int .u64 v2) w := fun _ _ _ _ _ => by kernel_rfl
  have p3 : ∀ (v0 v1 v2 v3 : Int) (w : World), (part 22 #[.int .u64 v0, .int .u64 v1, .int .u64 v2, .int .u64 v3] 3).run Tryz.prog w = .ok (.int .u64 v3) w := fun _ _ _ _ _ => by kernel_rfl
  have hs : ∀ w, (Go.sizeOf 22).run Tryz.prog w = .ok 1 w := fun _ => by kernel_rfl
  simp only [Op.equalIn, Sem.run_bind, run_underlying Tryz.underlying24, Result.andThen_ok, hs]
  cases h0 : (a0 == b0) <;> cases h1 : (a1 == b1) <;> cases h2 : (a2 == b2) <;> cases h3 : (a3 == b3) <;> simp [Std.Legacy.Range.forIn_eq_forIn_range', List.range', he, p0, p1, p2, p3, h0, h1, h2, h3, Sem.run_bind, Sem.run_ite]
theorem eq24 (a0 a1 a2 a3 b0 b1 b2 b3 : Int) (w : World) : (Op.equalIn 10000 24 (.agg #[.int .u64 a0, .int .u64 a1, .int .u64 a2, .int .u64 a3]) (.agg #[.int .u64 b0, .int .u64 b1, .int .u64 b2, .int .u64 b3])).run Tryz.prog w = .ok (a0 == b0 && (a1 == b1 && (a2 == b2 && a3 == b3))) w :=
  eq24g 9999 (fun a b w => run_equalIn_int w 9998 22 .u64 .u64 a b Tryz.underlying22) a0 a1 a2 a3 b0 b1 b2 b3 w
attribute [local go_sem] idx24_0 idx24_1 idx24_2 idx24_3
/-- Where the guess stands: L less 2^256 times what is owed is what is left by q. -/
def DL (T D q L o : Int) : Prop := L - top256 * o = T - q * D ∧ 0 ≤ L ∧ L < top256 ∧ 0 ≤ o ∧ T - q * D < D ∧ 0 ≤ q ∧ q ≤ 18446744073709551615
theorem DL.bd {T D q L o : Int} (H : DL T D q L o) (hT : 0 ≤ T) (hD : 0 ≤ D) (hD' : D < top256) : 0 ≤ o ∧ o ≤ 18446744073709551615 := by
  obtain ⟨e, l0, l1, o0, _, q0, q1⟩ := H
  have h1 : q * D ≤ 18446744073709551615 * 115792089237316195423570985008687907853269984665640564039457584007913129639935 := Int.mul_le_mul q1 (by unfold top256 at hD'; omega) hD (by omega)
  refine ⟨o0, ?_⟩
  unfold top256 at *
  generalize q * D = p at *
  omega
theorem top_pow : top256 = 2 ^ 256 := by decide
attribute [local go_sem] eq24
theorem pn_congr (wd : Nat) (f g : Nat → Int) : ∀ k, (∀ i, i < k → f i = g i) → pn wd f k = pn wd g k := by
  intro k
  induction k with
  | zero => intro _; rfl
  | succ k ih => intro h; show pn wd f k * _ + f k = pn wd g k * _ + g k; rw [ih (fun i hi => h i (by omega)), h k (by omega)]
theorem pn_byt (N : Int) (h0 : 0 ≤ N) (h1 : N < top256) : ∀ k, k ≤ 32 → pn 8 (byt N) k = N / 2 ^ (8 * (32 - k)) := by
  intro k
  induction k with
  | zero =>
    intro _
    show 0 = _
    rw [show 8 * (32 - 0) = 256 from rfl, ← top_pow]
    exact (Int.ediv_eq_zero_of_lt h0 h1).symm
  | succ k ih =>
    intro hk
    show pn 8 (byt N) k * 2 ^ 8 + byt N k = _
    rw [ih (by omega)]
    unfold byt
    rw [show 8 * (32 - k) = 8 * (31 - k) + 8 by omega, show 8 * (32 - (k + 1)) = 8 * (31 - k) by omega, Int.pow_add, ← Int.ediv_ediv_of_nonneg (Int.le_of_lt (Int.pow_pos (by omega)))]
    generalize N / 2 ^ (8 * (31 - k)) = x
    rw [show (2 : Int) ^ 8 = 256 by decide]
    omega
theorem pn_all (N : Int) (h0 : 0 ≤ N) (h1 : N < top256) : pn 8 (byt N) 32 = N := by
  rw [pn_byt N h0 h1 32 (Nat.le_refl _)]; simp
theorem big_back (N : Int) (h0 : 0 ≤ N) (h1 : N < top256) : pn 8 (bt (mkS (bgL N))) 32 = N := by
  have e : pn 8 (bt (mkS (bgL N))) 32 = pn 8 (byt N) 32 := pn_congr 8 _ _ 32 fun i hi => by
    have b := byt_bd N i
    exact mkS_bt _ i _ (bgL_at N i hi) b.1 b.2
  rw [e, pn_all N h0 h1]
open Go.ChangeMaps (open_string shut_string)
theorem own : ownKnob Tryz.prog.godebug = none := by kernel_rfl
theorem laidOut : laidOutB Tryz.prog = true := by kernel_rfl
theorem cells22 : Tryz.prog.cellsOf 22 = 1 := by kernel_rfl
theorem cells24 : Tryz.prog.cellsOf 24 = 4 := by kernel_rfl
theorem list4 {α : Type} (l : List α) (h : (⟨l⟩ : Array α).size = 4) : ∃ a b c d, l = [a, b, c, d] := by
  match l, h with
  | [a, b, c, d], _ => exact ⟨a, b, c, d, rfl⟩
set_option maxRecDepth 100000 in
theorem open24 {H : Type} {enc : TypeId × Value → H} {W : World} {base : Nat} {v : Value} {d : DataW H} {p : List MemPlace}
    (hv : Value.okWide Tryz.prog W .any base 24 v) (h : DataW.Trod enc Tryz.prog W 0 (fun _ => true) true 24 v d p) : ∃ N : Int, 0 ≤ N ∧ N < top256 ∧ v = nv N := by
  obtain ⟨cs, rfl, hsz, _⟩ : ∃ cs, v = .agg cs ∧ cs.size = Tryz.prog.cellsOf 24 ∧ Row.okWide Tryz.prog W .any base 24 cs := by
    simpa [Value.okWide, Tryz.underlying24] using hv
  rw [cells24] at hsz
  obtain ⟨l⟩ := cs
  obtain ⟨c0, c1, c2, c3, rfl⟩ := list4 l hsz
  obtain ⟨fuel, hf⟩ := h
  obtain ⟨y0, y1, y2, y3, m, hx, hy0, hy1, hy2, hy3⟩ := Go.ChangeShapes.trod_array4 Tryz.underlying24 cells22 hf
  obtain ⟨x0, e0, rfl, w0⟩ := DataW.trod_int Tryz.underlying22 hy0
  obtain ⟨x1, e1, rfl, w1⟩ := DataW.trod_int Tryz.underlying22 hy1
  obtain ⟨x2, e2, rfl, w2⟩ := DataW.trod_int Tryz.underlying22 hy2
  obtain ⟨x3, e3, rfl, w3⟩ := DataW.trod_int Tryz.underlying22 hy3
  simp at e0 e1 e2 e3
  subst e0 e1 e2 e3
  have b0 := bounds_u64 w0
  have b1 := bounds_u64 w1
  have b2 := bounds_u64 w2
  have b3 := bounds_u64 w3
  have bd := V4_bd b0.1 (by omega) b1.1 (by omega) b2.1 (by omega) b3.1 (show x3 < 18446744073709551616 by omega)
  refine ⟨V4 x0 x1 x2 x3, bd.1, bd.2, ?_⟩
  obtain ⟨k0, k1, k2, k3⟩ := lims_of (N := V4 x0 x1 x2 x3) (q := 0) b0.1 (by omega) b1.1 (by omega) b2.1 (by omega) b3.1 (by omega) (by omega)
  simp only [nv, k0, k1, k2, k3]
theorem Arr.drewN {w : World} {b n : Nat} {f : Nat → Value} (h : Arr w b n f) (m : Nat) : Arr (w.drewN m) b n f := fun j hj => ⟨by rw [World.cell?_drewN]; exact (h j hj).1, by rw [World.frozen?_drewN]; exact (h j hj).2⟩
theorem belowN {B : Nat} {a w : World} (h : Below B a w) (m : Nat) : Below B a (w.drewN m) := below_drewN h m
theorem div_succ (A : Int) (m : Nat) : A / 18446744073709551616 ^ m = 18446744073709551616 * (A / 18446744073709551616 ^ (m + 1)) + lim A m := by
  have hp : (0 : Int) < 18446744073709551616 ^ m := Int.pow_pos (by omega)
  rw [Int.pow_succ, ← Int.ediv_ediv_of_nonneg (Int.le_of_lt hp)]
  unfold lim
  omega
theorem hi_lt {A B : Int} {m : Nat} (h : A / 18446744073709551616 ^ (m + 1) = B / 18446744073709551616 ^ (m + 1)) (hl : lim A m < lim B m) : A < B := by
  have a := div_succ A m
  have b := div_succ B m
  by_cases c : A < B
  · exact c
  · have hp : (0 : Int) < 18446744073709551616 ^ m := Int.pow_pos (by omega)
    have := Int.ediv_le_ediv hp (show B ≤ A by omega)
    omega
theorem hi_eq {A B : Int} {m : Nat} (h : A / 18446744073709551616 ^ (m + 1) = B / 18446744073709551616 ^ (m + 1)) (hl : lim A m = lim B m) : A / 18446744073709551616 ^ m = B / 18446744073709551616 ^ m := by
  have a := div_succ A m
  have b := div_succ B m
  omega
end Go.Proofs.YtajdfjpcobaioaaGreatDoor
