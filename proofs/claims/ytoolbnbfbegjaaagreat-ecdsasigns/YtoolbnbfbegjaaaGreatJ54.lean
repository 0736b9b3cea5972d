/- Texts joined: I5, U5, D14. -/
import Derived.Deep.Cut
import Derived.Test.YtoolbnbfbegjaaaGreatJ53
import Derived.Test.YtoolbnbfbegjaaaGreatJ47
import Derived.Test.YtoolbnbfbegjaaaGreatJ48
import Derived.Test.YtoolbnbfbegjaaaGreatJ46
import Derived.Test.YtoolbnbfbegjaaaGreatJ49
import Derived.Test.YtoolbnbfbegjaaaGreatJ50
import Derived.Test.YtoolbnbfbegjaaaGreatJ51
import Derived.Test.YtoolbnbfbegjaaaGreatJ39
import Derived.Test.YtoolbnbfbegjaaaGreatJ44
set_option linter.all false
set_option maxRecDepth 100000
namespace Go.Proofs.YtoolbnbfbegjaaaGreat
open Go.RowKit Go.Sort
theorem refInv_any (A M : Int) (hA : 0 ≤ A) (hA' : A < top256) (hM : 0 ≤ M) (hM' : M < top256) (w : World) :
    Calls Tryz.prog 34 #[nv A, nv M] w fun e w' => (∃ x ok, IV A M x ok ∧ e = .returned (.tuple #[nv x, .bool ok])) ∧ Below w.heap.size w w' := by
  by_cases c : M = 0
  · subst c
    have h := rinv_zero A w
    rw [← nv_zero] at h
    exact h.mono fun e w' ⟨h1, h2⟩ => ⟨⟨0, false, ⟨by omega, fun h => by (cases h), fun _ => rfl, ⟨fun h => by (cases h), fun h => absurd h.1 (by omega)⟩⟩, h1⟩, h2⟩
  have M0 : 0 < M := by omega
  have R1 : ∀ N, 0 ≤ N → N < top256 → ∀ W, Calls Tryz.prog 18 #[nv N, .agg #[.int .u64 0, .int .u64 0, .int .u64 0, .int .u64 0], nv M] W fun e w' => e = .returned (nv (N % M)) ∧ Below W.heap.size W w' := fun N h0 h1 W => by
    have := refRem_any N 0 M h0 h1 (by omega) (by decide) hM hM' W
    rw [nv_zero, Int.zero_mul, Int.add_zero, md_pos _ M0] at this
    exact this
  have C1 : ∀ W, Calls Tryz.prog 18 #[.agg #[.int .u64 1, .int .u64 0, .int .u64 0, .int .u64 0], .agg #[.int .u64 0, .int .u64 0, .int .u64 0, .int .u64 0], nv M] W fun e w' => e = .returned (nv (1 % M)) ∧ Below W.heap.size W w' := fun W => by
    have := R1 1 (by omega) (by decide) W
    rw [nv_one] at this
    exact this
  have hz := nz24 M M0 hM'
  by_cases hp : lim M 0 % 2 = 1
  · have ho : M % 2 = 1 := by rw [lim0] at hp; omega
    exact rinv_odd A M hz hp w (fun W => odd_core A M hA M0 hM' ho W (R1 A hA hA') C1 (fun Y y0 y1 => R1 Y y0 (by omega)))
  · refine rinv_even A M hA M0 hM' hz hp w (R1 A hA hA') C1 ?_ ?_ ?_
    · intro R S r0 r1 s0 s1
      refine ⟨R / S / top256, fun W => ?_⟩
      have := refDiv_any R 0 S r0 r1 (by omega) (by decide) s0 s1 W
      rw [nv_zero, Int.zero_mul, Int.add_zero] at this
      exact this
    · intro Q Y q0 q1 y0 y1 W
      have := refMul_any Q Y M q0 q1 y0 y1 hM hM' W
      rw [md_pos _ M0] at this
      exact this
    · intro X T x0 x1 t0 t1 W
      have := ref2Sub_any X T M x0 x1 t0 t1 hM hM' W
      rw [md_pos _ M0] at this
      exact this
end Go.Proofs.YtoolbnbfbegjaaaGreat
set_option maxRecDepth 100000
namespace Go.Proofs.YtoolbnbfbegjaaaGreat
variable [NeZero pN]
open Go.RowKit
def Rr (x y z : Int) (P : Cpt pN) : Prop := Bw x ∧ Bw y ∧ Bw z ∧ Rp (fi pN x) (fi pN y) (fi pN z) (decide (z = 0)) P
theorem bw_0 : Bw 0 := ⟨by decide, by decide⟩
theorem bw_1 : Bw 1 := ⟨by decide, by decide⟩
theorem rr_none {x y : Int} (hx : Bw x) (hy : Bw y) : Rr x y 0 none := by
  refine ⟨hx, hy, bw_0, ?_⟩
  have e : decide ((0 : Int) = 0) = true := rfl
  rw [e]
  exact rp_true.2 rfl
theorem Rr.z {x y z : Int} {P : Cpt pN} (h : Rr x y z P) (hz : z = 0) : P = none := by
  have := h.2.2.2
  rw [decide_eq_true hz] at this
  exact rp_true.1 this
theorem Rr.n {x y z : Int} {P : Cpt pN} (h : Rr x y z P) (hz : ¬ z = 0) : Rp (fi pN x) (fi pN y) (fi pN z) false P := by
  have := h.2.2.2
  rw [decide_eq_false hz] at this
  exact this
theorem rp_nz {X Y Z : Fin pN} {P : Cpt pN} (h : Rp X Y Z false P) : Z ≠ 0 := by
  simp only [Rp, Bool.false_eq_true, if_false] at h
  obtain ⟨_, _, _, g, _⟩ := h
  exact g
theorem rr_mk {x y z : Int} {P : Cpt pN} (hx : Bw x) (hy : Bw y) (hz : Bw z) (h : Rp (fi pN x) (fi pN y) (fi pN z) false P) : Rr x y z P := by
  have n : ¬ z = 0 := fun e => rp_nz h (by rw [e]; exact fi_zero)
  refine ⟨hx, hy, hz, ?_⟩
  rw [decide_eq_false n]
  exact h
theorem rr_one {X Y : Int} {i : Bool} {P : Cpt pN} (h : Pn X Y i P) : if i = true then P = none else Rr X Y 1 P := by
  obtain ⟨rfl, rfl, rfl⟩ := h
  match P with
  | none => rfl
  | some (x, y) =>
    show Rr (x.val : Int) (y.val : Int) 1 (some (x, y))
    refine rr_mk (val_bw x) (val_bw y) bw_1 ?_
    rw [fi_back, fi_back, fi_one]
    exact rp_one one_ne x y
theorem rp_up {X Y Z : Fin pN} {P : Cpt pN} (hP : OnC am bm P) (h : Rp X Y Z false P) : Y ≠ 0 := by
  simp only [Rp, Bool.false_eq_true, if_false] at h
  obtain ⟨u, v, rfl, g, _, hY⟩ := h
  intro e
  rw [e] at hY
  have up := p256.up u v hP
  rcases p256.fl.nz _ _ hY.symm with q | q
  · exact up (by rw [q]; exact Fin.add_zero 0)
  · rcases p256.fl.nz _ _ q with q | q
    · exact g q
    · rcases p256.fl.nz _ _ q with q | q <;> exact g q
def ts (x y : Int) : Int := fm 4 (fm x (fm y y))
def tm (x z : Int) : Int := fm 3 (fm (fs x (fm z z)) (fa x (fm z z)))
def tX (x y z : Int) : Int := fs (fm (tm x z) (tm x z)) (fa (ts x y) (ts x y))
def tY (x y z : Int) : Int := fs (fm (tm x z) (fs (ts x y) (tX x y z))) (fm 8 (fm (fm y y) (fm y y)))
def tZ (y z : Int) : Int := fm 2 (fm y z)
theorem fi_2 : fi pN 2 = 1 + 1 := by rw [show (2 : Int) = 1 + 1 by rfl, fi_add, fi_one]
theorem fi_4 : fi pN 4 = (1 + 1) + (1 + 1) := by rw [show (4 : Int) = 2 + 2 by rfl, fi_add, fi_2]
theorem fi_8 : fi pN 8 = ((1 + 1) + (1 + 1)) + ((1 + 1) + (1 + 1)) := by rw [show (8 : Int) = 4 + 4 by rfl, fi_add, fi_4]
theorem sum_2 (a : Fin pN) : (1 + 1) * a = a + a := by grind
theorem sum_3 (a : Fin pN) : (1 + 1 + 1) * a = a + a + a := by grind
theorem sum_4 (a : Fin pN) : ((1 + 1) + (1 + 1)) * a = (a + a) + (a + a) := by grind
theorem sum_8 (a : Fin pN) : (((1 + 1) + (1 + 1)) + ((1 + 1) + (1 + 1))) * (a * a) = (a + a) * (a + a) + (a + a) * (a + a) := by grind
theorem Rr.dbl {x y z : Int} {P : Cpt pN} (hP : OnC am bm P) (h : Rr x y z P) (hz : ¬ z = 0) : Rr (tX x y z) (tY x y z) (tZ y z) (ad am P P) := by
  have d := h.n hz
  refine rr_mk (bw_fs _ _) (bw_fs _ _) (bw_fm _ _) ?_
  exact rp_dbl p256 hP d rfl rfl rfl rfl rfl rfl rfl (by simp only [tX, tm, ts, fj_fa, fj_fs, fj_fm, fi_4, three_fi, sum_3, sum_4]) rfl rfl (by simp only [tX, tY, tm, ts, fj_fa, fj_fs, fj_fm, fi_4, fi_8, three_fi, sum_3, sum_4, sum_8]) rfl (by simp only [tZ, fj_fa, fj_fs, fj_fm, fi_2, sum_2])
theorem rp_swell (C : Cw am bm) {X Y Z W : Fin pN} {P : Cpt pN} (hW : W ≠ 0) (h : Rp X Y Z false P) : Rp (X * (W * W)) (Y * (W * W * W)) (Z * W) false P := by
  simp only [Rp, Bool.false_eq_true, if_false] at h ⊢
  obtain ⟨u, v, e, g, hX, hY⟩ := h
  refine ⟨u, v, e, fun q => ?_, ?_, ?_⟩
  · rcases C.fl.nz _ _ q with q | q
    · exact g q
    · exact hW q
  · rw [hX]; grind
  · rw [hY]; grind
def ph (x1 z1 x2 z2 : Int) : Int := fs (fm x2 (fm z1 z1)) (fm x1 (fm z2 z2))
def pr (y1 z1 y2 z2 : Int) : Int := fs (fm y2 (fm (fm z1 z1) z1)) (fm y1 (fm (fm z2 z2) z2))
def pX (u h r : Int) : Int := fs (fs (fm r r) (fm h (fm h h))) (fa (fm u (fm h h)) (fm u (fm h h)))
def pY (u s h r : Int) : Int := fs (fm r (fs (fm u (fm h h)) (pX u h r))) (fm s (fm h (fm h h)))
theorem rr_q {x y z : Int} {Q : Cpt pN} (h : Rr x y z Q) (hz : ¬ z = 0) : ∃ bx bY, Q = some (bx, bY) ∧ fi pN x = bx * (fi pN z * fi pN z) ∧ fi pN y = bY * (fi pN z * (fi pN z * fi pN z)) := by
  have d := h.n hz
  simp only [Rp, Bool.false_eq_true, if_false] at d
  obtain ⟨u, v, e, _, hX, hY⟩ := d
  exact ⟨u, v, e, hX, hY⟩
theorem g_run {bx z1 z2 X : Fin pN} : bx * (z1 * z2 * (z1 * z2)) - X * (z2 * z2) = bx * (z2 * z2) * (z1 * z1) - X * (z2 * z2) := by grind
theorem g_rise {bY z1 z2 Y : Fin pN} : bY * (z1 * z2 * (z1 * z2 * (z1 * z2))) - Y * (z2 * z2 * z2) = bY * (z2 * (z2 * z2)) * (z1 * z1 * z1) - Y * (z2 * z2 * z2) := by grind
theorem Rr.add {x1 y1 z1 x2 y2 z2 : Int} {P Q : Cpt pN} (hP : OnC am bm P) (hQ : OnC am bm Q) (h1 : Rr x1 y1 z1 P) (h2 : Rr x2 y2 z2 Q) (n1 : ¬ z1 = 0) (n2 : ¬ z2 = 0) :
    (ph x1 z1 x2 z2 = 0 → pr y1 z1 y2 z2 = 0 → ad am P Q = ad am P P) ∧ (ph x1 z1 x2 z2 = 0 → ¬ pr y1 z1 y2 z2 = 0 → ad am P Q = none) ∧
    (¬ ph x1 z1 x2 z2 = 0 → Rr (pX (fm x1 (fm z2 z2)) (ph x1 z1 x2 z2) (pr y1 z1 y2 z2)) (pY (fm x1 (fm z2 z2)) (fm y1 (fm (fm z2 z2) z2)) (ph x1 z1 x2 z2) (pr y1 z1 y2 z2)) (fm (ph x1 z1 x2 z2) (fm z1 z2)) (ad am P Q)) := by
  have nz : fi pN z2 ≠ 0 := fun e => n2 (h2.2.2.1.zero.1 e)
  have d := rp_swell p256 nz (h1.n n1)
  obtain ⟨bx, bY, rfl, ex, ey⟩ := rr_q h2 n2
  have e2 : fi pN (ph x1 z1 x2 z2) = bx * (fi pN z1 * fi pN z2 * (fi pN z1 * fi pN z2)) - fi pN x1 * (fi pN z2 * fi pN z2) := by
    rw [g_run, ← ex]; simp only [ph, fj_fs, fj_fm]
  have e4 : fi pN (pr y1 z1 y2 z2) = bY * (fi pN z1 * fi pN z2 * (fi pN z1 * fi pN z2 * (fi pN z1 * fi pN z2))) - fi pN y1 * (fi pN z2 * fi pN z2 * fi pN z2) := by
    rw [g_rise, ← ey]; simp only [pr, fj_fs, fj_fm]
  refine ⟨fun a b => ?_, fun a b => ?_, fun a => ?_⟩
  · have sm := rp_same p256 hP hQ d rfl e2 rfl e4 (by rw [a]; exact fi_zero)
    rw [← sm.2 (by rw [b]; exact fi_zero)]
  · have sm := rp_same p256 hP hQ d rfl e2 rfl e4 (by rw [a]; exact fi_zero)
    exact sm.1 (fun g => b ((bw_fs _ _).zero.1 g))
  · have ne : fi pN (ph x1 z1 x2 z2) ≠ 0 := fun g => a ((bw_fs _ _).zero.1 g)
    refine rr_mk (bw_fs _ _) (bw_fs _ _) (bw_fm _ _) ?_
    exact rp_along p256 hP hQ d rfl e2 rfl e4 ne rfl rfl rfl (by simp only [pX, fj_fa, fj_fs, fj_fm]) (by simp only [pY, pX, fj_fa, fj_fs, fj_fm]) (by simp only [fj_fm]; generalize fi pN (ph x1 z1 x2 z2) = t; grind)
abbrev T3 := Int × Int × Int
abbrev tt (s : T3) : Value := tv s.1 s.2.1 s.2.2
abbrev RR (s : T3) (P : Cpt pN) : Prop := Rr s.1 s.2.1 s.2.2 P
theorem tv_none : tv 1 1 0 = .agg #[.int .u64 1, .int .u64 0, .int .u64 0, .int .u64 0, .int .u64 1, .int .u64 0, .int .u64 0, .int .u64 0, .int .u64 0, .int .u64 0, .int .u64 0, .int .u64 0] := by
  have h : lim 0 0 = 0 ∧ lim 0 1 = 0 ∧ lim 0 2 = 0 ∧ lim 0 3 = 0 := by decide
  simp only [tv, l10, l11, l12, l13, h.1, h.2.1, h.2.2.1, h.2.2.2]
theorem tv_plain (X Y : Int) : tv X Y 1 = .agg #[.int .u64 (lim (X) 0), .int .u64 (lim (X) 1), .int .u64 (lim (X) 2), .int .u64 (lim (X) 3), .int .u64 (lim (Y) 0), .int .u64 (lim (Y) 1), .int .u64 (lim (Y) 2), .int .u64 (lim (Y) 3), .int .u64 1, .int .u64 0, .int .u64 0, .int .u64 0] := by
  simp only [tv, l10, l11, l12, l13]
def nT : T3 := (1, 1, 0)
theorem nT_rr : RR nT none := rr_none bw_1 bw_1
theorem raised_pt (P : Cpt pN) : ∃ s : T3, RR s P ∧ ∀ W, Calls Tryz.prog 55 #[pvP P] W fun e w' => e = .returned (tt s) ∧ Below W.heap.size W w' := by
  match P with
  | none =>
    refine ⟨nT, nT_rr, fun W => ?_⟩
    have k := raised_none 0 0 W
    rw [← tv_none] at k
    exact k
  | some (x, y) =>
    refine ⟨((x.val : Int), (y.val : Int), 1), ?_, fun W => ?_⟩
    · exact rr_one (X := (x.val : Int)) (Y := (y.val : Int)) (i := false) (P := some (x, y)) ⟨rfl, rfl, rfl⟩
    · have k := raised_core (x.val : Int) (y.val : Int) W
      rw [← tv_plain] at k
      exact k
theorem inn_4 : Inn 4 := inn_lit 4 (by decide) (by decide)
theorem inn_8 : Inn 8 := inn_lit 8 (by decide) (by decide)
theorem nv_4 : nv 4 = .agg #[.int .u64 4, .int .u64 0, .int .u64 0, .int .u64 0] := nv_low _ (by decide) (by decide)
theorem nv_8 : nv 8 = .agg #[.int .u64 8, .int .u64 0, .int .u64 0, .int .u64 0] := nv_low _ (by decide) (by decide)
def twT (s : T3) : T3 := if s.2.2 = 0 then nT else (tX s.1 s.2.1 s.2.2, tY s.1 s.2.1 s.2.2, tZ s.2.1 s.2.2)
theorem twT_rr {s : T3} {P : Cpt pN} (hP : OnC am bm P) (h : RR s P) : RR (twT s) (ad am P P) := by
  unfold twT
  by_cases c : s.2.2 = 0
  · rw [if_pos c]
    have e := Rr.z h c
    rw [e, p256.zl (P := none) trivial]
    exact nT_rr
  · rw [if_neg c]
    exact Rr.dbl hP h c
theorem twice_pt (s : T3) (P : Cpt pN) (hP : OnC am bm P) (h : RR s P) (W : World) : Calls Tryz.prog 90 #[tt s] W fun e w' => e = .returned (tt (twT s)) ∧ Below W.heap.size W w' := by
  obtain ⟨x, y, z⟩ := s
  have h' := h
  obtain ⟨hx, hy, hz, _⟩ := h
  simp only at hx hy hz
  have dz := zero24 z hz.inn
  have dy := zero24 y hy.inn
  by_cases c : z = 0
  · rw [decide_eq_true c] at dz
    have e : twT (x, y, z) = nT := by simp [twT, c]
    rw [e]
    have k := twice_z x y z dz W
    rw [← tv_none] at k
    exact k
  · rw [decide_eq_false c] at dz
    have up : ¬ y = 0 := fun e => rp_up hP (Rr.n h' c) (by show fi pN y = 0; rw [e]; exact fi_zero)
    rw [decide_eq_false up] at dy
    have e : twT (x, y, z) = (tX x y z, tY x y z, tZ y z) := by simp [twT, c]
    rw [e]
    have c4 := fun W => rmul 4 (fm x (fm y y)) inn_4 (inn_fm _ _) W
    rw [nv_4] at c4
    have c3 := fun W => rmul 3 (fm (fs x (fm z z)) (fa x (fm z z))) inn_3 (inn_fm _ _) W
    rw [nv_three] at c3
    have c8 := fun W => rmul 8 (fm (fm y y) (fm y y)) inn_8 (inn_fm _ _) W
    rw [nv_8] at c8
    have c2 := fun W => rmul 2 (fm y z) inn_2 (inn_fm _ _) W
    rw [nv_2] at c2
    exact twice_core x y z (fm z z) (fm y y) (fm x (fm y y)) (ts x y) (fs x (fm z z)) (fa x (fm z z)) (fm (fs x (fm z z)) (fa x (fm z z))) (tm x z) (fm (tm x z) (tm x z)) (fa (ts x y) (ts x y)) (tX x y z) (fs (ts x y) (tX x y z)) (fm (tm x z) (fs (ts x y) (tX x y z))) (fm (fm y y) (fm y y)) (fm 8 (fm (fm y y) (fm y y))) (tY x y z) (fm y z) (tZ y z) dz dy W
      (rmul z z hz.inn hz.inn) (rmul y y hy.inn hy.inn) (rmul x _ hx.inn (inn_fm _ _)) c4 (rsub x _ hx.inn (inn_fm _ _)) (radd x _ hx.inn (inn_fm _ _)) (rmul _ _ (inn_fs _ _) (inn_fa _ _)) c3 (rmul _ _ (inn_fm _ _) (inn_fm _ _)) (radd _ _ (inn_fm _ _) (inn_fm _ _)) (rsub _ _ (inn_fm _ _) (inn_fa _ _)) (rsub _ _ (inn_fm _ _) (inn_fs _ _)) (rmul _ _ (inn_fm _ _) (inn_fs _ _)) (rmul _ _ (inn_fm _ _) (inn_fm _ _)) c8 (rsub _ _ (inn_fm _ _) (inn_fm _ _)) (rmul y z hy.inn hz.inn) c2
def plT (s t : T3) : T3 :=
  if s.2.2 = 0 then t else if t.2.2 = 0 then s else
  if ph s.1 s.2.2 t.1 t.2.2 = 0 then (if pr s.2.1 s.2.2 t.2.1 t.2.2 = 0 then twT s else nT)
  else (pX (fm s.1 (fm t.2.2 t.2.2)) (ph s.1 s.2.2 t.1 t.2.2) (pr s.2.1 s.2.2 t.2.1 t.2.2), pY (fm s.1 (fm t.2.2 t.2.2)) (fm s.2.1 (fm (fm t.2.2 t.2.2) t.2.2)) (ph s.1 s.2.2 t.1 t.2.2) (pr s.2.1 s.2.2 t.2.1 t.2.2), fm (ph s.1 s.2.2 t.1 t.2.2) (fm s.2.2 t.2.2))
theorem plT_rr {s t : T3} {P Q : Cpt pN} (hP : OnC am bm P) (hQ : OnC am bm Q) (h : RR s P) (g : RR t Q) : RR (plT s t) (ad am P Q) := by
  unfold plT
  by_cases c1 : s.2.2 = 0
  · rw [if_pos c1, Rr.z h c1, p256.zl hQ]; exact g
  · rw [if_neg c1]
    by_cases c2 : t.2.2 = 0
    · rw [if_pos c2, Rr.z g c2, p256.zr hP]; exact h
    · rw [if_neg c2]
      obtain ⟨k1, k2, k3⟩ := Rr.add hP hQ h g c1 c2
      by_cases d : ph s.1 s.2.2 t.1 t.2.2 = 0
      · rw [if_pos d]
        by_cases f : pr s.2.1 s.2.2 t.2.1 t.2.2 = 0
        · rw [if_pos f, k1 d f]; exact twT_rr hP h
        · rw [if_neg f, k2 d f]; exact nT_rr
      · rw [if_neg d]; exact k3 d
theorem rplus_pt (s t : T3) (P Q : Cpt pN) (hP : OnC am bm P) (h : RR s P) (g : RR t Q) (W : World) : Calls Tryz.prog 76 #[tt s, tt t] W fun e w' => e = .returned (tt (plT s t)) ∧ Below W.heap.size W w' := by
  have h' := h
  obtain ⟨x1, y1, z1⟩ := s
  obtain ⟨x2, y2, z2⟩ := t
  obtain ⟨hx, hy, hz, _⟩ := h
  obtain ⟨gx', gy', gz, _⟩ := g
  simp only at hx hy hz gx' gy' gz
  have d1 := zero24 z1 hz.inn
  have d2 := zero24 z2 gz.inn
  by_cases c1 : z1 = 0
  · rw [decide_eq_true c1] at d1
    have e : plT (x1, y1, z1) (x2, y2, z2) = (x2, y2, z2) := by simp [plT, c1]
    rw [e]
    exact rplus_a x1 y1 z1 x2 y2 z2 d1 W
  · rw [decide_eq_false c1] at d1
    by_cases c2 : z2 = 0
    · rw [decide_eq_true c2] at d2
      have e : plT (x1, y1, z1) (x2, y2, z2) = (x1, y1, z1) := by simp [plT, c1, c2]
      rw [e]
      exact rplus_b x1 y1 z1 x2 y2 z2 d1 d2 W
    · rw [decide_eq_false c2] at d2
      have dh := zero24 (ph x1 z1 x2 z2) (inn_fs _ _)
      have dr := zero24 (pr y1 z1 y2 z2) (inn_fs _ _)
      have K1 := rmul z1 z1 hz.inn hz.inn
      have K2 := rmul z2 z2 gz.inn gz.inn
      have K3 := rmul x1 (fm z2 z2) hx.inn (inn_fm _ _)
      have K4 := rmul x2 (fm z1 z1) gx'.inn (inn_fm _ _)
      have K5 := rsub (fm x2 (fm z1 z1)) (fm x1 (fm z2 z2)) (inn_fm _ _) (inn_fm _ _)
      have K6 := rmul (fm z2 z2) z2 (inn_fm _ _) gz.inn
      have K7 := rmul y1 (fm (fm z2 z2) z2) hy.inn (inn_fm _ _)
      have K8 := rmul (fm z1 z1) z1 (inn_fm _ _) hz.inn
      have K9 := rmul y2 (fm (fm z1 z1) z1) gy'.inn (inn_fm _ _)
      have K10 := rsub (fm y2 (fm (fm z1 z1) z1)) (fm y1 (fm (fm z2 z2) z2)) (inn_fm _ _) (inn_fm _ _)
      by_cases ch : ph x1 z1 x2 z2 = 0
      · rw [decide_eq_true ch] at dh
        by_cases cr : pr y1 z1 y2 z2 = 0
        · rw [decide_eq_true cr] at dr
          have e : plT (x1, y1, z1) (x2, y2, z2) = twT (x1, y1, z1) := by simp [plT, c1, c2, ch, cr]
          rw [e]
          exact rplus_same x1 y1 z1 x2 y2 z2 _ _ _ _ (ph x1 z1 x2 z2) _ _ _ _ (pr y1 z1 y2 z2) _ _ _ d1 d2 dh dr W K1 K2 K3 K4 K5 K6 K7 K8 K9 K10 (twice_pt (x1, y1, z1) P hP h')
        · rw [decide_eq_false cr] at dr
          have e : plT (x1, y1, z1) (x2, y2, z2) = nT := by simp [plT, c1, c2, ch, cr]
          rw [e]
          have k := rplus_none x1 y1 z1 x2 y2 z2 _ _ _ _ (ph x1 z1 x2 z2) _ _ _ _ (pr y1 z1 y2 z2) d1 d2 dh dr W K1 K2 K3 K4 K5 K6 K7 K8 K9 K10
          rw [← tv_none] at k
          exact k
      · rw [decide_eq_false ch] at dh
        have e : plT (x1, y1, z1) (x2, y2, z2) = (pX (fm x1 (fm z2 z2)) (ph x1 z1 x2 z2) (pr y1 z1 y2 z2), pY (fm x1 (fm z2 z2)) (fm y1 (fm (fm z2 z2) z2)) (ph x1 z1 x2 z2) (pr y1 z1 y2 z2), fm (ph x1 z1 x2 z2) (fm z1 z2)) := by simp [plT, c1, c2, ch]
        rw [e]
        have iu := inn_fm x1 (fm z2 z2)
        have ih : Inn (ph x1 z1 x2 z2) := inn_fs _ _
        have ir : Inn (pr y1 z1 y2 z2) := inn_fs _ _
        have is := inn_fm y1 (fm (fm z2 z2) z2)
        exact rplus_core x1 y1 z1 x2 y2 z2 (fm z1 z1) (fm z2 z2) (fm x1 (fm z2 z2)) (fm x2 (fm z1 z1)) (ph x1 z1 x2 z2) (fm (fm z2 z2) z2) (fm y1 (fm (fm z2 z2) z2)) (fm (fm z1 z1) z1) (fm y2 (fm (fm z1 z1) z1)) (pr y1 z1 y2 z2) _ _ _ _ _ _ _ _ _ _ _ _ _ d1 d2 dh W K1 K2 K3 K4 K5 K6 K7 K8 K9 K10
          (rmul _ _ ih ih) (rmul _ _ ih (inn_fm _ _)) (rmul _ _ iu (inn_fm _ _)) (rmul _ _ ir ir) (rsub _ _ (inn_fm _ _) (inn_fm _ _)) (radd _ _ (inn_fm _ _) (inn_fm _ _)) (rsub _ _ (inn_fs _ _) (inn_fa _ _)) (rsub _ _ (inn_fm _ _) (inn_fs _ _)) (rmul _ _ ir (inn_fs _ _)) (rmul _ _ is (inn_fm _ _)) (rsub _ _ (inn_fm _ _) (inn_fm _ _)) (rmul z1 z2 hz.inn gz.inn) (rmul _ _ ih (inn_fm _ _))
theorem rinv_pt (Z : Int) (hZ : Inn Z) (hne : fi pN Z ≠ 0) : ∃ I, Bw I ∧ fi pN Z * fi pN I = 1 ∧ ∀ W, Calls Tryz.prog 34 #[nv Z, nv pp] W fun e w' => e = .returned (.tuple #[nv I, .bool true]) ∧ Below W.heap.size W w' := by
  obtain ⟨y, hy⟩ := p256.fl.iv _ hne
  have ey : fi pN (y.val : Int) = y := fi_back y
  have hm : fi pN (Z * y.val) = fi pN 1 := by rw [fi_mul, ey, hy, fi_one]
  have hd : pp ∣ Z * y.val - 1 := by
    have := fi_eq.1 hm
    rw [← pp_pN] at this
    exact Int.dvd_of_emod_eq_zero (Int.emod_eq_emod_iff_emod_sub_eq_zero.1 this)
  have nd : ¬ pN ∣ Z.toNat := fun g => hne (by
    rw [fi_nz, ← pp_pN]
    have : (Z.toNat : Int) = Z := Int.toNat_of_nonneg hZ.1
    rw [← this]
    exact Int.emod_eq_zero_of_dvd (Int.natCast_dvd_natCast.2 g))
  have gc : Nat.gcd pp.toNat Z.toNat = 1 := by
    have e : pp.toNat = pN := rfl
    rw [e]; exact pri_p.cop nd
  have iv : IV Z pp y.val true := by
    refine ⟨(val_bw y).1, fun _ => ⟨(val_bw y).2, hd⟩, fun h => ?_, fun _ => ⟨pp_pos, gc⟩, fun _ => rfl⟩
    exact absurd h (by decide)
  refine ⟨y.val, val_bw y, by rw [ey, hy], fun W => ?_⟩
  refine (refInv_any Z pp hZ.1 hZ.2 inn_pp.1 inn_pp.2 W).mono ?_
  rintro e w' ⟨⟨x, ok, h, rfl⟩, hb⟩
  obtain ⟨rfl, rfl⟩ := IV.uniq h iv
  exact ⟨rfl, hb⟩
theorem lowered_pt (s : T3) (P : Cpt pN) (h : RR s P) (W : World) : Calls Tryz.prog 53 #[tt s] W fun e w' => e = .returned (pvP P) ∧ Below W.heap.size W w' := by
  have h' := h
  obtain ⟨x, y, z⟩ := s
  obtain ⟨hx, hy, hz, _⟩ := h
  simp only at hx hy hz
  have dz := zero24 z hz.inn
  by_cases c : z = 0
  · rw [decide_eq_true c] at dz
    rw [Rr.z h' c, pv_none]
    exact lowered_none x y z dz W
  · rw [decide_eq_false c] at dz
    have d := Rr.n h' c
    obtain ⟨I, bI, hI, C⟩ := rinv_pt z hz.inn (rp_nz d)
    have e := rp_plain d hI
    have k := lowered_core x y z I (fm I I) (fm x (fm I I)) (fm (fm I I) I) (fm y (fm (fm I I) I)) true dz W p29 C (rmul I I bI.inn bI.inn) (rmul x _ hx.inn (inn_fm _ _)) (rmul _ I (inn_fm _ _) bI.inn) (rmul y _ hy.inn (inn_fm _ _))
    have e' : P = some (fi pN (fm x (fm I I)), fi pN (fm y (fm (fm I I) I))) := by
      rw [e]; simp only [fj_fm]
      generalize fi pN I = i
      have : i * (i * i) = i * i * i := by grind
      rw [this]
    obtain ⟨e1, e2, e3⟩ := pn_some (bw_fm x (fm I I)) (bw_fm y (fm (fm I I) I))
    rw [← e'] at e1 e2 e3
    have hv : pv (fm x (fm I I)) (fm y (fm (fm I I) I)) false = pvP P := by
      show _ = pv (ptx P) (pty P) (pti P)
      rw [← e1, ← e2, ← e3]
    rw [hv] at k
    exact k
def muT (K : Nat) (s : T3) (L : Nat) : Nat → T3
  | 0 => nT
  | n + 1 => if K / 2 ^ (L - (n + 1)) % 2 = 1 then plT (twT (muT K s L n)) s else twT (muT K s L n)
theorem muT_rr (K : Nat) (s : T3) (L : Nat) (hL : K < 2 ^ L) {P : Cpt pN} (hP : OnC am bm P) (h : RR s P) : ∀ n, n ≤ L → RR (muT K s L n) (mu am (K / 2 ^ (L - n)) P)
  | 0, _ => by
    rw [Nat.sub_zero, Nat.div_eq_of_lt hL]
    exact nT_rr
  | n + 1, hn => by
    have r := muT_rr K s L hL hP h n (by omega)
    have eL : L - n = (L - (n + 1)) + 1 := by omega
    rw [eL] at r
    have hm := p256.mu_on hP (K / 2 ^ (L - (n + 1) + 1))
    have e2 : K / 2 ^ (L - (n + 1) + 1) = K / 2 ^ (L - (n + 1)) / 2 := by rw [Nat.pow_succ, Nat.div_div_eq_div_mul]
    have d := twT_rr hm r
    show RR (if K / 2 ^ (L - (n + 1)) % 2 = 1 then plT (twT (muT K s L n)) s else twT (muT K s L n)) _
    by_cases c : K / 2 ^ (L - (n + 1)) % 2 = 1
    · rw [if_pos c, mu_odd P hP (K / 2 ^ (L - (n + 1) + 1)) _ (by rw [e2]; omega)]
      exact plT_rr (p256.on hm hm) hP d h
    · rw [if_neg c, mu_two P hP (K / 2 ^ (L - (n + 1) + 1)) _ (by rw [e2]; omega)]
      exact d
theorem multiple_pt (K : Int) (hK : Inn K) (s : T3) (P : Cpt pN) (hP : OnC am bm P) (h : RR s P) : ∃ t : T3, RR t (mu am K.toNat P) ∧ ∀ W, Calls Tryz.prog 54 #[nv K, tt s] W fun e w' => e = .returned (tt t) ∧ Below W.heap.size W w' := by
  have sp := bitLen_spec K.toNat
  have l256 := bitLen_256 K hK.1 hK.2
  have rr := muT_rr K.toNat s (bitLen K.toNat) sp.1 hP h
  refine ⟨muT K.toNat s (bitLen K.toNat) (bitLen K.toNat), ?_, fun W => ?_⟩
  · have := rr _ (Nat.le_refl _)
    rw [Nat.sub_self, Nat.pow_zero, Nat.div_one] at this
    exact this
  · obtain ⟨x, y, z⟩ := s
    have key := multiple_core K x y z (bitLen K.toNat) (fun n => (muT K.toNat (x, y, z) (bitLen K.toNat) (bitLen K.toNat - n)).1) (fun n => (muT K.toNat (x, y, z) (bitLen K.toNat) (bitLen K.toNat - n)).2.1) (fun n => (muT K.toNat (x, y, z) (bitLen K.toNat) (bitLen K.toNat - n)).2.2) W l256
      (by simp only [Nat.sub_self]; rfl) (by simp only [Nat.sub_self]; rfl) (by simp only [Nat.sub_self]; rfl) (fun W => refLen_any K hK.1 hK.2 W) ?_
    · simp only [Nat.sub_zero] at key
      exact key
    · intro n hn
      have eN : bitLen K.toNat - n = (bitLen K.toNat - (n + 1)) + 1 := by omega
      have eB : bitLen K.toNat - (bitLen K.toNat - (n + 1) + 1) = n := by omega
      have r := rr (bitLen K.toNat - (n + 1)) (by omega)
      have hm := p256.mu_on hP (K.toNat / 2 ^ (bitLen K.toNat - (bitLen K.toNat - (n + 1))))
      have tw := twice_pt _ _ hm r
      have eb : K / 2 ^ n % 2 = ((K.toNat / 2 ^ n % 2 : Nat) : Int) := by
        obtain ⟨k, rfl⟩ := Int.eq_ofNat_of_zero_le hK.1
        push_cast; rfl
      refine ⟨_, _, _, K / 2 ^ n % 2, tw, fun W => refBit_in K n (n / 64) (n % 64) (by omega) (by omega) (by omega) W, ?_⟩
      have un : muT K.toNat (x, y, z) (bitLen K.toNat) (bitLen K.toNat - n) = if K.toNat / 2 ^ n % 2 = 1 then plT (twT (muT K.toNat (x, y, z) (bitLen K.toNat) (bitLen K.toNat - (n + 1)))) (x, y, z) else twT (muT K.toNat (x, y, z) (bitLen K.toNat) (bitLen K.toNat - (n + 1))) := by
        rw [eN]
        show (if K.toNat / 2 ^ (bitLen K.toNat - (bitLen K.toNat - (n + 1) + 1)) % 2 = 1 then _ else _) = _
        rw [eB]
      rw [eb]
      by_cases c : K.toNat / 2 ^ n % 2 = 1
      · refine .inr ⟨by rw [c]; rfl, fun W => ?_⟩
        rw [if_pos c] at un
        rw [un]
        exact rplus_pt _ (x, y, z) _ _ (p256.on hm hm) (twT_rr hm r) h W
      · refine .inl ⟨by have : K.toNat / 2 ^ n % 2 = 0 := by omega
                        rw [this]; rfl, ?_⟩
        rw [if_neg c] at un
        rw [un]
        exact ⟨rfl, rfl, rfl⟩
theorem rmul_pt (K : Int) (hK : Inn K) (P : Cpt pN) (hP : OnC am bm P) (W : World) : Calls Tryz.prog 30 #[nv K, pvP P] W fun e w' => e = .returned (pvP (mu am K.toNat P)) ∧ Below W.heap.size W w' := by
  obtain ⟨s, hs, C1⟩ := raised_pt P
  obtain ⟨t, ht, C2⟩ := multiple_pt K hK s P hP hs
  exact rmul_pt_core K (ptx P) (pty P) _ _ _ _ _ _ _ _ (pti P) _ W C1 C2 (lowered_pt t _ ht)
theorem rboth_pt (J K : Int) (hJ : Inn J) (hK : Inn K) (P : Cpt pN) (hP : OnC am bm P) (W : World) : Calls Tryz.prog 43 #[nv J, nv K, pvP P] W fun e w' => e = .returned (pvP (ad am (mu am J.toNat gP) (mu am K.toNat P))) ∧ Below W.heap.size W w' := by
  obtain ⟨s, hs, C1⟩ := raised_pt P
  obtain ⟨t, ht, C2⟩ := multiple_pt K hK s P hP hs
  obtain ⟨s', hs', C1'⟩ := raised_pt gP
  obtain ⟨t', ht', C2'⟩ := multiple_pt J hJ s' gP g_on hs'
  rw [pvP_g] at C1'
  have hA := p256.mu_on g_on J.toNat
  have hB := p256.mu_on hP K.toNat
  exact rboth_core J K (ptx P) (pty P) _ _ _ _ _ _ _ _ _ _ _ _ _ _ _ _ _ (pti P) _ W rbase_any C1' C2' C1 C2 (rplus_pt t' t _ _ hA ht' ht) (lowered_pt _ _ (plT_rr hA hB ht' ht))
end Go.Proofs.YtoolbnbfbegjaaaGreat
set_option maxRecDepth 100000
namespace Go.Proofs.YtoolbnbfbegjaaaGreat
open Go.RowKit Go.Sort
variable [NeZero pN]
theorem pv_z : pv 0 0 false = .agg #[.int .u64 0, .int .u64 0, .int .u64 0, .int .u64 0, .int .u64 0, .int .u64 0, .int .u64 0, .int .u64 0, .bool false] := by
  have h : ∀ j, j < 4 → lim 0 j = 0 := by decide
  simp only [pv, h 0 (by decide), h 1 (by decide), h 2 (by decide), h 3 (by decide)]
theorem gv_z : gv 0 0 = .agg #[.int .u64 0, .int .u64 0, .int .u64 0, .int .u64 0, .int .u64 0, .int .u64 0, .int .u64 0, .int .u64 0] := by
  have h : ∀ j, j < 4 → lim 0 j = 0 := by decide
  simp only [gv, h 0 (by decide), h 1 (by decide), h 2 (by decide), h 3 (by decide)]
theorem rrem (x : Int) (hx : Inn x) (W : World) : Calls Tryz.prog 18 #[nv x, .agg #[.int .u64 0, .int .u64 0, .int .u64 0, .int .u64 0], nv nn] W fun e w' => e = .returned (nv (nr x)) ∧ Below W.heap.size W w' := by
  have := refRem_any x 0 nn hx.1 hx.2 (by decide) (by decide) inn_nn.1 inn_nn.2 W
  rw [md_pos _ nn_pos, Int.zero_mul, Int.add_zero, nv_nil] at this
  exact this
theorem radd_n (x y : Int) (hx : Inn x) (hy : Inn y) (W : World) : Calls Tryz.prog 23 #[nv x, nv y, nv nn] W fun e w' => e = .returned (nv (na x y)) ∧ Below W.heap.size W w' := by
  have := ref2Add_any x y nn hx.1 hx.2 hy.1 hy.2 inn_nn.1 inn_nn.2 W
  rw [md_pos _ nn_pos] at this
  exact this
theorem c34 (A I : Int) (hA : Inn A) (iv : IV A nn I true) (W : World) : Calls Tryz.prog 34 #[nv A, nv nn] W fun e w' => e = .returned (.tuple #[nv I, .bool true]) ∧ Below W.heap.size W w' := by
  refine (refInv_any A nn hA.1 hA.2 inn_nn.1 inn_nn.2 W).mono ?_
  rintro e w' ⟨⟨x, ok, h, rfl⟩, hb⟩
  obtain ⟨rfl, rfl⟩ := IV.uniq h iv
  exact ⟨rfl, hb⟩
theorem un_0 {A : Int} (h : unE A = 0) : unB A = true := by
  unfold unE at h
  by_cases c : unB A = true
  · exact c
  · rw [if_neg c] at h; exact absurd h (by decide)
theorem un_13 {A : Int} (h : ¬ unE A = 0) : unB A = false ∧ unE A = 13 := by
  unfold unE at h ⊢
  by_cases c : unB A = true
  · rw [if_pos c] at h; exact absurd rfl h
  · exact ⟨un_false c, if_neg c⟩
theorem ne_bool {r : Int} (h : ¬ r = 0) : (r != 0) = true := by simpa using h
theorem lenE_no {n : Nat} (h : ¬ n = 32) : ¬ lenE n 32 = 0 := by
  unfold lenE
  by_cases a : (n : Int) < 32
  · rw [if_pos a]; decide
  · rw [if_neg a, if_pos (by omega)]; decide
theorem rpub_bad (D : Int) (hD : Inn D) (u : unB D = false) (W : World) : Calls Tryz.prog 8 #[nv D] W fun e w' => e = .returned (.tuple #[.agg #[.int .u64 0, .int .u64 0, .int .u64 0, .int .u64 0, .int .u64 0, .int .u64 0, .int .u64 0, .int .u64 0, .bool false], .int .i64 13]) ∧ Below W.heap.size W w' := by
  have s := sec_u D hD
  rw [u] at s
  exact rpub_no D W s
theorem rpub_ok (D : Int) (hD : Inn D) (u : unB D = true) (W : World) : Calls Tryz.prog 8 #[nv D] W fun e w' => e = .returned (.tuple #[pvP (mu am D.toNat gP), .int .i64 0]) ∧ Below W.heap.size W w' := by
  have s := sec_u D hD
  rw [u] at s
  have m := rmul_pt D hD gP g_on
  rw [pvP_g] at m
  exact rpub_yes D gx gy _ _ false _ W s rbase_any m
theorem zero_un {R : Int} (hR : Inn R) (h1 : R < nn) : (R = 0 ↔ unE R ≠ 0) := by
  unfold unE
  by_cases c : R = 0
  · subst c; simp [unB]
  · have : unB R = true := (unB_iff hR).2 ⟨by have := hR.1; omega, h1⟩
    simp [this, c]
theorem sgn_both (D K : Int) (s : ByteArray) (hD : Inn D) (hK : Inn K) (hs : s.size ≤ maxLen) (hs' : (s.size : Int) ≤ 281474976710656) : ∃ A B er : Int,
    (∀ W : World, Calls Tryz.prog 9 #[nv D, nv K, .string s] W fun e w' => e = .returned (.tuple #[gv A B, .int .i64 er]) ∧ Below W.heap.size W w') ∧ (∀ W : World, Calls Tryz.prog 10 #[nv D, nv K, .string s] W fun e w' => e = .returned (.tuple #[gv A B, .int .i64 er]) ∧ Below W.heap.size W w') := by
  have sd := sec_u D hD
  have sk := sec_u K hK
  have f1 := refFromBig_u s hs'
  by_cases a : unE D = 0
  · have uD := un_0 a
    rw [uD] at sd
    by_cases b : unE K = 0
    · have uK := un_0 b
      rw [uK] at sk
      by_cases c : s.size = 32
      · have hb : sgB D K s = 0 := by simp [sgB, a, b, digE, c]
        rw [lenE_yes (by omega)] at f1
        obtain ⟨K0, K1⟩ := (unB_iff hK).1 uK
        obtain ⟨I, hI, _, iv⟩ := inv_ex K K0 K1
        have m := rmul_pt K hK gP g_on
        rw [pvP_g] at m
        have r := rrem _ (cx_bw (mu am K.toNat gP)).inn
        have i := c34 K I hK iv
        have u1 := ermul (sgR K) D (inn_sgR K) hD
        have u2 := radd_n (fbN s) (nm (sgR K) D) (inn_fb s) (inn_nm _ _)
        have u3 := ermul I (na (fbN s) (nm (sgR K) D)) hI (inn_na _ _)
        have zr := zero24 (sgR K) (inn_sgR K)
        have zs := zero24 (sgS D K I (fbN s)) (inn_sgS D K I (fbN s))
        have lr := zero_un (inn_sgR K) (Int.emod_lt_of_pos _ nn_pos)
        have ls := zero_un (inn_sgS D K I (fbN s)) (Int.emod_lt_of_pos _ nn_pos)
        by_cases z1 : sgR K = 0
        · have n1 := lr.1 z1
          have e13 : (if unE (sgR K) = 0 then unE (sgS D K I (fbN s)) else unE (sgR K)) = 13 := by rw [if_neg n1]; exact (un_13 n1).2
          have k := fun W => sgn_zero D K I s hs hD hK iv hb (by rw [e13]; decide) W
          rw [e13] at k
          rw [decide_eq_true z1] at zr
          refine ⟨0, 0, 13, ?_, ?_⟩
          · rw [gv_z]; exact k
          · rw [gv_z]; exact fun W => rsign_r D K _ gx gy _ _ _ I _ _ _ false _ true s zr W sd sk f1 rbase_any m n19 r i u1 u2 u3
        · have y1 : unE (sgR K) = 0 := Classical.byContradiction fun g => z1 (lr.2 g)
          rw [decide_eq_false z1] at zr
          by_cases z2 : sgS D K I (fbN s) = 0
          · have n2 := ls.1 z2
            have e13 : (if unE (sgR K) = 0 then unE (sgS D K I (fbN s)) else unE (sgR K)) = 13 := by rw [if_pos y1]; exact (un_13 n2).2
            have k := fun W => sgn_zero D K I s hs hD hK iv hb (by rw [e13]; decide) W
            rw [e13] at k
            rw [decide_eq_true z2] at zs
            refine ⟨0, 0, 13, ?_, ?_⟩
            · rw [gv_z]; exact k
            · rw [gv_z]; exact fun W => rsign_z D K _ gx gy _ _ _ I _ _ _ false _ true s zr zs W sd sk f1 rbase_any m n19 r i u1 u2 u3
          · have y2 : unE (sgS D K I (fbN s)) = 0 := Classical.byContradiction fun g => z2 (ls.2 g)
            have e0 : (if unE (sgR K) = 0 then unE (sgS D K I (fbN s)) else unE (sgR K)) = 0 := by rw [if_pos y1]; exact y2
            rw [decide_eq_false z2] at zs
            exact ⟨_, _, 0, sgn_ok D K I s hs hD hK iv hb e0, fun W => rsign_ok D K _ gx gy _ _ _ I _ _ _ false _ true s zr zs W sd sk f1 rbase_any m n19 r i u1 u2 u3⟩
      · have e10 : sgB D K s = 10 := by simp [sgB, a, b, digE, c]
        have k := fun W => sgn_bad D K s hD hK (by rw [e10]; decide) W
        rw [e10] at k
        refine ⟨0, 0, 10, ?_, ?_⟩
        · rw [gv_z]; exact k
        · rw [gv_z]; exact fun W => rsign_s D K _ _ s (ne_bool (lenE_no c)) W sd sk f1
    · obtain ⟨uK, e13⟩ := un_13 b
      rw [uK] at sk
      have e : sgB D K s = 13 := by simp [sgB, a, e13]
      have k := fun W => sgn_bad D K s hD hK (by rw [e]; decide) W
      rw [e] at k
      refine ⟨0, 0, 13, ?_, ?_⟩
      · rw [gv_z]; exact k
      · rw [gv_z]; exact fun W => rsign_k D K s W sd sk
  · obtain ⟨uD, e13⟩ := un_13 a
    rw [uD] at sd
    have e : sgB D K s = 13 := by simp [sgB, e13]
    have k := fun W => sgn_bad D K s hD hK (by rw [e]; decide) W
    rw [e] at k
    refine ⟨0, 0, 13, ?_, ?_⟩
    · rw [gv_z]; exact k
    · rw [gv_z]; exact fun W => rsign_d D K s W sd
theorem chk_both (X Y R S : Int) (i : Bool) (d : ByteArray) (hX : Inn X) (hY : Inn Y) (hR : Inn R) (hS : Inn S) (hd : d.size ≤ maxLen) (hd' : (d.size : Int) ≤ 281474976710656) : ∃ er : Int,
    (∀ W : World, Calls Tryz.prog 14 #[pv X Y i, .string d, gv R S] W fun e w' => e = .returned (.int .i64 er) ∧ Below W.heap.size W w') ∧ (∀ W : World, Calls Tryz.prog 15 #[pv X Y i, .string d, gv R S] W fun e w' => e = .returned (.int .i64 er) ∧ Below W.heap.size W w') := by
  have f1 := refFromBig_u d hd'
  have sr := sec_u R hR
  have ss := sec_u S hS
  cases i with
  | true =>
    have e : ckB X Y true d R S = 15 := by simp [ckB, pubE]
    have k := fun W => check_bad X Y R S true d hX hY hR hS (by rw [e]; decide) W
    rw [e] at k
    exact ⟨15, k, fun W => rchk_i X Y R S d W⟩
  | false =>
    rcases on_or X Y false hX hY with f | ⟨P, hP, eP, pn, hon⟩
    · have o := ron_f hX hY f
      have e : ckB X Y false d R S = 15 := by simp [ckB, pubE, f]
      have k := fun W => check_bad X Y R S false d hX hY hR hS (by rw [e]; decide) W
      rw [e] at k
      exact ⟨15, k, fun W => rchk_o X Y R S d W o⟩
    · have o := ron_t P hP
      rw [← eP] at o
      have hne : P ≠ none := fun g => by
        obtain ⟨_, _, q⟩ := pn
        rw [g] at q
        exact absurd q (by decide)
      by_cases c : d.size = 32
      · rw [lenE_yes (by omega)] at f1
        by_cases a : unE R = 0
        · have uR := un_0 a
          rw [uR] at sr
          by_cases b : unE S = 0
          · have uS := un_0 b
            rw [uS] at ss
            obtain ⟨S0, S1⟩ := (unB_iff hS).1 uS
            obtain ⟨I, hI, _, iv⟩ := inv_ex S S0 S1
            have k := check_ok P hP hne d hd c R S I hR hS uR uS iv
            rw [← eP] at k
            have m := rboth_pt (nm (fbN d) I) (nm R I) (inn_nm _ _) (inn_nm _ _) P hP
            rw [← eP] at m
            have i := c34 S I hS iv
            have u1 := ermul (fbN d) I (inn_fb d) hI
            have u2 := ermul R I hR hI
            refine ⟨_, k, ?_⟩
            unfold hldE
            have m2 : ∀ W : World, Calls Tryz.prog 43 #[nv (nm (fbN d) I), nv (nm R I), pv X Y false] W fun e w' => e = .returned (pvP (Tq P (fbN d) R I)) ∧ Below W.heap.size W w' := m
            generalize Tq P (fbN d) R I = T at *
            cases h : pti T
            · have m3 := m2
              unfold pvP at m3
              rw [h] at m3
              have r := rrem _ (cx_bw T).inn
              have q4 := e4_is (inn_nr (ptx T)) hR
              by_cases q : nr (ptx T) = R
              · rw [decide_eq_true q] at q4
                simp only [q, decide_true, Bool.not_false, Bool.and_self, if_true]
                exact fun W => rchk_ok X Y R S _ I _ _ _ _ _ true d q4 W o f1 sr ss n19 i u1 u2 m3 r
              · rw [decide_eq_false q] at q4
                simp only [q, decide_false, Bool.and_false, Bool.false_eq_true, if_false]
                exact fun W => rchk_no X Y R S _ I _ _ _ _ _ true d q4 W o f1 sr ss n19 i u1 u2 m3 r
            · have m3 := m2
              unfold pvP at m3
              rw [h] at m3
              simp only [Bool.not_true, Bool.false_and, Bool.false_eq_true, if_false]
              exact fun W => rchk_inf X Y R S _ I _ _ _ _ 0 true d W o f1 sr ss n19 i u1 u2 m3
          · obtain ⟨uS, e13⟩ := un_13 b
            rw [uS] at ss
            have e : ckB X Y false d R S = 13 := by simp [ckB, pubE, hon, digE, c, a, e13]
            have k := fun W => check_bad X Y R S false d hX hY hR hS (by rw [e]; decide) W
            rw [e] at k
            exact ⟨13, k, fun W => rchk_s X Y R S _ d W o f1 sr ss⟩
        · obtain ⟨uR, e13⟩ := un_13 a
          rw [uR] at sr
          have e : ckB X Y false d R S = 13 := by simp [ckB, pubE, hon, digE, c, e13]
          have k := fun W => check_bad X Y R S false d hX hY hR hS (by rw [e]; decide) W
          rw [e] at k
          exact ⟨13, k, fun W => rchk_r X Y R S _ d W o f1 sr⟩
      · have e : ckB X Y false d R S = 10 := by simp [ckB, pubE, hon, digE, c]
        have k := fun W => check_bad X Y R S false d hX hY hR hS (by rw [e]; decide) W
        rw [e] at k
        exact ⟨10, k, fun W => rchk_d X Y R S _ _ d (ne_bool (lenE_no c)) W o f1⟩
end Go.Proofs.YtoolbnbfbegjaaaGreat
