/- A curve v^2 = u^3 + A u^2 + u as a group: doubling, and sums of points whose difference is known, by fractions of first coordinates. -/
import Derived.Test.YtphcpdfaijcjjaaJ1
set_option linter.all false
namespace Go.Proofs.Ytphcpdfaijcjjaa
section
variable {q : Nat} [NeZero q]
/-- The curve v^2 = u^3 + 3 c u^2 + u, moved by c. -/
def ma (c : Fin q) : Fin q := 1 - (c * c + c * c + c * c)
def mb (c : Fin q) : Fin q := c * c * c + c * c * c - c
/-- A fraction stands for a point, by its first coordinate. -/
def Pj (c X Z : Fin q) : Cpt q → Prop
  | none => Z = 0 ∧ X ≠ 0
  | some (x, _) => Z ≠ 0 ∧ X = (x - c) * Z
variable {c : Fin q}
/-- What makes it a curve, and the formulas' constant. -/
structure Mg (c k : Fin q) : Prop where
  C : Cv (ma c) (mb c)
  two : (1 + 1 : Fin q) ≠ 0
  hk : c + c + c = (k + k + (k + k)) + (1 + 1)
  p2 : c + c + c + (1 + 1) ≠ 0
  m2 : c + c + c - (1 + 1) ≠ 0
variable {k : Fin q}
theorem Fl.mul_ne (fl : Fl q) {x y : Fin q} (hx : x ≠ 0) (hy : y ≠ 0) : x * y ≠ 0 := fun h => by
  rcases fl.nz _ _ h with g | g
  · exact hx g
  · exact hy g
theorem onu_f {x y : Fin q} (h : OnC (ma c) (mb c) (some (x, y))) : y * y = (x - c) * ((x - c) * (x - c) + (c + c + c) * (x - c) + 1) := by
  have h' : y * y = x * x * x + ma c * x + mb c := h
  rw [h']; unfold ma mb; clear h h'; grind
/-- Doubling. -/
theorem Pj.dbl (M : Mg c k) {X Z : Fin q} {R : Cpt q} (hR : OnC (ma c) (mb c) R) (h : Pj c X Z R) :
    Pj c ((X + Z) * (X + Z) * ((X - Z) * (X - Z))) (((X + Z) * (X + Z) - (X - Z) * (X - Z)) * ((X + Z) * (X + Z) + k * ((X + Z) * (X + Z) - (X - Z) * (X - Z)))) (ad (ma c) R R) := by
  have fl := M.C.fl
  match R, hR, h with
  | none, _, ⟨hz, hx⟩ =>
    rw [M.C.zl (P := none) trivial]
    subst hz
    have e1 : X + 0 = X := by grind
    have e2 : X - 0 = X := by grind
    rw [e1, e2]
    refine ⟨by grind, ?_⟩
    exact fl.mul_ne (fl.mul_ne hx hx) (fl.mul_ne hx hx)
  | some (x, y), hR, ⟨hz, hx⟩ =>
    have oy := onu_f hR
    have S := M.C.sum hR hR
    generalize ad (ma c) (some (x, y)) (some (x, y)) = D at S
    have hk := M.hk
    generalize hu : x - c = u at *
    -- the lower part
    have low : ((X + Z) * (X + Z) - (X - Z) * (X - Z)) * ((X + Z) * (X + Z) + k * ((X + Z) * (X + Z) - (X - Z) * (X - Z))) = (y + y) * (y + y) * (Z * Z * (Z * Z)) := by
      have e1 : (X + Z) * (X + Z) - (X - Z) * (X - Z) = (u + u + (u + u)) * (Z * Z) := by rw [hx]; clear S oy hk hR hx; grind
      have e2 : (X + Z) * (X + Z) + k * ((u + u + (u + u)) * (Z * Z)) = (u * u + ((k + k + (k + k)) + (1 + 1)) * u + 1) * (Z * Z) := by rw [hx]; clear S oy hk hR hx e1; grind
      rw [e1, e2, ← hk]
      have e3 : (y + y) * (y + y) = (1 + 1 + (1 + 1)) * (y * y) := by clear S oy hk hR hx e1 e2; grind
      rw [e3, oy]
      clear S oy hk hR hx e1 e2 e3
      grind
    have up : (X + Z) * (X + Z) * ((X - Z) * (X - Z)) = (u * u - 1) * (u * u - 1) * (Z * Z * (Z * Z)) := by rw [hx]; clear S oy hk hR hx low; grind
    rw [low, up]
    have z4 : Z * Z * (Z * Z) ≠ 0 := fl.mul_ne (fl.mul_ne hz hz) (fl.mul_ne hz hz)
    rcases S with ⟨z1, z2⟩ | ⟨z1, z2⟩ | ⟨_, _, _, g, z1, z2, z3⟩ | ⟨_, _, _, _, t, x3, y3, g, h1, h2, e3, e4, z1, z2, z3⟩
    · first | (cases z1; done) | (cases z1; cases z2; done)
    · first | (cases z1; done) | (cases z1; cases z2; done)
    · cases z1; cases z2; cases z3
      refine ⟨by rw [g]; clear oy hk hR hx low up; grind, ?_⟩
      have y0 : y * y = 0 := by
        have : (1 + 1) * y = 0 := by clear oy hk hR hx low up; grind
        rcases fl.nz _ _ this with t | t
        · exact absurd t M.two
        · rw [t]; clear oy hk hR hx low up; grind
      rw [y0] at oy
      have n1 : u * u - 1 ≠ 0 := fun t => by
        have t' : (u - 1) * (u + 1) = 0 := by clear oy hk hR hx low up; grind
        rcases fl.nz _ _ oy.symm with w | w
        · subst w
          exact M.two (by clear oy hk hR hx low up; grind)
        · rcases fl.nz _ _ t' with r | r
          · have r' : u = 1 := by grind
            rw [r'] at w
            exact M.p2 (by rw [← w]; clear oy hk hR hx low up w t t'; grind)
          · have r' : u = -1 := by clear oy hk hR hx low up w t t'; grind
            rw [r'] at w
            exact M.m2 (by clear oy hk hR hx low up t t'; grind)
      exact fl.mul_ne (fl.mul_ne n1 n1) z4
    · cases z1; cases z2; cases z3
      have ny : y + y ≠ 0 := fun w => g ⟨rfl, w⟩
      refine ⟨fl.mul_ne (fl.mul_ne ny ny) z4, ?_⟩
      have ex : x = u + c := by rw [← hu]; clear oy hk hR hx low up h1 h2 e3 e4; grind
      have e5 : x3 - c = t * t - (u + u) - (c + c + c) := by rw [e3, ex]; clear oy hk hR hx low up h1 h2 e3 e4 ex; grind
      have e6 : t * (y + y) = u * u + u * u + u * u + (c + c + c + (c + c + c)) * u + 1 := by rw [h2, ex]; unfold ma; clear oy hk hR hx low up h1 h2 e3 e4 ex e5; grind
      have e7 : (x3 - c) * ((y + y) * (y + y)) = (u * u - 1) * (u * u - 1) := by
        rw [e5]
        have : (t * t - (u + u) - (c + c + c)) * ((y + y) * (y + y)) = (t * (y + y)) * (t * (y + y)) - (u + u + (c + c + c)) * ((1 + 1 + (1 + 1)) * (y * y)) := by clear oy hk hR hx low up h1 h2 e3 e4 ex e5 e6; grind
        rw [this, e6, oy]
        clear oy hk hR hx low up h1 h2 e3 e4 ex e5 e6 this
        grind
      rw [← e7]
      clear oy hk hR hx low up h1 h2 e3 e4 ex e5 e6 e7
      grind
theorem g_diff {A B C D u3 u2 : Fin q} (hA : A = u3 * B) (hC : C = u2 * D) : (A - B) * (C + D) - (A + B) * (C - D) = (1 + 1) * ((u3 - u2) * (B * D)) := by rw [hA, hC]; grind
theorem g_sum {A B C D u3 u2 : Fin q} (hA : A = u3 * B) (hC : C = u2 * D) : (A - B) * (C + D) + (A + B) * (C - D) = (1 + 1) * ((u3 * u2 - 1) * (B * D)) := by rw [hA, hC]; grind
/-- The sum of two points whose difference is known. -/
theorem Pj.add (M : Mg c k) {XQ ZQ XR ZR : Fin q} {Q R : Cpt q} {x1 y1 : Fin q} (hQ : OnC (ma c) (mb c) Q) (hR : OnC (ma c) (mb c) R) (hP : OnC (ma c) (mb c) (some (x1, y1)))
    (hd : ad (ma c) Q (some (x1, y1)) = R) (hu : x1 - c ≠ 0) (pQ : Pj c XQ ZQ Q) (pR : Pj c XR ZR R) :
    Pj c (((XR - ZR) * (XQ + ZQ) + (XR + ZR) * (XQ - ZQ)) * ((XR - ZR) * (XQ + ZQ) + (XR + ZR) * (XQ - ZQ))) ((x1 - c) * (((XR - ZR) * (XQ + ZQ) - (XR + ZR) * (XQ - ZQ)) * ((XR - ZR) * (XQ + ZQ) - (XR + ZR) * (XQ - ZQ)))) (ad (ma c) Q R) := by
  have fl := M.C.fl
  have two := M.two
  match Q, hQ, pQ with
  | none, _, ⟨hz, hx⟩ =>
    rw [M.C.zl hP] at hd
    subst hd
    rw [M.C.zl hP]
    obtain ⟨gz, gx⟩ := pR
    subst hz
    have e1 : (XR - ZR) * (XQ + 0) + (XR + ZR) * (XQ - 0) = (1 + 1) * (XR * XQ) := by clear gx; grind
    have e2 : (XR - ZR) * (XQ + 0) - (XR + ZR) * (XQ - 0) = -((1 + 1) * (ZR * XQ)) := by clear gx e1; grind
    rw [e1, e2]
    have n := fl.mul_ne two (fl.mul_ne gz hx)
    have e3 : -((1 + 1) * (ZR * XQ)) * -((1 + 1) * (ZR * XQ)) = ((1 + 1) * (ZR * XQ)) * ((1 + 1) * (ZR * XQ)) := by clear gx e1 e2; grind
    rw [e3]
    refine ⟨fl.mul_ne hu (fl.mul_ne n n), ?_⟩
    rw [gx]; clear gx e1 e2 e3 n; grind
  | some (x2, y2), hQ, ⟨hz, hx⟩ =>
    match R, hR, pR with
    | none, _, ⟨gz, gx⟩ =>
      rw [M.C.zr hQ]
      have S := M.C.sum hQ hP
      rw [hd] at S
      have e0 : x2 = x1 := by (rcases S with ⟨z1, z2⟩ | ⟨z1, z2⟩ | ⟨_, _, _, g, z1, z2, z3⟩ | ⟨_, _, _, _, _, _, _, _, _, _, _, _, z1, z2, z3⟩ <;> cases z1 <;> cases z2 <;> first | rfl | (cases z3; done))
      subst e0
      subst gz
      have e1 : (XR - 0) * (XQ + ZQ) + (XR + 0) * (XQ - ZQ) = (1 + 1) * (XR * XQ) := by clear hx; grind
      have e2 : (XR - 0) * (XQ + ZQ) - (XR + 0) * (XQ - ZQ) = (1 + 1) * (XR * ZQ) := by clear hx e1; grind
      rw [e1, e2]
      have n := fl.mul_ne two (fl.mul_ne gx hz)
      refine ⟨fl.mul_ne hu (fl.mul_ne n n), ?_⟩
      rw [hx]; clear hx e1 e2 n; grind
    | some (x3, y3), hR, ⟨gz, gx⟩ =>
      have S1 := M.C.sum hP hQ
      rw [M.C.comm hP hQ, hd] at S1
      have D := Sm.cancel fl M.C.sm hP hQ S1
      have D' : Sm (ma c) (some (x3, y3)) (some (x2, -y2)) (some (x1, y1)) := D
      have S := M.C.sum hQ hR
      generalize ad (ma c) (some (x2, y2)) (some (x3, y3)) = T at S
      rw [g_diff gx hx, g_sum gx hx]
      have o2 := onu_f hQ
      have o3 := onu_f hR
      have zz := fl.mul_ne gz hz
      have ex2 : x2 = (x2 - c) + c := by clear o2 o3 gx hx; grind
      have ex3 : x3 = (x3 - c) + c := by clear o2 o3 gx hx; grind
      have ex1 : x1 = (x1 - c) + c := by clear o2 o3 gx hx; grind
      -- the known difference, by its slope
      rcases D' with ⟨z1, z2⟩ | ⟨z1, z2⟩ | ⟨_, _, _, _, z1, z2, z3⟩ | ⟨_, _, _, _, t', _, _, g', d1, d2, d3, d4, z1, z2, z3⟩
      · first | (cases z1; done) | (cases z1; cases z2; done)
      · first | (cases z1; done) | (cases z1; cases z2; done)
      · first | (cases z1; done) | (cases z1; cases z2; done) | (cases z1; cases z2; cases z3; done)
      · cases z1; cases z2; cases z3
        rcases S with ⟨z1, z2⟩ | ⟨z1, z2⟩ | ⟨_, _, _, g, z1, z2, z3⟩ | ⟨_, _, _, _, t, x4, y4, g, f1, f2, f3, f4, z1, z2, z3⟩
        · first | (cases z1; done) | (cases z1; cases z2; done)
        · first | (cases z1; done) | (cases z1; cases z2; done)
        · cases z1; cases z2; cases z3
          -- R is Q's other one
          have ey : y3 = -y2 := by clear o2 o3 gx hx d1 d2 d3 d4; grind
          refine ⟨by clear o2 o3 gx hx d1 d2 d3 d4; grind, ?_⟩
          have ny : y2 + y2 ≠ 0 := fun w => g' ⟨rfl, by rw [ey]; clear o2 o3 gx hx d1 d2 d3 d4 g' g ey; grind⟩
          generalize hu2 : x2 - c = u at *
          have e5 : x1 - c = t' * t' - (u + u) - (c + c + c) := by rw [d3, ex2]; clear o2 o3 gx hx d1 d2 d3 d4 ex1 ex2 ex3; grind
          have e6 : t' * -(y2 + y2) = u * u + u * u + u * u + (c + c + c + (c + c + c)) * u + 1 := by
            have w : -(y2 + y2) = y3 + -y2 := by rw [ey]; clear o2 o3 gx hx d1 d2 d3 d4; grind
            rw [w, d2, ex2]; unfold ma; clear o2 o3 gx hx d1 d2 d3 d4 ex1 ex2 ex3 e5; grind
          have e7 : (x1 - c) * ((y2 + y2) * (y2 + y2)) = (u * u - 1) * (u * u - 1) := by
            rw [e5]
            have w : (t' * t' - (u + u) - (c + c + c)) * ((y2 + y2) * (y2 + y2)) = (t' * -(y2 + y2)) * (t' * -(y2 + y2)) - (u + u + (c + c + c)) * ((1 + 1 + (1 + 1)) * (y2 * y2)) := by clear o2 o3 gx hx d1 d2 d3 d4 ex1 ex2 ex3 e5 e6; grind
            rw [w, e6, o2]
            clear o2 o3 gx hx d1 d2 d3 d4 ex1 ex2 ex3 e5 e6 w
            grind
          have n1 : u * u - 1 ≠ 0 := fun w => by
            rw [w] at e7
            have z : (0 : Fin q) * 0 = 0 := by grind
            rw [z] at e7
            exact fl.mul_ne hu (fl.mul_ne ny ny) e7
          exact fl.mul_ne (fl.mul_ne two (fl.mul_ne n1 zz)) (fl.mul_ne two (fl.mul_ne n1 zz))
        · cases z1; cases z2; cases z3
          have ne : (x3 - c) - (x2 - c) ≠ 0 := fun w => by
            have e : x3 = x2 := by clear o2 o3 gx hx d1 d2 d3 d4 f1 f2 f3 f4; grind
            subst e
            have ey : y2 = y3 := on_uniq fl hQ hR (fun w => g ⟨rfl, w⟩)
            exact g' ⟨rfl, by rw [ey]; clear o2 o3 gx hx d1 d2 d3 d4 f1 f2 f3 f4; grind⟩
          have n2 := fl.mul_ne two (fl.mul_ne ne zz)
          refine ⟨fl.mul_ne hu (fl.mul_ne n2 n2), ?_⟩
          have f1' : t * ((x3 - c) - (x2 - c)) = y3 - y2 := by
            have w : t * ((x3 - c) - (x2 - c)) = -(t * (x2 - x3)) := by clear o2 o3 gx hx d1 d2 d3 d4 f1 f2 f3 f4; grind
            rw [w, f1]; clear o2 o3 gx hx d1 d2 d3 d4 f1 f2 f3 f4; grind
          have d1' : t' * ((x3 - c) - (x2 - c)) = y3 + y2 := by
            have w : t' * ((x3 - c) - (x2 - c)) = t' * (x3 - x2) := by clear o2 o3 gx hx d1 d2 d3 d4 f1 f2 f3 f4; grind
            rw [w, d1]; clear o2 o3 gx hx d1 d2 d3 d4 f1 f2 f3 f4; grind
          have e4 : x4 - c = t * t - (x2 - c) - (x3 - c) - (c + c + c) := by rw [f3]; clear o2 o3 gx hx d1 d2 d3 d4 f1 f2 f3 f4; grind
          have e1 : x1 - c = t' * t' - (x3 - c) - (x2 - c) - (c + c + c) := by rw [d3]; clear o2 o3 gx hx d1 d2 d3 d4 f1 f2 f3 f4; grind
          clear d1 d2 d3 d4 f1 f2 f3 f4 ex1 ex2 ex3 gx hx g g' D S1 hd pR pQ
          generalize x1 - c = u1 at *
          generalize x2 - c = u2 at *
          generalize x3 - c = u3 at *
          generalize x4 - c = u4 at *
          have key : (u3 * u2 - 1) * (u3 * u2 - 1) = u4 * (u1 * ((u3 - u2) * (u3 - u2))) := by
            refine fl.cut (fl.mul_ne ne ne) ?_
            have w : (u3 - u2) * (u3 - u2) * (u4 * (u1 * ((u3 - u2) * (u3 - u2)))) = (u4 * ((u3 - u2) * (u3 - u2))) * (u1 * ((u3 - u2) * (u3 - u2))) := by clear e4 e1 f1' d1' o2 o3; grind
            have w4 : u4 * ((u3 - u2) * (u3 - u2)) = (y3 - y2) * (y3 - y2) - (c + c + c + u2 + u3) * ((u3 - u2) * (u3 - u2)) := by
              rw [e4, ← f1']; clear e4 e1 f1' d1' o2 o3 w; grind
            have w1 : u1 * ((u3 - u2) * (u3 - u2)) = (y3 + y2) * (y3 + y2) - (c + c + c + u2 + u3) * ((u3 - u2) * (u3 - u2)) := by
              rw [e1, ← d1']; clear e4 e1 f1' d1' o2 o3 w w4; grind
            rw [w, w4, w1]
            have w5 : ∀ K : Fin q, ((y3 - y2) * (y3 - y2) - K) * ((y3 + y2) * (y3 + y2) - K) = (y3 * y3 - y2 * y2) * (y3 * y3 - y2 * y2) - (1 + 1) * (y3 * y3 + y2 * y2) * K + K * K := by clear e4 e1 f1' d1' o2 o3 w w4 w1; intro K; grind
            rw [w5, o2, o3]
            clear e4 e1 f1' d1' o2 o3 w w4 w1 w5
            grind
          have l : (1 + 1) * ((u3 * u2 - 1) * (ZR * ZQ)) * ((1 + 1) * ((u3 * u2 - 1) * (ZR * ZQ))) = ((u3 * u2 - 1) * (u3 * u2 - 1)) * ((1 + 1) * (1 + 1) * ((ZR * ZQ) * (ZR * ZQ))) := by clear e4 e1 f1' d1' o2 o3 key; grind
          rw [l, key]
          clear e4 e1 f1' d1' o2 o3 key l
          grind
theorem mz_l (t : Fin q) : 0 * t = 0 := by grind
theorem smooth_of (fl : Fl q) (O : (1 : Fin q) ≠ 0) (T : (1 + 1 : Fin q) ≠ 0) (P : c + c + c + (1 + 1) ≠ 0) (M : c + c + c - (1 + 1) ≠ 0) : Smooth (ma c) (mb c) := fun x y h g w => by
  have o := onu_f (c := c) (x := x) (y := y) h
  have y0 : y = 0 := by
    have : (1 + 1) * y = 0 := by clear o h w; grind
    rcases fl.nz _ _ this with t | t
    · exact absurd t T
    · exact t
  rw [y0] at o
  have w' : (x - c) * (x - c) + (x - c) * (x - c) + (x - c) * (x - c) + (c + c + c + (c + c + c)) * (x - c) + 1 = 0 := by rw [← w]; unfold ma; clear o h w; grind
  generalize x - c = u at *
  clear h w g
  generalize c + c + c = A at *
  have o' : u * (u * u + A * u + 1) = 0 := by rw [← o]; clear o w'; grind
  rcases fl.nz _ _ o' with r | r
  · rw [r] at w'
    exact O (by rw [← w']; clear o o' w' r; grind)
  · have e : u * (u + u + A) = 0 := by
      have q : u * (u + u + A) = (u * u + u * u + u * u + (A + A) * u + 1) - (u * u + A * u + 1) := by clear o o' w' r; grind
      rw [q, w', r]; clear o o' w' r q; grind
    rcases fl.nz _ _ e with r2 | r2
    · rw [r2] at r
      exact O (by rw [← r]; clear o o' w' r e r2; grind)
    · have q : (A + (1 + 1)) * (A - (1 + 1)) = (u + u + A) * (u + u + A) - (1 + 1 + (1 + 1)) * (u * u + A * u + 1) := by
        have q1 : A = (u + u + A) - (u + u) := by clear o o' w' r e r2; grind
        have q2 : A = -(u + u) := by rw [q1, r2]; clear o o' w' r e r2 q1; grind
        rw [q2]; clear o o' w' r e r2 q1 q2; grind
      rw [r2, r] at q
      have q3 : (A + (1 + 1)) * (A - (1 + 1)) = 0 := by rw [q]; clear o o' w' r e r2 q; grind
      rcases fl.nz _ _ q3 with t | t
      · exact P t
      · exact M t
end
end Go.Proofs.Ytphcpdfaijcjjaa
