/- Public parts of scalars: what both ends make of them is one; they are of the curve. -/
import Derived.Test.YtphcpdfaijcjjaaJ33
import Derived.Test.YtphcpdfaijcjjaaJ36
import Derived.Test.YtphcpdfaijcjjaaJ35
set_option linter.all false
set_option maxRecDepth 100000
namespace Go.Proofs.Ytphcpdfaijcjjaa
variable [NeZero qN]
open Go.RowKit NT
theorem cl_bd (N : Int) : 0 ≤ cl N ∧ cl N < 2 ^ 255 := by
  have e : (2 : Int) ^ 255 = 57896044618658097711785492504343953926634992332820282019728792003956564819968 := by decide
  rw [e]; unfold cl; omega
/-- A scalar is eight times a number between 0 and the order. -/
theorem cl_8 (N : Int) : ∃ m : Nat, (cl N).toNat = 8 * m ∧ 0 < m ∧ m < lN := by
  refine ⟨(cl N).toNat / 8, ?_, ?_, ?_⟩ <;> unfold cl <;> try unfold lN
  · omega
  · omega
  · omega
theorem nd_small {m : Nat} (h0 : 0 < m) (h : m < lN) : ¬ lN ∣ m := fun g => by
  have := Nat.le_of_dvd h0 g; omega
theorem nd_mul {m n : Nat} (h : ¬ lN ∣ m) (g : ¬ lN ∣ n) : ¬ lN ∣ m * n := fun d => by
  rcases pri_l.dvd_mul d with t | t
  · exact h t
  · exact g t
theorem l_8 : (8 : Nat) < lN := by decide +kernel
theorem l_2 : (2 : Nat) < lN := by decide +kernel
theorem cl_nd (N : Int) : ¬ lN ∣ (cl N).toNat := by
  obtain ⟨m, e, m0, m1⟩ := cl_8 N
  rw [e]
  exact nd_mul (nd_small (by decide) l_8) (nd_small m0 m1)
theorem xr_bd (K U : Int) : 0 ≤ xr K U ∧ xr K U < pp := ⟨Int.emod_nonneg _ (by decide), Int.emod_lt_of_pos _ pp_pos⟩
theorem fi_pp {A B : Int} (hA : 0 ≤ A ∧ A < pp) (hB : 0 ≤ B ∧ B < pp) (h : fi qN A = fi qN B) : A = B :=
  fi_inj hA.1 (by rw [← pp_qN]; exact hA.2) hB.1 (by rw [← pp_qN]; exact hB.2) h
/-- A public part, as a number. -/
theorem pub_is (N : Int) : ∃ x y : Fin qN, mu (ma cF) (cl N).toNat bP = some (x, y) ∧ fi qN (xr (cl N) 9) = x - cF ∧ x - cF ≠ 0 := by
  have h := xr_is b_on b_9 b_nz (cl_bd N).1 (cl_bd N).2
  have ne := mu_ne _ (cl_nd N)
  have un := ux_ne _ (nd_mul (nd_small (by decide) l_2) (cl_nd N))
  match hm : mu (ma cF) (cl N).toNat bP with
  | none => exact absurd hm ne
  | some (x, y) =>
    have hm' : mu (ma cF) (cl N).toNat (some (fi qN 19298681539552699237261830834781317975544997444273427339909597334652188435546, fi qN 14781619447589544791020593568409986887264606134616475288964881837755586237401)) = some (x, y) := hm
    rw [hm'] at h
    rw [hm] at un
    exact ⟨x, y, rfl, h, un⟩
theorem sh_is (N M : Int) : fi qN (xr (cl M) (xr (cl N) 9)) = ux (mu (ma cF) ((cl N).toNat * (cl M).toNat) bP) := by
  obtain ⟨x, y, e, f, g⟩ := pub_is N
  have on := mg.C.mu_on b_on (cl N).toNat
  rw [e] at on
  have h := xr_is on f g (cl_bd M).1 (cl_bd M).2
  rw [h, mg.C.mu_mul b_on, e]
theorem sh_comm (N M : Int) : xr (cl M) (xr (cl N) 9) = xr (cl N) (xr (cl M) 9) := by
  refine fi_pp (xr_bd _ _) (xr_bd _ _) ?_
  rw [sh_is, sh_is, Nat.mul_comm]
theorem sh_nz (N M : Int) : ¬ xr (cl M) (xr (cl N) 9) = 0 := fun h => by
  have e := sh_is N M
  rw [h, fi_zero] at e
  exact ux_ne _ (nd_mul (nd_small (by decide) l_2) (nd_mul (cl_nd N) (cl_nd M))) e.symm
theorem fl_back (N : Int) (h : 0 ≤ N ∧ N < pp) : flN (mkS (ltL N)) = N := by
  rw [flN_little]; exact pn_all N h.1 (Int.lt_trans h.2 (by decide))
theorem c5_back (N : Int) (h : 0 ≤ N ∧ N < pp) : c5 N % pp = N := by
  have e : c5 N = N := by
    unfold c5
    have : pp < 57896044618658097711785492504343953926634992332820282019728792003956564819968 := by decide
    omega
  rw [e, Int.emod_eq_of_lt h.1 h.2]
/-- A public part, as bytes. -/
def pubN (a : ByteArray) : Int := xr (cl (flN a)) 9
theorem pub_bd (a : ByteArray) : 0 ≤ pubN a ∧ pubN a < pp := xr_bd _ _
theorem nine_ok : 0 ≤ (9 : Int) ∧ (9 : Int) < pp := ⟨by decide, by decide⟩
theorem pubS (a : ByteArray) (h : a.size = 32) : rawS a (mkS (ltL 9)) = mkS (ltL (pubN a)) := by
  unfold rawS pubN
  rw [if_pos ⟨h, lit32 9⟩, fl_back 9 nine_ok, c5_back 9 nine_ok]
theorem pubE_y (a : ByteArray) (h : a.size = 32) : rawE a (mkS (ltL 9)) = 0 := rE_n _ _ h (lit32 9)
theorem pubE_n (a : ByteArray) (h : a.size ≠ 32) : ¬ rawE a (mkS (ltL 9)) = 0 := by
  unfold rawE; rw [if_neg h]; exact lenE_nz h
theorem shrS (b a : ByteArray) (hb : b.size = 32) : rawS b (mkS (ltL (pubN a))) = mkS (ltL (xr (cl (flN b)) (pubN a))) := by
  unfold rawS
  rw [if_pos ⟨hb, lit32 _⟩, fl_back _ (pub_bd a), c5_back _ (pub_bd a)]
theorem shr_ne (b a : ByteArray) (hb : b.size = 32) : ¬ (rawS b (mkS (ltL (pubN a)))).toList = (mkS (ltL 0)).toList := fun h => by
  rw [shrS b a hb, ByteArray.toList_eq, ByteArray.toList_eq] at h
  have h2 : mkS (ltL (xr (cl (flN b)) (pubN a))) = mkS (ltL 0) := by
    have : (mkS (ltL (xr (cl (flN b)) (pubN a)))).data = (mkS (ltL 0)).data := Array.toList_inj.1 h
    cases hx : mkS (ltL (xr (cl (flN b)) (pubN a))) with
    | mk d => cases hy : mkS (ltL 0) with
      | mk d' => rw [hx, hy] at this; simp only at this; rw [this]
  have h3 := congrArg flN h2
  rw [fl_back _ (xr_bd _ _), fl_back 0 ⟨by decide, by decide⟩] at h3
  exact sh_nz _ _ h3
theorem shr_S (b a : ByteArray) (hb : b.size = 32) : shS b (mkS (ltL (pubN a))) = mkS (ltL (xr (cl (flN b)) (pubN a))) := by
  unfold shS
  rw [if_pos ⟨rE_n _ _ hb (lit32 _), shr_ne b a hb⟩, shrS b a hb]
theorem shr_E (b a : ByteArray) (hb : b.size = 32) : shE b (mkS (ltL (pubN a))) = 0 := by
  unfold shE
  rw [if_pos (rE_n _ _ hb (lit32 _)), if_neg (shr_ne b a hb)]
theorem fpq_sq (x : Fin qN) : ∀ n, fpq (x * x) n = fpq x (2 * n)
  | 0 => rfl
  | n + 1 => by
    show fpq (x * x) n * (x * x) = fpq x (2 * n) * x * x
    rw [fpq_sq x n]
    generalize fpq x (2 * n) = t
    grind
theorem z4_0 : z4 0 = true := by decide
theorem o4_1 : o4 1 = true := by decide
theorem fi_A : fi qN 486662 = cF + cF + cF := by
  unfold cF; rw [← fi_add, ← fi_add, fi_eq]; decide +kernel
/-- Public parts are of the curve. -/
theorem on_pub (a : ByteArray) : onB (mkS (ltL (pubN a))) = true := by
  unfold onB
  rw [if_pos (lit32 _), fl_back _ (pub_bd a), c5_back _ (pub_bd a)]
  obtain ⟨x, y, e, f, g⟩ := pub_is (flN a)
  have on := mg.C.mu_on b_on (cl (flN a)).toNat
  rw [e] at on
  have o := onu_f on
  have hf : fi qN (hh (pubN a)) = y * y := by
    unfold hh
    rw [qj_fm, qj_fa, qj_fm, qj_fa, fi_A, fi_one, o]
    show fi qN (pubN a) * _ = _
    have f' : fi qN (pubN a) = x - cF := f
    rw [f']
    generalize x - cF = u
    generalize cF + cF + cF = A
    grind
  have bd : 0 ≤ hh (pubN a) ∧ hh (pubN a) < pp := ⟨Int.emod_nonneg _ (by decide), Int.emod_lt_of_pos _ pp_pos⟩
  unfold sqB
  by_cases c : y = 0
  · have z : hh (pubN a) = 0 := fi_pp bd ⟨by decide, by decide⟩ (by rw [hf, c, fi_zero]; exact mz_l _)
    rw [z, z4_0]; rfl
  · have z : hh (pubN a) ^ (pp / 2).toNat % pp = 1 := by
      refine fi_pp ⟨Int.emod_nonneg _ (by decide), Int.emod_lt_of_pos _ pp_pos⟩ ⟨by decide, by decide⟩ ?_
      have e1 : fi qN (hh (pubN a) ^ (pp / 2).toNat % pp) = fpq (fi qN (hh (pubN a))) (pp / 2).toNat := by
        rw [show fi qN (hh (pubN a) ^ (pp / 2).toNat % pp) = fi qN (hh (pubN a) ^ (pp / 2).toNat % (qN : Int)) from rfl, fi_mod, fi_pow]
      have e2 : 2 * (pp / 2).toNat = qN - 1 := by decide +kernel
      rw [e1, hf, fpq_sq, e2, fpq_one y c, fi_one]
    rw [z, o4_1, Bool.or_true]
end Go.Proofs.Ytphcpdfaijcjjaa
