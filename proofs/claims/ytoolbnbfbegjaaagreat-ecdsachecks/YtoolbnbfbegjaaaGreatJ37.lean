/- Texts joined: H2, H8, H9, D6. -/
import Derived.Deep.Cut
import Derived.Test.YtoolbnbfbegjaaaGreatJ32
import Derived.Test.YtoolbnbfbegjaaaGreatJ34
import Derived.Test.YtoolbnbfbegjaaaGreatJ35
import Derived.Test.YtoolbnbfbegjaaaGreatJ36
import Derived.Test.YtoolbnbfbegjaaaGreatJ25
import Derived.Test.YtoolbnbfbegjaaaGreatJ27
import Derived.Test.YtoolbnbfbegjaaaGreatJ28
set_option linter.all false
set_option maxRecDepth 100000
namespace Go.Proofs.YtoolbnbfbegjaaaGreat
variable [NeZero pN]
open Go.RowKit
theorem zero24 (M : Int) (h : Inn M) : (lim M 0 == 0 && (lim M 1 == 0 && (lim M 2 == 0 && lim M 3 == 0))) = decide (M = 0) := by
  by_cases c : M = 0
  · subst c; decide
  · rw [decide_eq_false c]
    have h1 := h.1
    exact nz24 M (by omega) h.2
theorem e4_is {A B : Int} (hA : Inn A) (hB : Inn B) : e4 A B = decide (A = B) := by
  by_cases c : A = B
  · subst c; simp [e4]
  · rw [decide_eq_false c]
    have a := V4_lim A hA.1 hA.2
    have b := V4_lim B hB.1 hB.2
    unfold e4
    by_cases c0 : lim A 0 = lim B 0
    · by_cases c1 : lim A 1 = lim B 1
      · by_cases c2 : lim A 2 = lim B 2
        · by_cases c3 : lim A 3 = lim B 3
          · rw [c0, c1, c2, c3, b] at a; exact absurd a.symm c
          · simp [c3]
        · simp [c2]
      · simp [c1]
    · simp [c0]
def innT (s : T4) : Prop := Inn s.1 ∧ Inn s.2.1 ∧ Inn s.2.2.2
theorem Rj.inn {s : T4} {P : Cpt pN} (h : Rj s P) : innT s := ⟨h.1, h.2.1, h.2.2.1⟩
theorem inn_dT (s : T4) (h : innT s) : innT (dT s) := by
  unfold dT
  split
  · exact h
  · exact ⟨inn_fs _ _, inn_fs _ _, inn_fa _ _⟩
theorem inn_aT (U V : Int) (hU : Inn U) (hV : Inn V) (k : Bool) (s : T4) (h : innT s) : innT (aT U V k s) := by
  unfold aT
  split
  · exact h
  · split
    · exact ⟨hU, hV, inn_lit 1 (by decide) (by decide)⟩
    · split
      · split
        · exact inn_dT s h
        · exact ⟨inn_lit 0 (by decide) (by decide), inn_lit 0 (by decide) (by decide), inn_lit 1 (by decide) (by decide)⟩
      · exact ⟨inn_fs _ _, inn_fs _ _, inn_fm _ _⟩
theorem dbl_pt (s : T4) (W : World) (h : innT s) : Calls Tryz.prog 86 #[jt s] W fun e w' => e = .returned (jt (dT s)) ∧ Below W.heap.size W w' := by
  obtain ⟨X, Y, i, Z⟩ := s
  obtain ⟨hX, hY, hZ⟩ := h
  simp only at hX hY hZ
  cases i
  · have e : dT (X, Y, false, Z) = (dx X Y Z, dy X Y Z, false, dz Y Z) := rfl
    rw [e]
    exact dbl_core X Y Z (fm Z Z) (fm Y Y) (fs X (fm Z Z)) (fa X (fm Z Z)) (fm (fs X (fm Z Z)) (fa X (fm Z Z))) (dr X Y Z) (fm X (fm Y Y)) (fa (fm X (fm Y Y)) (fm X (fm Y Y))) (ds X Y Z) (fm (dr X Y Z) (dr X Y Z)) (fa (ds X Y Z) (ds X Y Z)) (dx X Y Z) (fs (ds X Y Z) (dx X Y Z)) (fm (dr X Y Z) (fs (ds X Y Z) (dx X Y Z))) (fa (fm Y Y) (fm Y Y)) (fm (fa (fm Y Y) (fm Y Y)) (fa (fm Y Y) (fm Y Y))) (dq Y) (dy X Y Z) (fm Y Z) (dz Y Z) W
      (xsq Z hZ) (xsq Y hY) (xsub X _ hX (inn_fm _ _)) (xadd X _ hX (inn_fm _ _)) (xmul _ _ (inn_fs _ _) (inn_fa _ _)) (xth _ (inn_fm _ _)) (xmul X _ hX (inn_fm _ _)) (xtw _ (inn_fm _ _)) (xtw _ (inn_fa _ _)) (xsq _ (inn_dr _ _ _)) (xtw _ (inn_ds _ _ _)) (xsub _ _ (inn_fm _ _) (inn_fa _ _)) (xsub _ _ (inn_ds _ _ _) (inn_dx _ _ _)) (xmul _ _ (inn_dr _ _ _) (inn_fs _ _)) (xtw _ (inn_fm _ _)) (xsq _ (inn_fa _ _)) (xtw _ (inn_fm _ _)) (xsub _ _ (inn_fm _ _) (inn_dq _)) (xmul Y Z hY hZ) (xtw _ (inn_fm _ _))
  · exact dbl_none X Y Z W
theorem along_pt (X Y Z M N : Int) (hX : Inn X) (hY : Inn Y) (hZ : Inn Z) (hM : Inn M) (hN : Inn N) (W : World) :
    Calls Tryz.prog 115 #[jv X Y false Z, nv M, nv N] W fun e w' => e = .returned (jv (ax X M N) (ay X Y M N) false (fm Z M)) ∧ Below W.heap.size W w' :=
  along_core X Y Z M N (fm M M) (fm M (fm M M)) (fm X (fm M M)) (fm N N) (fs (fm N N) (fm M (fm M M))) (fa (fm X (fm M M)) (fm X (fm M M))) (ax X M N) (fs (fm X (fm M M)) (ax X M N)) (fm N (fs (fm X (fm M M)) (ax X M N))) (fm Y (fm M (fm M M))) (ay X Y M N) (fm Z M) W
    (xsq M hM) (xmul M _ hM (inn_fm _ _)) (xmul X _ hX (inn_fm _ _)) (xsq N hN) (xsub _ _ (inn_fm _ _) (inn_fm _ _)) (xtw _ (inn_fm _ _)) (xsub _ _ (inn_fs _ _) (inn_fa _ _)) (xsub _ _ (inn_fm _ _) (inn_fs _ _)) (xmul N _ hN (inn_fs _ _)) (xmul Y _ hY (inn_fm _ _)) (xsub _ _ (inn_fm _ _) (inn_fm _ _)) (xmul Z M hZ hM)
theorem plus_pt (U V : Int) (k : Bool) (hU : Inn U) (hV : Inn V) (s : T4) (W : World) (h : innT s) : Calls Tryz.prog 87 #[jt s, pv U V k] W fun e w' => e = .returned (jt (aT U V k s)) ∧ Below W.heap.size W w' := by
  have h' := h
  obtain ⟨X, Y, i, Z⟩ := s
  obtain ⟨hX, hY, hZ⟩ := h
  simp only at hX hY hZ
  cases k
  · cases i
    · have m := zero24 (aM U X Z) (inn_fs _ _)
      have n := zero24 (aN V Y Z) (inn_fs _ _)
      by_cases c : aM U X Z = 0
      · rw [decide_eq_true c] at m
        by_cases d : aN V Y Z = 0
        · rw [decide_eq_true d] at n
          have e : aT U V false (X, Y, false, Z) = dT (X, Y, false, Z) := by simp [aT, c, d]
          rw [e]
          exact plus_3 X Y Z U V (fm Z Z) (fm U (fm Z Z)) (aM U X Z) (fm Z (fm Z Z)) (fm V (fm Z (fm Z Z))) (aN V Y Z) (dx X Y Z) (dy X Y Z) (dz Y Z) m n W
            (xsq Z hZ) (xmul U _ hU (inn_fm _ _)) (xsub _ X (inn_fm _ _) hX) (xmul Z _ hZ (inn_fm _ _)) (xmul V _ hV (inn_fm _ _)) (xsub _ Y (inn_fm _ _) hY) (fun W => dbl_pt (X, Y, false, Z) W h')
        · rw [decide_eq_false d] at n
          have e : aT U V false (X, Y, false, Z) = (0, 0, true, 1) := by simp [aT, c, d]
          rw [e]
          exact plus_2 X Y Z U V (fm Z Z) (fm U (fm Z Z)) (aM U X Z) (fm Z (fm Z Z)) (fm V (fm Z (fm Z Z))) (aN V Y Z) m n W
            (xsq Z hZ) (xmul U _ hU (inn_fm _ _)) (xsub _ X (inn_fm _ _) hX) (xmul Z _ hZ (inn_fm _ _)) (xmul V _ hV (inn_fm _ _)) (xsub _ Y (inn_fm _ _) hY) none_any (scale_any 0 0 true)
      · rw [decide_eq_false c] at m
        have e : aT U V false (X, Y, false, Z) = (ax X (aM U X Z) (aN V Y Z), ay X Y (aM U X Z) (aN V Y Z), false, fm Z (aM U X Z)) := by simp [aT, c]
        rw [e]
        exact plus_1 X Y Z U V (fm Z Z) (fm U (fm Z Z)) (aM U X Z) (fm Z (fm Z Z)) (fm V (fm Z (fm Z Z))) (aN V Y Z) _ _ _ m W
            (xsq Z hZ) (xmul U _ hU (inn_fm _ _)) (xsub _ X (inn_fm _ _) hX) (xmul Z _ hZ (inn_fm _ _)) (xmul V _ hV (inn_fm _ _)) (xsub _ Y (inn_fm _ _) hY) (along_pt X Y Z _ _ hX hY hZ (inn_fs _ _) (inn_fs _ _))
    · exact plus_a X Y Z U V W (scale_any U V false)
  · exact plus_b X Y Z U V i W
abbrev pvP (P : Cpt pN) : Value := pv (ptx P) (pty P) (pti P)
theorem inv_pt (Z : Int) (hZ : Inn Z) (hne : fi pN Z ≠ 0) : ∃ I, Bw I ∧ fi pN Z * fi pN I = 1 ∧ ∀ W, Calls Tryz.prog 95 #[nv Z, nv pp] W fun e w' => e = .returned (.tuple #[nv I, .bool true]) ∧ Below W.heap.size W w' := by
  obtain ⟨y, hy⟩ := p256.fl.iv _ hne
  have ey : fi pN (y.val : Int) = y := fi_back y
  have hm : fi pN (Z * y.val) = fi pN 1 := by rw [fi_mul, ey, hy, fi_one]
  have hd : pp ∣ Z * y.val - 1 := by
    have := fi_eq.1 hm
    rw [← pp_pN] at this
    exact Int.dvd_of_emod_eq_zero (Int.emod_eq_emod_iff_emod_sub_eq_zero.1 this)
  have nd : ¬ pN ∣ Z.toNat := fun g => hne (by
    rw [fi_nz, ← pp_pN]
    have : (Z.toNat : Int) = Z := Int.toNat_of_nonneg hZ.1
    rw [← this]
    exact Int.emod_eq_zero_of_dvd (Int.natCast_dvd_natCast.2 g))
  have gc : Nat.gcd pp.toNat Z.toNat = 1 := by
    have e : pp.toNat = pN := rfl
    rw [e]; exact pri_p.cop nd
  have iv : IV Z pp y.val true := by
    refine ⟨(val_bw y).1, fun _ => ⟨(val_bw y).2, hd⟩, fun h => ?_, fun _ => ⟨pp_pos, gc⟩, fun _ => rfl⟩
    exact absurd h (by decide)
  refine ⟨y.val, val_bw y, by rw [ey, hy], fun W => ?_⟩
  refine (inv_any Z pp hZ.1 hZ.2 inn_pp.1 inn_pp.2 W).mono ?_
  rintro e w' ⟨⟨x, ok, h, rfl⟩, hb⟩
  obtain ⟨rfl, rfl⟩ := IV.uniq h iv
  exact ⟨rfl, hb⟩
theorem plain_pt (s : T4) (P : Cpt pN) (h : Rj s P) (W : World) : Calls Tryz.prog 88 #[jt s] W fun e w' => e = .returned (pvP P) ∧ Below W.heap.size W w' := by
  obtain ⟨X, Y, i, Z⟩ := s
  obtain ⟨hX, hY, hZ, d⟩ := h
  simp only at hX hY hZ d
  cases i
  · have hne : fi pN Z ≠ 0 := by
      simp only [Rp, Bool.false_eq_true, if_false] at d
      obtain ⟨_, _, _, g, _⟩ := d
      exact g
    obtain ⟨I, bI, hI, C⟩ := inv_pt Z hZ hne
    have e := rp_plain d hI
    have k := plain_core X Y Z I (fm I I) (fm X (fm I I)) (fm I (fm I I)) (fm Y (fm I (fm I I))) true W p46 C (xsq I bI.inn) (xmul X _ hX (inn_fm _ _)) (xmul I _ bI.inn (inn_fm _ _)) (xmul Y _ hY (inn_fm _ _))
    have e' : P = some (fi pN (fm X (fm I I)), fi pN (fm Y (fm I (fm I I)))) := by rw [e]; simp only [fj_fm]
    obtain ⟨e1, e2, e3⟩ := pn_some (bw_fm X (fm I I)) (bw_fm Y (fm I (fm I I)))
    rw [← e'] at e1 e2 e3
    have hv : pv (fm X (fm I I)) (fm Y (fm I (fm I I))) false = pvP P := by
      show _ = pv (ptx P) (pty P) (pti P)
      rw [← e1, ← e2, ← e3]
    rw [hv] at k
    exact k
  · rw [rp_true] at d
    subst d
    exact plain_none X Y Z W none_any
theorem max_len (a b : Nat) : (if a < b then (b : Int) else (a : Int)) = ((max a b : Nat) : Int) := by
  split <;> omega
theorem lt_len (J : Int) (h : 0 ≤ J) (L : Nat) (hL : bitLen J.toNat ≤ L) : J < 2 ^ L := by
  have a := (bitLen_spec J.toNat).1
  have b : 2 ^ bitLen J.toNat ≤ 2 ^ L := Nat.pow_le_pow_right (by decide) hL
  have c : (J.toNat : Int) < ((2 ^ L : Nat) : Int) := by omega
  rw [Int.natCast_pow] at c
  have d : (J.toNat : Int) = J := Int.toNat_of_nonneg h
  rw [d] at c
  exact c
theorem both_pt (J K : Int) (hJ : Inn J) (hK : Inn K) (P : Cpt pN) (hP : OnC am bm P) (W : World) : Calls Tryz.prog 52 #[nv J, nv K, pvP P] W fun e w' => e = .returned (pvP (ad am (mu am J.toNat gP) (mu am K.toNat P))) ∧ Below W.heap.size W w' := by
  have p : Pn (ptx P) (pty P) (pti P) P := ⟨rfl, rfl, rfl⟩
  have l1 := bitLen_256 J hJ.1 hJ.2
  have l2 := bitLen_256 K hK.1 hK.2
  have r := bsts_rep hJ.1 hK.1 hP p (max (bitLen J.toNat) (bitLen K.toNat)) (lt_len J hJ.1 _ (by omega)) (lt_len K hK.1 _ (by omega)) _ (Nat.le_refl _)
  rw [Nat.sub_self, Int.pow_zero, Int.ediv_one, Int.ediv_one] at r
  exact both_core J K (ptx P) (pty P) _ _ (pti P) _ (bitLen J.toNat) (bitLen K.toNat) (max (bitLen J.toNat) (bitLen K.toNat)) dT (aT gx gy false) (aT (ptx P) (pty P) (pti P)) innT W l1 l2 (by omega) (max_len _ _)
    (len_any J hJ.1 hJ.2) (len_any K hK.1 hK.2) (fun k W hk => bit_bv J k hJ.1 hJ.2 (by omega) W) (fun k W hk => bit_bv K k hK.1 hK.2 (by omega) W)
    ⟨inn_lit 0 (by decide) (by decide), inn_lit 0 (by decide) (by decide), inn_lit 1 (by decide) (by decide)⟩ inn_dT (inn_aT gx gy gx_bw.inn gy_bw.inn false) (inn_aT _ _ (cx_bw P).inn (cy_bw P).inn _)
    none_any (scale_any 0 0 true) base_any dbl_pt (plus_pt gx gy false gx_bw.inn gy_bw.inn) (plus_pt _ _ _ (cx_bw P).inn (cy_bw P).inn) (fun W => plain_pt _ _ r W)
theorem mul_pt (K : Int) (hK : Inn K) (P : Cpt pN) (hP : OnC am bm P) (W : World) : Calls Tryz.prog 28 #[nv K, pvP P] W fun e w' => e = .returned (pvP (mu am K.toNat P)) ∧ Below W.heap.size W w' := by
  refine mul_core K (ptx P) (pty P) _ _ (pti P) _ W (fun W => ?_)
  have b := both_pt 0 K (inn_lit 0 (by decide) (by decide)) hK P hP W
  have e : ad am (mu am (0 : Int).toNat gP) (mu am K.toNat P) = mu am K.toNat P := p256.zl (p256.mu_on hP _)
  rw [e, nv_zero] at b
  exact b
def onB (X Y : Int) (i : Bool) : Bool := if i = true then decide (X = 0) && decide (Y = 0) else decide (X < pp) && (decide (Y < pp) && decide (fm Y Y = fa (fm X (fs (fm X X) 3)) cb))
theorem onB_iff (X Y : Int) (i : Bool) (hX : Inn X) (hY : Inn Y) : onB X Y i = true ↔ ∃ P, Pn X Y i P ∧ OnC am bm P := by
  cases i
  · simp only [onB, Bool.false_eq_true, if_false, Bool.and_eq_true, decide_eq_true_eq]
    have key : fm Y Y = fa (fm X (fs (fm X X) 3)) cb ↔ OnC am bm (some (fi pN X, fi pN Y)) := by
      rw [cb_fi]
      have e : fa (fm X (fs (fm X X) 3)) cb = (X * X * X - 3 * X + cb) % pp := by
        unfold fa fm fs
        have a : (X * ((X * X % pp - 3) % pp) % pp + cb) % pp = (X * (X * X - 3) + cb) % pp := by
          rw [Int.emod_add_emod, Int.add_emod, Int.mul_emod X, Int.emod_emod_of_dvd _ (Int.dvd_refl pp), Int.emod_sub_emod, ← Int.mul_emod, ← Int.add_emod]
        rw [a]
        congr 1
        rw [Int.mul_sub, Int.mul_assoc, Int.mul_comm X 3]
      rw [e]
      exact Iff.rfl
    rw [key]
    constructor
    · rintro ⟨a, b, c⟩
      exact ⟨_, pn_some ⟨hX.1, a⟩ ⟨hY.1, b⟩, c⟩
    · rintro ⟨P, ⟨a, b, c⟩, d⟩
      have bx := cx_bw P
      have bY := cy_bw P
      rw [← a] at bx
      rw [← b] at bY
      refine ⟨bx.2, bY.2, ?_⟩
      have : P = some (fi pN X, fi pN Y) := pn_inj ⟨a, b, c⟩ (pn_some bx bY)
      rw [← this]; exact d
  · simp only [onB, if_true, Bool.and_eq_true, decide_eq_true_eq]
    constructor
    · rintro ⟨rfl, rfl⟩; exact ⟨none, ⟨rfl, rfl, rfl⟩, trivial⟩
    · rintro ⟨P, ⟨a, b, c⟩, d⟩
      match P with
      | none => exact ⟨a, b⟩
      | some _ => cases c
theorem nv_three : nv 3 = .agg #[.int .u64 3, .int .u64 0, .int .u64 0, .int .u64 0] := nv_low _ (by decide) (by decide)
theorem nv_cb : nv cb = .agg #[.int .u64 4309448131093880907, .int .u64 7285987128567378166, .int .u64 12964664127075681980, .int .u64 6540974713487397863] := by
  have h : lim cb 0 = 4309448131093880907 ∧ lim cb 1 = 7285987128567378166 ∧ lim cb 2 = 12964664127075681980 ∧ lim cb 3 = 6540974713487397863 := by decide +kernel
  rw [nv, h.1, h.2.1, h.2.2.1, h.2.2.2]
theorem inn_cb : Inn cb := ⟨by decide, by decide⟩
theorem inn_3 : Inn 3 := inn_lit 3 (by decide) (by decide)
theorem below_pt (A : Int) (hA : Inn A) (W : World) : Calls Tryz.prog 103 #[nv A] W fun e w' => e = .returned (.bool (decide (A < pp))) ∧ Below W.heap.size W w' := by
  have k := below_core A (sg A pp) W p46 (cmp_any A pp hA.1 hA.2 inn_pp.1 inn_pp.2)
  have e : decide (sg A pp < 0) = decide (A < pp) := by unfold sg; split <;> rename_i h <;> simp [h]; split <;> omega
  rw [e] at k
  exact k
theorem height_pt (X : Int) (hX : Inn X) (W : World) : Calls Tryz.prog 105 #[nv X] W fun e w' => e = .returned (nv (fa (fm X (fs (fm X X) 3)) cb)) ∧ Below W.heap.size W w' := by
  have a := xsub (fm X X) 3 (inn_fm _ _) inn_3
  have b := xadd (fm X (fs (fm X X) 3)) cb (inn_fm _ _) inn_cb
  rw [nv_three] at a
  rw [nv_cb] at b
  exact height_core X (fm X X) (fs (fm X X) 3) (fm X (fs (fm X X) 3)) _ W (xsq X hX) a (xmul X _ hX (inn_fs _ _)) b
theorem on_pt (X Y : Int) (i : Bool) (hX : Inn X) (hY : Inn Y) (W : World) : Calls Tryz.prog 68 #[pv X Y i] W fun e w' => e = .returned (.bool (onB X Y i)) ∧ Below W.heap.size W w' := by
  cases i
  · have bx := below_pt X hX
    have bY := below_pt Y hY
    by_cases c : X < pp
    · rw [decide_eq_true c] at bx
      by_cases d : Y < pp
      · rw [decide_eq_true d] at bY
        have k := on_in X Y _ _ W bx bY (xsq Y hY) (height_pt X hX)
        rw [e4_is (inn_fm _ _) (inn_fa _ _)] at k
        have e : onB X Y false = decide (fm Y Y = fa (fm X (fs (fm X X) 3)) cb) := by simp [onB, c, d]
        rw [e]; exact k
      · rw [decide_eq_false d] at bY
        have e : onB X Y false = false := by simp [onB, c, d]
        rw [e]; exact on_y X Y 0 0 W bx bY
    · rw [decide_eq_false c] at bx
      have e : onB X Y false = false := by simp [onB, c]
      rw [e]; exact on_x X Y 0 0 W bx
  · have k := on_none X Y W none_any
    rw [e4_is hX (inn_lit 0 (by decide) (by decide)), e4_is hY (inn_lit 0 (by decide) (by decide))] at k
    exact k
theorem ron_pt (X Y : Int) (i : Bool) (hX : Inn X) (hY : Inn Y) (W : World) : Calls Tryz.prog 42 #[pv X Y i] W fun e w' => e = .returned (.bool (onB X Y i)) ∧ Below W.heap.size W w' := by
  cases i
  · have bx := fun W => refCmp_any X pp hX.1 hX.2 inn_pp.1 inn_pp.2 W
    have bY := fun W => refCmp_any Y pp hY.1 hY.2 inn_pp.1 inn_pp.2 W
    have sx : sg X pp = -1 ∧ X < pp ∨ sg X pp = 0 ∧ ¬ X < pp ∨ sg X pp = 1 ∧ ¬ X < pp := by unfold sg; split <;> (try split) <;> omega
    have sy : sg Y pp = -1 ∧ Y < pp ∨ sg Y pp = 0 ∧ ¬ Y < pp ∨ sg Y pp = 1 ∧ ¬ Y < pp := by unfold sg; split <;> (try split) <;> omega
    rcases sx with ⟨s, c⟩ | ⟨s, c⟩ | ⟨s, c⟩
    · rw [s] at bx
      rcases sy with ⟨t, d⟩ | ⟨t, d⟩ | ⟨t, d⟩
      · rw [t] at bY
        have a := rsub (fm X X) 3 (inn_fm _ _) inn_3
        have b := radd (fm X (fs (fm X X) 3)) cb (inn_fm _ _) inn_cb
        rw [nv_three] at a
        rw [nv_cb] at b
        have k := ron_core X Y (fm X X) (fs (fm X X) 3) (fm X (fs (fm X X) 3)) _ _ W p29 bx bY (rmul X X hX hX) a (rmul X _ hX (inn_fs _ _)) rconst_any b (rmul Y Y hY hY)
        have q := e4_is (inn_fm Y Y) (inn_fa (fm X (fs (fm X X) 3)) cb)
        unfold e4 at q
        rw [q] at k
        have e : onB X Y false = decide (fm Y Y = fa (fm X (fs (fm X X) 3)) cb) := by simp [onB, c, d]
        rw [e]; exact k
      · rw [t] at bY
        have e : onB X Y false = false := by simp [onB, d]
        rw [e]; exact ron_y0 X Y W p29 bx bY
      · rw [t] at bY
        have e : onB X Y false = false := by simp [onB, d]
        rw [e]; exact ron_y1 X Y W p29 bx bY
    · rw [s] at bx
      have e : onB X Y false = false := by simp [onB, c]
      rw [e]; exact ron_x0 X Y W p29 bx
    · rw [s] at bx
      have e : onB X Y false = false := by simp [onB, c]
      rw [e]; exact ron_x1 X Y W p29 bx
  · have x := zero24 X hX
    have y := zero24 Y hY
    by_cases c : X = 0
    · rw [decide_eq_true c] at x
      have k := ron_n1 X Y x W
      rw [y] at k
      have e : onB X Y true = decide (Y = 0) := by simp [onB, c]
      rw [e]; exact k
    · rw [decide_eq_false c] at x
      have e : onB X Y true = false := by simp [onB, c]
      rw [e]; exact ron_n0 X Y x W
end Go.Proofs.YtoolbnbfbegjaaaGreat
set_option maxRecDepth 100000
namespace Go.Proofs.YtoolbnbfbegjaaaGreat
variable [NeZero pN]
open Go.ChangeShapes Go.WideShapes Go.ChangeAt Go.RowKit Go.Sort
open Go.Sort (grow)
open Go.ChangeMaps (open_string shut_string)
theorem nv_2 : nv 2 = .agg #[.int .u64 2, .int .u64 0, .int .u64 0, .int .u64 0] := nv_low _ (by decide) (by decide)
theorem inn_2 : Inn 2 := inn_lit 2 (by decide) (by decide)
theorem pvP_g : pvP gP = pv gx gy false := by
  obtain ⟨a, b, c⟩ := gP_pn
  show pv (ptx gP) (pty gP) (pti gP) = _
  rw [← a, ← b, ← c]
theorem big32 (N : Int) : (mkS (bgL N)).size = 32 := by rw [mkS_size]; simp [bgL]
theorem on_or (X Y : Int) (i : Bool) (hX : Inn X) (hY : Inn Y) : onB X Y i = false ∨ ∃ P, OnC am bm P ∧ pv X Y i = pvP P ∧ Pn X Y i P ∧ onB X Y i = true := by
  cases h : onB X Y i
  · exact .inl rfl
  · obtain ⟨P, p, o⟩ := (onB_iff X Y i hX hY).1 h
    refine .inr ⟨P, o, ?_, p, rfl⟩
    obtain ⟨rfl, rfl, rfl⟩ := p
    rfl
theorem ron_f {X Y : Int} {i : Bool} (hX : Inn X) (hY : Inn Y) (h : onB X Y i = false) (W : World) : Calls Tryz.prog 42 #[pv X Y i] W fun e w' => e = .returned (.bool false) ∧ Below W.heap.size W w' := by
  have k := ron_pt X Y i hX hY W
  rw [h] at k
  exact k
theorem ron_t (P : Cpt pN) (hP : OnC am bm P) (W : World) : Calls Tryz.prog 42 #[pvP P] W fun e w' => e = .returned (.bool true) ∧ Below W.heap.size W w' := by
  have k := ron_pt (ptx P) (pty P) (pti P) (cx_bw P).inn (cy_bw P).inn W
  rw [(onB_iff _ _ _ (cx_bw P).inn (cy_bw P).inn).2 ⟨P, ⟨rfl, rfl, rfl⟩, hP⟩] at k
  exact k
theorem pv_none : pvP none = .agg #[.int .u64 0, .int .u64 0, .int .u64 0, .int .u64 0, .int .u64 0, .int .u64 0, .int .u64 0, .int .u64 0, .bool true] := by
  have h : lim 0 0 = 0 ∧ lim 0 1 = 0 ∧ lim 0 2 = 0 ∧ lim 0 3 = 0 := by decide
  show pv 0 0 true = _
  simp only [pv, h.1, h.2.1, h.2.2.1, h.2.2.2]
end Go.Proofs.YtoolbnbfbegjaaaGreat
set_option maxRecDepth 100000
namespace Go.Proofs.YtoolbnbfbegjaaaGreat
variable [NeZero pN]
open Go.ChangeShapes Go.WideShapes Go.ChangeAt Go.RowKit Go.Sort
open Go.Sort (grow)
open Go.ChangeMaps (open_string shut_string)
theorem of_big (N : Int) (h : Inn N) : fbN (mkS (bgL N)) = N := by
  unfold fbN
  rw [if_pos (big32 N)]
  exact big_back N h.1 h.2
theorem inn_fb (u : ByteArray) : Inn (fbN u) := by
  unfold fbN
  split
  · refine ⟨pn_nn 8 _ (fun j => (bt_8 u j).1) 32, ?_⟩
    have := pn_lt 8 (bt u) (bt_8 u) 32
    have e : (2 : Int) ^ (8 * 32) = top256 := by decide
    rw [e] at this
    exact this
  · exact inn_lit 0 (by decide) (by decide)
end Go.Proofs.YtoolbnbfbegjaaaGreat
set_option maxRecDepth 100000
namespace Go.Proofs.YtoolbnbfbegjaaaGreat
open Go.RowKit Go.Sort
variable [NeZero pN]
open NT
theorem nn_nN : nn = (nN : Int) := rfl
def unB (A : Int) : Bool := decide (A ≠ 0) && decide (A < nn)
theorem unB_iff {A : Int} (h : Inn A) : unB A = true ↔ 0 < A ∧ A < nn := by
  unfold unB; simp; have := h.1; omega
theorem inn_na (A B : Int) : Inn (na A B) := inn_n _
theorem inn_ns (A B : Int) : Inn (ns A B) := inn_n _
theorem inn_nm (A B : Int) : Inn (nm A B) := inn_n _
theorem inn_nr (A : Int) : Inn (nr A) := inn_n _
theorem inn_0 : Inn 0 := ⟨by decide, by decide⟩
theorem inv_ex (A : Int) (h0 : 0 < A) (h1 : A < nn) : ∃ I : Int, Inn I ∧ A * I % nn = 1 ∧ IV A nn I true := by
  have nd : ¬ nN ∣ A.toNat := fun g => by
    have q := Nat.le_of_dvd (by omega) g
    have : nn = (nN : Int) := rfl
    omega
  have f := NT.fermat pri_n A.toNat nd
  have gc : Nat.gcd nn.toNat A.toNat = 1 := by
    have e : nn.toNat = nN := rfl
    rw [e]; exact pri_n.cop nd
  have a : (A.toNat : Int) = A := Int.toNat_of_nonneg (by omega)
  have hm : ∃ m, nN - 1 = m + 1 := ⟨nN - 2, by decide +kernel⟩
  obtain ⟨m, hm⟩ := hm
  rw [hm] at f
  clear hm
  obtain ⟨i, hi, e⟩ : ∃ i : Nat, i < nN ∧ A.toNat * i % nN = 1 := ⟨A.toNat ^ m % nN, Nat.mod_lt _ n_pos, by
    rw [Nat.mul_mod, Nat.mod_mod, ← Nat.mul_mod, Nat.mul_comm, ← Nat.pow_succ, f]⟩
  have e2 : A * (i : Int) % nn = 1 := by
    rw [nn_nN, ← a]
    have : ((A.toNat * i % nN : Nat) : Int) = 1 := by rw [e]; rfl
    push_cast at this
    exact this
  have lt : (i : Int) < nn := by rw [nn_nN]; omega
  refine ⟨i, ⟨by omega, Int.lt_trans lt (by decide)⟩, e2, by omega, fun _ => ⟨lt, ?_⟩, fun h => absurd h (by decide), fun _ => ⟨nn_pos, gc⟩, fun _ => rfl⟩
  refine Int.dvd_of_emod_eq_zero ?_
  rw [Int.sub_emod, e2]; decide
theorem iv_mul {A I : Int} (iv : IV A nn I true) : Inn I ∧ A * I % nn = 1 := by
  obtain ⟨a, b, _, _⟩ := iv
  obtain ⟨c, d⟩ := b rfl
  refine ⟨⟨a, Int.lt_trans c (by decide)⟩, ?_⟩
  have := Int.emod_emod_of_dvd (A * I) (Int.dvd_refl nn)
  have q : (A * I) % nn = 1 % nn := Int.emod_eq_emod_iff_emod_sub_eq_zero.2 (Int.emod_eq_zero_of_dvd d)
  rw [q]; decide
theorem c95 (A I : Int) (hA : Inn A) (iv : IV A nn I true) (W : World) : Calls Tryz.prog 95 #[nv A, nv nn] W fun e w' => e = .returned (.tuple #[nv I, .bool true]) ∧ Below W.heap.size W w' := by
  refine (inv_any A nn hA.1 hA.2 inn_nn.1 inn_nn.2 W).mono ?_
  rintro e w' ⟨⟨x, ok, h, rfl⟩, hb⟩
  obtain ⟨rfl, rfl⟩ := IV.uniq h iv
  exact ⟨rfl, hb⟩
theorem einv (A I : Int) (hA : Inn A) (iv : IV A nn I true) (W : World) : Calls Tryz.prog 61 #[nv A] W fun e w' => e = .returned (nv I) ∧ Below W.heap.size W w' := einv_core A I true W n63 (c95 A I hA iv)
theorem eabs (X Y : Int) (i : Bool) (hX : Inn X) (W : World) : Calls Tryz.prog 57 #[pv X Y i] W fun e w' => e = .returned (nv (nr X)) ∧ Below W.heap.size W w' :=
  eabs_core X Y _ i W n63 (fun W => by
    have := rem_any X 0 nn hX.1 hX.2 (by decide) (by decide) inn_nn.1 inn_nn.2 W
    rw [md_pos _ nn_pos, Int.zero_mul, Int.add_zero, nv_nil] at this
    exact this)
theorem enum_u (s : ByteArray) (hs : s.size ≤ maxLen) (W : World) : Calls Tryz.prog 59 #[.string s] W fun e w' => e = .returned (nv (fbN s)) ∧ Below W.heap.size W w' := enum_core (fbN s) _ s W (fromBig_u s hs)
theorem sec_u (A : Int) (hA : Inn A) (W : World) : Calls Tryz.prog 16 #[nv A] W fun e w' => e = .returned (.bool (unB A)) ∧ Below W.heap.size W w' := by
  by_cases c : A = 0
  · have k := sec_z A (by rw [zero24 A hA, decide_eq_true c]) W
    have e : unB A = false := by simp [unB, c]
    rw [e]; exact k
  · have k := sec_n A (sg A nn) (by rw [zero24 A hA, decide_eq_false c]) W n19 (refCmp_any A nn hA.1 hA.2 inn_nn.1 inn_nn.2)
    rw [sgd] at k
    have e : unB A = decide (A < nn) := by simp [unB, c]
    rw [e]; exact k
def unE (A : Int) : Int := if unB A = true then 0 else 13
def digE (s : ByteArray) : Int := if s.size = 32 then 0 else 10
def pubE (X Y : Int) (i : Bool) : Int := if (!i && onB X Y false) = true then 0 else 15
theorem unit_u (A : Int) (hA : Inn A) (g : Nat) (W : World) (Aa : Arr W g 4 (fun j => .int .u64 (lim (A) j))) : Calls Tryz.prog 50 #[.pointer (some ⟨g, 0, none⟩)] W fun e w' => e = .returned (.int .i64 (unE A)) ∧ Below W.heap.size W w' := by
  by_cases c : A = 0
  · have k := unit_z A 0 false g W (by rw [zero24 A hA, decide_eq_true c]) Aa (unl_false 13)
    have e : unE A = 13 := by simp [unE, unB, c]
    rw [e]; exact k
  · have k := unit_n A _ (decide (A < nn)) g W (by rw [zero24 A hA, decide_eq_false c]) Aa (ebel A hA) (unl _ 13)
    have e : unE A = if decide (A < nn) = true then 0 else 13 := by simp [unE, unB, c]
    rw [e]; exact k
theorem dig_u (s : ByteArray) (g : Nat) (W : World) (Aa : Arr W g 1 (fun _ => .string s)) : Calls Tryz.prog 56 #[.pointer (some ⟨g, 0, none⟩)] W fun e w' => e = .returned (.int .i64 (digE s)) ∧ Below W.heap.size W w' := by
  have k := dig_core s _ g W Aa (unl _ 10)
  have e : digE s = if ((s.size : Int) == 32) = true then 0 else 10 := by
    unfold digE
    by_cases c : s.size = 32
    · simp [c]
    · rw [if_neg c, if_neg]; simp; omega
  rw [e]; exact k
theorem pub_u (X Y : Int) (i : Bool) (hX : Inn X) (hY : Inn Y) (g : Nat) (W : World) (Aa : Arr W g 9 (px (X) (Y) i)) : Calls Tryz.prog 67 #[.pointer (some ⟨g, 0, none⟩)] W fun e w' => e = .returned (.int .i64 (pubE X Y i)) ∧ Below W.heap.size W w' := by
  cases i
  · have k := pub_false X Y _ (onB X Y false) g W Aa (on_pt X Y false hX hY) (unl _ 15)
    have e : pubE X Y false = if onB X Y false = true then 0 else 15 := by simp [pubE]
    rw [e]; exact k
  · have k := pub_true X Y 15 false g W Aa (unl_false 15)
    have e : pubE X Y true = 15 := by simp [pubE]
    rw [e]; exact k
def Tq (P : Cpt pN) (z R I : Int) : Cpt pN := ad am (mu am (nm z I).toNat gP) (mu am (nm R I).toNat P)
def hldE (P : Cpt pN) (z R I : Int) : Int := if (!pti (Tq P z R I) && decide (nr (ptx (Tq P z R I)) = R)) = true then 0 else 16
theorem met_u (P : Cpt pN) (hP : OnC am bm P) (s : ByteArray) (hs : s.size ≤ maxLen) (R S I : Int) (hR : Inn R) (hS : Inn S) (iv : IV S nn I true) (W : World) : Calls Tryz.prog 70 #[pvP P, .string s, gv R S] W fun e w' => e = .returned (pvP (Tq P (fbN s) R I)) ∧ Below W.heap.size W w' :=
  met_core (ptx P) (pty P) R S I (fbN s) (nm (fbN s) I) (nm R I) _ _ (pti P) _ s W (einv S I hS iv) (enum_u s hs) (emul _ _ (inn_fb s) (iv_mul iv).1) (emul R I hR (iv_mul iv).1) (both_pt _ _ (inn_nm _ _) (inn_nm _ _) P hP)
theorem hld_u (P : Cpt pN) (hP : OnC am bm P) (s : ByteArray) (hs : s.size ≤ maxLen) (R S I : Int) (hR : Inn R) (hS : Inn S) (iv : IV S nn I true) (g1 g2 g3 : Nat) (W : World)
    (Aq : Arr W g1 9 (px (ptx P) (pty P) (pti P))) (Ad : Arr W g2 1 (fun _ => .string s)) (As : Arr W g3 8 (sgx (R) (S))) :
    Calls Tryz.prog 69 #[.pointer (some ⟨g1, 0, none⟩), .pointer (some ⟨g2, 0, none⟩), .pointer (some ⟨g3, 0, none⟩)] W fun e w' => e = .returned (.int .i64 (hldE P (fbN s) R I)) ∧ Below W.heap.size W w' := by
  have m := met_u P hP s hs R S I hR hS iv
  unfold hldE
  generalize Tq P (fbN s) R I = T at *
  cases h : pti T
  · have m2 := m
    unfold pvP at m2
    rw [h] at m2
    have b := unl (e4 (nr (ptx T)) R) 16
    rw [e4_is (inn_nr _) hR] at b
    have b2 := unl (e4 (nr (ptx T)) R) 16
    have k := hld_false (ptx P) (pty P) R S (ptx T) (pty T) (nr (ptx T)) _ (pti P) s g1 g2 g3 W Aq Ad As m2 (eabs _ _ _ (cx_bw T).inn) b2
    rw [e4_is (inn_nr _) hR] at k
    simpa using k
  · have m2 := m
    unfold pvP at m2
    rw [h] at m2
    have k := hld_true (ptx P) (pty P) R S (ptx T) (pty T) 0 16 (pti P) s g1 g2 g3 W Aq Ad As m2 (unl_false 16)
    simpa using k
set_option maxHeartbeats 8000000 in
theorem check_l (X Y R S h : Int) (i : Bool) (s : ByteArray) (hX : Inn X) (hY : Inn Y) (hR : Inn R) (hS : Inn S) (w : World)
    (HH : pubE X Y i = 0 → digE s = 0 → unE R = 0 → unE S = 0 → ∀ W g1 g2 g3, Arr W g1 9 (px (X) (Y) i) → Arr W g2 1 (fun _ => .string s) → Arr W g3 8 (sgx (R) (S)) → Calls Tryz.prog 69 #[.pointer (some ⟨g1, 0, none⟩), .pointer (some ⟨g2, 0, none⟩), .pointer (some ⟨g3, 0, none⟩)] W fun e w' => e = .returned (.int .i64 h) ∧ Below W.heap.size W w') :
    Calls Tryz.prog 14 #[pv X Y i, .string s, gv R S] w fun e w' => e = .returned (.int .i64 (fL [(67, #[.pointer (some ⟨w.heap.size + 1 + 1, 0, none⟩)], pubE X Y i), (56, #[.pointer (some ⟨w.heap.size + 1 + 1 + 1, 0, none⟩)], digE s), (50, #[.pointer (some ⟨w.heap.size + 1 + 1 + 1 + 1, 0, none⟩)], unE R), (50, #[.pointer (some ⟨w.heap.size + 1 + 1 + 1 + 1 + 1, 0, none⟩)], unE S), (69, #[.pointer (some ⟨w.heap.size + 1 + 1 + 1 + 1 + 1 + 1, 0, none⟩), .pointer (some ⟨w.heap.size + 1 + 1 + 1 + 1 + 1 + 1 + 1, 0, none⟩), .pointer (some ⟨w.heap.size + 1 + 1 + 1 + 1 + 1 + 1 + 1 + 1, 0, none⟩)], h)])) ∧ Below w.heap.size w w' := by
  refine check_core X Y R S _ i s _ _ _ _ _ _ _ w (mk_pub X Y i) (mk_dig s) (mk_unit R) (mk_unit S) (mk_hld X Y R S i s) ?_
  obtain ⟨W0, hW0⟩ : ∃ W0, W0 = (((((((((((w.alloc (.cells #[.int .u64 (lim (X) 0), .int .u64 (lim (X) 1), .int .u64 (lim (X) 2), .int .u64 (lim (X) 3), .int .u64 (lim (Y) 0), .int .u64 (lim (Y) 1), .int .u64 (lim (Y) 2), .int .u64 (lim (Y) 3), .bool i] 28)).alloc (.cells #[.int .u64 (lim (R) 0), .int .u64 (lim (R) 1), .int .u64 (lim (R) 2), .int .u64 (lim (R) 3), .int .u64 (lim (S) 0), .int .u64 (lim (S) 1), .int .u64 (lim (S) 2), .int .u64 (lim (S) 3)] 26)).alloc (.cells #[.int .u64 (lim (X) 0), .int .u64 (lim (X) 1), .int .u64 (lim (X) 2), .int .u64 (lim (X) 3), .int .u64 (lim (Y) 0), .int .u64 (lim (Y) 1), .int .u64 (lim (Y) 2), .int .u64 (lim (Y) 3), .bool i] 28)).alloc (.cells #[.string s] 9)).alloc (.cells #[.int .u64 (lim (R) 0), .int .u64 (lim (R) 1), .int .u64 (lim (R) 2), .int .u64 (lim (R) 3)] 24)).alloc (.cells #[.int .u64 (lim (S) 0), .int .u64 (lim (S) 1), .int .u64 (lim (S) 2), .int .u64 (lim (S) 3)] 24)).alloc (.cells #[.int .u64 (lim (X) 0), .int .u64 (lim (X) 1), .int .u64 (lim (X) 2), .int .u64 (lim (X) 3), .int .u64 (lim (Y) 0), .int .u64 (lim (Y) 1), .int .u64 (lim (Y) 2), .int .u64 (lim (Y) 3), .bool i] 28)).alloc (.cells #[.string s] 9)).alloc (.cells #[.int .u64 (lim (R) 0), .int .u64 (lim (R) 1), .int .u64 (lim (R) 2), .int .u64 (lim (R) 3), .int .u64 (lim (S) 0), .int .u64 (lim (S) 1), .int .u64 (lim (S) 2), .int .u64 (lim (S) 3)] 26)).alloc (.cells #[.func (.func 67) #[] #[.pointer (some ⟨w.heap.size + 1 + 1, 0, none⟩)], .func (.func 56) #[] #[.pointer (some ⟨w.heap.size + 1 + 1 + 1, 0, none⟩)], .func (.func 50) #[] #[.pointer (some ⟨w.heap.size + 1 + 1 + 1 + 1, 0, none⟩)], .func (.func 50) #[] #[.pointer (some ⟨w.heap.size + 1 + 1 + 1 + 1 + 1, 0, none⟩)], .func (.func 69) #[] #[.pointer (some ⟨w.heap.size + 1 + 1 + 1 + 1 + 1 + 1, 0, none⟩), .pointer (some ⟨w.heap.size + 1 + 1 + 1 + 1 + 1 + 1 + 1, 0, none⟩), .pointer (some ⟨w.heap.size + 1 + 1 + 1 + 1 + 1 + 1 + 1 + 1, 0, none⟩)]] 55)).drew) := ⟨_, rfl⟩
  have F2 : Arr W0 (w.heap.size + 1 + 1) 9 (px (X) (Y) i) := by subst hW0; refine Arr.mk9p ?_ ?_ ?_ ?_ ?_ ?_ ?_ ?_ ?_ ?_ <;> simp [go_sem, px, sgx]
  have F3 : Arr W0 (w.heap.size + 1 + 1 + 1) 1 (fun _ => .string s) := by subst hW0; refine Arr.mk1 ?_ ?_ <;> simp [go_sem, px, sgx]
  have F4 : Arr W0 (w.heap.size + 1 + 1 + 1 + 1) 4 (fun j => .int .u64 (lim (R) j)) := by subst hW0; refine Arr.mk4 ?_ ?_ ?_ ?_ ?_ ?_ ?_ ?_ <;> simp [go_sem, px, sgx]
  have F5 : Arr W0 (w.heap.size + 1 + 1 + 1 + 1 + 1) 4 (fun j => .int .u64 (lim (S) j)) := by subst hW0; refine Arr.mk4 ?_ ?_ ?_ ?_ ?_ ?_ ?_ ?_ <;> simp [go_sem, px, sgx]
  have F6 : Arr W0 (w.heap.size + 1 + 1 + 1 + 1 + 1 + 1) 9 (px (X) (Y) i) := by subst hW0; refine Arr.mk9p ?_ ?_ ?_ ?_ ?_ ?_ ?_ ?_ ?_ ?_ <;> simp [go_sem, px, sgx]
  have F7 : Arr W0 (w.heap.size + 1 + 1 + 1 + 1 + 1 + 1 + 1) 1 (fun _ => .string s) := by subst hW0; refine Arr.mk1 ?_ ?_ <;> simp [go_sem, px, sgx]
  have F8 : Arr W0 (w.heap.size + 1 + 1 + 1 + 1 + 1 + 1 + 1 + 1) 8 (sgx (R) (S)) := by subst hW0; refine Arr.mk8' ?_ ?_ ?_ ?_ ?_ ?_ ?_ ?_ ?_ <;> simp [go_sem, px, sgx]
  subst hW0
  refine first_list [(67, #[.pointer (some ⟨w.heap.size + 1 + 1, 0, none⟩)], pubE X Y i), (56, #[.pointer (some ⟨w.heap.size + 1 + 1 + 1, 0, none⟩)], digE s), (50, #[.pointer (some ⟨w.heap.size + 1 + 1 + 1 + 1, 0, none⟩)], unE R), (50, #[.pointer (some ⟨w.heap.size + 1 + 1 + 1 + 1 + 1, 0, none⟩)], unE S), (69, #[.pointer (some ⟨w.heap.size + 1 + 1 + 1 + 1 + 1 + 1, 0, none⟩), .pointer (some ⟨w.heap.size + 1 + 1 + 1 + 1 + 1 + 1 + 1, 0, none⟩), .pointer (some ⟨w.heap.size + 1 + 1 + 1 + 1 + 1 + 1 + 1 + 1, 0, none⟩)], h)] _ _ ?_ ?_ ?_ ?_ ?_
  · simp
  · simp [go_sem]
  · intro j hj
    have h : j = 0 ∨ j = 1 ∨ j = 2 ∨ j = 3 ∨ j = 4 := by simp only [List.length] at hj; omega
    rcases h with rfl | rfl | rfl | rfl | rfl <;> simp [go_sem]
  · intro x hx
    simp only [List.mem_cons, List.not_mem_nil, or_false] at hx
    rcases hx with rfl | rfl | rfl | rfl | rfl
    · exact enter67 _
    · exact enter56 _
    · exact enter50 _
    · exact enter50 _
    · exact enter69 _
  · exact ⟨fun V hb => pub_u X Y i hX hY _ V (Arr.to' F2 hb), fun e1 => ⟨fun V hb => dig_u s _ V (Arr.to' F3 hb), fun e2 => ⟨fun V hb => unit_u R hR _ V (Arr.to' F4 hb), fun e3 => ⟨fun V hb => unit_u S hS _ V (Arr.to' F5 hb), fun e4 => ⟨fun V hb => HH e1 e2 e3 e4 V _ _ _ (Arr.to' F6 hb) (Arr.to' F7 hb) (Arr.to' F8 hb), fun _ => trivial⟩⟩⟩⟩⟩
end Go.Proofs.YtoolbnbfbegjaaaGreat
