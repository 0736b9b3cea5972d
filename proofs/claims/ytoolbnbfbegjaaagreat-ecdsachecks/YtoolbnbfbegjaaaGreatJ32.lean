/- Texts joined: H1, E5. -/
import Derived.Test.YtoolbnbfbegjaaaGreatJ30
import Derived.Test.YtoolbnbfbegjaaaGreatJ31
set_option linter.all false
namespace Go.Proofs.YtoolbnbfbegjaaaGreat
variable [NeZero pN]
theorem pp_pN : pp = (pN : Int) := rfl
theorem fj_fa (A B : Int) : fi pN (fa A B) = fi pN A + fi pN B := by unfold fa; rw [pp_pN, fi_mod, fi_add]
theorem fj_fs (A B : Int) : fi pN (fs A B) = fi pN A - fi pN B := by unfold fs; rw [pp_pN, fi_mod, fi_sub]
theorem fj_fm (A B : Int) : fi pN (fm A B) = fi pN A * fi pN B := by unfold fm; rw [pp_pN, fi_mod, fi_mul]
def Bw (N : Int) : Prop := 0 ≤ N ∧ N < pp
theorem Bw.inn {N : Int} (h : Bw N) : Inn N := ⟨h.1, Int.lt_trans h.2 (by decide)⟩
theorem bw_mod (N : Int) : Bw (N % pp) := ⟨Int.emod_nonneg _ (by decide), Int.emod_lt_of_pos _ pp_pos⟩
theorem bw_fs (A B : Int) : Bw (fs A B) := bw_mod _
theorem bw_fm (A B : Int) : Bw (fm A B) := bw_mod _
theorem Bw.zero {N : Int} (h : Bw N) : fi pN N = 0 ↔ N = 0 := by
  rw [fi_nz, ← pp_pN, Int.emod_eq_of_lt h.1 h.2]
theorem Bw.val {N : Int} (h : Bw N) : ((fi pN N).val : Int) = N := by rw [fi_val, ← pp_pN, Int.emod_eq_of_lt h.1 h.2]
theorem val_bw (x : Fin pN) : Bw (x.val : Int) := ⟨by omega, by have := x.isLt; rw [pp_pN]; omega⟩
def ptx : Cpt pN → Int
  | none => 0
  | some (x, _) => x.val
def pty : Cpt pN → Int
  | none => 0
  | some (_, y) => y.val
def pti : Cpt pN → Bool
  | none => true
  | some _ => false
def Pn (X Y : Int) (i : Bool) (P : Cpt pN) : Prop := X = ptx P ∧ Y = pty P ∧ i = pti P
theorem pn_some {X Y : Int} (hX : Bw X) (hY : Bw Y) : Pn X Y false (some (fi pN X, fi pN Y)) := ⟨hX.val.symm, hY.val.symm, rfl⟩
theorem cx_bw (P : Cpt pN) : Bw (ptx P) := by
  match P with
  | none => exact ⟨by decide, by decide⟩
  | some (x, y) => exact val_bw x
theorem cy_bw (P : Cpt pN) : Bw (pty P) := by
  match P with
  | none => exact ⟨by decide, by decide⟩
  | some (x, y) => exact val_bw y
theorem pn_inj {X Y : Int} {i : Bool} {P Q : Cpt pN} (h : Pn X Y i P) (g : Pn X Y i Q) : P = Q := by
  obtain ⟨a, b, c⟩ := h
  obtain ⟨a', b', c'⟩ := g
  match P, Q with
  | none, none => rfl
  | none, some _ => rw [c] at c'; cases c'
  | some _, none => rw [c] at c'; cases c'
  | some (x, y), some (x', y') =>
    have e1 : x = x' := fi_ext (a.symm.trans a')
    have e2 : y = y' := fi_ext (b.symm.trans b')
    rw [e1, e2]
def Rj (s : T4) (P : Cpt pN) : Prop := Inn s.1 ∧ Inn s.2.1 ∧ Inn s.2.2.2 ∧ Rp (fi pN s.1) (fi pN s.2.1) (fi pN s.2.2.2) s.2.2.1 P
def dT (s : T4) : T4 := if s.2.2.1 = true then s else (dx s.1 s.2.1 s.2.2.2, dy s.1 s.2.1 s.2.2.2, false, dz s.2.1 s.2.2.2)
def aM (U X Z : Int) : Int := fs (fm U (fm Z Z)) X
def aN (V Y Z : Int) : Int := fs (fm V (fm Z (fm Z Z))) Y
def ax (X M N : Int) : Int := fs (fs (fm N N) (fm M (fm M M))) (fa (fm X (fm M M)) (fm X (fm M M)))
def ay (X Y M N : Int) : Int := fs (fm N (fs (fm X (fm M M)) (ax X M N))) (fm Y (fm M (fm M M)))
def aT (U V : Int) (k : Bool) (s : T4) : T4 :=
  if k = true then s else if s.2.2.1 = true then (U, V, false, 1) else
  if aM U s.1 s.2.2.2 = 0 then (if aN V s.2.1 s.2.2.2 = 0 then dT s else (0, 0, true, 1))
  else (ax s.1 (aM U s.1 s.2.2.2) (aN V s.2.1 s.2.2.2), ay s.1 s.2.1 (aM U s.1 s.2.2.2) (aN V s.2.1 s.2.2.2), false, fm s.2.2.2 (aM U s.1 s.2.2.2))
theorem rp_true {X Y Z : Fin pN} {P : Cpt pN} : Rp X Y Z true P ↔ P = none := by simp [Rp]
theorem rj_none (X Y Z : Int) (hX : Inn X) (hY : Inn Y) (hZ : Inn Z) : Rj (X, Y, true, Z) none := ⟨hX, hY, hZ, rp_true.2 rfl⟩
theorem Rj.dbl {s : T4} {P : Cpt pN} (hP : OnC am bm P) (h : Rj s P) : Rj (dT s) (ad am P P) := by
  obtain ⟨X, Y, i, Z⟩ := s
  obtain ⟨a, b, c, d⟩ := h
  simp only at a b c d
  cases i
  · simp only [dT, Bool.false_eq_true, if_false]
    refine ⟨inn_fs _ _, inn_fs _ _, inn_fa _ _, ?_⟩
    exact rp_dbl p256 hP d rfl rfl rfl rfl rfl rfl rfl (by simp only [dx, dr, ds, fj_fa, fj_fs, fj_fm]) rfl rfl (by simp only [dx, dy, dq, dr, ds, fj_fa, fj_fs, fj_fm]) rfl (by simp only [dz, fj_fa, fj_fs, fj_fm])
  · rw [rp_true] at d
    subst d
    have e : dT (X, Y, true, Z) = (X, Y, true, Z) := rfl
    rw [e, p256.zl (P := none) trivial]
    exact rj_none _ _ _ a b c
theorem Rj.add {s : T4} {P Q : Cpt pN} {U V : Int} {k : Bool} (hP : OnC am bm P) (hQ : OnC am bm Q) (q : Pn U V k Q) (h : Rj s P) : Rj (aT U V k s) (ad am P Q) := by
  have h' := h
  obtain ⟨X, Y, i, Z⟩ := s
  obtain ⟨a, b, c, d⟩ := h
  simp only at a b c d
  obtain ⟨rfl, rfl, rfl⟩ := q
  match Q with
  | none =>
    have e : aT (ptx none) (pty none) (pti none) (X, Y, i, Z) = (X, Y, i, Z) := rfl
    rw [e, p256.zr hP]
    exact h'
  | some (u, v) =>
    simp only [ptx, pty, pti]
    cases i
    · simp only [aT, Bool.false_eq_true, if_false]
      have eu : fi pN (u.val : Int) = u := fi_back u
      have ev : fi pN (v.val : Int) = v := fi_back v
      by_cases m : aM u.val X Z = 0
      · rw [if_pos m]
        have hr : fi pN (aM u.val X Z) = 0 := by rw [m]; exact fi_zero
        have sm := rp_same (z2 := fi pN Z * fi pN Z) (run := fi pN (aM u.val X Z)) (z3 := fi pN Z * (fi pN Z * fi pN Z)) (rise := fi pN (aN v.val Y Z)) p256 hP hQ d rfl (by simp only [aM, fj_fs, fj_fm, eu]) rfl (by simp only [aN, fj_fs, fj_fm, ev]) hr
        by_cases n : aN v.val Y Z = 0
        · rw [if_pos n]
          have e := sm.2 (by rw [n]; exact fi_zero)
          rw [← e]
          exact h'.dbl hP
        · rw [if_neg n, sm.1 (fun g => n (((bw_fs _ _).zero).1 g))]
          exact rj_none _ _ _ ⟨by decide, by decide⟩ ⟨by decide, by decide⟩ ⟨by decide, by decide⟩
      · rw [if_neg m]
        refine ⟨inn_fs _ _, inn_fs _ _, inn_fm _ _, ?_⟩
        have ne : fi pN (aM u.val X Z) ≠ 0 := fun g => m (((bw_fs _ _).zero).1 g)
        exact rp_along (z2 := fi pN Z * fi pN Z) (run := fi pN (aM u.val X Z)) (z3 := fi pN Z * (fi pN Z * fi pN Z)) (rise := fi pN (aN v.val Y Z)) p256 hP hQ d rfl (by simp only [aM, fj_fs, fj_fm, eu]) rfl (by simp only [aN, fj_fs, fj_fm, ev]) ne rfl rfl rfl
          (by simp only [ax, fj_fa, fj_fs, fj_fm]) (by simp only [ay, ax, fj_fa, fj_fs, fj_fm]) (by simp only [fj_fm])
    · rw [rp_true] at d
      subst d
      have e : aT (u.val : Int) (v.val : Int) false (X, Y, true, Z) = ((u.val : Int), (v.val : Int), false, 1) := rfl
      rw [e, p256.zl hQ]
      refine ⟨(val_bw u).inn, (val_bw v).inn, inn_lit 1 (by decide) (by decide), ?_⟩
      show Rp (fi pN (u.val : Int)) (fi pN (v.val : Int)) (fi pN 1) false (some (u, v))
      rw [fi_back, fi_back, fi_one]
      exact rp_one one_ne u v
def gP : Cpt pN := some (fi pN gx, fi pN gy)
theorem gx_bw : Bw gx := ⟨by decide, by decide⟩
theorem gy_bw : Bw gy := ⟨by decide, by decide⟩
theorem gP_pn : Pn gx gy false gP := pn_some gx_bw gy_bw
theorem cb_fi (X Y : Int) : OnC am bm (some (fi pN X, fi pN Y)) ↔ Y * Y % pp = (X * X * X - 3 * X + cb) % pp := by
  have e : fi pN (X * X * X - 3 * X + cb) = fi pN X * fi pN X * fi pN X + am * fi pN X + bm := by
    rw [fi_add, fi_sub, fi_mul, fi_mul, fi_mul, three_fi]
    unfold am bm
    generalize fi pN cb = B
    generalize fi pN X = x
    grind
  simp only [OnC]
  rw [← e, ← fi_mul, fi_eq, ← pp_pN]
theorem g_on : OnC am bm gP := (cb_fi gx gy).2 (by decide +kernel)
theorem mu_two (P : Cpt pN) (hP : OnC am bm P) (m : Nat) (n : Nat) (h : n = 2 * m) : mu am n P = ad am (mu am m P) (mu am m P) := by
  rw [← p256.mu_add hP, h, Nat.two_mul]
theorem mu_odd (P : Cpt pN) (hP : OnC am bm P) (m : Nat) (n : Nat) (h : n = 2 * m + 1) : mu am n P = ad am (ad am (mu am m P) (mu am m P)) P := by
  rw [← p256.mu_add hP, h, Nat.two_mul]; rfl
theorem bit_half (J : Int) (hJ : 0 ≤ J) (m : Nat) : (bitB J m = true ∧ (J / 2 ^ m).toNat = 2 * (J / 2 ^ (m + 1)).toNat + 1) ∨ (bitB J m = false ∧ (J / 2 ^ m).toNat = 2 * (J / 2 ^ (m + 1)).toNat) := by
  have e : J / 2 ^ (m + 1) = J / 2 ^ m / 2 := by rw [Int.pow_succ, Int.ediv_ediv_of_nonneg (by exact Int.le_of_lt (Int.pow_pos (by decide)))]
  have n : 0 ≤ J / 2 ^ m := Int.ediv_nonneg hJ (Int.le_of_lt (Int.pow_pos (by decide)))
  rw [e]
  unfold bitB
  generalize J / 2 ^ m = x at *
  by_cases c : x % 2 = 1
  · left; simp [c]; omega
  · right; simp [c]; omega
theorem quad {A B : Cpt pN} (hA : OnC am bm A) (hB : OnC am bm B) : ad am (ad am A B) (ad am A B) = ad am (ad am A A) (ad am B B) := by
  rw [p256.assoc hA hB (p256.on hA hB), p256.assoc hA hA (p256.on hB hB), ← p256.assoc hB hA hB, p256.comm hB hA, p256.assoc hA hB hB]
theorem slip {A B Q : Cpt pN} (hA : OnC am bm A) (hB : OnC am bm B) (hQ : OnC am bm Q) : ad am (ad am A B) Q = ad am (ad am A Q) B := by
  rw [p256.assoc hA hB hQ, p256.comm hB hQ, ← p256.assoc hA hQ hB]
theorem bsts_rep {J K X Y : Int} {i : Bool} {P : Cpt pN} (hJ : 0 ≤ J) (hK : 0 ≤ K) (hP : OnC am bm P) (h : Pn X Y i P) (L : Nat) (jL : J < 2 ^ L) (kL : K < 2 ^ L) :
    ∀ k, k ≤ L → Rj (bsts dT (aT gx gy false) (aT X Y i) (up2 J K L k)) (ad am (mu am (J / 2 ^ (L - k)).toNat gP) (mu am (K / 2 ^ (L - k)).toNat P))
  | 0, _ => by
    rw [Nat.sub_zero, Int.ediv_eq_zero_of_lt hJ jL, Int.ediv_eq_zero_of_lt hK kL]
    show Rj (0, 0, true, 1) (ad am none none)
    rw [p256.zl (P := none) trivial]
    exact rj_none _ _ _ (inn_lit 0 (by decide) (by decide)) (inn_lit 0 (by decide) (by decide)) (inn_lit 1 (by decide) (by decide))
  | k + 1, hk => by
    have r := bsts_rep hJ hK hP h L jL kL k (by omega)
    rw [up2_succ, bsts_snoc]
    have eL : L - k = (L - (k + 1)) + 1 := by omega
    have eB : L - 1 - k = L - (k + 1) := by omega
    rw [eL] at r
    rw [eB]
    generalize L - (k + 1) = m at *
    generalize bsts dT (aT gx gy false) (aT X Y i) (up2 J K L k) = s at *
    have hA := p256.mu_on g_on (J / 2 ^ (m + 1)).toNat
    have hB := p256.mu_on hP (K / 2 ^ (m + 1)).toNat
    have hAA := p256.on hA hA
    have hBB := p256.on hB hB
    have d := r.dbl (p256.on hA hB)
    rw [quad hA hB] at d
    have two : ∀ t, Rj t (ad am (mu am (J / 2 ^ m).toNat gP) (ad am (mu am (K / 2 ^ (m + 1)).toNat P) (mu am (K / 2 ^ (m + 1)).toNat P))) → Rj ((if bitB K m = true then aT X Y i else id) t) (ad am (mu am (J / 2 ^ m).toNat gP) (mu am (K / 2 ^ m).toNat P)) := fun t ht => by
      have hC := p256.mu_on g_on (J / 2 ^ m).toNat
      rcases bit_half K hK m with ⟨c, e⟩ | ⟨c, e⟩
      · rw [c, if_pos rfl, mu_odd P hP _ _ e, ← p256.assoc hC hBB hP]
        exact ht.add (p256.on hC hBB) hP h
      · rw [c, if_neg (by decide), mu_two P hP _ _ e]
        exact ht
    show Rj ((if bitB K m = true then aT X Y i else id) ((if bitB J m = true then aT gx gy false else id) (dT s))) _
    apply two
    rcases bit_half J hJ m with ⟨c, e⟩ | ⟨c, e⟩
    · rw [c, if_pos rfl, mu_odd gP g_on _ _ e, ← slip hAA hBB g_on]
      exact d.add (p256.on hAA hBB) g_on gP_pn
    · rw [c, if_neg (by decide), mu_two gP g_on _ _ e]
      exact d
def runs (s : T4) (l : List Bool) : T4 := l.foldl (fun s b => if b = true then aT gx gy false (dT s) else dT s) s
theorem runs_app (s : T4) (l m : List Bool) : runs s (l ++ m) = runs (runs s l) m := by simp [runs]
theorem run0 : runs (0, 0, true, 1) [true, true, true, true, true, true, true, true, true, true, true, true, true, true, true, true] = (25471562632124155089682290745267626499022734851395345598489761232496028803578, 62701486346377328761836178893533326460236574714802064784913476197677299142437, false, 53489924027412332200858668414834095921856291337436969074432180500367236965754) := by decide +kernel
theorem run1 : runs (25471562632124155089682290745267626499022734851395345598489761232496028803578, 62701486346377328761836178893533326460236574714802064784913476197677299142437, false, 53489924027412332200858668414834095921856291337436969074432180500367236965754) [true, true, true, true, true, true, true, true, true, true, true, true, true, true, true, true] = (84345023797906009396720090523863060409557727138643858655992444399223318165420, 68099732833447190452823107651898236299636954123394417062571496277418751889511, false, 3890904813244826789877597728913907295972947819454069007141846131070098629967) := by decide +kernel
theorem run2 : runs (84345023797906009396720090523863060409557727138643858655992444399223318165420, 68099732833447190452823107651898236299636954123394417062571496277418751889511, false, 3890904813244826789877597728913907295972947819454069007141846131070098629967) [false, false, false, false, false, false, false, false, false, false, false, false, false, false, false, false] = (14258438827592398130794973298343812171131123793597507073880586063730625668726, 42205713258738829848666917423838695395301349300049204845014542621875728001997, false, 35914404287881753063160338179274899686278141651770559034202796054123379863590) := by decide +kernel
theorem run3 : runs (14258438827592398130794973298343812171131123793597507073880586063730625668726, 42205713258738829848666917423838695395301349300049204845014542621875728001997, false, 35914404287881753063160338179274899686278141651770559034202796054123379863590) [false, false, false, false, false, false, false, false, false, false, false, false, false, false, false, false] = (86263771528568472843886490217852942747875885923134673977357184172083287311878, 60768443677682411682504001560098049905332365084766440746720831276184977832851, false, 9648519570400092799794999791570094091573923260682400745798589373963277932821) := by decide +kernel
theorem run4 : runs (86263771528568472843886490217852942747875885923134673977357184172083287311878, 60768443677682411682504001560098049905332365084766440746720831276184977832851, false, 9648519570400092799794999791570094091573923260682400745798589373963277932821) [true, true, true, true, true, true, true, true, true, true, true, true, true, true, true, true] = (8110933364292186935158159307802549457348782237044787476097382661520036896493, 24666001428068461724562253553526982731382611447549049065930340345199607336661, false, 104189773441731309546724258687460323471418456695506275457316103461669687345190) := by decide +kernel
theorem run5 : runs (8110933364292186935158159307802549457348782237044787476097382661520036896493, 24666001428068461724562253553526982731382611447549049065930340345199607336661, false, 104189773441731309546724258687460323471418456695506275457316103461669687345190) [true, true, true, true, true, true, true, true, true, true, true, true, true, true, true, true] = (96413586825826604824478982837389453884785380241935290076448345511560154329312, 19069142910493552894596133888598953640384132260356127830433290472303080410480, false, 97414011826413441723065940408429506891286783685813086287193371218619166232044) := by decide +kernel
theorem run6 : runs (96413586825826604824478982837389453884785380241935290076448345511560154329312, 19069142910493552894596133888598953640384132260356127830433290472303080410480, false, 97414011826413441723065940408429506891286783685813086287193371218619166232044) [true, true, true, true, true, true, true, true, true, true, true, true, true, true, true, true] = (40500097473506696930400903660339690185559504874877979863286129610123116859232, 32357905399412989329322549646350691192336163744433563325774079711615759686764, false, 110530611093605854257721452477431777287344900409393958924516651195292041969203) := by decide +kernel
theorem run7 : runs (40500097473506696930400903660339690185559504874877979863286129610123116859232, 32357905399412989329322549646350691192336163744433563325774079711615759686764, false, 110530611093605854257721452477431777287344900409393958924516651195292041969203) [true, true, true, true, true, true, true, true, true, true, true, true, true, true, true, true] = (103339624542240680651276621392048883727482325683992433097815583388373932014465, 55929039574175145157104155174538846751175587485259807738881094041674604512698, false, 80118609935856562161688291176213143221676837718613089970639500335256596206461) := by decide +kernel
theorem run8 : runs (103339624542240680651276621392048883727482325683992433097815583388373932014465, 55929039574175145157104155174538846751175587485259807738881094041674604512698, false, 80118609935856562161688291176213143221676837718613089970639500335256596206461) [true, false, true, true, true, true, false, false, true, true, true, false, false, true, true, false] = (114895790944018885748708566730436866151957850159150768463144315912613312834755, 13734821598395104150394682180527854248491662763916284073388549742418830898768, false, 72441883658097862771178982954207189555657682663830202446298841681935160264121) := by decide +kernel
theorem run9 : runs (114895790944018885748708566730436866151957850159150768463144315912613312834755, 13734821598395104150394682180527854248491662763916284073388549742418830898768, false, 72441883658097862771178982954207189555657682663830202446298841681935160264121) [true, true, true, true, true, false, true, false, true, false, true, false, true, true, false, true] = (108288925317602983754239896456692744080906346963929045970989647478977799424437, 19638444659848801971322383821628713213812126577363147638292788960180358735713, false, 81919748294914630930079753280351623300942746331976856694602145793773778113072) := by decide +kernel
theorem run10 : runs (108288925317602983754239896456692744080906346963929045970989647478977799424437, 19638444659848801971322383821628713213812126577363147638292788960180358735713, false, 81919748294914630930079753280351623300942746331976856694602145793773778113072) [true, false, true, false, false, true, true, true, false, false, false, true, false, true, true, true] = (35601782926061080725342127891119738986813650910939665024069342102187363698100, 42437397548850956660638366928111928538403797076083167013164171046131742666720, false, 70639180708998229231779925815061371833576958046063986965216464638905479230742) := by decide +kernel
theorem run11 : runs (35601782926061080725342127891119738986813650910939665024069342102187363698100, 42437397548850956660638366928111928538403797076083167013164171046131742666720, false, 70639180708998229231779925815061371833576958046063986965216464638905479230742) [true, false, false, true, true, true, true, false, true, false, false, false, false, true, false, false] = (72216498357248373595617342608847000072492301172688896747689180819680288815740, 70234413568882346745716667123269930481510578941496790189270509323975897506999, false, 11923175345935461418803465952284884858045243789624088257357821660947428358899) := by decide +kernel
theorem run12 : runs (72216498357248373595617342608847000072492301172688896747689180819680288815740, 70234413568882346745716667123269930481510578941496790189270509323975897506999, false, 11923175345935461418803465952284884858045243789624088257357821660947428358899) [true, true, true, true, false, false, true, true, true, false, true, true, true, false, false, true] = (81005098798387122449099007427327262147278576411244982535900904993402611642897, 109083380728313850782859941475752032983548759457484395717899493440967251493120, false, 45085848833241726636964441218351475749681336147401889193865424337658599763687) := by decide +kernel
theorem run13 : runs (81005098798387122449099007427327262147278576411244982535900904993402611642897, 109083380728313850782859941475752032983548759457484395717899493440967251493120, false, 45085848833241726636964441218351475749681336147401889193865424337658599763687) [true, true, false, false, true, false, true, false, true, true, false, false, false, false, true, false] = (97368493105295914948494552794252027387782896837060217838095376686386524367842, 96011864846664944525627438224528077971586723377219866612533986675008349502217, false, 99941046209707879547905255637130043890959649889016317473344967328153383218821) := by decide +kernel
theorem run14 : runs (97368493105295914948494552794252027387782896837060217838095376686386524367842, 96011864846664944525627438224528077971586723377219866612533986675008349502217, false, 99941046209707879547905255637130043890959649889016317473344967328153383218821) [true, true, true, true, true, true, false, false, false, true, true, false, false, false, true, true] = (108792166327187962099416262845413913871969206396467820563028959430128949664310, 66827973165753439032079455993638137932455173658857852222501935118050323344499, false, 52431857671128098958158490019148155512649357376272821360905488660442111387226) := by decide +kernel
theorem run15 : runs (108792166327187962099416262845413913871969206396467820563028959430128949664310, 66827973165753439032079455993638137932455173658857852222501935118050323344499, false, 52431857671128098958158490019148155512649357376272821360905488660442111387226) [false, false, true, false, false, true, false, true, false, true, false, true, false, false, false, true] = (0, 0, true, 1) := by decide +kernel
theorem runs_rep (l : List Bool) : ∀ (s : T4) (m : Nat), Rj s (mu am m gP) → Rj (runs s l) (mu am (l.foldl (fun m b => 2 * m + (if b = true then 1 else 0)) m) gP) := by
  induction l with
  | nil => intro s m h; exact h
  | cons b l ih =>
    intro s m h
    show Rj (runs (if b = true then aT gx gy false (dT s) else dT s) l) _
    refine ih _ _ ?_
    have hm := p256.mu_on g_on m
    cases b
    · rw [if_neg (by decide)]
      show Rj (dT s) (mu am (2 * m) gP)
      rw [mu_two gP g_on m _ rfl]
      exact h.dbl hm
    · rw [if_pos rfl]
      show Rj (aT gx gy false (dT s)) (mu am (2 * m + 1) gP)
      rw [mu_odd gP g_on m _ rfl]
      exact (h.dbl hm).add (p256.on hm hm) g_on gP_pn
def nN : Nat := 115792089210356248762697446949407573529996955224135760342422259061068512044369
def nbits : List Bool := [true, true, true, true, true, true, true, true, true, true, true, true, true, true, true, true] ++ ([true, true, true, true, true, true, true, true, true, true, true, true, true, true, true, true] ++ ([false, false, false, false, false, false, false, false, false, false, false, false, false, false, false, false] ++ ([false, false, false, false, false, false, false, false, false, false, false, false, false, false, false, false] ++ ([true, true, true, true, true, true, true, true, true, true, true, true, true, true, true, true] ++ ([true, true, true, true, true, true, true, true, true, true, true, true, true, true, true, true] ++ ([true, true, true, true, true, true, true, true, true, true, true, true, true, true, true, true] ++ ([true, true, true, true, true, true, true, true, true, true, true, true, true, true, true, true] ++ ([true, false, true, true, true, true, false, false, true, true, true, false, false, true, true, false] ++ ([true, true, true, true, true, false, true, false, true, false, true, false, true, true, false, true] ++ ([true, false, true, false, false, true, true, true, false, false, false, true, false, true, true, true] ++ ([true, false, false, true, true, true, true, false, true, false, false, false, false, true, false, false] ++ ([true, true, true, true, false, false, true, true, true, false, true, true, true, false, false, true] ++ ([true, true, false, false, true, false, true, false, true, true, false, false, false, false, true, false] ++ ([true, true, true, true, true, true, false, false, false, true, true, false, false, false, true, true] ++ ([false, false, true, false, false, true, false, true, false, true, false, true, false, false, false, true])))))))))))))))
theorem nbits_n : nbits.foldl (fun m b => 2 * m + (if b = true then 1 else 0)) 0 = nN := by decide +kernel
theorem nbits_run : runs (0, 0, true, 1) nbits = (0, 0, true, 1) := by
  unfold nbits
  rw [runs_app, run0, runs_app, run1, runs_app, run2, runs_app, run3, runs_app, run4, runs_app, run5, runs_app, run6, runs_app, run7, runs_app, run8, runs_app, run9, runs_app, run10, runs_app, run11, runs_app, run12, runs_app, run13, runs_app, run14, run15]
theorem g_order : mu am nN gP = none := by
  have h := runs_rep nbits (0, 0, true, 1) 0 (rj_none _ _ _ (inn_lit 0 (by decide) (by decide)) (inn_lit 0 (by decide) (by decide)) (inn_lit 1 (by decide) (by decide)))
  rw [nbits_run, nbits_n] at h
  exact rp_true.1 h.2.2.2
theorem g_ne : gP ≠ none := by simp [gP]
theorem no_two (P : Cpt pN) (hP : OnC am bm P) (h : ad am P P = none) : P = none := by
  match P with
  | none => rfl
  | some (x, y) =>
    exfalso
    have S := p256.sum hP hP
    rw [h] at S
    rcases S with ⟨z1, z2⟩ | ⟨z1, z2⟩ | ⟨_, _, _, g, z1, z2, z3⟩ | ⟨_, _, _, _, _, _, _, _, _, _, _, _, z1, z2, z3⟩
    · first | (cases z1; done) | (cases z1; cases z2; done)
    · first | (cases z1; done) | (cases z1; cases z2; done)
    · cases z1; cases z2; cases z3; exact p256.up x y hP g
    · first | (cases z1; done) | (cases z1; cases z2; done) | (cases z1; cases z2; cases z3; done)
theorem pri_n : NT.Pri nN := NT.p35
theorem all_g (P : Cpt pN) (hP : OnC am bm P) : ∃ k, P = mu am k gP := all_mu p256.toCv (by decide +kernel) g_on g_ne pri_n (by decide +kernel) g_order (by decide +kernel) no_two P hP
theorem n_none (P : Cpt pN) (hP : OnC am bm P) : mu am nN P = none := by
  obtain ⟨k, e⟩ := all_g P hP
  rw [e, p256.mu_swap g_on, g_order, p256.mu_none]
end Go.Proofs.YtoolbnbfbegjaaaGreat
namespace Go.Proofs.YtoolbnbfbegjaaaGreat
open NT
variable [NeZero pN]
theorem n_pos : 0 < nN := by decide +kernel
theorem mu_mod_g (k : Nat) : mu am k gP = mu am (k % nN) gP := p256.mu_mod g_on g_order k
theorem mu_mod_any (P : Cpt pN) (hP : OnC am bm P) (k : Nat) : mu am k P = mu am (k % nN) P := p256.mu_mod hP (n_none P hP) k
theorem mu_g_iff (i j : Nat) : mu am i gP = mu am j gP ↔ i % nN = j % nN := by
  constructor
  · intro h
    rw [mu_mod_g i, mu_mod_g j] at h
    exact p256.mu_inj g_on g_ne pri_n g_order (Nat.mod_lt _ n_pos) (Nat.mod_lt _ n_pos) h
  · intro h
    rw [mu_mod_g i, mu_mod_g j, h]
theorem mu_g_none (i : Nat) : mu am i gP = none ↔ i % nN = 0 := by
  have h := mu_g_iff i 0
  rw [Nat.zero_mod] at h
  exact h
theorem ng_uniq {P Q : Cpt pN} (hP : OnC am bm P) (hQ : OnC am bm Q) (h : ad am P Q = none) : Q = ngP P :=
  p256.cut hP hQ (ng_on hP) (by rw [h, p256.ng hP])
theorem mu_neg (P : Cpt pN) (hP : OnC am bm P) (i j : Nat) (h : (i + j) % nN = 0) : mu am j P = ngP (mu am i P) := by
  refine ng_uniq (p256.mu_on hP i) (p256.mu_on hP j) ?_
  rw [← p256.mu_add hP, mu_mod_any P hP, h]; rfl
theorem ng_x (P : Cpt pN) : ptx (ngP P) = ptx P ∧ pti (ngP P) = pti P := by
  match P with
  | none => exact ⟨rfl, rfl⟩
  | some (x, y) => exact ⟨rfl, rfl⟩
theorem pti_none (P : Cpt pN) : pti P = true ↔ P = none := by
  match P with
  | none => simp [pti]
  | some (x, y) => simp [pti]
theorem same_x {P Q : Cpt pN} (hP : OnC am bm P) (hQ : OnC am bm Q) (nP : P ≠ none) (nQ : Q ≠ none) (h : ptx P = ptx Q) : Q = P ∨ Q = ngP P := by
  match P, Q, hP, hQ with
  | none, _, _, _ => exact absurd rfl nP
  | some _, none, _, _ => exact absurd rfl nQ
  | some (x, y), some (u, v), hP, hQ =>
    have e : x = u := fi_ext h
    subst e
    by_cases c : y + v = 0
    · right
      show some (x, v) = some (x, -y)
      have : v = -y := by
        have t : v = (y + v) - y := by generalize y = a at *; clear c h hP hQ nP nQ; grind
        rw [t, c]; clear t c h hP hQ nP nQ; generalize y = a; grind
      rw [this]
    · left
      rw [on_uniq p256.fl hP hQ c]
theorem chk_pt (z w r d : Nat) : ad am (mu am (z * w % nN) gP) (mu am (r * w % nN) (mu am d gP)) = mu am (w * (z + r * d)) gP := by
  have hQ := p256.mu_on g_on d
  rw [← mu_mod_g, ← mu_mod_any _ hQ, ← p256.mu_mul g_on, ← p256.mu_add g_on]
  congr 1
  rw [Nat.mul_add, Nat.mul_comm z w, Nat.mul_comm r w, ← Nat.mul_assoc, Nat.mul_comm d, Nat.mul_right_comm, Nat.mul_assoc]
theorem n_cut {a b c : Nat} (hc : ¬ nN ∣ c) (h : c * a % nN = c * b % nN) : a % nN = b % nN := by
  have hz : (c : Int) * ((a : Int) - b) % nN = 0 := by
    have : ((c * a : Nat) : Int) % nN = ((c * b : Nat) : Int) % nN := by rw [← Int.natCast_emod, ← Int.natCast_emod, h]
    rw [Int.mul_sub]
    push_cast at this
    exact Int.emod_eq_emod_iff_emod_sub_eq_zero.1 this
  have hd : (nN : Int) ∣ (c : Int) * ((a : Int) - b) := Int.dvd_of_emod_eq_zero hz
  have hd2 : nN ∣ c * ((a : Int) - b).natAbs := by
    have := Int.natAbs_dvd_natAbs.2 hd
    rw [Int.natAbs_mul, Int.natAbs_natCast, Int.natAbs_natCast] at this
    exact this
  rcases pri_n.dvd_mul hd2 with t | t
  · exact absurd t hc
  · have t2 : (nN : Int) ∣ (a : Int) - b := Int.natAbs_dvd_natAbs.1 (by rw [Int.natAbs_natCast]; exact t)
    have t3 : (a : Int) % nN = (b : Int) % nN := Int.emod_eq_emod_iff_emod_sub_eq_zero.2 (Int.emod_eq_zero_of_dvd t2)
    have t4 : ((a % nN : Nat) : Int) = ((b % nN : Nat) : Int) := by rw [Int.natCast_emod, Int.natCast_emod, t3]
    omega
theorem sign_k {z r d k s w : Nat} (h1 : k * s % nN = (z + r * d) % nN) (h2 : s * w % nN = 1 % nN) : w * (z + r * d) % nN = k % nN := by
  rw [Nat.mul_mod, ← h1, ← Nat.mul_mod, show w * (k * s) = k * (s * w) by rw [Nat.mul_comm w, Nat.mul_assoc], Nat.mul_mod, h2, ← Nat.mul_mod, Nat.mul_one]
theorem sign_pt {z r d k s w : Nat} (h1 : k * s % nN = (z + r * d) % nN) (h2 : s * w % nN = 1 % nN) : ad am (mu am (z * w % nN) gP) (mu am (r * w % nN) (mu am d gP)) = mu am k gP := by
  rw [chk_pt, mu_g_iff]; exact sign_k h1 h2
theorem w_nd {s w : Nat} (h2 : s * w % nN = 1 % nN) : ¬ nN ∣ w := fun g => by
  have : s * w % nN = 0 := Nat.mod_eq_zero_of_dvd (Nat.dvd_trans g (Nat.dvd_mul_left w s))
  rw [this] at h2
  revert h2
  decide +kernel
theorem two_digests {z y r d k s w : Nat} (h1 : k * s % nN = (z + r * d) % nN) (h2 : s * w % nN = 1 % nN) (hk : k % nN ≠ 0)
    (h : ad am (mu am (y * w % nN) gP) (mu am (r * w % nN) (mu am d gP)) ≠ none)
    (hx : ptx (ad am (mu am (y * w % nN) gP) (mu am (r * w % nN) (mu am d gP))) = ptx (mu am k gP)) : y % nN = z % nN ∨ (z + y + 2 * (r * d)) % nN = 0 := by
  have nk : mu am k gP ≠ none := fun e => hk ((mu_g_none k).1 e)
  rw [chk_pt] at h hx
  have wz := sign_k h1 h2
  rcases same_x (p256.mu_on g_on k) (p256.mu_on g_on _) nk h hx.symm with e | e
  · left
    rw [mu_g_iff, ← wz] at e
    have := n_cut (w_nd h2) e
    have h3 : (y + r * d + (nN * (r * d) - r * d)) % nN = (z + r * d + (nN * (r * d) - r * d)) % nN := by rw [Nat.add_mod, this, ← Nat.add_mod]
    have n1 : r * d ≤ nN * (r * d) := Nat.le_mul_of_pos_left _ n_pos
    rw [show y + r * d + (nN * (r * d) - r * d) = y + nN * (r * d) by omega, show z + r * d + (nN * (r * d) - r * d) = z + nN * (r * d) by omega, Nat.add_mul_mod_self_left, Nat.add_mul_mod_self_left] at h3
    exact h3
  · right
    -- the sum of both is none
    have hs : ad am (mu am k gP) (mu am (w * (y + r * d)) gP) = none := by rw [e]; exact p256.ng (p256.mu_on g_on k)
    rw [← p256.mu_add g_on, mu_g_none, Nat.add_mod, ← wz, ← Nat.add_mod, ← Nat.mul_add] at hs
    have hd : nN ∣ w * (z + r * d + (y + r * d)) := Nat.dvd_of_mod_eq_zero hs
    rcases pri_n.dvd_mul hd with t | t
    · exact absurd t (w_nd h2)
    · rw [show z + y + 2 * (r * d) = z + r * d + (y + r * d) by omega]
      exact Nat.mod_eq_zero_of_dvd t
theorem other_pt (P : Cpt pN) (hP : OnC am bm P) {z r w v : Nat} (h : (w + v) % nN = 0) :
    ad am (mu am (z * v % nN) gP) (mu am (r * v % nN) P) = ngP (ad am (mu am (z * w % nN) gP) (mu am (r * w % nN) P)) := by
  rw [← mu_mod_g, ← mu_mod_g, ← mu_mod_any P hP, ← mu_mod_any P hP]
  have a1 := p256.mu_on g_on (z * w)
  have a2 := p256.mu_on g_on (z * v)
  have b1 := p256.mu_on hP (r * w)
  have b2 := p256.mu_on hP (r * v)
  have hd : nN ∣ w + v := Nat.dvd_of_mod_eq_zero h
  have e1 : mu am (z * v) gP = ngP (mu am (z * w) gP) := mu_neg gP g_on _ _ (by rw [← Nat.mul_add]; exact Nat.mod_eq_zero_of_dvd (Nat.dvd_trans hd (Nat.dvd_mul_left _ z)))
  have e2 : mu am (r * v) P = ngP (mu am (r * w) P) := mu_neg P hP _ _ (by rw [← Nat.mul_add]; exact Nat.mod_eq_zero_of_dvd (Nat.dvd_trans hd (Nat.dvd_mul_left _ r)))
  rw [e1, e2]
  exact p256.is (ng_on a1) (ng_on b1) (p256.sum a1 b1).neg
end Go.Proofs.YtoolbnbfbegjaaaGreat
