/- X25519's ladder tells the first coordinates of multiples; the order of the base. -/
import Derived.Test.YtphcpdfaijcjjaaJ2
import Derived.Test.YtphcpdfaijcjjaaJ32
import Derived.Test.YtphcpdfaijcjjaaJ1
set_option linter.all false
set_option maxRecDepth 100000
namespace Go.Proofs.Ytphcpdfaijcjjaa
open NT
/-- The prime of the curve. -/
def qN : Nat := 57896044618658097711785492504343953926634992332820282019728792003956564819949
variable [NeZero qN]
theorem pri_q : Pri qN := NT.p13
theorem pp_qN : pp = (qN : Int) := rfl
theorem qj_fa (A B : Int) : fi qN (fa A B) = fi qN A + fi qN B := by unfold fa; rw [pp_qN, fi_mod, fi_add]
theorem qj_fs (A B : Int) : fi qN (fs A B) = fi qN A - fi qN B := by unfold fs; rw [pp_qN, fi_mod, fi_sub]
theorem qj_fm (A B : Int) : fi qN (fm A B) = fi qN A * fi qN B := by unfold fm; rw [pp_qN, fi_mod, fi_mul]
/-- A power. -/
def fpq (x : Fin qN) : Nat → Fin qN
  | 0 => 1
  | n + 1 => fpq x n * x
theorem fpq_val (x : Fin qN) : ∀ n, (fpq x n).val = x.val ^ n % qN
  | 0 => by
    show (1 : Fin qN).val = x.val ^ 0 % qN
    rw [Nat.pow_zero]; rfl
  | n + 1 => by
    show (fpq x n * x).val = _
    rw [Fin.val_mul, fpq_val x n, Nat.mod_mul_mod, Nat.pow_succ]
theorem fpq_zero : ∀ n, 0 < n → fpq (0 : Fin qN) n = 0
  | n + 1, _ => by
    show fpq 0 n * 0 = 0
    generalize fpq 0 n = t
    grind
theorem fpq_inv (x : Fin qN) (h : x ≠ 0) : x * fpq x (qN - 2) = 1 := by
  have nd : ¬ qN ∣ x.val := fun g => h ((fz_iff x).2 g)
  have f := NT.fermat pri_q x.val nd
  apply Fin.ext
  have e : (qN - 2).succ = qN - 1 := by decide +kernel
  rw [Fin.val_mul, fpq_val, Nat.mul_mod_mod, Nat.mul_comm, ← Nat.pow_succ, e, f]
  rfl
theorem fpq_one (x : Fin qN) (h : x ≠ 0) : fpq x (qN - 1) = 1 := by
  have nd : ¬ qN ∣ x.val := fun g => h ((fz_iff x).2 g)
  have f := NT.fermat pri_q x.val nd
  apply Fin.ext
  rw [fpq_val, f]
  rfl
/-- A third of 486662. -/
def c3I : Int := 19298681539552699237261830834781317975544997444273427339909597334652188435537
def cF : Fin qN := fi qN c3I
def kF : Fin qN := fi qN 121665
theorem one_q : (1 : Fin qN) ≠ 0 := by
  rw [← fi_one, ← fi_zero]; intro h; have := fi_eq.1 h; revert this; decide +kernel
theorem two_q : (1 + 1 : Fin qN) ≠ 0 := by
  rw [← fi_one, ← fi_zero, ← fi_add]; intro h; have := fi_eq.1 h; revert this; decide +kernel
theorem p2_q : cF + cF + cF + (1 + 1) ≠ 0 := by
  unfold cF; rw [← fi_one, ← fi_zero, ← fi_add, ← fi_add, ← fi_add, ← fi_add]; intro h; have := fi_eq.1 h; revert this; decide +kernel
theorem m2_q : cF + cF + cF - (1 + 1) ≠ 0 := by
  unfold cF; rw [← fi_one, ← fi_zero, ← fi_add, ← fi_add, ← fi_add, ← fi_sub]; intro h; have := fi_eq.1 h; revert this; decide +kernel
theorem hk_q : cF + cF + cF = (kF + kF + (kF + kF)) + (1 + 1) := by
  unfold cF kF; rw [← fi_one, ← fi_add, ← fi_add, ← fi_add, ← fi_add, ← fi_add, ← fi_add, fi_eq]; decide +kernel
theorem sm_q : Smooth (ma cF) (mb cF) := smooth_of (fl_of pri_q) one_q two_q p2_q m2_q
theorem fw_val {q : Nat} [NeZero q] (x : Fin q) : ∀ n, (fpw x n).val = x.val ^ n % q
  | 0 => by
    have : (1 : Fin q).val = 1 % q := by rw [← Fin.val_ofNat q 1]; rfl
    rw [Nat.pow_zero]; exact this
  | n + 1 => by show (fpw x n * x).val = _; rw [Fin.val_mul, fw_val x n, Nat.mod_mul_mod, Nat.pow_succ]
theorem pwq_of {q : Nat} [NeZero q] (h : Pri q) (x : Fin q) (hx : x ≠ 0) : x * fpw x (q - 2) = 1 := by
  have nd : ¬ q ∣ x.val := fun g => hx ((fz_iff x).2 g)
  have f := fermat h x.val nd
  have q2 := h.1
  apply Fin.ext
  have : (1 : Fin q).val = 1 % q := by rw [← Fin.val_ofNat q 1]; rfl
  rw [Fin.val_mul, fw_val, Nat.mul_mod_mod, Nat.mul_comm, ← Nat.pow_succ, show (q - 2).succ = q - 1 by omega, f, this, Nat.mod_eq_of_lt (by omega)]
theorem mg : Mg cF kF where
  C := ⟨fl_of pri_q, sm_q, pwq_of pri_q⟩
  two := two_q
  hk := hk_q
  p2 := p2_q
  m2 := m2_q
/-- A state of the ladder stands for a multiple and the next. -/
def St (s : Int × Int × Int × Int) (P : Cpt qN) (m : Nat) : Prop := Pj cF (fi qN s.1) (fi qN s.2.1) (mu (ma cF) m P) ∧ Pj cF (fi qN s.2.2.1) (fi qN s.2.2.2) (mu (ma cF) (m + 1) P)
theorem St.step {U : Int} {x1 y1 : Fin qN} (hP : OnC (ma cF) (mb cF) (some (x1, y1))) (hU : fi qN U = x1 - cF) (hu : x1 - cF ≠ 0) {s : Int × Int × Int × Int} {m : Nat} (h : St s (some (x1, y1)) m) (b : Bool) :
    St (lstep U s b) (some (x1, y1)) (2 * m + (if b = true then 1 else 0)) := by
  obtain ⟨A, C, B, D⟩ := s
  obtain ⟨pQ, pR⟩ := h
  simp only at pQ pR
  have hQ := mg.C.mu_on hP m
  have hR := mg.C.mu_on hP (m + 1)
  have hd : ad (ma cF) (mu (ma cF) m (some (x1, y1))) (some (x1, y1)) = mu (ma cF) (m + 1) (some (x1, y1)) := rfl
  have dQ := pQ.dbl mg hQ
  have dR := pR.dbl mg hR
  have sQ := Pj.add mg hQ hR hP hd hu pQ pR
  rw [← mg.C.mu_add hP] at dQ dR sQ
  cases b
  · refine ⟨?_, ?_⟩
    · simp only [lstep, Bool.false_eq_true, if_false, sa, sc', qj_fa, qj_fs, qj_fm]
      rw [show 2 * m + 0 = m + m by omega]
      exact dQ
    · simp only [lstep, Bool.false_eq_true, if_false, sb, sd, sda, scb, qj_fa, qj_fs, qj_fm]
      rw [show 2 * m + 0 + 1 = m + (m + 1) by omega, hU]
      exact sQ
  · refine ⟨?_, ?_⟩
    · simp only [lstep, if_true, sb, sd, sda, scb, qj_fa, qj_fs, qj_fm]
      rw [show 2 * m + 1 = m + (m + 1) by omega, hU]
      have e1 : ∀ a c b d : Fin qN, (a - c) * (b + d) + (a + c) * (b - d) = (b - d) * (a + c) + (b + d) * (a - c) := fun a c b d => by grind
      have e2 : ∀ a c b d : Fin qN, ((a - c) * (b + d) - (a + c) * (b - d)) * ((a - c) * (b + d) - (a + c) * (b - d)) = ((b - d) * (a + c) - (b + d) * (a - c)) * ((b - d) * (a + c) - (b + d) * (a - c)) := fun a c b d => by grind
      rw [e1, e2]
      exact sQ
    · simp only [lstep, if_true, sa, sc', qj_fa, qj_fs, qj_fm]
      rw [show 2 * m + 1 + 1 = (m + 1) + (m + 1) by omega]
      exact dR
/-- The number of bits, the highest first. -/
def nb2 (m : Nat) (l : List Bool) : Nat := l.foldl (fun m b => 2 * m + (if b = true then 1 else 0)) m
theorem St.fold {U : Int} {x1 y1 : Fin qN} (hP : OnC (ma cF) (mb cF) (some (x1, y1))) (hU : fi qN U = x1 - cF) (hu : x1 - cF ≠ 0) (l : List Bool) : ∀ (s : Int × Int × Int × Int) (m : Nat), St s (some (x1, y1)) m → St (l.foldl (lstep U) s) (some (x1, y1)) (nb2 m l) := by
  induction l with
  | nil => intro s m h; exact h
  | cons b l ih => intro s m h; exact ih _ _ (h.step hP hU hu b)
theorem St.start {U : Int} {x1 y1 : Fin qN} (hP : OnC (ma cF) (mb cF) (some (x1, y1))) (hU : fi qN U = x1 - cF) : St (1, 0, U, 1) (some (x1, y1)) 0 := by
  refine ⟨?_, ?_⟩
  · show Pj cF (fi qN 1) (fi qN 0) none
    rw [fi_one, fi_zero]
    exact ⟨rfl, one_q⟩
  · have e : mu (ma cF) (0 + 1) (some (x1, y1)) = some (x1, y1) := mg.C.mu_one hP
    rw [e]
    show Pj cF (fi qN U) (fi qN 1) (some (x1, y1))
    rw [fi_one, hU]
    exact ⟨one_q, by generalize x1 - cF = t; grind⟩
/-- The base. -/
def bP : Cpt qN := some (fi qN 19298681539552699237261830834781317975544997444273427339909597334652188435546, fi qN 14781619447589544791020593568409986887264606134616475288964881837755586237401)
theorem b_on : OnC (ma cF) (mb cF) bP := by
  show fi qN 14781619447589544791020593568409986887264606134616475288964881837755586237401 * fi qN 14781619447589544791020593568409986887264606134616475288964881837755586237401 = fi qN 19298681539552699237261830834781317975544997444273427339909597334652188435546 * fi qN 19298681539552699237261830834781317975544997444273427339909597334652188435546 * fi qN 19298681539552699237261830834781317975544997444273427339909597334652188435546 + ma cF * fi qN 19298681539552699237261830834781317975544997444273427339909597334652188435546 + mb cF
  unfold ma mb cF
  rw [← fi_one]
  simp only [← fi_mul, ← fi_add, ← fi_sub]
  rw [fi_eq]
  decide +kernel
theorem b_9 : fi qN 9 = fi qN 19298681539552699237261830834781317975544997444273427339909597334652188435546 - cF := by
  unfold cF; rw [← fi_sub, fi_eq]; decide +kernel
theorem b_nz : fi qN 19298681539552699237261830834781317975544997444273427339909597334652188435546 - cF ≠ 0 := by
  rw [← b_9, ← fi_zero]; intro h; have := fi_eq.1 h; revert this; decide +kernel
/-- The order of the base. -/
def lN : Nat := 7237005577332262213973186563042994240857116359379907606001950938285454250989
theorem lb0 : [true, false, false, false, false, false, false, false, false, false, false, false, false, false, false].foldl (lstep 9) ((1, 0, 9, 1) : Int × Int × Int × Int) = (39090052129822418467380532709807739341198258350093490257573004809657479734015, 49645253524887116364938764713874054643237792634409215977322266034376935353595, 8743109581946811548172014695257563345902108562352083768509012748772305439771, 10614316062672481188996594529249678992124380882595371850335223509662844994668) := by decide +kernel
theorem lb1 : [false, false, false, false, false, false, false, false, false, false, false, false, false, false, false].foldl (lstep 9) ((39090052129822418467380532709807739341198258350093490257573004809657479734015, 49645253524887116364938764713874054643237792634409215977322266034376935353595, 8743109581946811548172014695257563345902108562352083768509012748772305439771, 10614316062672481188996594529249678992124380882595371850335223509662844994668) : Int × Int × Int × Int) = (2475374335441407018819248336646160617415750400250694202498815581178431931937, 16612103355010048807782810138514684566899325671276534875022867241974570412881, 24589094971673260030147323390850271170694784001170627519665200674288016956611, 42866381260038741130803068993284128788775368005681603300454537094431542308774) := by decide +kernel
theorem lb2 : [false, false, false, false, false, false, false, false, false, false, false, false, false, false, false].foldl (lstep 9) ((2475374335441407018819248336646160617415750400250694202498815581178431931937, 16612103355010048807782810138514684566899325671276534875022867241974570412881, 24589094971673260030147323390850271170694784001170627519665200674288016956611, 42866381260038741130803068993284128788775368005681603300454537094431542308774) : Int × Int × Int × Int) = (31172848159832549090044787792974158576887995505238849930779642143577947862987, 54660420276484601047851610867332308601996730828601049261180726610909656336218, 48523399122092088453618221864018622943374380482538383273824132989291265061256, 23021016532479541155659161154955358002649328599897616080108483671984645511041) := by decide +kernel
theorem lb3 : [false, false, false, false, false, false, false, false, false, false, false, false, false, false, false].foldl (lstep 9) ((31172848159832549090044787792974158576887995505238849930779642143577947862987, 54660420276484601047851610867332308601996730828601049261180726610909656336218, 48523399122092088453618221864018622943374380482538383273824132989291265061256, 23021016532479541155659161154955358002649328599897616080108483671984645511041) : Int × Int × Int × Int) = (8196124804063490222787549018077905037629152016429098963471273720877692602464, 48774959263696879448719788120297265170198547825961410714903007375092866895655, 27173490458251191922467093566348601057539027484681078405276142505472245528937, 2715115447195877516433200816751231704471568595815606583717051459978702314709) := by decide +kernel
theorem lb4 : [false, false, false, false, false, false, false, false, false, false, false, false, false, false, false].foldl (lstep 9) ((8196124804063490222787549018077905037629152016429098963471273720877692602464, 48774959263696879448719788120297265170198547825961410714903007375092866895655, 27173490458251191922467093566348601057539027484681078405276142505472245528937, 2715115447195877516433200816751231704471568595815606583717051459978702314709) : Int × Int × Int × Int) = (48551772442427594614428865651255330997157624405633075250062996858839933311006, 15536373255293791034305090631090658414911953543079740611309001190222344550230, 15129162520827896333790249353948529938247171138008671105428899966959909478039, 34552728563875530742975272165965975582715053312048239511826338875418218378676) := by decide +kernel
theorem lb5 : [false, false, false, false, false, false, false, false, false, false, false, false, false, false, false].foldl (lstep 9) ((48551772442427594614428865651255330997157624405633075250062996858839933311006, 15536373255293791034305090631090658414911953543079740611309001190222344550230, 15129162520827896333790249353948529938247171138008671105428899966959909478039, 34552728563875530742975272165965975582715053312048239511826338875418218378676) : Int × Int × Int × Int) = (20770115218113770499756087327804407193967544901325709672074574049088714742725, 56755846697949919562169745527991139498801766100236412258360414685984634193156, 25281882985348695435109355657706377525101782528671496217200813492378682647125, 43306961013251698620446571752350379558985242039934677654555466428146528211496) := by decide +kernel
theorem lb6 : [false, false, false, false, false, false, false, false, false, false, false, false, false, false, false].foldl (lstep 9) ((20770115218113770499756087327804407193967544901325709672074574049088714742725, 56755846697949919562169745527991139498801766100236412258360414685984634193156, 25281882985348695435109355657706377525101782528671496217200813492378682647125, 43306961013251698620446571752350379558985242039934677654555466428146528211496) : Int × Int × Int × Int) = (35595078038249262127484811204760375838665177182473217917792935694796417095488, 11162366684850757741749336988901566288070315043043853992326598713361865090376, 6362929103579614623974067943923001552441898654787257464821762892321537598789, 52533559455638616736756016923128501039699603612014217236179842934396272319268) := by decide +kernel
theorem lb7 : [false, false, false, false, false, false, false, false, false, false, false, false, false, false, false].foldl (lstep 9) ((35595078038249262127484811204760375838665177182473217917792935694796417095488, 11162366684850757741749336988901566288070315043043853992326598713361865090376, 6362929103579614623974067943923001552441898654787257464821762892321537598789, 52533559455638616736756016923128501039699603612014217236179842934396272319268) : Int × Int × Int × Int) = (16923321785099009208190862263714514841041371377949629066133995371919052518344, 43465194314353612052520267973237909545660069062507089069240551695317119137461, 38476632895984353646641619607747465396673494232660647876681682501089813305621, 41299038159444039875154065413787359087843053469159625100744486915264576686634) := by decide +kernel
theorem lb8 : [false, false, false, false, false, false, false, false, true, false, true, false, false, true, true].foldl (lstep 9) ((16923321785099009208190862263714514841041371377949629066133995371919052518344, 43465194314353612052520267973237909545660069062507089069240551695317119137461, 38476632895984353646641619607747465396673494232660647876681682501089813305621, 41299038159444039875154065413787359087843053469159625100744486915264576686634) : Int × Int × Int × Int) = (33594782084581924339830451875703181272697291274130743182045810991240580037923, 4411496142634231232904819779177902316879889062679118678368899126215336239991, 20264729736945513141864402281160867080092780336975226198528314527862153830703, 57226995436689484035762289177926026463790148004544927754859726824914075378183) := by decide +kernel
theorem lb9 : [false, true, true, true, true, false, true, true, true, true, true, false, false, true, true].foldl (lstep 9) ((33594782084581924339830451875703181272697291274130743182045810991240580037923, 4411496142634231232904819779177902316879889062679118678368899126215336239991, 20264729736945513141864402281160867080092780336975226198528314527862153830703, 57226995436689484035762289177926026463790148004544927754859726824914075378183) : Int × Int × Int × Int) = (14170320386125254918735902553304081812836108035271653997189987747844137705011, 11832689037751796251942431931491040123370229832203793699551067437490258293314, 52856375326991757719388045213778283604189089969702919037374606751268234905041, 1037363764590723655386652982830767409918583223502705341617877729812035929738) := by decide +kernel
theorem lb10 : [true, false, true, true, true, true, false, true, false, true, false, false, false, true, false].foldl (lstep 9) ((14170320386125254918735902553304081812836108035271653997189987747844137705011, 11832689037751796251942431931491040123370229832203793699551067437490258293314, 52856375326991757719388045213778283604189089969702919037374606751268234905041, 1037363764590723655386652982830767409918583223502705341617877729812035929738) : Int × Int × Int × Int) = (32935649823065017888520465305171080829055497838416978448544283303959800694925, 6766719984577450692414042487878600703481902672825611734442747462206201664161, 22146375737321041749634281992583586025102333080072037560416285333189933339696, 54723471251724870712352824926847648852176963345333637067567952882170980556549) := by decide +kernel
theorem lb11 : [true, true, true, true, false, true, true, true, true, false, false, true, true, true, false].foldl (lstep 9) ((32935649823065017888520465305171080829055497838416978448544283303959800694925, 6766719984577450692414042487878600703481902672825611734442747462206201664161, 22146375737321041749634281992583586025102333080072037560416285333189933339696, 54723471251724870712352824926847648852176963345333637067567952882170980556549) : Int × Int × Int × Int) = (31801666968548073499676790333183546784770882117534245356130532486274043117554, 48963151411611227695235529741677782650664632305179238520467575226285782638905, 38453799266237734121574962861467281609049382602152534207229923240176425569074, 49893072201111416500288037971678597313347272444614116958801503771289330992275) := by decide +kernel
theorem lb12 : [false, true, true, false, true, false, true, true, false, false, true, false, true, true, false].foldl (lstep 9) ((31801666968548073499676790333183546784770882117534245356130532486274043117554, 48963151411611227695235529741677782650664632305179238520467575226285782638905, 38453799266237734121574962861467281609049382602152534207229923240176425569074, 49893072201111416500288037971678597313347272444614116958801503771289330992275) : Int × Int × Int × Int) = (54426743798063573738049012108157496427103555138410444906979035550199339099963, 52322317954657415065632151914961280510017357708139390895192200906183590236593, 18355155921730609444338776030254976187970637050032583645243252644301916860798, 6630091618329375935830463248126268202782209990338096917458284625380909450336) := by decide +kernel
theorem lb13 : [false, false, false, false, false, true, false, false, true, false, false, true, true, false, false].foldl (lstep 9) ((54426743798063573738049012108157496427103555138410444906979035550199339099963, 52322317954657415065632151914961280510017357708139390895192200906183590236593, 18355155921730609444338776030254976187970637050032583645243252644301916860798, 6630091618329375935830463248126268202782209990338096917458284625380909450336) : Int × Int × Int × Int) = (5321517185746177925819675308982503184833425274996906193376215313210110518783, 5701847402598188296724886702907871279428325987544887059231891823610104575186, 48904530464005355652526474264565292002941136316711067010509040055526008545730, 19226118032948801424635610596823061885578696823010081171958391332088234271633) := by decide +kernel
theorem lb14 : [false, true, true, false, false, false, true, true, false, true, false, false, true, false, true].foldl (lstep 9) ((5321517185746177925819675308982503184833425274996906193376215313210110518783, 5701847402598188296724886702907871279428325987544887059231891823610104575186, 48904530464005355652526474264565292002941136316711067010509040055526008545730, 19226118032948801424635610596823061885578696823010081171958391332088234271633) : Int × Int × Int × Int) = (34500773570548844187148483640108437311023670689962550692360759553228996775246, 53799949778242964069452454132191839209434530183761879956501202788044974327676, 44164319091825219368590360205203464010740177346292876945519161961178080322713, 49196879751053461927758872158954700762536546254834427002955659149501432288406) := by decide +kernel
theorem lb15 : [true, true, false, false, true, true, true, true, false, true, false, true, true, true, false].foldl (lstep 9) ((34500773570548844187148483640108437311023670689962550692360759553228996775246, 53799949778242964069452454132191839209434530183761879956501202788044974327676, 44164319091825219368590360205203464010740177346292876945519161961178080322713, 49196879751053461927758872158954700762536546254834427002955659149501432288406) : Int × Int × Int × Int) = (41052248494161294637993572990032415328475261390525049538139833923669269745234, 11330434305407942160522516307798048609411845364180571419324033347933006373744, 52323447524635948313362815603550562932356822136242061162465653002546715338464, 53898185545320685134761473483120049815720671217629277611696158669740365567249) := by decide +kernel
theorem lb16 : [true, false, false, true, true, true, true, true, false, true, true, false, true].foldl (lstep 9) ((41052248494161294637993572990032415328475261390525049538139833923669269745234, 11330434305407942160522516307798048609411845364180571419324033347933006373744, 52323447524635948313362815603550562932356822136242061162465653002546715338464, 53898185545320685134761473483120049815720671217629277611696158669740365567249) : Int × Int × Int × Int) = (2188137518356126240195717441846840543795067954919551544985759037321788310260, 0, 3053681660659497396403108646293689887734118169431870370837154253911445611855, 51802448734436031010076338742338369033423784092443791836518610031729329352383) := by decide +kernel
def lbits : List Bool := [true, false, false, false, false, false, false, false, false, false, false, false, false, false, false] ++ ([false, false, false, false, false, false, false, false, false, false, false, false, false, false, false] ++ ([false, false, false, false, false, false, false, false, false, false, false, false, false, false, false] ++ ([false, false, false, false, false, false, false, false, false, false, false, false, false, false, false] ++ ([false, false, false, false, false, false, false, false, false, false, false, false, false, false, false] ++ ([false, false, false, false, false, false, false, false, false, false, false, false, false, false, false] ++ ([false, false, false, false, false, false, false, false, false, false, false, false, false, false, false] ++ ([false, false, false, false, false, false, false, false, false, false, false, false, false, false, false] ++ ([false, false, false, false, false, false, false, false, true, false, true, false, false, true, true] ++ ([false, true, true, true, true, false, true, true, true, true, true, false, false, true, true] ++ ([true, false, true, true, true, true, false, true, false, true, false, false, false, true, false] ++ ([true, true, true, true, false, true, true, true, true, false, false, true, true, true, false] ++ ([false, true, true, false, true, false, true, true, false, false, true, false, true, true, false] ++ ([false, false, false, false, false, true, false, false, true, false, false, true, true, false, false] ++ ([false, true, true, false, false, false, true, true, false, true, false, false, true, false, true] ++ ([true, true, false, false, true, true, true, true, false, true, false, true, true, true, false] ++ ([true, false, false, true, true, true, true, true, false, true, true, false, true]))))))))))))))))
theorem lbits_n : nb2 0 lbits = lN := by decide +kernel
theorem lbits_run : lbits.foldl (lstep 9) ((1, 0, 9, 1) : Int × Int × Int × Int) = (2188137518356126240195717441846840543795067954919551544985759037321788310260, 0, 3053681660659497396403108646293689887734118169431870370837154253911445611855, 51802448734436031010076338742338369033423784092443791836518610031729329352383) := by
  unfold lbits
  rw [List.foldl_append, lb0, List.foldl_append, lb1, List.foldl_append, lb2, List.foldl_append, lb3, List.foldl_append, lb4, List.foldl_append, lb5, List.foldl_append, lb6, List.foldl_append, lb7, List.foldl_append, lb8, List.foldl_append, lb9, List.foldl_append, lb10, List.foldl_append, lb11, List.foldl_append, lb12, List.foldl_append, lb13, List.foldl_append, lb14, List.foldl_append, lb15, lb16]
theorem none_of {s : Int × Int × Int × Int} {P : Cpt qN} {m : Nat} (h : St s P m) (hz : fi qN s.2.1 = 0) : mu (ma cF) m P = none := by
  have h1 := h.1
  match hm : mu (ma cF) m P with
  | none => rfl
  | some (x, y) =>
    exfalso
    rw [hm] at h1
    exact h1.1 hz
theorem b_order : mu (ma cF) lN bP = none := by
  have h := St.fold b_on b_9 b_nz lbits _ _ (St.start b_on b_9)
  rw [lbits_run, lbits_n] at h
  exact none_of h fi_zero
theorem w0 : Pri 3797 := pri_small (by decide +kernel)
theorem w1 : Pri 531581 := pri1 2 (by decide +kernel) (by decide +kernel) (by decide +kernel) w0
theorem w2 : Pri 2551 := pri_small (by decide +kernel)
theorem w3 : Pri 1224481 := pri1 2 (by decide +kernel) (by decide +kernel) (by decide +kernel) w2
theorem w4 : Pri 1257559732178653 := pri2 2 (by decide +kernel) (by decide +kernel) (by decide +kernel) (by decide +kernel) (by decide +kernel) w3 w1
theorem w5 : Pri 4434155615661930479 := pri1 2 (by decide +kernel) (by decide +kernel) (by decide +kernel) w4
theorem w6 : Pri 172054593956031949258510691 := pri1 2 (by decide +kernel) (by decide +kernel) (by decide +kernel) w5
theorem w7 : Pri 19757330305831588566944191468367130476339 := pri1 2 (by decide +kernel) (by decide +kernel) (by decide +kernel) w6
theorem w8 : Pri 276602624281642239937218680557139826668747 := pri1 2 (by decide +kernel) (by decide +kernel) (by decide +kernel) w7
theorem w9 : Pri 7237005577332262213973186563042994240857116359379907606001950938285454250989 := pri1 2 (by decide +kernel) (by decide +kernel) (by decide +kernel) w8
theorem pri_l : Pri lN := w9
theorem b_ne : bP ≠ none := by simp [bP]
/-- No multiple by a number that the order does not divide is none. -/
theorem mu_ne (n : Nat) (h : ¬ lN ∣ n) : mu (ma cF) n bP ≠ none := fun e => by
  rw [mg.C.mu_mod b_on b_order n] at e
  have l0 : 0 < lN := by decide +kernel
  have := mg.C.mu_inj b_on b_ne pri_l b_order (i := n % lN) (j := 0) (Nat.mod_lt _ l0) l0 e
  exact h (Nat.dvd_of_mod_eq_zero this)
/-- The first coordinate; 0 of none. -/
def ux : Cpt qN → Fin qN
  | none => 0
  | some (x, _) => x - cF
/-- The first coordinate of a multiple that is none of itself doubled is not 0. -/
theorem ux_ne (n : Nat) (h : ¬ lN ∣ 2 * n) : ux (mu (ma cF) n bP) ≠ 0 := by
  have hn : ¬ lN ∣ n := fun g => h (Nat.dvd_trans g (Nat.dvd_mul_left n 2))
  have ne := mu_ne n hn
  have on := mg.C.mu_on b_on n
  have n2 := mu_ne (2 * n) h
  rw [Nat.two_mul, mg.C.mu_add b_on] at n2
  match hm : mu (ma cF) n bP with
  | none => exact absurd hm ne
  | some (x, y) =>
    rw [hm] at on n2
    intro g
    have g' : x - cF = 0 := g
    refine n2 (mg.C.is on on (.o x y y ?_))
    have o := onu_f on
    rw [g'] at o
    have y0 : y * y = 0 := by rw [o]; exact mz_l _
    rcases mg.C.fl.nz _ _ y0 with t | t <;> rw [t] <;> exact Fin.add_zero 0
/-- The bits of a number below 2^L make it. -/
theorem nb2_upto (K : Int) (hK : 0 ≤ K) (L : Nat) (hL : K < 2 ^ L) : ∀ k, k ≤ L → nb2 0 (upto K L k) = (K / 2 ^ (L - k)).toNat
  | 0, _ => by rw [Nat.sub_zero, Int.ediv_eq_zero_of_lt hK hL]; rfl
  | k + 1, hk => by
    have r := nb2_upto K hK L hL k (by omega)
    rw [upto_succ]
    unfold nb2 at r ⊢
    rw [List.foldl_append, r]
    show 2 * _ + (if bitB K (L - 1 - k) = true then 1 else 0) = _
    have eL : L - k = (L - (k + 1)) + 1 := by omega
    have eB : L - 1 - k = L - (k + 1) := by omega
    rw [eL, eB]
    generalize L - (k + 1) = m
    have e : K / 2 ^ (m + 1) = K / 2 ^ m / 2 := by rw [Int.pow_succ, Int.ediv_ediv_of_nonneg (Int.le_of_lt (Int.pow_pos (by decide)))]
    have n : 0 ≤ K / 2 ^ m := Int.ediv_nonneg hK (Int.le_of_lt (Int.pow_pos (by decide)))
    rw [e]
    unfold bitB
    generalize K / 2 ^ m = x at *
    by_cases c : x % 2 = 1
    · simp [c]; omega
    · simp [c]; omega
theorem fi_pow (C : Int) : ∀ n : Nat, fi qN (C ^ n) = fpq (fi qN C) n
  | 0 => by rw [Int.pow_zero, fi_one]; rfl
  | n + 1 => by rw [Int.pow_succ, fi_mul, fi_pow C n]; rfl
/-- What the ladder tells. -/
theorem xr_is {U K : Int} {x1 y1 : Fin qN} (hP : OnC (ma cF) (mb cF) (some (x1, y1))) (hU : fi qN U = x1 - cF) (hu : x1 - cF ≠ 0) (hK : 0 ≤ K) (hL : K < 2 ^ 255) : fi qN (xr K U) = ux (mu (ma cF) K.toNat (some (x1, y1))) := by
  have h := St.fold hP hU hu (upto K 255 255) _ _ (St.start hP hU)
  rw [nb2_upto K hK 255 hL 255 (Nat.le_refl _), Nat.sub_self, Int.pow_zero, Int.ediv_one] at h
  have h1 := h.1
  unfold xr vl lsts
  rw [qj_fm]
  generalize (upto K 255 255).foldl (lstep U) (1, 0, U, 1) = s at *
  have e : fi qN (s.2.1 ^ (pp - 2).toNat % pp) = fpq (fi qN s.2.1) (qN - 2) := by rw [pp_qN, fi_mod, fi_pow]; rfl
  rw [e]
  match hm : mu (ma cF) K.toNat (some (x1, y1)) with
  | none =>
    rw [hm] at h1
    obtain ⟨z, _⟩ := h1
    rw [z]
    have : fpq (0 : Fin qN) (qN - 2) = 0 := fpq_zero _ (by decide +kernel)
    rw [this]
    show _ = (0 : Fin qN)
    generalize fi qN s.1 = t
    grind
  | some (x, y) =>
    rw [hm] at h1
    obtain ⟨z, e2⟩ := h1
    rw [e2]
    show _ = x - cF
    have f := fpq_inv (fi qN s.2.1) z
    generalize fpq (fi qN s.2.1) (qN - 2) = i at *
    generalize fi qN s.2.1 = t at *
    have : (x - cF) * t * i = (x - cF) * (t * i) := by generalize x - cF = w; clear f; grind
    rw [this, f]
    generalize x - cF = w
    grind
end Go.Proofs.Ytphcpdfaijcjjaa
