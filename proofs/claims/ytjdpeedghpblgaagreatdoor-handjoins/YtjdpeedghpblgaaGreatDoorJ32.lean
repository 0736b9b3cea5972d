/- Package hand: what is read of bodies is small; a message of any kind is read. -/
import Derived.Test.YtjdpeedghpblgaaGreatDoorJ31
import Derived.Test.YtjdpeedghpblgaaGreatDoorJ20
set_option linter.all false
set_option maxRecDepth 100000
namespace Go.Proofs.YtjdpeedghpblgaaGreatDoor
open Go.RowKit Go.Sort Go.Shelf
/-- What reads a body of a kind. -/
def gK (k : Int) : ByteArray → Option (Mg × ByteArray) := if k = 1 then clF else if k = 2 then svF else if k = 8 then exF else if k = 11 then ctF else if k = 15 then vfF else fiF
def SmM (m : Mg) (n : Nat) : Prop := m.ok ∧ m.cs.length ≤ n ∧ (∀ t ∈ m.cs, t.size ≤ n) ∧ m.nm.size ≤ n
theorem ok_0 (a1 a2 a3 a4 a5 : ByteArray) (cs : List ByteArray) (am : ByteArray) (k : Int) : (⟨k, a1, a2, a3, a4, a5, cs, 0, 0, am⟩ : Mg).ok := ⟨Int.le_refl _, by show (0 : Int) < top256; decide, Int.le_refl _, by show (0 : Int) < top256; decide⟩
theorem sm_nil (a1 a2 a3 a5 am : ByteArray) (a4 : ByteArray) (k : Int) (n : Nat) (h : a4.size ≤ n) : SmM ⟨k, a1, a2, a3, a4, a5, [], 0, 0, am⟩ n := ⟨ok_0 _ _ _ _ _ _ _ _, Nat.zero_le _, fun t ht => (by cases ht), h⟩
/-- A chain of steps that ended well. -/
theorem bnd {α β : Type} {o : Option α} {f : α → Option β} {b : β} (h : o.bind f = some b) : ∃ a, o = some a ∧ f a = some b := Option.bind_eq_some_iff.1 h
theorem clE_of {s : ByteArray} {m : Mg} {q : ByteArray} (h : clE s = some (m, q)) : ∃ sh nm al, m = ⟨0, nS, nS, sh, nm, al, [], 0, 0, nS⟩ ∧ sh.size = 32 ∧ al.size < 256 ∧ nm.size ≤ s.size ∧ (nm.size ≤ 20000 → s = clX nm al sh ++ q) := by
  unfold clE at h
  obtain ⟨s1, e1, h⟩ := bnd h
  obtain ⟨x, e2, h⟩ := bnd h
  obtain ⟨nm, e3, h⟩ := bnd h
  obtain ⟨s4, e4, h⟩ := bnd h
  obtain ⟨y, e5, h⟩ := bnd h
  obtain ⟨s6, e6, h⟩ := bnd h
  obtain ⟨z, e7, h⟩ := bnd h
  obtain ⟨x1, x2⟩ := x
  obtain ⟨y1, y2⟩ := y
  obtain ⟨z1, z2⟩ := z
  simp only [Option.some.injEq, Prod.mk.injEq] at h
  obtain ⟨rfl, rfl⟩ := h
  have p1 := (ps_iff _ _ _).1 e1
  have p2 := (vc_iff 2 (by omega) _ _ _).1 e2
  have p3 := (wh_iff _ _ _).1 e3
  have p4 := (ps_iff _ _ _).1 e4
  have p5 := (al_iff _ _ _).1 e5
  have p6 := (ps_iff _ _ _).1 e6
  have p7 := (tk_iff _ _ _ _).1 e7
  simp only at p4 p6 p5 p3
  have nz : nm.size ≤ x1.size := by
    unfold nm1 at p3
    obtain ⟨⟨u1, u2⟩, f1, f2⟩ := bnd p3
    obtain ⟨a, f3, f4⟩ := bnd f2
    simp only [Option.some.injEq, Prod.mk.injEq] at f4
    obtain ⟨rfl, rfl⟩ := f4
    have g1 := (vc_iff 2 (by omega) _ _ _).1 f1
    have g2 := (nm2_iff _ _ _).1 ((wh_iff _ _ _).1 f3)
    rw [g1.2, ap_size, vec_size]
    have := congrArg ByteArray.size g2.2
    simp only [ap_size, vec_size] at this
    omega
  refine ⟨z1, nm, y1, rfl, p7.1, p5.1, ?_, fun hn => ?_⟩
  · have := congrArg ByteArray.size p1
    have q2 := congrArg ByteArray.size p2.2
    simp only [ap_size, vec_size] at this q2
    omega
  · have p3' := (nm1_iff _ _ _ hn).1 p3
    rw [p1, p2.2, p3', p4, p5.2, p6, p7.2, ap_nS]
    unfold clX
    simp only [ap_assoc]
theorem sm_cl {B : ByteArray} {m : Mg} {q : ByteArray} (hB : B.size ≤ 20000) (h : clF B = some (m, q)) : SmM m 20000 := by
  unfold clF at h
  obtain ⟨s1, e1, h⟩ := bnd h
  obtain ⟨x, e2, h⟩ := bnd h
  obtain ⟨y, e3, h⟩ := bnd h
  obtain ⟨s4, e4, h⟩ := bnd h
  obtain ⟨z, e5, h⟩ := bnd h
  obtain ⟨m0, e6, h⟩ := bnd h
  simp only [Option.some.injEq, Prod.mk.injEq] at h
  obtain ⟨rfl, rfl⟩ := h
  have l1 := ps_le e1
  have l2 := tk_le (x := x.1) (r := x.2) e2
  have l3 := vc_le (by omega) (x := y.1) (r := y.2) e3
  have l4 := ps_le e4
  have l5 := vc_le (by omega) (x := z.1) (r := z.2) e5
  obtain ⟨sh, nm, al, rfl, _, _, hn, _⟩ := clE_of ((wh_iff _ _ _).1 e6)
  exact sm_nil _ _ _ _ _ _ _ _ (by simp only; omega)
/-- A message but for its kind. -/
def kMm (m : Mg) (k : Int) : Mg := ⟨k, m.rn, m.ss, m.sh, m.nm, m.al, m.cs, m.x, m.y, m.mc⟩
theorem cl_sound {B : ByteArray} {m : Mg} {q : ByteArray} (h : clF B = some (m, q)) (hn : m.nm.size ≤ 20000) : B = clS m.rn m.ss m.nm m.al m.sh ++ q := by
  unfold clF at h
  obtain ⟨s1, e1, h⟩ := bnd h
  obtain ⟨⟨x1, x2⟩, e2, h⟩ := bnd h
  obtain ⟨⟨y1, y2⟩, e3, h⟩ := bnd h
  obtain ⟨s4, e4, h⟩ := bnd h
  obtain ⟨⟨z1, z2⟩, e5, h⟩ := bnd h
  obtain ⟨m0, e6, h⟩ := bnd h
  simp only [Option.some.injEq, Prod.mk.injEq] at h
  obtain ⟨rfl, rfl⟩ := h
  obtain ⟨sh, nm, al, rfl, _, _, _, hX⟩ := clE_of ((wh_iff _ _ _).1 e6)
  have hX' := hX hn
  have p1 := (ps_iff _ _ _).1 e1
  have p2 := (tk_iff _ _ _ _).1 e2
  have p3 := (vc_iff 1 (by omega) _ _ _).1 e3
  have p4 := (ps_iff _ _ _).1 e4
  have p5 := (vc_iff 2 (by omega) _ _ _).1 e5
  simp only at p3 p4 p5 hX'
  rw [p1, p2.2, p3.2, p4, p5.2, hX', ap_nS]
  unfold clS
  simp only [ap_assoc]
theorem cl_compl (rn ss nm al sh : ByteArray) (h1 : rn.size = 32) (h2 : ss.size ≤ 32) (h3 : nm.size ≤ 64) (h4 : al.size ≤ 32) (h5 : sh.size = 32) : clF (clS rn ss nm al sh) = some (⟨0, rn, ss, sh, nm, al, [], 0, 0, nS⟩, nS) := by
  have x1 : clE (clX nm al sh) = some (⟨0, nS, nS, sh, nm, al, [], 0, 0, nS⟩, nS) := by
    have o1 : (⟨#[0]⟩ ++ vec 2 nm : ByteArray).size = 1 + (2 + nm.size) := by rw [ap_size, vec_size]; rfl
    have zN : (vec 2 (⟨#[0]⟩ ++ vec 2 nm)).size < 256 ^ 2 := by rw [vec_size, o1]; omega
    have e1 : psF ⟨#[0, 0]⟩ (clX nm al sh) = some _ := (ps_iff _ _ _).2 rfl
    have e2 := (vc_iff 2 (by omega) (vec 2 (vec 2 (⟨#[0]⟩ ++ vec 2 nm)) ++ (⟨#[0, 10, 0, 4, 0, 2, 0, 29, 0, 13, 0, 4, 0, 2, 4, 3]⟩ ++ (alS al ++ (⟨#[0, 43, 0, 3, 2, 3, 4, 0, 51, 0, 38, 0, 36, 0, 29, 0, 32]⟩ ++ sh)))) (vec 2 (⟨#[0]⟩ ++ vec 2 nm)) (⟨#[0, 10, 0, 4, 0, 2, 0, 29, 0, 13, 0, 4, 0, 2, 4, 3]⟩ ++ (alS al ++ (⟨#[0, 43, 0, 3, 2, 3, 4, 0, 51, 0, 38, 0, 36, 0, 29, 0, 32]⟩ ++ sh)))).2 ⟨zN, rfl⟩
    have e3 : whF nm1 (vec 2 (⟨#[0]⟩ ++ vec 2 nm)) = some nm := (wh_iff _ _ _).2 ((nm1_iff _ _ _ (by omega)).2 (ap_nS _).symm)
    have e4 : psF ⟨#[0, 10, 0, 4, 0, 2, 0, 29, 0, 13, 0, 4, 0, 2, 4, 3]⟩ (⟨#[0, 10, 0, 4, 0, 2, 0, 29, 0, 13, 0, 4, 0, 2, 4, 3]⟩ ++ (alS al ++ (⟨#[0, 43, 0, 3, 2, 3, 4, 0, 51, 0, 38, 0, 36, 0, 29, 0, 32]⟩ ++ sh))) = some _ := (ps_iff _ _ _).2 rfl
    have e5 : alF (alS al ++ (⟨#[0, 43, 0, 3, 2, 3, 4, 0, 51, 0, 38, 0, 36, 0, 29, 0, 32]⟩ ++ sh)) = some (al, _) := (al_iff _ _ _).2 ⟨by omega, rfl⟩
    have e6 : psF ⟨#[0, 43, 0, 3, 2, 3, 4, 0, 51, 0, 38, 0, 36, 0, 29, 0, 32]⟩ (⟨#[0, 43, 0, 3, 2, 3, 4, 0, 51, 0, 38, 0, 36, 0, 29, 0, 32]⟩ ++ sh) = some sh := (ps_iff _ _ _).2 rfl
    have e7 : tkF 32 sh = some (sh, nS) := (tk_iff _ _ _ _).2 ⟨h5, (ap_nS _).symm⟩
    unfold clE
    simp only [e1, e2, e3, e4, e5, e6, e7, Option.bind_some]
  have zX := clX_size nm al sh
  have e1 : psF ⟨#[3, 3]⟩ (clS rn ss nm al sh) = some _ := (ps_iff _ _ _).2 rfl
  have e2 : tkF 32 (rn ++ (vec 1 ss ++ (⟨#[0, 2, 19, 1, 1, 0]⟩ ++ vec 2 (clX nm al sh)))) = some (rn, _) := (tk_iff _ _ _ _).2 ⟨h1, rfl⟩
  have e3 : vcF 1 (vec 1 ss ++ (⟨#[0, 2, 19, 1, 1, 0]⟩ ++ vec 2 (clX nm al sh))) = some (ss, _) := (vc_iff 1 (by omega) _ _ _).2 ⟨by omega, rfl⟩
  have e4 : psF ⟨#[0, 2, 19, 1, 1, 0]⟩ (⟨#[0, 2, 19, 1, 1, 0]⟩ ++ vec 2 (clX nm al sh)) = some _ := (ps_iff _ _ _).2 rfl
  have e5 : vcF 2 (vec 2 (clX nm al sh)) = some (clX nm al sh, nS) := (vc_iff 2 (by omega) _ _ _).2 ⟨by omega, (ap_nS _).symm⟩
  have e6 : whF clE (clX nm al sh) = some _ := (wh_iff _ _ _).2 x1
  unfold clF
  simp only [e1, e2, e3, e4, e5, e6, Option.bind_some]
theorem sv_sound {B : ByteArray} {m : Mg} {q : ByteArray} (h : svF B = some (m, q)) : (∃ rn ss sh, m = ⟨0, rn, ss, sh, nS, nS, [], 0, 0, nS⟩) ∧ B = svS m.rn m.ss m.sh ++ q := by
  unfold svF at h
  obtain ⟨s1, e1, h⟩ := bnd h
  obtain ⟨⟨x1, x2⟩, e2, h⟩ := bnd h
  obtain ⟨⟨y1, y2⟩, e3, h⟩ := bnd h
  obtain ⟨s4, e4, h⟩ := bnd h
  obtain ⟨⟨z1, z2⟩, e5, h⟩ := bnd h
  obtain ⟨a, e6, h⟩ := bnd h
  simp only [Option.some.injEq, Prod.mk.injEq] at h
  obtain ⟨rfl, rfl⟩ := h
  have p1 := (ps_iff _ _ _).1 e1
  have p2 := (tk_iff _ _ _ _).1 e2
  have p3 := (vc_iff 1 (by omega) _ _ _).1 e3
  have p4 := (ps_iff _ _ _).1 e4
  have p5 := (vc_iff 2 (by omega) _ _ _).1 e5
  have p6 := (sv1_iff _ _ _).1 ((wh_iff _ _ _).1 e6)
  simp only at p3 p4 p5 p6
  refine ⟨⟨_, _, _, rfl⟩, ?_⟩
  rw [p1, p2.2, p3.2, p4, p5.2, p6.2, ap_nS]
  unfold svS
  simp only [ap_assoc]
theorem sv_compl (rn ss sh : ByteArray) (h1 : rn.size = 32) (h2 : ss.size ≤ 32) (h5 : sh.size = 32) : svF (svS rn ss sh) = some (⟨0, rn, ss, sh, nS, nS, [], 0, 0, nS⟩, nS) := by
  obtain ⟨X, hX⟩ : ∃ X : ByteArray, X = ⟨#[0, 43, 0, 2, 3, 4, 0, 51, 0, 36, 0, 29, 0, 32]⟩ ++ sh := ⟨_, rfl⟩
  have zX : X.size = 14 + 32 := by rw [hX, ap_size, h5]; rfl
  have e6 : whF sv1 X = some sh := (wh_iff _ _ _).2 ((sv1_iff _ _ _).2 ⟨h5, by rw [hX, ap_nS]⟩)
  have eS : svS rn ss sh = ⟨#[3, 3]⟩ ++ (rn ++ (vec 1 ss ++ (⟨#[19, 1, 0]⟩ ++ vec 2 X))) := by rw [hX]; rfl
  rw [eS]
  have e1 : psF ⟨#[3, 3]⟩ (⟨#[3, 3]⟩ ++ (rn ++ (vec 1 ss ++ (⟨#[19, 1, 0]⟩ ++ vec 2 X)))) = some _ := (ps_iff _ _ _).2 rfl
  have e2 : tkF 32 (rn ++ (vec 1 ss ++ (⟨#[19, 1, 0]⟩ ++ vec 2 X))) = some (rn, _) := (tk_iff _ _ _ _).2 ⟨h1, rfl⟩
  have e3 : vcF 1 (vec 1 ss ++ (⟨#[19, 1, 0]⟩ ++ vec 2 X)) = some (ss, _) := (vc_iff 1 (by omega) _ _ _).2 ⟨by omega, rfl⟩
  have e4 : psF ⟨#[19, 1, 0]⟩ (⟨#[19, 1, 0]⟩ ++ vec 2 X) = some _ := (ps_iff _ _ _).2 rfl
  have e5 : vcF 2 (vec 2 X) = some (X, nS) := (vc_iff 2 (by omega) _ _ _).2 ⟨by omega, (ap_nS _).symm⟩
  unfold svF
  simp only [e1, e2, e3, e4, e5, e6, Option.bind_some]
theorem ex_sound {B : ByteArray} {m : Mg} {q : ByteArray} (h : exF B = some (m, q)) : (∃ al, m = ⟨0, nS, nS, nS, nS, al, [], 0, 0, nS⟩) ∧ B = exS m.al ++ q := by
  unfold exF at h
  obtain ⟨⟨x1, x2⟩, e1, h⟩ := bnd h
  obtain ⟨a, e2, h⟩ := bnd h
  simp only [Option.some.injEq, Prod.mk.injEq] at h
  obtain ⟨rfl, rfl⟩ := h
  have p1 := (vc_iff 2 (by omega) _ _ _).1 e1
  have p2 := (al_iff _ _ _).1 ((wh_iff _ _ _).1 e2)
  simp only at p2
  refine ⟨⟨_, rfl⟩, ?_⟩
  rw [p1.2, p2.2, ap_nS]; rfl
theorem ex_compl (al : ByteArray) (h : al.size ≤ 32) : exF (exS al) = some (⟨0, nS, nS, nS, nS, al, [], 0, 0, nS⟩, nS) := by
  have z := al_size al
  have e1 : vcF 2 (vec 2 (alS al)) = some (alS al, nS) := (vc_iff 2 (by omega) _ _ _).2 ⟨by omega, (ap_nS _).symm⟩
  have e2 : whF alF (alS al) = some al := (wh_iff _ _ _).2 ((al_iff _ _ _).2 ⟨by omega, (ap_nS _).symm⟩)
  unfold exF exS
  simp only [e1, e2, Option.bind_some]
theorem fi_sound {B : ByteArray} {m : Mg} {q : ByteArray} (h : fiF B = some (m, q)) : (∃ a, m = ⟨0, nS, nS, nS, nS, nS, [], 0, 0, a⟩) ∧ B = m.mc ++ q := by
  unfold fiF at h
  obtain ⟨⟨x1, x2⟩, e1, h⟩ := bnd h
  simp only [Option.some.injEq, Prod.mk.injEq] at h
  obtain ⟨rfl, rfl⟩ := h
  exact ⟨⟨_, rfl⟩, ((tk_iff _ _ _ _).1 e1).2⟩
theorem fi_compl (a : ByteArray) (h : a.size = 32) : fiF a = some (⟨0, nS, nS, nS, nS, nS, [], 0, 0, a⟩, nS) := by
  have e1 : tkF 32 a = some (a, nS) := (tk_iff _ _ _ _).2 ⟨h, (ap_nS _).symm⟩
  unfold fiF
  simp only [e1, Option.bind_some]
theorem ce_sound (f : Nat) : ∀ (s : ByteArray) (acc l : List ByteArray), ceG f s acc = some l → ∃ l', l = acc ++ l' ∧ s = cfS l' ∧ (∀ t ∈ l', t.size ≤ s.size) ∧ l'.length ≤ s.size := by
  induction f with
  | zero =>
    intro s acc l h
    unfold ceG at h
    split at h
    · rename_i c
      cases h
      exact ⟨[], (List.append_nil _).symm, nS_size c, fun t ht => (by cases ht), Nat.zero_le _⟩
    · cases h
  | succ f ih =>
    intro s acc l h
    unfold ceG at h
    split at h
    · rename_i c
      cases h
      exact ⟨[], (List.append_nil _).symm, nS_size c, fun t ht => (by cases ht), Nat.zero_le _⟩
    · obtain ⟨⟨c, r⟩, e1, h⟩ := bnd h
      obtain ⟨r', e2, h⟩ := bnd h
      obtain ⟨l', g1, g2, g3, g4⟩ := ih _ _ _ h
      have p1 := (vc_iff 3 (by omega) _ _ _).1 e1
      have p2 := (ps_iff _ _ _).1 e2
      simp only at p2
      have z1 := congrArg ByteArray.size p1.2
      have z2 := congrArg ByteArray.size p2
      simp only [ap_size, vec_size] at z1 z2
      have two : (⟨#[0, 0]⟩ : ByteArray).size = 2 := rfl
      refine ⟨c :: l', by rw [g1, List.append_assoc]; rfl, ?_, fun t ht => ?_, ?_⟩
      · rw [p1.2, p2, g2]
        show _ = vec 3 c ++ (⟨#[0, 0]⟩ ++ cfS l')
        rfl
      · rcases List.mem_cons.1 ht with rfl | ht
        · omega
        · have := g3 t ht; omega
      · show l'.length + 1 ≤ _; omega
theorem ce_compl (l : List ByteArray) (h : ∀ c ∈ l, c.size ≤ 2048) : ∀ (f : Nat) (acc : List ByteArray), (cfS l).size ≤ f → ceG f (cfS l) acc = some (acc ++ l) := by
  induction l with
  | nil =>
    intro f acc _
    cases f <;> (unfold ceG; rw [if_pos (by rfl), List.append_nil])
  | cons c l ih =>
    intro f acc hf
    have e : cfS (c :: l) = vec 3 c ++ (⟨#[0, 0]⟩ ++ cfS l) := rfl
    have hc := h c (List.mem_cons_self ..)
    have two : (⟨#[0, 0]⟩ : ByteArray).size = 2 := rfl
    have z : (cfS (c :: l)).size = 3 + c.size + (2 + (cfS l).size) := by rw [e, ap_size, ap_size, vec_size, two]
    cases f with
    | zero => omega
    | succ f =>
      have e1 : vcF 3 (vec 3 c ++ (⟨#[0, 0]⟩ ++ cfS l)) = some (c, _) := (vc_iff 3 (by omega) _ _ _).2 ⟨by omega, rfl⟩
      have e2 : psF ⟨#[0, 0]⟩ (⟨#[0, 0]⟩ ++ cfS l) = some (cfS l) := (ps_iff _ _ _).2 rfl
      unfold ceG
      rw [if_neg (by omega), e]
      simp only [e1, e2, Option.bind_some]
      rw [ih (fun c hc => h c (List.mem_cons_of_mem _ hc)) f _ (by omega), List.append_assoc]
      rfl
theorem ct_sound {B : ByteArray} {m : Mg} {q : ByteArray} (h : ctF B = some (m, q)) : (∃ l, m = ⟨0, nS, nS, nS, nS, nS, l, 0, 0, nS⟩) ∧ (∀ t ∈ m.cs, t.size ≤ B.size) ∧ m.cs.length ≤ B.size ∧ B = ctS m.cs ++ q := by
  unfold ctF at h
  obtain ⟨s1, e1, h⟩ := bnd h
  obtain ⟨⟨x1, x2⟩, e2, h⟩ := bnd h
  obtain ⟨l, e3, h⟩ := bnd h
  simp only [Option.some.injEq, Prod.mk.injEq] at h
  obtain ⟨rfl, rfl⟩ := h
  have p1 := (ps_iff _ _ _).1 e1
  have p2 := (vc_iff 3 (by omega) _ _ _).1 e2
  have p3 := (wh_iff _ _ _).1 e3
  unfold ceF at p3
  obtain ⟨l2, e4, e5⟩ := bnd p3
  simp only [Option.some.injEq, Prod.mk.injEq, and_true] at e5
  subst e5
  obtain ⟨l', g1, g2, g3, g4⟩ := ce_sound _ _ _ _ e4
  simp only [List.nil_append] at g1
  subst g1
  simp only at g2 g3 g4
  have z1 := congrArg ByteArray.size p1
  have z2 := congrArg ByteArray.size p2.2
  simp only [ap_size, vec_size] at z1 z2
  refine ⟨⟨_, rfl⟩, fun t ht => ?_, by simp only; omega, ?_⟩
  · have := g3 t ht; omega
  · rw [p1, p2.2, g2]
    show _ = (⟨#[0]⟩ ++ vec 3 (cfS _)) ++ _
    rw [ap_assoc]
theorem ct_compl (l : List ByteArray) (h : ∀ c ∈ l, c.size ≤ 2048) (hl : l.length ≤ 4) : ctF (ctS l) = some (⟨0, nS, nS, nS, nS, nS, l, 0, 0, nS⟩, nS) := by
  have z := (cfS_size l h).1
  have e1 : psF ⟨#[0]⟩ (⟨#[0]⟩ ++ vec 3 (cfS l)) = some _ := (ps_iff _ _ _).2 rfl
  have e2 : vcF 3 (vec 3 (cfS l)) = some (cfS l, nS) := (vc_iff 3 (by omega) _ _ _).2 ⟨by omega, (ap_nS _).symm⟩
  have e3 : whF ceF (cfS l) = some l := (wh_iff _ _ _).2 (by unfold ceF; rw [ce_compl l h _ [] (Nat.le_refl _)]; rfl)
  unfold ctF ctS
  simp only [e1, e2, e3, Option.bind_some]
theorem al_sound (f : Nat) : ∀ (s : ByteArray) (acc l : List (Int × ByteArray)), alG f s acc = some l → ∃ l', l = acc ++ l' ∧ (∀ q ∈ l', q.2.size ≤ 65535) ∧ s = l'.foldr (fun q x => wrS q.1 q.2 ++ x) nS := by
  induction f with
  | zero =>
    intro s acc l h
    unfold alG at h
    split at h
    · rename_i c
      cases h
      exact ⟨[], (List.append_nil _).symm, fun t ht => (by cases ht), nS_size c⟩
    · cases h
  | succ f ih =>
    intro s acc l h
    unfold alG at h
    split at h
    · rename_i c
      cases h
      exact ⟨[], (List.append_nil _).symm, fun t ht => (by cases ht), nS_size c⟩
    · split at h
      · rename_i he
        obtain ⟨l', g1, g2, g3⟩ := ih _ _ _ h
        obtain ⟨_, _, w3, _, w5, w6⟩ := wr_back s he
        refine ⟨(bt s 0, rdB s) :: l', by rw [g1, List.append_assoc]; rfl, fun t ht => ?_, ?_⟩
        · rcases List.mem_cons.1 ht with rfl | ht
          · show (rdB s).size ≤ _; unfold rdB; omega
          · exact g2 t ht
        · show _ = wrS (bt s 0) (rdB s) ++ _
          rw [← g3]
          exact w6.symm
      · cases h
theorem pa_1 {x rb : ByteArray} {r : List ByteArray} (h : paF x [48] = some r) : ∃ rb, r = [rb] ∧ x = wrS 48 rb := by
  unfold paF at h
  split at h
  · rename_i l e
    split at h
    · rename_i q
      cases h
      obtain ⟨l', g1, _, g3⟩ := al_sound _ _ _ _ e
      simp only [List.nil_append] at g1
      subst g1
      match l, q, g3 with
      | [(t, b)], q, g3 =>
        have : t = 48 := by simpa using q
        subst this
        exact ⟨b, rfl, by rw [g3]; show wrS 48 b ++ nS = _; rw [ap_nS]⟩
    · cases h
  · cases h
theorem pa_2 {x : ByteArray} {r : List ByteArray} (h : paF x [2, 2] = some r) : ∃ n0 n1, r = [n0, n1] ∧ x = wrS 2 n0 ++ wrS 2 n1 := by
  unfold paF at h
  split at h
  · rename_i l e
    split at h
    · rename_i q
      cases h
      obtain ⟨l', g1, _, g3⟩ := al_sound _ _ _ _ e
      simp only [List.nil_append] at g1
      subst g1
      match l, q, g3 with
      | [(t, b), (t', b')], q, g3 =>
        have : t = 2 ∧ t' = 2 := by simpa using q
        obtain ⟨rfl, rfl⟩ := this
        exact ⟨b, b', rfl, by rw [g3]; show wrS 2 b ++ (wrS 2 b' ++ nS) = _; rw [ap_nS]⟩
    · cases h
  · cases h
theorem vf_sound {B : ByteArray} {m : Mg} {q : ByteArray} (h : vfF B = some (m, q)) : (∃ x y, m = ⟨0, nS, nS, nS, nS, nS, [], x, y, nS⟩ ∧ 0 ≤ x ∧ x < top256 ∧ 0 ≤ y ∧ y < top256) ∧ B = vfS (sgS m.x m.y) ++ q := by
  unfold vfF at h
  obtain ⟨s1, e1, h⟩ := bnd h
  obtain ⟨⟨x1, x2⟩, e2, h⟩ := bnd h
  obtain ⟨r, e3, h⟩ := bnd h
  obtain ⟨qq, e4, h⟩ := bnd h
  obtain ⟨a, e5, h⟩ := bnd h
  obtain ⟨b, e6, h⟩ := bnd h
  simp only [Option.some.injEq, Prod.mk.injEq] at h
  obtain ⟨rfl, rfl⟩ := h
  obtain ⟨rb, rfl, f1⟩ := pa_1 (rb := nS) e3
  simp only [List.getD_cons_zero] at e4
  obtain ⟨n0, n1, rfl, f2⟩ := pa_2 e4
  simp only [List.getD_cons_zero, List.getD_cons_succ] at e5 e6
  have p1 := (ps_iff _ _ _).1 e1
  have p2 := (vc_iff 2 (by omega) _ _ _).1 e2
  unfold tiF at e5 e6
  split at e5
  · rename_i t0
    split at e6
    · rename_i t1
      cases e5
      cases e6
      obtain ⟨b1, b2, b3⟩ := back_int n0 t0
      obtain ⟨c1, c2, c3⟩ := back_int n1 t1
      refine ⟨⟨_, _, rfl, b1, b2, c1, c2⟩, ?_⟩
      simp only at f1
      rw [p1, p2.2, f1, f2]
      show _ = (⟨#[4, 3]⟩ ++ vec 2 (wrS 48 (wrS 2 (mkS (inL _)) ++ wrS 2 (mkS (inL _))))) ++ _
      rw [b3, c3, ap_assoc]
    · cases e6
  · cases e5
theorem vf_compl (x y : Int) (x0 : 0 ≤ x) (x1 : x < top256) (y0 : 0 ≤ y) (y1 : y < top256) : vfF (vfS (sgS x y)) = some (⟨0, nS, nS, nS, nS, nS, [], x, y, nS⟩, nS) := by
  have z := sgS_size x y
  have a := inL_len x
  have b := inL_len y
  have w1 := wrS_size 2 (mkS (inL x)) (by rw [mkS_size]; omega)
  have w2 := wrS_size 2 (mkS (inL y)) (by rw [mkS_size]; omega)
  rw [mkS_size] at w1 w2
  obtain ⟨N0, hN0⟩ : ∃ N : ByteArray, N = mkS (inL x) := ⟨_, rfl⟩
  obtain ⟨N1, hN1⟩ : ∃ N : ByteArray, N = mkS (inL y) := ⟨_, rfl⟩
  have z0 : N0.size ≤ 65535 := by rw [hN0, mkS_size]; omega
  have z1 : N1.size ≤ 65535 := by rw [hN1, mkS_size]; omega
  obtain ⟨i1, i2⟩ := int_back x x0 x1
  obtain ⟨j1, j2⟩ := int_back y y0 y1
  rw [← hN0] at i1 i2 w1
  rw [← hN1] at j1 j2 w2
  have hs : sgS x y = wrS 48 (wrS 2 N0 ++ wrS 2 N1) := by rw [hN0, hN1]; rfl
  have zi : (wrS 2 N0 ++ wrS 2 N1).size ≤ 65535 := by rw [ap_size]; omega
  have e1 : psF ⟨#[4, 3]⟩ (⟨#[4, 3]⟩ ++ vec 2 (sgS x y)) = some _ := (ps_iff _ _ _).2 rfl
  have e2 : vcF 2 (vec 2 (sgS x y)) = some (sgS x y, nS) := (vc_iff 2 (by omega) _ _ _).2 ⟨by omega, (ap_nS _).symm⟩
  have e3 : paF (sgS x y) [48] = some [wrS 2 N0 ++ wrS 2 N1] := by
    have := alG_step 63 48 (wrS 2 N0 ++ wrS 2 N1) nS (by decide) (by decide) zi []
    rw [ap_nS, alG_end] at this
    unfold paF
    rw [hs, this]
    rfl
  have e4 : paF (wrS 2 N0 ++ wrS 2 N1) [2, 2] = some [N0, N1] := by
    have s1 := alG_step 63 2 N0 (wrS 2 N1) (by decide) (by decide) z0 []
    have s2 := alG_step 62 2 N1 nS (by decide) (by decide) z1 ([] ++ [(2, N0)])
    rw [ap_nS, alG_end] at s2
    unfold paF
    rw [s1, s2]
    rfl
  have e5 : tiF N0 = some x := by unfold tiF; rw [if_pos i1, i2]
  have e6 : tiF N1 = some y := by unfold tiF; rw [if_pos j1, j2]
  unfold vfF vfS
  simp only [e1, e2, e3, e4, List.getD_cons_zero, List.getD_cons_succ, e5, e6, Option.bind_some]
/-- What is read of a body is small; and where it is fit, it is written so. -/
theorem gk_sound (k : Int) (hk : kdB k = true) (B : ByteArray) (hB : B.size ≤ 20000) (m : Mg) (h : whF (gK k) B = some m) : SmM m 20000 ∧ (ftB (kMm m k) = true → bdy (kMm m k) = B) := by
  have h' := (wh_iff _ _ _).1 h
  unfold gK at h'
  unfold bdy
  split at h'
  · rename_i e; subst e
    have s1 := sm_cl hB h'
    refine ⟨s1, fun _ => ?_⟩
    have q := cl_sound h' s1.2.2.2
    rw [ap_nS] at q
    rw [q]; rfl
  · split at h'
    · rename_i e; subst e
      obtain ⟨⟨rn, ss, sh, rfl⟩, s2⟩ := sv_sound h'
      exact ⟨sm_nil _ _ _ _ _ _ _ _ (Nat.zero_le _), fun _ => by rw [s2, ap_nS]; rfl⟩
    · split at h'
      · rename_i e; subst e
        obtain ⟨⟨al, rfl⟩, s2⟩ := ex_sound h'
        exact ⟨sm_nil _ _ _ _ _ _ _ _ (Nat.zero_le _), fun _ => by rw [s2, ap_nS]; rfl⟩
      · split at h'
        · rename_i e; subst e
          obtain ⟨⟨l, rfl⟩, s2, s3, s4⟩ := ct_sound h'
          refine ⟨⟨ok_0 _ _ _ _ _ _ _ _, Nat.le_trans s3 hB, fun t ht => Nat.le_trans (s2 t ht) hB, Nat.zero_le _⟩, fun _ => by rw [s4, ap_nS]; rfl⟩
        · split at h'
          · rename_i e; subst e
            obtain ⟨⟨x, y, rfl, b1, b2, b3, b4⟩, s2⟩ := vf_sound h'
            exact ⟨⟨⟨b1, b2, b3, b4⟩, Nat.zero_le _, fun t ht => (by cases ht), Nat.zero_le _⟩, fun _ => by rw [s2, ap_nS]; rfl⟩
          · rename_i n1 n2 n8 n11 n15
            obtain ⟨⟨a, rfl⟩, s2⟩ := fi_sound h'
            have e20 : k = 20 := by
              unfold kdB at hk
              simp only [Bool.or_eq_true, beq_iff_eq] at hk
              omega
            subst e20
            exact ⟨sm_nil _ _ _ _ _ _ _ _ (Nat.zero_le _), fun _ => by rw [s2, ap_nS]; rfl⟩
theorem gk_compl (m : Mg) (hm : m.ok) (h : ftB m = true) : ∃ m0, whF (gK m.k) (bdy m) = some m0 ∧ kMm m0 m.k = m := by
  have ho := ft_on h
  have hk := ft_kd h
  have hkn := ft_kn h
  unfold kdB at hk
  simp only [Bool.or_eq_true, beq_iff_eq] at hk
  have fin : ∀ m0, gK m.k (bdy m) = some (m0, nS) → kMm m0 m.k = m → ∃ m0, whF (gK m.k) (bdy m) = some m0 ∧ kMm m0 m.k = m := fun m0 e1 e2 => ⟨m0, (wh_iff _ _ _).2 e1, e2⟩
  rcases hk with ((((hk | hk) | hk) | hk) | hk) | hk
  · obtain ⟨f1, f2, f3, f4, f5, f6⟩ := ft_1 h hk
    refine fin ⟨0, m.rn, m.ss, m.sh, m.nm, m.al, [], 0, 0, nS⟩ ?_ ?_
    · rw [show gK m.k = clF by rw [hk]; rfl, show bdy m = clS m.rn m.ss m.nm m.al m.sh by unfold bdy; simp [hk]]; exact cl_compl _ _ _ _ _ f1 f3 (ho_size f4).2 f6 f2
    · rw [ho]; unfold onM; simp [hk, kMm]
  · obtain ⟨f1, f2, f3⟩ := ft_2 h hk
    refine fin ⟨0, m.rn, m.ss, m.sh, nS, nS, [], 0, 0, nS⟩ ?_ ?_
    · rw [show gK m.k = svF by rw [hk]; rfl, show bdy m = svS m.rn m.ss m.sh by unfold bdy; simp [hk]]; exact sv_compl _ _ _ f1 f3 f2
    · rw [ho]; unfold onM; simp [hk, kMm]
  · obtain ⟨f1, f2⟩ := ft_8 h hk
    refine fin ⟨0, nS, nS, nS, nS, m.al, [], 0, 0, nS⟩ ?_ ?_
    · rw [show gK m.k = exF by rw [hk]; rfl, show bdy m = exS m.al by unfold bdy; simp [hk]]; exact ex_compl _ f2
    · rw [ho]; unfold onM; simp [hk, kMm]
  · obtain ⟨f1, f2, f3⟩ := ft_11 h hk
    refine fin ⟨0, nS, nS, nS, nS, nS, m.cs, 0, 0, nS⟩ ?_ ?_
    · rw [show gK m.k = ctF by rw [hk]; rfl, show bdy m = ctS m.cs by unfold bdy; simp [hk]]; exact ct_compl _ (fun c hc => (f3 c hc).2) f2
    · rw [ho]; unfold onM; simp [hk, kMm]
  · refine fin ⟨0, nS, nS, nS, nS, nS, [], m.x, m.y, nS⟩ ?_ ?_
    · rw [show gK m.k = vfF by rw [hk]; rfl, show bdy m = vfS (sgS m.x m.y) by unfold bdy; simp [hk]]; exact vf_compl _ _ hm.1 hm.2.1 hm.2.2.1 hm.2.2.2
    · rw [ho]; unfold onM; simp [hk, kMm]
  · have f1 := ft_20 h hk
    refine fin ⟨0, nS, nS, nS, nS, nS, [], 0, 0, m.mc⟩ ?_ ?_
    · rw [show gK m.k = fiF by rw [hk]; rfl, show bdy m = m.mc by unfold bdy; simp [hk]]; exact fi_compl _ f1
    · rw [ho]; unfold onM; simp [hk, kMm]
end Go.Proofs.YtjdpeedghpblgaaGreatDoor
