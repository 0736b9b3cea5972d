/- Texts joined: T13, T14, Y9, YA. -/
import Derived.WalkMore
import Derived.Test.YtjdpeedghpblgaaGreatDoorJ14
import Derived.Test.YtjdpeedghpblgaaGreatDoorJ2
import Derived.Test.YtjdpeedghpblgaaGreatDoorJ8
/- The reference's der.All: rows of tags. -/
set_option linter.all false
set_option maxRecDepth 100000
namespace Go.Proofs.YtjdpeedghpblgaaGreatDoor
open Go.RowKit Go.Sort Go.Lib
/-- Tags and what they have, cell by cell. -/
def flT : List (Int × ByteArray) → List Value
  | [] => []
  | p :: l => .int .i64 p.1 :: .string p.2 :: flT l
theorem flT_app (a b : List (Int × ByteArray)) : flT (a ++ b) = flT a ++ flT b := by
  induction a with
  | nil => rfl
  | cons p a ih => show _ :: _ :: flT (a ++ b) = _; rw [ih]; rfl
theorem flT_at (l : List (Int × ByteArray)) : ∀ (i : Nat) (p : Int × ByteArray), l[i]? = some p → (flT l)[2 * i]? = some (.int .i64 p.1) ∧ (flT l)[2 * i + 1]? = some (.string p.2) := by
  induction l with
  | nil => intro i p h; cases h
  | cons q l ih =>
    intro i p h
    cases i with
    | zero => simp at h; subst h; exact ⟨rfl, rfl⟩
    | succ i =>
      have := ih i p (by simpa using h)
      rw [show 2 * (i + 1) = (2 * i + 1) + 1 by omega, show (2 * i + 1) + 1 + 1 = ((2 * i + 1) + 1) + 1 by omega]
      exact this
/-- A row of tags in memory. -/
def Tls (w : World) (v : Value) (l : List (Int × ByteArray)) : Prop := ∃ (a : Option Addr) (c : Nat), v = .slice a l.length c ∧ ∀ (i : Nat) (p : Int × ByteArray), l[i]? = some p → ∃ g, a = some ⟨g, 0, none⟩ ∧ g < w.heap.size ∧ w.cell? ⟨g, 2 * i, none⟩ = some (.int .i64 p.1) ∧ w.cell? ⟨g, 2 * i + 1, none⟩ = some (.string p.2)
theorem Tls.to {w w' : World} {v : Value} {l : List (Int × ByteArray)} (h : Tls w v l) (hb : Below w.heap.size w w') : Tls w' v l := by
  obtain ⟨a, c, h1, h2⟩ := h
  refine ⟨a, c, h1, fun i p hi => ?_⟩
  obtain ⟨g, e, lt, c0, c1⟩ := h2 i p hi
  exact ⟨g, e, Nat.lt_of_lt_of_le lt hb.size, (hb.cell (p := ⟨g, 2 * i, none⟩) lt).trans c0, (hb.cell (p := ⟨g, 2 * i + 1, none⟩) lt).trans c1⟩
theorem Tls.nil (w : World) : Tls w (.slice none 0 0) [] := ⟨none, 0, rfl, fun i p h => by cases h⟩
theorem Tls.own {W : World} {b : Nat} {v : Value} {l : List (Int × ByteArray)} (h : W.ownsRow b 99 2 v l.length (flT l)) : Tls W v l := by
  have hl := h.lt
  have hc := fun g hg => World.ownsRow.cells h (g := g) hg
  rcases h.2 with ⟨h1, h0⟩ | ⟨g, c, cur, h1, _⟩
  · have e : l = [] := List.eq_nil_of_length_eq_zero h0
    subst e
    rw [h1]
    exact Tls.nil W
  · subst h1
    refine ⟨_, c, rfl, fun i p hi => ⟨g, rfl, (hl g rfl).2, ?_, ?_⟩⟩
    · have := hc g rfl (2 * i) _ (flT_at l i p hi).1
      rwa [Addr.add_mid, Nat.zero_add] at this
    · have := hc g rfl (2 * i + 1) _ (flT_at l i p hi).2
      rwa [Addr.add_mid, Nat.zero_add] at this
theorem own_frm {W : World} {b e n m : Nat} {v : Value} {xs : List Value} (h : W.ownsRow b e m v n xs) : ∃ ao c, v = .slice ao n c := by
  rcases h.2 with ⟨h, h0⟩ | ⟨g, c, _, h, _⟩
  · exact ⟨none, 0, by rw [h, h0]⟩
  · exact ⟨_, c, h⟩
/-- What stands behind, what is within. -/
def rdB (s : ByteArray) : ByteArray := s.extract (rdH s) (rdH s + rdN s)
def rdT (s : ByteArray) : ByteArray := s.extract (rdH s + rdN s) s.size
theorem rdH_2 (s : ByteArray) : 2 ≤ rdH s := by unfold rdH; split <;> (try split) <;> omega
theorem rd_small (s : ByteArray) (h : rdE s = 0) : (rdT s).size < s.size ∧ (rdB s).size ≤ s.size := by
  have hH := rdH_2 s
  have h2 : ¬ s.size < 2 := fun c => by unfold rdE at h; rw [if_pos c] at h; cases h
  unfold rdT rdB
  rw [ByteArray.size_extract, ByteArray.size_extract]
  omega
/-- All of them. -/
def alG : Nat → ByteArray → List (Int × ByteArray) → Option (List (Int × ByteArray))
  | 0, s, acc => if s.size = 0 then some acc else none
  | f + 1, s, acc => if s.size = 0 then some acc else if rdE s = 0 then alG f (rdT s) (acc ++ [(bt s 0, rdB s)]) else none
def alL (s : ByteArray) : List (Int × ByteArray) := (alG 64 s []).getD []
theorem alG_size (f : Nat) : ∀ (s : ByteArray) (acc l : List (Int × ByteArray)) (N : Nat), s.size ≤ N → (∀ p ∈ acc, p.2.size ≤ N) → alG f s acc = some l → ∀ p ∈ l, p.2.size ≤ N := by
  induction f with
  | zero =>
    intro s acc l N hs ha h
    unfold alG at h
    split at h
    · cases h; exact ha
    · cases h
  | succ f ih =>
    intro s acc l N hs ha h
    unfold alG at h
    split at h
    · cases h; exact ha
    · split at h
      · rename_i h0 he
        have := rd_small s he
        refine ih (rdT s) _ l N (by omega) (fun p hp => ?_) h
        rcases List.mem_append.1 hp with hp | hp
        · exact ha p hp
        · simp at hp; subst hp; show (rdB s).size ≤ N; omega
      · cases h
theorem alL_size (s : ByteArray) : ∀ p ∈ alL s, p.2.size ≤ s.size := by
  unfold alL
  cases h : alG 64 s [] with
  | none => intro p hp; cases hp
  | some l => exact alG_size 64 s [] l s.size (Nat.le_refl _) (fun p hp => by cases hp) h
theorem Tryz.infoT : (Tryz.prog.info? 99).map (fun i => (i.zero, i.size, i.bytes)) = some (some (.agg #[.int .i64 0, .string nS]), 2, 24) := by kernel_rfl
def szOf : Value → Nat
  | .string s => s.size
  | _ => 0
set_option maxHeartbeats 2000000 in
theorem rAll_any (s : ByteArray) (hs : s.size ≤ 1000000) (w : World) :
    Calls Tryz.prog 91 #[.string s] w fun e w' => (∃ v E, e = .returned (.tuple #[v, .int .i64 E]) ∧ Tls w' v (alL s)) ∧ Below w.heap.size w w' := by
  obtain ⟨i0, hi, hz0, hz1, hz2⟩ := info_parts Tryz.infoT
  obtain ⟨R, hR⟩ : ∃ R, alG 64 s [] = R := ⟨_, rfl⟩
  have HA : Hid (alG (64 - ([] : List (Int × ByteArray)).length) s [] = R) := hR
  have HS : Hid (∀ l, R = some l → alL s = l) := fun l h => by unfold alL; rw [hR, h]; rfl
  have HN : Hid (R = none → alL s = []) := fun h => by unfold alL; rw [hR, h]; rfl
  have own0 : w.ownsRow w.heap.size 99 2 (.slice none 0 0) 0 (flT []) := ⟨rfl, .inl ⟨rfl, rfl⟩⟩
  clear hR
  go_enter Tryz.func91, Tryz.ntmps91
  go_wp2_with fail
  go_loopw [0, 4] (fun x v wr => ∃ (S : ByteArray) (L : List (Int × ByteArray)), x = .string S ∧ S.size ≤ 1000000 ∧ L.length ≤ 64 ∧ Hid (alG (64 - L.length) S L = R) ∧ wr.ownsRow w.heap.size 99 2 v L.length (flT L) ∧ Below w.heap.size w wr)
    (fun x _ _ => szOf x)
  case atStart => exact ⟨s, [], rfl, hs, by decide, HA, own0, Below.refl _ _⟩
  case round =>
    clear own0 HA hs
    obtain ⟨S, L, rfl, hS, hL, hG, hown, hB⟩ := hrel
    obtain ⟨ao, cv, hv⟩ := own_frm hown
    subst hv
    by_cases h0 : S.size = 0
    · have e := nS_size h0
      subst e
      have HR : Hid (alL s = L) := HS.out L (by rw [← hG.out]; cases 64 - L.length <;> rfl)
      have HT : Hid (Tls wr (.slice ao L.length cv) L) := Tls.own hown
      clear hG HS HN hown
      go_wp2_with fail
      refine bodyPost_ret (v := .tuple #[.slice ao L.length cv, .int .i64 0]) (by simp [results, Tryz.results91, go_sem]) rfl ⟨⟨_, 0, rfl, ?_⟩, hB⟩
      rw [HR.out]
      exact HT.out
    · have h1 : (S.toList == []) = false := by simpa using txt_ne (s := S) (t := nS) (fun e => h0 (by rw [e]; rfl))
      have C := fun W => rRd_any S (by omega) W
      by_cases hE : rdE S = 0
      · have eR : rdR S = .tuple #[.agg #[.int .i64 (bt S 0), .string (rdB S)], .string (rdT S), .int .i64 0] := by unfold rdR; rw [if_pos hE]; rfl
        rw [eR] at C
        have hsm := rd_small S hE
        by_cases h64 : L.length = 64
        · have HR : Hid (alL s = []) := HN.out (by rw [← hG.out, h64, Nat.sub_self, alG, if_neg h0])
          have l64 : ((L.length : Nat) : Int) = 64 := by omega
          clear hG HS HN hown eR hsm hE
          generalize bt S 0 = t at *
          generalize rdB S = B at *
          generalize rdT S = T at *
          go_wp2_with fail
          refine (C _).mono ?_
          rintro e w1 ⟨rfl, hb⟩
          go_wp2_with fail
          refine bodyPost_ret (v := .tuple #[.slice none 0 0, .int .i64 18]) (by simp [results, Tryz.results91, go_sem]) rfl ⟨⟨_, 18, rfl, ?_⟩, ?_⟩
          · rw [HR.out]; exact Tls.nil _
          · have hs2 := hB.size
            have hs3 := hb.size
            refine Below.trans (Bel.call hB hb) ?_
            go_grown
        · have l64 : ¬ ((L.length : Nat) : Int) = 64 := by omega
          have l64b : (((L.length : Nat) : Int) == 64) = false := by simpa using l64
          obtain ⟨f, hf⟩ : ∃ f, 64 - L.length = f + 1 := ⟨63 - L.length, by omega⟩
          have HG : Hid (alG (64 - (L ++ [(bt S 0, rdB S)]).length) (rdT S) (L ++ [(bt S 0, rdB S)]) = R) := by
            show _ = _
            rw [← hG.out, hf, alG, if_neg h0, if_pos hE, List.length_append]
            congr 1
            show 64 - (L.length + 1) = f
            omega
          have HZ : Hid ((rdT S).size < S.size ∧ (rdT S).size ≤ 1000000) := ⟨hsm.1, by omega⟩
          have HO : Hid (wr.ownsRow w.heap.size 99 2 (.slice ao L.length cv) L.length (flT L)) := hown
          have kb : L.length + 1 ≤ maxLen := by unfold maxLen; omega
          clear hG HS HN hown eR hsm hE hf
          generalize bt S 0 = t at *
          generalize rdB S = B at *
          generalize rdT S = T at *
          go_wp2_with fail
          refine (C _).mono ?_
          rintro e w1 ⟨rfl, hb⟩
          have O1 : Hid (w1.ownsRow w.heap.size 99 2 (.slice ao L.length cv) L.length (flT L)) := HO.out.kept (row := none) ⟨hb.os, hb.tape, hb.output, hb.size, fun k hk _ => hb.block k hk⟩ (by cases ao <;> simp [Value.ownBlock])
          clear HO
          go_wp2_with (at_builtin; refine stopAt ?_)
          unfold Stop
          have hsz : (w1.alloc (.cells #[.int .i64 t, .string B] 99)).heap.size = w1.heap.size + 1 := by simp
          have hs2 := hB.size
          have hs3 := hb.size
          have B1 : Below w.heap.size w ((w1.alloc (.cells #[.int .i64 t, .string B] 99)).alloc (.cells #[.int .i64 t, .string B] 99)) := Bel.al (Bel.al (Bel.call hB hb) _) _
          have O2 := World.ownsRow.alloc (World.ownsRow.alloc O1.out (.cells #[.int .i64 t, .string B] 99)) (.cells #[.int .i64 t, .string B] 99)
          have nw := news_new (w1.alloc (.cells #[.int .i64 t, .string B] 99)) [.int .i64 t, .string B] 99
          rw [hsz] at nw
          have hle : w.heap.size ≤ ((w1.alloc (.cells #[.int .i64 t, .string B] 99)).alloc (.cells #[.int .i64 t, .string B] 99)).heap.size := B1.size
          generalize (w1.alloc (.cells #[.int .i64 t, .string B] 99)).alloc (.cells #[.int .i64 t, .string B] 99) = W2 at *
          refine wpList_append_own _ rfl _ _ 103 rfl w.heap.size 99 i0 (.agg #[.int .i64 0, .string nS]) 2 24 Tryz.underlying103 hi hz0 hz1 hz2 rfl (by decide) _ _ _ rfl O2 ⟨_, 0, none⟩ 1 1 [.int .i64 t, .string B] rfl rfl nw (fun u hu => by simp at hu; rcases hu with rfl | rfl <;> rfl) kb (by omega) hle ?_
          intro v' w3 hown' hgrow3 hnil3
          have b3 : Below w.heap.size w w3 := B1.grown hgrow3 hle (fun q hq => (O2.lt q hq).1)
          have HO' : Hid (w3.ownsRow w.heap.size 99 2 v' (L ++ [(t, B)]).length (flT (L ++ [(t, B)]))) := by
            show World.ownsRow _ _ _ _ _ _ _
            rw [List.length_append, flT_app]
            exact hown'
          have HL : Hid ((L ++ [(t, B)]).length ≤ 64) := by show _ ≤ _; rw [List.length_append]; show L.length + 1 ≤ 64; omega
          clear hnil3 hgrow3 hown' O1 O2 nw B1
          go_wp2_with fail
          exact ⟨⟨T, L ++ [(t, B)], rfl, HZ.out.2, HL.out, HG, HO'.out, b3⟩, HZ.out.1⟩
      · have eR : rdR S = .tuple #[.agg #[.int .i64 0, .string nS], .string nS, .int .i64 (rdE S)] := by unfold rdR; rw [if_neg hE]
        rw [eR] at C
        have HR : Hid (alL s = []) := HN.out (by
          rw [← hG.out]
          cases 64 - L.length with
          | zero => rw [alG, if_neg h0]
          | succ f => rw [alG, if_neg h0, if_neg hE])
        clear hG HS HN hown eR
        generalize rdE S = E at *
        have hE2 : (E == 0) = false := by simpa using hE
        go_wp2_with fail
        refine (C _).mono ?_
        rintro e w1 ⟨rfl, hb⟩
        go_wp2_with fail
        refine bodyPost_ret (v := .tuple #[.slice none 0 0, .int .i64 E]) (by simp [results, Tryz.results91, go_sem]) rfl ⟨⟨_, E, rfl, ?_⟩, ?_⟩
        · rw [HR.out]; exact Tls.nil _
        · have hs2 := hB.size
          have hs3 := hb.size
          refine Below.trans (Bel.call hB hb) ?_
          go_grown
end Go.Proofs.YtjdpeedghpblgaaGreatDoor
/- The reference's Sign: what stands within. -/
set_option linter.all false
set_option maxRecDepth 100000
namespace Go.Proofs.YtjdpeedghpblgaaGreatDoor
open Go.RowKit Go.Sort Go.Lib
def wiL : List (Int × ByteArray) → List (Int × ByteArray)
  | [] => []
  | p :: _ => if p.1 = 48 then alL p.2 else []
set_option maxHeartbeats 1000000 in
theorem rwithin_any (l : List (Int × ByteArray)) (hz : ∀ p ∈ l, p.2.size ≤ 1000000) (hl : l.length ≤ 64) (v : Value) (w : World) (h : Tls w v l) :
    Calls Tryz.prog 92 #[v, .int .i64 0, .int .i64 48] w fun e w' => (∃ v', e = .returned v' ∧ Tls w' v' (wiL l)) ∧ Below w.heap.size w w' := by
  obtain ⟨a, c, rfl, hc⟩ := h
  cases l with
  | nil =>
    go_enter Tryz.func92, Tryz.ntmps92
    go_wp2_with fail
    go_ret
    exact ⟨⟨_, rfl, Tls.nil w⟩, Below.refl _ _⟩
  | cons p r =>
    obtain ⟨g, rfl, lt, c0, c1⟩ := hc 0 p rfl
    simp only [Nat.mul_zero, Nat.zero_add] at c0 c1
    obtain ⟨t, b⟩ := p
    simp only at c0 c1
    have n1 : ¬ ((((t, b) :: r).length : Nat) : Int) ≤ 0 := by simp only [List.length_cons]; omega
    have n2 : (0 : Int) < ((((t, b) :: r).length : Nat) : Int) := by omega
    have zb : b.size ≤ 1000000 := hz (t, b) (List.mem_cons_self ..)
    have n3 : ((((t, b) :: r).length : Nat) : Int) ≤ 64 := by omega
    unfold wiL
    simp only
    generalize ((t, b) :: r).length = n at *
    clear hc hz hl
    by_cases h48 : t = 48
    · subst h48
      rw [if_pos rfl]
      have C := fun W => rAll_any b zb W
      go_enter Tryz.func92, Tryz.ntmps92
      go_wp2_with fail
      refine (C _).mono ?_
      rintro e w1 ⟨⟨v, E, rfl, hT⟩, hb⟩
      obtain ⟨a', c', rfl, hc'⟩ := hT
      have HT : Hid (Tls w1 (.slice a' (alL b).length c') (alL b)) := ⟨a', c', rfl, hc'⟩
      clear hc'
      go_wp2_with fail
      go_ret
      exact ⟨⟨_, rfl, HT.out⟩, hb⟩
    · rw [if_neg h48]
      have h48' : (t == 48) = false := by simpa using h48
      go_enter Tryz.func92, Tryz.ntmps92
      go_wp2_with fail
      go_ret
      exact ⟨⟨_, rfl, Tls.nil w⟩, Below.refl _ _⟩
def boL (l : List (Int × ByteArray)) (i : Nat) : ByteArray := (l[i]?.map (·.2)).getD nS
set_option maxHeartbeats 1000000 in
theorem rbody12_any (l : List (Int × ByteArray)) (hl : l.length ≤ 64) (i : Nat) (I : Int) (hI : (i : Int) = I) (i1 : i ≤ 1) (v : Value) (w : World) (h : Tls w v l) :
    Calls Tryz.prog 94 #[v, .int .i64 I] w fun e w' => e = .returned (.string (boL l i)) ∧ Below w.heap.size w w' := by
  obtain ⟨a, c, rfl, hc⟩ := h
  unfold boL
  cases hi : l[i]? with
  | none =>
    have : l.length ≤ i := List.getElem?_eq_none_iff.1 hi
    have n1 : ((l.length : Nat) : Int) ≤ I := by omega
    go_enter Tryz.func94, Tryz.ntmps94
    go_wp2_with fail
    go_ret
    exact ⟨rfl, Below.refl _ _⟩
  | some p =>
    have : i < l.length := (List.getElem?_eq_some_iff.1 hi).1
    have n1 : ¬ ((l.length : Nat) : Int) ≤ I := by omega
    have n2 : I < ((l.length : Nat) : Int) := by omega
    have n3 : ((l.length : Nat) : Int) ≤ 64 := by omega
    have n4 : 0 ≤ I := by omega
    obtain ⟨g, rfl, lt, c0, c1⟩ := hc i p hi
    obtain ⟨t, b⟩ := p
    simp only [Option.map_some, Option.getD_some] at *
    generalize l.length = n at *
    have ci : i = 0 ∨ i = 1 := by omega
    clear hc hi hl
    rcases ci with rfl | rfl
    · have : I = 0 := by omega
      subst this
      go_enter Tryz.func94, Tryz.ntmps94
      go_wp2_with fail
      go_ret
      exact ⟨rfl, Below.refl _ _⟩
    · have : I = 1 := by omega
      subst this
      go_enter Tryz.func94, Tryz.ntmps94
      go_wp2_with fail
      go_ret
      exact ⟨rfl, Below.refl _ _⟩
/-- A number that stands as bytes. -/
def tiN (s : ByteArray) : Int := if tiE (sL s) = 0 then beV (cut0 (sL s)) else 0
theorem tiN_bd (s : ByteArray) : 0 ≤ tiN s ∧ tiN s < top256 := by
  unfold tiN
  split
  · rename_i h
    have := back_int s h
    exact ⟨this.1, this.2.1⟩
  · unfold top256; omega
theorem rTi_any (s : ByteArray) (hm : s.size ≤ 1000000) (w : World) : Calls Tryz.prog 93 #[.string s] w fun e w' => e = .returned (.tuple #[nv (tiN s), .int .i64 (tiE (sL s))]) ∧ Below w.heap.size w w' := by
  have hm' : s.size ≤ maxLen := by unfold maxLen; omega
  unfold tiN
  by_cases h : tiE (sL s) = 0
  · rw [if_pos h, h]
    exact rToInt_yes s hm' h w
  · rw [if_neg h]
    have := rToInt_no s hm' h w
    unfold nv
    rw [lim_0, lim_0, lim_0, lim_0]
    exact this
def sgA (s : ByteArray) : Int := tiN (boL (wiL (alL s)) 0)
def sgB (s : ByteArray) : Int := tiN (boL (wiL (alL s)) 1)
set_option maxHeartbeats 2000000 in
theorem rSign_core (s b1 b2 : ByteArray) (l1 l2 : List (Int × ByteArray)) (x0 x1 x2 x3 y0 y1 y2 y3 E1 E2 : Int) (w : World)
    (C1 : ∀ W, Calls Tryz.prog 91 #[.string s] W fun e w' => (∃ v E, e = .returned (.tuple #[v, .int .i64 E]) ∧ Tls w' v l1) ∧ Below W.heap.size W w')
    (C2 : ∀ W v, Tls W v l1 → Calls Tryz.prog 92 #[v, .int .i64 0, .int .i64 48] W fun e w' => (∃ v', e = .returned v' ∧ Tls w' v' l2) ∧ Below W.heap.size W w')
    (C3 : ∀ W v, Tls W v l2 → Calls Tryz.prog 94 #[v, .int .i64 0] W fun e w' => e = .returned (.string b1) ∧ Below W.heap.size W w')
    (C4 : ∀ W, Calls Tryz.prog 93 #[.string b1] W fun e w' => e = .returned (.tuple #[.agg #[.int .u64 x0, .int .u64 x1, .int .u64 x2, .int .u64 x3], .int .i64 E1]) ∧ Below W.heap.size W w')
    (C5 : ∀ W v, Tls W v l2 → Calls Tryz.prog 94 #[v, .int .i64 1] W fun e w' => e = .returned (.string b2) ∧ Below W.heap.size W w')
    (C6 : ∀ W, Calls Tryz.prog 93 #[.string b2] W fun e w' => e = .returned (.tuple #[.agg #[.int .u64 y0, .int .u64 y1, .int .u64 y2, .int .u64 y3], .int .i64 E2]) ∧ Below W.heap.size W w') :
    Calls Tryz.prog 62 #[.string s] w fun e w' => e = .returned (.agg #[.int .u64 x0, .int .u64 x1, .int .u64 x2, .int .u64 x3, .int .u64 y0, .int .u64 y1, .int .u64 y2, .int .u64 y3]) ∧ Below w.heap.size w w' := by
  go_enter Tryz.func62, Tryz.ntmps62
  go_wp2_with fail
  have A0 : Arr (w.alloc (.cells #[.int .u64 0, .int .u64 0, .int .u64 0, .int .u64 0, .int .u64 0, .int .u64 0, .int .u64 0, .int .u64 0] 27)) w.heap.size 8 (fun _ => .int .u64 0) := Arr.new w _ 27 _ rfl _ 8 (fun j hj => by
    have : j = 0 ∨ j = 1 ∨ j = 2 ∨ j = 3 ∨ j = 4 ∨ j = 5 ∨ j = 6 ∨ j = 7 := by omega
    rcases this with rfl | rfl | rfl | rfl | rfl | rfl | rfl | rfl <;> rfl)
  have B0 : Below w.heap.size w (w.alloc (.cells #[.int .u64 0, .int .u64 0, .int .u64 0, .int .u64 0, .int .u64 0, .int .u64 0, .int .u64 0, .int .u64 0] 27)) := by go_grown
  generalize (w.alloc (.cells #[.int .u64 0, .int .u64 0, .int .u64 0, .int .u64 0, .int .u64 0, .int .u64 0, .int .u64 0, .int .u64 0] 27)) = W at *
  refine (C1 _).mono ?_
  rintro e w1 ⟨⟨v, E, rfl, hT⟩, hb⟩
  replace A0 : Arr _ _ 8 _ := A0.to' (n := 7) hb
  replace B0 := Bel.call B0 hb
  clear hb C1
  go_wp2_with fail
  refine (C2 _ _ hT).mono ?_
  rintro e w2 ⟨⟨v', rfl, hT'⟩, hb⟩
  replace A0 : Arr _ _ 8 _ := A0.to' (n := 7) hb
  replace B0 := Bel.call B0 hb
  clear hb C2 hT
  go_wp2_with fail
  refine (C3 _ _ hT').mono ?_
  rintro e w3 ⟨rfl, hb⟩
  replace A0 : Arr _ _ 8 _ := A0.to' (n := 7) hb
  replace B0 := Bel.call B0 hb
  replace hT' := hT'.to hb
  clear hb C3
  go_wp2_with fail
  refine (C4 _).mono ?_
  rintro e w4 ⟨rfl, hb⟩
  replace A0 : Arr _ _ 8 _ := A0.to' (n := 7) hb
  replace B0 := Bel.call B0 hb
  replace hT' := hT'.to hb
  clear hb C4
  go_wp2_with fail
  have l6 : Arr (w4.alloc (.cells #[.int .u64 x0, .int .u64 x1, .int .u64 x2, .int .u64 x3] 25)) w4.heap.size 4 (fun j => if j = 0 then .int .u64 x0 else if j = 1 then .int .u64 x1 else if j = 2 then .int .u64 x2 else .int .u64 x3) := Arr.new w4 _ 25 _ rfl _ 4 (fun j hj => by
    have : j = 0 ∨ j = 1 ∨ j = 2 ∨ j = 3 := by omega
    rcases this with rfl | rfl | rfl | rfl <;> rfl)
  have hb : Below w4.heap.size w4 (w4.alloc (.cells #[.int .u64 x0, .int .u64 x1, .int .u64 x2, .int .u64 x3] 25)) := by go_grown
  replace A0 : Arr _ _ 8 _ := A0.to' (n := 7) hb
  replace B0 := Bel.call B0 hb
  replace hT' := hT'.to hb
  clear hb
  have z6 := Arr.lt (n := 3) l6
  generalize (w4.alloc (.cells #[.int .u64 x0, .int .u64 x1, .int .u64 x2, .int .u64 x3] 25)) = W5 at *
  generalize w4.heap.size = b6 at *
  refine (C5 _ _ hT').mono ?_
  rintro e w6 ⟨rfl, hb⟩
  replace A0 : Arr _ _ 8 _ := A0.to' (n := 7) hb
  replace l6 : Arr _ _ 4 _ := l6.to' (n := 3) hb
  replace B0 := Bel.call B0 hb
  clear hb C5 hT' z6
  go_wp2_with fail
  refine (C6 _).mono ?_
  rintro e w7 ⟨rfl, hb⟩
  replace A0 : Arr _ _ 8 _ := A0.to' (n := 7) hb
  replace l6 : Arr _ _ 4 _ := l6.to' (n := 3) hb
  replace B0 := Bel.call B0 hb
  clear hb C6
  go_upto_region 5 with (fail)
  have l8 : Arr (w7.alloc (.cells #[.int .u64 y0, .int .u64 y1, .int .u64 y2, .int .u64 y3] 25)) w7.heap.size 4 (fun j => if j = 0 then .int .u64 y0 else if j = 1 then .int .u64 y1 else if j = 2 then .int .u64 y2 else .int .u64 y3) := Arr.new w7 _ 25 _ rfl _ 4 (fun j hj => by
    have : j = 0 ∨ j = 1 ∨ j = 2 ∨ j = 3 := by omega
    rcases this with rfl | rfl | rfl | rfl <;> rfl)
  have hb : Below w7.heap.size w7 (w7.alloc (.cells #[.int .u64 y0, .int .u64 y1, .int .u64 y2, .int .u64 y3] 25)) := by go_grown
  replace A0 : Arr _ _ 8 _ := A0.to' (n := 7) hb
  replace l6 : Arr _ _ 4 _ := l6.to' (n := 3) hb
  replace B0 := Bel.call B0 hb
  clear hb
  generalize (w7.alloc (.cells #[.int .u64 y0, .int .u64 y1, .int .u64 y2, .int .u64 y3] 25)) = W8 at *
  generalize w7.heap.size = b8 at *
  have p0 := l6.cv 0 (by omega) (.int .u64 x0) rfl
  have q0 := l8.cv 0 (by omega) (.int .u64 y0) rfl
  have p1 := l6.cv 1 (by omega) (.int .u64 x1) rfl
  have q1 := l8.cv 1 (by omega) (.int .u64 y1) rfl
  have p2 := l6.cv 2 (by omega) (.int .u64 x2) rfl
  have q2 := l8.cv 2 (by omega) (.int .u64 y2) rfl
  have p3 := l6.cv 3 (by omega) (.int .u64 x3) rfl
  have q3 := l8.cv 3 (by omega) (.int .u64 y3) rfl
  have c0 := A0.c 0 (by omega)
  have z0 := A0.z 0 (by omega)
  have c1 := A0.c 1 (by omega)
  have z1 := A0.z 1 (by omega)
  have c2 := A0.c 2 (by omega)
  have z2 := A0.z 2 (by omega)
  have c3 := A0.c 3 (by omega)
  have z3 := A0.z 3 (by omega)
  have c4 := A0.c 4 (by omega)
  have z4 := A0.z 4 (by omega)
  have c5 := A0.c 5 (by omega)
  have z5 := A0.z 5 (by omega)
  have c6 := A0.c 6 (by omega)
  have z6 := A0.z 6 (by omega)
  have c7 := A0.c 7 (by omega)
  have z7 := A0.z 7 (by omega)
  have F := ((((((((A0.set 0 (by omega) (.int .u64 x0)).set 1 (by omega) (.int .u64 x1)).set 2 (by omega) (.int .u64 x2)).set 3 (by omega) (.int .u64 x3)).set 4 (by omega) (.int .u64 y0)).set 5 (by omega) (.int .u64 y1)).set 6 (by omega) (.int .u64 y2)).set 7 (by omega) (.int .u64 y3))
  have f0 := F.c 0 (by omega)
  have f1 := F.c 1 (by omega)
  have f2 := F.c 2 (by omega)
  have f3 := F.c 3 (by omega)
  have f4 := F.c 4 (by omega)
  have f5 := F.c 5 (by omega)
  have f6 := F.c 6 (by omega)
  have f7 := F.c 7 (by omega)
  simp only [] at f0 f1 f2 f3 f4 f5 f6 f7
  clear l6 l8
  go_wp2_with fail
  refine bodyPost_ret (v := .agg #[.int .u64 x0, .int .u64 x1, .int .u64 x2, .int .u64 x3, .int .u64 y0, .int .u64 y1, .int .u64 y2, .int .u64 y3]) (by simp [results, Tryz.results62, go_sem, c0, c1, c2, c3, c4, c5, c6, c7, z0, z1, z2, z3, z4, z5, z6, z7]) rfl ⟨rfl, ?_⟩
  exact (Bel.st (Bel.st (Bel.st (Bel.st (Bel.st (Bel.st (Bel.st (Bel.st B0 (Nat.le_refl _) _) (Nat.le_refl _) _) (Nat.le_refl _) _) (Nat.le_refl _) _) (Nat.le_refl _) _) (Nat.le_refl _) _) (Nat.le_refl _) _) (Nat.le_refl _) _)
theorem alG_len (f : Nat) : ∀ (s : ByteArray) (acc l : List (Int × ByteArray)), alG f s acc = some l → l.length ≤ acc.length + f := by
  induction f with
  | zero =>
    intro s acc l h
    unfold alG at h
    split at h
    · cases h; omega
    · cases h
  | succ f ih =>
    intro s acc l h
    unfold alG at h
    split at h
    · cases h; omega
    · split at h
      · have := ih _ _ _ h
        rw [List.length_append] at this
        simp at this
        omega
      · cases h
theorem alL_len (s : ByteArray) : (alL s).length ≤ 64 := by
  unfold alL
  cases h : alG 64 s [] with
  | none => exact Nat.zero_le _
  | some l => have := alG_len 64 s [] l h; simpa using this
theorem wiL_ok (s : ByteArray) : (wiL (alL s)).length ≤ 64 ∧ ∀ p ∈ wiL (alL s), p.2.size ≤ s.size := by
  have hs := alL_size s
  cases h : alL s with
  | nil => exact ⟨Nat.zero_le _, fun p hp => by cases hp⟩
  | cons q r =>
    rw [h] at hs
    unfold wiL
    simp only
    split
    · refine ⟨alL_len _, fun p hp => ?_⟩
      have := alL_size q.2 p hp
      have := hs q (List.mem_cons_self ..)
      omega
    · exact ⟨Nat.zero_le _, fun p hp => by cases hp⟩
theorem boL_size {l : List (Int × ByteArray)} {N : Nat} (h : ∀ p ∈ l, p.2.size ≤ N) (i : Nat) : (boL l i).size ≤ N := by
  unfold boL
  cases e : l[i]? with
  | none => exact Nat.zero_le _
  | some p => exact h p (List.mem_of_getElem? e)
theorem rSign_any (s : ByteArray) (hs : s.size ≤ 1000000) (w : World) : Calls Tryz.prog 62 #[.string s] w fun e w' => e = .returned (.agg #[.int .u64 (lim (sgA s) 0), .int .u64 (lim (sgA s) 1), .int .u64 (lim (sgA s) 2), .int .u64 (lim (sgA s) 3), .int .u64 (lim (sgB s) 0), .int .u64 (lim (sgB s) 1), .int .u64 (lim (sgB s) 2), .int .u64 (lim (sgB s) 3)]) ∧ Below w.heap.size w w' := by
  have a := wiL_ok s
  have b0 := boL_size a.2 0
  have b1 := boL_size a.2 1
  refine rSign_core s (boL (wiL (alL s)) 0) (boL (wiL (alL s)) 1) (alL s) (wiL (alL s)) _ _ _ _ _ _ _ _ _ _ w (fun W => rAll_any s hs W) (fun W v h => rwithin_any _ (fun p hp => by have := alL_size s p hp; omega) (alL_len s) v W h)
    (fun W v h => rbody12_any _ a.1 0 0 rfl (by omega) v W h) (fun W => rTi_any _ (by omega) W) (fun W v h => rbody12_any _ a.1 1 1 rfl (by omega) v W h) (fun W => rTi_any _ (by omega) W)
end Go.Proofs.YtjdpeedghpblgaaGreatDoor
/- der.tags hands out a text's tags. -/
set_option linter.all false
set_option maxRecDepth 100000
namespace Go.Proofs.YtjdpeedghpblgaaGreatDoor
open Go.RowKit Go.Shelf Go.Sort
attribute [local go_sem] Oper.semAt_some
/-- A tag, what it has, an error. -/
abbrev It : Type := Int × ByteArray × Int
def itG : Nat → ByteArray → List It
  | 0, _ => []
  | f + 1, s => if s.size = 0 then [] else if rdE s = 0 then (bt s 0, rdB s, 0) :: itG f (rdT s) else [(0, nS, rdE s)]
abbrev encI (x : It) : Array Value := #[tlv x.1 x.2.1, .int .i64 x.2.2]
def MkI (s : ByteArray) (pre : List It) (x : It) : Prop := ∃ more, pre ++ x :: more = itG s.size s
set_option maxHeartbeats 4000000 in
theorem tags1_in (s : ByteArray) (hz : s.size ≤ 1000000) (n l bx : Nat) (hn : 1 ≤ n) (Jv Jx : List It → World → Prop) {B : Nat} (hJ : AbidesFrom B Jv)
    (hY : ∀ pre (x : It) W, Jv pre W → MkI s pre x → YieldAt Fence.wide (n - 1) Tryz.prog l (encI x) W fun e W' => (e = .returned (.bool true) ∧ Jv (pre ++ [x]) W' ∧ True) ∨ (e = .returned (.bool false) ∧ Jx (pre ++ [x]) W'))
    (W : World) (hA : Arr W bx 1 (fun _ => .string s)) (h0 : Jv [] W) :
    CallsIn Fence.wide n Tryz.prog 132 #[.func (.yield l) #[] #[], .pointer (some ⟨bx, 0, none⟩)] W fun e W' => (∃ v, e = .returned v) ∧
      ((∃ ys : List It, ys = itG s.size s ∧ Jv ys W' ∧ True) ∨ (∃ pre : List It, True ∧ Jx pre W')) := by
  have hd : 1 ≤ n := hn
  have HY : Hid _ := hY
  clear hY
  have cb := hA.c 0 (by omega)
  refine callsIn_of_wp Tryz.func132 rfl trivial ?_ rfl
  simp only [Tryz.ntmps132, List.size_toArray, List.length_cons, List.length_nil, Nat.reduceAdd, Nat.reduceSub, Array.replicate_succ, Array.replicate_zero, List.push_toArray, List.append_toArray, List.nil_append, List.cons_append]
  have HG0 : Hid ([] ++ itG s.size s = itG s.size s) := rfl
  have hnot : ∀ (x : Bool) (w : World), (Op.unary .not (.bool x)).run Tryz.prog w = .ok (.bool (!x)) w := fun _ _ => rfl
  gi_wp2
  gi_loopw [3] (fun x wr => ∃ (S : ByteArray) (pre : List It) (f : Nat), x = .string S ∧ S.size ≤ f ∧ S.size ≤ 1000000 ∧ Hid (pre ++ itG f S = itG s.size s) ∧ Jv pre wr) (fun x _ => szOf x)
  case atStart => exact ⟨s, [], s.size, rfl, Nat.le_refl _, hz, HG0, h0⟩
  case round =>
    clear h0 HG0 cb hA
    obtain ⟨S, pre, f, rfl, hf, hS, hG, hJs⟩ := hrel
    by_cases h0 : S.size = 0
    · have e := nS_size h0
      subst e
      gi_wp2
      go_end0
      refine ⟨⟨_, rfl⟩, .inl ⟨pre, ?_, hJs, trivial⟩⟩
      rw [← hG.out]
      cases f with
      | zero => exact (List.append_nil _).symm
      | succ f => rw [itG, if_pos h0, List.append_nil]
    · obtain ⟨f', rfl⟩ : ∃ f', f = f' + 1 := ⟨f - 1, by omega⟩
      have h1 := emp_no S (by omega)
      have rd := read_any S (by unfold maxLen; omega) wr
      by_cases he : rdE S = 0
      · have e2 : rdR S = .tuple #[tlv (bt S 0) (rdB S), .string (rdT S), .int .i64 0] := by unfold rdR rdB rdT; rw [if_pos he]
        rw [e2] at rd
        have hs := rd_small S he
        have HE : Hid (pre ++ (bt S 0, rdB S, 0) :: itG f' (rdT S) = itG s.size s) := by show _ = _; rw [← hG.out, itG, if_neg h0, if_pos he]
        have HE2 : Hid ((pre ++ [(bt S 0, rdB S, 0)]) ++ itG f' (rdT S) = itG s.size s) := by show _ = _; rw [← HE.out, List.append_assoc]; rfl
        clear e2 hG he
        generalize bt S 0 = t at *
        generalize rdB S = b at *
        generalize rdT S = T at *
        gi_wp2_with (refine ⟨trivial, ?_⟩; gi_at_call 133; refine (callsIn_wide.2 rd).mono ?_; rintro e w2 ⟨rfl, hb⟩; have hJ2 := hJ _ wr w2 none hJs (gby hb) (fun r e => by cases e); clear hJs hb)
        have hJ3 := hJ _ w2 (w2.alloc (.cells #[.int .i64 t, .string b] 99)) none hJ2 (World.grownBy_alloc w2 _ none) (fun r e => by cases e)
        obtain ⟨fn, tmps, assign, body, hy, hR⟩ := HY.out pre (t, b, 0) (w2.alloc (.cells #[.int .i64 t, .string b] 99)) hJ3 ⟨_, HE.out⟩
        unfold encI at hy
        clear hJ2 hJ3 HY
        generalize w2.alloc (.cells #[.int .i64 t, .string b] 99) = w3 at *
        gi_wp2
        refine hR.mono ?_
        rintro e W3 (⟨rfl, hJ3, _⟩ | ⟨rfl, hJx3⟩)
        · gi_wp2
          exact ⟨⟨T, pre ++ [(t, b, 0)], f', rfl, by omega, by omega, HE2, hJ3⟩, by show T.size < S.size; omega⟩
        · gi_wp2
          refine bodyPost_ret (results_none rfl _ _ _) rfl ?_
          exact ⟨⟨_, rfl⟩, .inr ⟨_, trivial, hJx3⟩⟩
      · have e2 : rdR S = .tuple #[tlv 0 nS, .string nS, .int .i64 (rdE S)] := by unfold rdR; rw [if_neg he]
        rw [e2] at rd
        have HE : Hid (pre ++ (0, nS, rdE S) :: [] = itG s.size s) := by show _ = _; rw [← hG.out, itG, if_neg h0, if_neg he]
        have HE2 : Hid ((pre ++ [(0, nS, rdE S)]) ++ itG f' nS = itG s.size s) := by
          show _ = _
          rw [← HE.out]
          cases f' with
          | zero => rw [itG, List.append_nil]
          | succ f => rw [itG, if_pos (by rfl), List.append_nil]
        clear e2 hG he
        generalize rdE S = E at *
        gi_wp2_with (refine ⟨trivial, ?_⟩; gi_at_call 133; refine (callsIn_wide.2 rd).mono ?_; rintro e w2 ⟨rfl, hb⟩; have hJ2 := hJ _ wr w2 none hJs (gby hb) (fun r e => by cases e); clear hJs hb)
        have hJ3 := hJ _ w2 (w2.alloc (.cells #[.int .i64 0, .string nS] 99)) none hJ2 (World.grownBy_alloc w2 _ none) (fun r e => by cases e)
        obtain ⟨fn, tmps, assign, body, hy, hR⟩ := HY.out pre (0, nS, E) (w2.alloc (.cells #[.int .i64 0, .string nS] 99)) hJ3 ⟨_, HE.out⟩
        unfold encI at hy
        clear hJ2 hJ3 HY
        generalize w2.alloc (.cells #[.int .i64 0, .string nS] 99) = w3 at *
        gi_wp2
        refine hR.mono ?_
        rintro e W3 (⟨rfl, hJ3, _⟩ | ⟨rfl, hJx3⟩)
        · gi_wp2
          exact ⟨⟨nS, pre ++ [(0, nS, E)], f', rfl, Nat.zero_le _, by decide, HE2, hJ3⟩, by show 0 < S.size; omega⟩
        · gi_wp2
          refine bodyPost_ret (results_none rfl _ _ _) rfl ?_
          exact ⟨⟨_, rfl⟩, .inr ⟨_, trivial, hJx3⟩⟩
end Go.Proofs.YtjdpeedghpblgaaGreatDoor
/- der.All, walked. -/
set_option linter.all false
set_option maxRecDepth 100000
namespace Go.Proofs.YtjdpeedghpblgaaGreatDoor
open Go.RowKit Go.Shelf Go.Sort
attribute [local go_sem] Oper.semAt_some
def tgs (l : List It) : List (Int × ByteArray) := l.map fun x => (x.1, x.2.1)
theorem it_yes (f : Nat) : ∀ (g : Nat) (s : ByteArray) (acc : List (Int × ByteArray)), s.size ≤ f → (∀ x ∈ itG f s, x.2.2 = 0) → (itG f s).length ≤ g → alG g s acc = some (acc ++ tgs (itG f s)) := by
  induction f with
  | zero =>
    intro g s acc hs _ _
    have : s.size = 0 := by omega
    cases g <;> (unfold alG; rw [if_pos this]; simp [itG, tgs])
  | succ f ih =>
    intro g s acc hs he hl
    by_cases h0 : s.size = 0
    · have e : itG (f + 1) s = [] := by rw [itG, if_pos h0]
      rw [e]
      cases g <;> (unfold alG; rw [if_pos h0]; simp [tgs])
    · by_cases h1 : rdE s = 0
      · have e : itG (f + 1) s = (bt s 0, rdB s, 0) :: itG f (rdT s) := by rw [itG, if_neg h0, if_pos h1]
        rw [e] at he hl ⊢
        have sm := rd_small s h1
        cases g with
        | zero => simp at hl
        | succ g =>
          unfold alG
          rw [if_neg h0, if_pos h1, ih g (rdT s) _ (by omega) (fun x hx => he x (List.mem_cons_of_mem _ hx)) (by simpa using hl), List.append_assoc]
          rfl
      · have e : itG (f + 1) s = [(0, nS, rdE s)] := by rw [itG, if_neg h0, if_neg h1]
        rw [e] at he
        exact absurd (he _ (List.mem_singleton.2 rfl)) h1
theorem it_no (f : Nat) : ∀ (g : Nat) (s : ByteArray) (acc : List (Int × ByteArray)), s.size ≤ f → ((∃ x ∈ itG f s, x.2.2 ≠ 0) ∨ g < (itG f s).length) → alG g s acc = none := by
  induction f with
  | zero =>
    intro g s acc hs h
    rcases h with ⟨x, hx, _⟩ | h
    · cases hx
    · simp [itG] at h
  | succ f ih =>
    intro g s acc hs h
    by_cases h0 : s.size = 0
    · have e : itG (f + 1) s = [] := by rw [itG, if_pos h0]
      rw [e] at h
      rcases h with ⟨x, hx, _⟩ | h
      · cases hx
      · simp at h
    · by_cases h1 : rdE s = 0
      · have e : itG (f + 1) s = (bt s 0, rdB s, 0) :: itG f (rdT s) := by rw [itG, if_neg h0, if_pos h1]
        rw [e] at h
        have sm := rd_small s h1
        cases g with
        | zero => unfold alG; rw [if_neg h0]
        | succ g =>
          unfold alG
          rw [if_neg h0, if_pos h1]
          refine ih g (rdT s) _ (by omega) ?_
          rcases h with ⟨x, hx, hn⟩ | h
          · rcases List.mem_cons.1 hx with rfl | hx
            · exact absurd rfl hn
            · exact .inl ⟨x, hx, hn⟩
          · exact .inr (by simpa using h)
      · cases g with
        | zero => unfold alG; rw [if_neg h0]
        | succ g => unfold alG; rw [if_neg h0, if_neg h1]
theorem dtags_any (s : ByteArray) (w : World) : Calls Tryz.prog 120 #[.string s] w fun e w' => e = .returned (.func (.func 132) #[] #[.pointer (some ⟨w.heap.size, 0, none⟩)]) ∧ w' = w.alloc (.cells #[.string s] 9) := by
  have hmf : ∀ (fn : Fn) (first cap : Array Value) (w : World), (Instr.makeFunc fn first cap).run Tryz.prog w = .ok (.func fn first cap) w := fun _ _ _ _ => rfl
  go_enter Tryz.func120, Tryz.ntmps120
  go_wp2
  go_ret
  exact ⟨rfl, rfl⟩
theorem one_of (v : Value) (j : Nat) (hj : j < 1) : (#[v] : Array Value)[j]? = some v := by
  have : j = 0 := by omega
  subst this; rfl
def IA (w : World) (pre : List It) (W : World) : Prop :=
  ((∃ v, Boxed W w.heap.size 103 v ∧ W.ownsRow w.heap.size 99 2 v (pre.take 65).length (flT (tgs (pre.take 65))) ∧ (∀ x ∈ pre, x.2.2 = 0)) ∧ Boxed W (w.heap.size + 1) 31 (.int .i64 0)) ∧ Below w.heap.size w W
def IB (w : World) (s : ByteArray) (pre : List It) (W : World) : Prop :=
  (∃ E : Int, E ≠ 0 ∧ (∃ q t b more, q ++ (t, b, E) :: more = itG s.size s) ∧ Boxed W (w.heap.size + 1) 31 (.int .i64 E)) ∧ Below w.heap.size w W
theorem IA_own (w : World) (B : Nat) (hB : w.heap.size ≤ B) : OwnFrom B (IA w) := by
  have h1 : OwnFrom B _ := Own.from (holdsRow_own w.heap.size w.heap.size 103 99 2 (fun pre : List It => (pre.take 65).length) (fun pre => flT (tgs (pre.take 65))) (fun pre _ => ∀ x ∈ pre, x.2.2 = 0)) _
  have h2 : OwnFrom B _ := Own.from (boxed_own (w.heap.size + 1) 31 (fun _ : List It => .int .i64 0)) _
  have h3 : OwnFrom B (fun (_ : List It) W => Below w.heap.size w W) := ownFrom_below (Nat.le_refl _) hB
  exact fun s A A' row hs hg hr => ⟨⟨h1 s A A' row hs.1.1 hg hr, h2 s A A' row hs.1.2 hg hr⟩, h3 s A A' row hs.2 hg hr⟩
theorem IB_own (w : World) (s : ByteArray) (B : Nat) (hB : w.heap.size ≤ B) : OwnFrom B (IB w s) := by
  have h3 : OwnFrom B (fun (_ : List It) W => Below w.heap.size w W) := ownFrom_below (Nat.le_refl _) hB
  exact fun p A A' row hs hg hr => by
    obtain ⟨⟨E, h1, h2, hb⟩, hc⟩ := hs
    have h5 : OwnFrom B _ := Own.from (boxed_own (w.heap.size + 1) 31 (fun _ : List It => .int .i64 E)) _
    exact ⟨⟨E, h1, h2, h5 p A A' row hb hg hr⟩, h3 p A A' row hc hg hr⟩
theorem tags_seq (s : ByteArray) (hz : s.size ≤ 1000000) (n bx : Nat) (hn : 1 ≤ n) (w0 : World) (hA : Arr w0 bx 1 (fun _ => .string s)) :
    SeqM Fence.wide n Tryz.prog 132 #[.pointer (some ⟨bx, 0, none⟩)] encI (fun _ _ => True) (fun pre x _ => MkI s pre x) (fun _ => True) (fun ys => ys = itG s.size s) (fun _ => True) none (fun _ => True) w0 :=
  fun l Jv Jx W hW hJ _ _ _ hY h0 => tags1_in s hz n l bx hn Jv Jx hJ hY W (hA.to' hW) h0
set_option maxHeartbeats 4000000 in
theorem dAll_any (s : ByteArray) (hs : s.size ≤ 1000000) (w : World) :
    Calls Tryz.prog 108 #[.string s] w fun e w' => Below w.heap.size w w' ∧ ((∃ l v, alG 64 s [] = some l ∧ e = .returned (.tuple #[v, .int .i64 0]) ∧ Tls w' v l) ∨ (alG 64 s [] = none ∧ ∃ E : Int, E ≠ 0 ∧ e = .returned (.tuple #[.slice none 0 0, .int .i64 E]))) := by
  obtain ⟨i0, hi, hz0, hz1, hz2⟩ := info_parts Tryz.infoT
  have TG := fun W => dtags_any s W
  refine (callsIn_wide (n := 8)).1 ?_
  refine callsIn_of_wp_marks Tryz.func108 rfl trivial ?_ rfl
  simp only [Tryz.ntmps108, List.size_toArray, List.length_cons, List.length_nil, Nat.reduceAdd, Nat.reduceSub, Array.replicate_succ, Array.replicate_zero, List.push_toArray, List.append_toArray, List.nil_append, List.cons_append]
  gi_wp2
  refine wpIn_wide.2 (wp_scope_straight ?_)
  go_wp2_with fail
  go_step3
  go_wp2_with (go_at_call 120; refine (TG _).mono ?_; rintro e w' ⟨rfl, rfl⟩)
  refine (wpIn_wide (n := 8)).1 ?_
  have bO : Boxed (((w.alloc (.cells #[.slice none 0 0] 103)).alloc (.cells #[.int .i64 0] 31)).alloc (.cells #[.string s] 9)) w.heap.size 103 (.slice none 0 0) := ((Boxed.new w 103 _).alloc _).alloc _
  have bF : Boxed (((w.alloc (.cells #[.slice none 0 0] 103)).alloc (.cells #[.int .i64 0] 31)).alloc (.cells #[.string s] 9)) (w.heap.size + 1) 31 (.int .i64 0) := by
    have := (Boxed.new (w.alloc (.cells #[.slice none 0 0] 103)) 31 (.int .i64 0)).alloc (.cells #[.string s] 9)
    rwa [World.size_alloc] at this
  have bS : Arr (((w.alloc (.cells #[.slice none 0 0] 103)).alloc (.cells #[.int .i64 0] 31)).alloc (.cells #[.string s] 9)) (w.heap.size + 1 + 1) 1 (fun _ => .string s) := Arr.new _ _ 9 _ (by simp) _ 1 (one_of _)
  have hB0 : Below w.heap.size w (((w.alloc (.cells #[.slice none 0 0] 103)).alloc (.cells #[.int .i64 0] 31)).alloc (.cells #[.string s] 9)) := by go_grown
  have z0 : (((w.alloc (.cells #[.slice none 0 0] 103)).alloc (.cells #[.int .i64 0] 31)).alloc (.cells #[.string s] 9)).heap.size = w.heap.size + 3 := by simp
  generalize (((w.alloc (.cells #[.slice none 0 0] 103)).alloc (.cells #[.int .i64 0] 31)).alloc (.cells #[.string s] 9)) = w3 at *
  refine wpIn_rangeFunc_made rfl (by omega) (gf := 132) (lb := #[.pointer (some ⟨w.heap.size + 1 + 1, 0, none⟩)]) rfl trivial (enters_of Tryz.func132 (by kernel_rfl) rfl)
    (tags_seq s hs _ (w.heap.size + 1 + 1) (by omega) w3 bS) (fun _ _ => trivial) (fun _ _ _ _ _ _ _ => trivial) (fun _ _ _ => trivial) (Below.refl _ _) (fun _ => rfl)
    (fun k e => by cases e) (fun _ _ _ _ h _ _ => h) (fun _ _ _ _ h _ _ => h)
    (IA w) (IB w s) (IA_own w _ (by omega)) (IB_own w s _ (by omega)) (fun p A B h hg => IA_own w w.heap.size (Nat.le_refl _) p A B none h hg (fun r e => by cases e)) (fun _ _ _ => trivial)
    ⟨⟨⟨_, bO, World.ownsRow_nil _ _ _ _, fun x hx => by cases hx⟩, bF⟩, hB0⟩ ?round ?done ?stop
  case round =>
    clear bO bF bS hB0 TG
    rintro l pre ⟨t, b, E⟩ W hI hMk
    have hd : 1 ≤ 8 - 1 - 1 := by omega
    gi_wp2
    refine ⟨World.grownBy_alloc W _ none, ?_⟩
    intro W2 hU hI2 hM2
    have K1 : Arr (W.alloc (.cells #[.int .i64 t, .string b] 99)) W.heap.size 2 (fun j => if j = 0 then .int .i64 t else .string b) := Arr.new _ _ 99 _ rfl _ 2 (fun j hj => by
      have : j = 0 ∨ j = 1 := by omega
      rcases this with rfl | rfl <;> rfl)
    have KA := hU.arr K1
    have c0 := KA.c 0 (by omega)
    have c1 := KA.c 1 (by omega)
    simp only [if_true, Nat.one_ne_zero, if_false] at c0 c1
    clear hU K1 hI hMk KA
    generalize W.heap.size = b6 at *
    obtain ⟨⟨⟨v, hv, hrow, hpre⟩, hbf⟩, hB⟩ := hI2
    obtain ⟨ao, cv, rfl⟩ := own_frm hrow
    have HM : Hid (MkI s pre (t, b, E)) := hM2
    have sz := hB.size
    clear hM2
    by_cases hE : E = 0
    · subst hE
      have ha : ∀ x ∈ pre ++ [(t, b, 0)], x.2.2 = 0 := fun x hx => by
        rcases List.mem_append.1 hx with hx | hx
        · exact hpre x hx
        · rw [List.mem_singleton.1 hx]
      have HAll : Hid (∀ x ∈ pre ++ [(t, b, 0)], x.2.2 = 0) := ha
      clear ha hpre
      by_cases hl : pre.length ≤ 64
      · have e1 : pre.take 65 = pre := List.take_of_length_le (by omega)
        have e2 : (pre ++ [(t, b, (0 : Int))]).take 65 = pre ++ [(t, b, 0)] := List.take_of_length_le (by simp; omega)
        rw [e1] at hrow hv
        have HE2 : Hid _ := e2
        have i1 : ((pre.length : Nat) : Int) ≤ 64 := by omega
        have kb : pre.length + 1 ≤ maxLen := by unfold maxLen; omega
        have hc := hv.cell
        have hfz := hv.frozen
        have HR : Hid (W2.ownsRow w.heap.size 99 2 (.slice ao pre.length cv) pre.length (flT (tgs pre))) := hrow
        have HV : Hid (Boxed W2 w.heap.size 103 (.slice ao pre.length cv)) := hv
        have HF : Hid (Boxed W2 (w.heap.size + 1) 31 (.int .i64 0)) := hbf
        clear e1 e2 hrow hv hbf hl
        gi_wp2_with (gi_at_builtin; refine stopAt ?_)
        unfold Stop
        have O2 := World.ownsRow.alloc HR.out (.cells #[.int .i64 t, .string b] 99)
        have nw := news_new W2 [.int .i64 t, .string b] 99
        have hle : w.heap.size ≤ (W2.alloc (.cells #[.int .i64 t, .string b] 99)).heap.size := by simp; omega
        refine wpListIn_append_own _ rfl _ _ 103 rfl w.heap.size 99 i0 (.agg #[.int .i64 0, .string nS]) 2 24 Tryz.underlying103 hi hz0 hz1 hz2 rfl (by decide) _ _ _ rfl O2 ⟨_, 0, none⟩ 1 1 [.int .i64 t, .string b] rfl rfl nw (fun u hu => by simp at hu; rcases hu with rfl | rfl <;> rfl) kb (by omega) hle ?_
        intro v' w1 hown' hgrow hnil
        obtain ⟨ao', cv', rfl⟩ := own_frm hown'
        obtain ⟨hv1, hv2, hr2, hk2, hb2⟩ := Boxed.appended HV.out (by decide) HR.out sz (Nat.le_refl _) hown' hgrow
        have hf2 := ((HF.out.alloc (.cells #[.int .i64 t, .string b] 99)).kept hgrow (HF.out.not_row (by decide) HR.out)).other (B' := w.heap.size) (by omega) (.slice ao' (pre.length + 1) cv')
        have hc1 := hv1.cell
        have hz1 := hv1.frozen
        clear hnil hgrow hown' O2 nw hle hc hfz c0 c1
        gi_wp2
        refine ⟨hk2, trivial, ⟨⟨⟨_, hv2, ?_, HAll.out⟩, hf2⟩, hB.trans hb2⟩⟩
        rw [HE2.out, List.length_append]
        unfold tgs
        rw [List.map_append, flT_app]
        exact hr2
      · have e3 : (pre.take 65).length = 65 := by rw [List.length_take]; omega
        have e2 : (pre ++ [(t, b, (0 : Int))]).take 65 = pre.take 65 := by rw [List.take_append_of_le_length (by omega)]
        have hc := hv.cell
        have HI : Hid (IA w (pre ++ [(t, b, 0)]) W2) := ⟨⟨⟨_, hv, by rw [e2]; exact hrow, HAll.out⟩, hbf⟩, hB⟩
        have i1 : ¬ ((65 : Nat) : Int) ≤ 64 := by omega
        rw [e3] at hc
        clear hrow hv e2 e3 HAll hl
        gi_wp2
        exact ⟨KeepsOthers.refl _, trivial, HI.out⟩
    · have hc := hbf.cell
      have hfz := hbf.frozen
      have hb2 := hbf.set (.int .i64 E)
      have HI : Hid (IB w s (pre ++ [(t, b, E)]) (W2.setCell ⟨w.heap.size + 1, 0, none⟩ (.int .i64 E))) := ⟨⟨E, hE, (by obtain ⟨more, hm⟩ := HM.out; exact ⟨pre, t, b, more, hm⟩), hb2⟩, hB.setCell (p := ⟨w.heap.size + 1, 0, none⟩) (by show _ ≤ w.heap.size + 1; omega) _⟩
      clear hrow hv hb2 HM hpre
      gi_wp2
      exact ⟨rfl, KeepsOthers.setCell _ _ _, HI.out⟩
  case done =>
    clear bO bF bS hB0 TG
    rintro De ys W hD hS hIA _ hK
    have HI : Hid (∀ o', IA w ys (W.putObj De o')) := fun o' => IA_own w w.heap.size (Nat.le_refl _) ys W _ (some De) hIA (grownBy_putObj' W De o') (fun r e => by cases e; exact ⟨by omega, _, hK, rfl⟩)
    obtain ⟨⟨⟨v, hv, hrow, hpre⟩, hbf⟩, hB⟩ := hIA
    obtain ⟨ao, cv, rfl⟩ := own_frm hrow
    have hc := hv.cell
    have hc2 := hbf.cell
    have HV : Hid (Boxed W w.heap.size 103 (.slice ao (ys.take 65).length cv)) := hv
    have HK : Hid _ := hK
    clear hrow hv hbf
    by_cases hl : ys.length ≤ 64
    · have e1 : ys.take 65 = ys := List.take_of_length_le (by omega)
      have ag : Hid (alG 64 s [] = some (tgs ys)) := by
        show _ = _
        rw [it_yes s.size 64 s [] (Nat.le_refl _) (fun x hx => hpre x (by rw [hS]; exact hx)) (by rw [← hS]; exact hl), ← hS]; rfl
      have HE1 : Hid _ := e1
      rw [e1] at hc
      have i1 : ¬ (64 : Int) < ((ys.length : Nat) : Int) := by omega
      clear hpre hS hK
      gi_wp2
      go_wp2_with fail
      try rw [Exit.noGoto_ret]
      refine ⟨by simp, .inl ⟨_, _, rfl, run_takeDeferred HK.out, ?_⟩⟩
      obtain ⟨⟨⟨v', hv', hrow', _⟩, _⟩, hB'⟩ := HI.out (.deferred none)
      have ev : v' = .slice ao (ys.take 65).length cv := by
        have q1 := HV.out.kept (grownBy_putObj' W De (.deferred none)) (fun e => by
          have e' : w.heap.size = De := by injection e
          omega)
        have q2 := q1.cell.symm.trans hv'.cell
        injection q2 with q2
        exact q2.symm
      rw [ev, HE1.out] at hrow'
      have T := Tls.own (l := tgs ys) (by unfold tgs at *; rw [List.length_map]; exact hrow')
      refine ⟨.tuple #[.slice ao ys.length cv, .int .i64 0], by simp [results, Tryz.results108, go_sem], hB', .inl ⟨tgs ys, _, ag.out, rfl, T⟩⟩
    · have e1 : (ys.take 65).length = 65 := by rw [List.length_take]; omega
      have ag : Hid (alG 64 s [] = none) := it_no s.size 64 s [] (Nat.le_refl _) (.inr (by rw [← hS]; omega))
      rw [e1] at hc
      have i1 : (64 : Int) < ((65 : Nat) : Int) := by omega
      clear hpre hS hK e1 HV
      gi_wp2
      go_wp2_with fail
      try rw [Exit.noGoto_ret]
      refine ⟨by simp, .inl ⟨_, _, rfl, run_takeDeferred HK.out, ?_⟩⟩
      refine ⟨.tuple #[.slice none 0 0, .int .i64 18], by simp [results, Tryz.results108, go_sem], (HI.out (.deferred none)).2, .inr ⟨ag.out, 18, by decide, rfl⟩⟩
  case stop =>
    clear bO bF bS hB0 TG
    rintro De pre W hD hS hIB hK
    have HI : Hid (∀ o', IB w s pre (W.putObj De o')) := fun o' => IB_own w s w.heap.size (Nat.le_refl _) pre W _ (some De) hIB (grownBy_putObj' W De o') (fun r e => by cases e; exact ⟨by omega, _, hK, rfl⟩)
    obtain ⟨⟨E, hE, hM, hbf⟩, hB⟩ := hIB
    have hc2 := hbf.cell
    have HK : Hid _ := hK
    have ag : Hid (alG 64 s [] = none) := by
      obtain ⟨q, t, b, more, hm⟩ := hM
      exact it_no s.size 64 s [] (Nat.le_refl _) (.inl ⟨(t, b, E), by rw [← hm]; simp, hE⟩)
    clear hbf hM hK
    gi_wp2
    go_wp2_with fail
    go_region
    go_wp2_with fail
    try rw [Exit.noGoto_ret]
    refine ⟨by simp, .inl ⟨_, _, rfl, run_takeDeferred HK.out, ?_⟩⟩
    have h9 := (HI.out (.deferred none)).2
    refine ⟨.tuple #[.slice none 0 0, .int .i64 E], by simp [results, Tryz.results108, go_sem], ⟨h9.os, h9.tape, h9.output, h9.size, h9.block⟩, .inr ⟨ag.out, E, hE, rfl⟩⟩
end Go.Proofs.YtjdpeedghpblgaaGreatDoor
