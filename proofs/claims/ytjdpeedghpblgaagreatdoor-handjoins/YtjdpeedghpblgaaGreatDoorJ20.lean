/- Texts joined: T20, T21, T22, T23, T24, T25, T26, T27, T28, T29, F14, F15. -/
import Derived.SliceStrings
import Derived.ChangeSlices
import Derived.Test.YtjdpeedghpblgaaGreatDoorJ19
import Derived.Test.YtjdpeedghpblgaaGreatDoorJ2
/- The reference's Read of any text. -/
set_option linter.all false
set_option maxRecDepth 100000
namespace Go.Proofs.YtjdpeedghpblgaaGreatDoor
open Go.RowKit Go.Sort Go.Lib
/-- What is guessed of a text's first message, its bytes, what stands behind. -/
def rmG (s : ByteArray) : Mg := gsM (bt s 0) (s.extract 4 (4 + (lnM s).toNat))
def rmX (s : ByteArray) : ByteArray := s.extract 0 (4 + (lnM s).toNat)
def rmL (s : ByteArray) : ByteArray := s.extract (4 + (lnM s).toNat) s.size
/-- Read's error, its message, what is left. -/
def rmE (s : ByteArray) : Int := if hdE s = 0 then (if (ftB (rmG s) && decide (wrM (rmG s) = rmX s)) = true then 0 else 10) else hdE s
def rmM (s : ByteArray) : Mg := if rmE s = 0 then rmG s else noM
def rmR (s : ByteArray) : ByteArray := if rmE s = 0 then rmL s else nS
theorem lnM_bd (s : ByteArray) : 0 ≤ lnM s ∧ lnM s < 16777216 := by rw [← lnP_4]; exact lnP_bd s 4 (by omega)
theorem rRead_any (s : ByteArray) (hz : s.size ≤ 1000000) (w : World) :
    Calls Tryz.prog 11 #[.string s] w fun e w' => (∃ v, e = .returned (.tuple #[(rmM s).v v, .string (rmR s), .int .i64 (rmE s)]) ∧ Txs w' v (rmM s).cs ∧ Frs w.heap.size v) ∧ Below w.heap.size w w' := by
  have no : ∀ E : Int, rmE s = E → E ≠ 0 → ∀ (w : World), Calls Tryz.prog 11 #[.string s] w (fun e w' => e = .returned (rmN E) ∧ Below w.heap.size w w') → Calls Tryz.prog 11 #[.string s] w fun e w' => (∃ v, e = .returned (.tuple #[(rmM s).v v, .string (rmR s), .int .i64 (rmE s)]) ∧ Txs w' v (rmM s).cs ∧ Frs w.heap.size v) ∧ Below w.heap.size w w' := fun E h1 h2 w c =>
    c.mono fun e w' ⟨a, b⟩ => ⟨⟨nC, by rw [a]; unfold rmM rmR; rw [if_neg (by rw [h1]; exact h2), if_neg (by rw [h1]; exact h2), h1], by unfold rmM; rw [if_neg (by rw [h1]; exact h2)]; exact Or.inl ⟨rfl, rfl⟩, Frs.nil _⟩, b⟩
  have bd := lnM_bd s
  by_cases h0 : s.size = 0
  · have e : s = nS := nS_size h0
    have hE : hdE s = 11 := by unfold hdE; rw [if_pos h0]
    refine no 11 (by unfold rmE; rw [hE]; rfl) (by decide) w ?_
    rw [e]
    exact rRead_0 w
  cases hk : kdB (bt s 0)
  · have hE : hdE s = 23 := by unfold hdE; rw [if_neg h0, if_pos hk]
    exact no 23 (by unfold rmE; rw [hE]; rfl) (by decide) w (rRead_1 s h0 hz hk w)
  · have hE : hdE s = if 16384 < lnM s then 12 else if s.size < 4 ∨ (s.size : Int) < 4 + lnM s then 11 else 0 := by unfold hdE; rw [if_neg h0, if_neg (by rw [hk]; decide)]
    have zB : (s.extract 4 (4 + (lnM s).toNat)).size ≤ 1000000 := by rw [ByteArray.size_extract]; omega
    obtain ⟨f1, f2, f3, f4⟩ := gsM_fits (bt s 0) (s.extract 4 (4 + (lnM s).toNat))
    have r := rRead_2 s (s.extract 4 (4 + (lnM s).toNat)) (rmX s) (rmL s) (rmG s) h0 hz (bt s 0) rfl hk (lnM s) rfl (rmE s) (ftB (rmG s) && decide (wrM (rmG s) = rmX s)) w
      ⟨fun h => by unfold rmE; rw [hE, if_pos h]; rfl, fun h1 h2 => by unfold rmE; rw [hE, if_neg h1, if_pos h2]; rfl, fun h1 h2 h3 => by
        have e0 : hdE s = 0 := by rw [hE, if_neg h1, if_neg (by omega)]
        unfold rmE
        rw [e0, if_pos rfl]⟩
      (fun h1 h2 W => by
        have := run_slice_string W 9 s .i64 .i64 4 (4 + lnM s) Tryz.underlying9 (by omega) (by omega) (by omega)
        rw [show (4 : Int).toNat = 4 from rfl, show (4 + lnM s).toNat = 4 + (lnM s).toNat by omega] at this
        exact this)
      (fun h1 h2 W => by
        have := run_slice_string_h (P := Tryz.prog) W 9 s Tryz.underlying9 .i64 (4 + lnM s) (by omega) (by omega)
        rw [show (4 + lnM s).toNat = 4 + (lnM s).toNat by omega] at this
        exact this)
      (fun h1 h2 W => by
        have := run_slice_string_l (P := Tryz.prog) W 9 s Tryz.underlying9 .i64 (4 + lnM s) (by omega) (by omega)
        rw [show (4 + lnM s).toNat = 4 + (lnM s).toNat by omega] at this
        exact this)
      (fun W => rguess_any (bt s 0) hk _ zB W)
      (fun W u hu => rWrite_any (rmG s) f1 u (by unfold rmG; omega) (fun t ht => by have := f3 t ht; unfold maxLen; omega) (by unfold maxLen; unfold rmG; omega) W hu) rfl
    refine r.mono ?_
    rintro e w' ⟨h | h, hb⟩
    · obtain ⟨hz0, v, rfl, hT, hF⟩ := h
      refine ⟨⟨v, ?_, ?_, hF⟩, hb⟩
      · unfold rmM rmR; rw [if_pos hz0, if_pos hz0, hz0]
      · unfold rmM; rw [if_pos hz0]; exact hT
    · obtain ⟨hz0, rfl⟩ := h
      refine ⟨⟨nC, ?_, ?_, Frs.nil _⟩, hb⟩
      · unfold rmM rmR; rw [if_neg hz0, if_neg hz0]
      · unfold rmM; rw [if_neg hz0]; exact Or.inl ⟨rfl, rfl⟩
/-- What Read tells stood there as Write writes it. -/
theorem rm_yes (s : ByteArray) (h : rmE s = 0) : ftB (rmM s) = true ∧ (rmM s).ok ∧ wrM (rmM s) ++ rmR s = s := by
  have hE : hdE s = 0 := by
    unfold rmE at h
    split at h
    · assumption
    · exact absurd h (by assumption)
  have h2 := h
  unfold rmE at h2
  rw [if_pos hE] at h2
  have h3 : (ftB (rmG s) && decide (wrM (rmG s) = rmX s)) = true := by
    cases hb : (ftB (rmG s) && decide (wrM (rmG s) = rmX s))
    · rw [hb] at h2; cases h2
    · rfl
  simp only [Bool.and_eq_true, decide_eq_true_eq] at h3
  have bd := lnM_bd s
  have hs : 4 + (lnM s).toNat ≤ s.size := by
    unfold hdE at hE
    split at hE
    · cases hE
    · split at hE
      · cases hE
      · split at hE
        · cases hE
        · split at hE
          · cases hE
          · omega
  unfold rmM rmR
  rw [if_pos h, if_pos h]
  refine ⟨h3.1, (gsM_fits _ _).1, ?_⟩
  rw [h3.2]
  unfold rmX rmL
  apply ba_ext
  rw [ap_list, ext_list, ext_list, List.drop_zero, Nat.sub_zero]
  rw [List.take_of_length_le (l := s.data.toList.drop _) (by rw [List.length_drop, len_list]; omega), List.take_append_drop]
end Go.Proofs.YtjdpeedghpblgaaGreatDoor
/- Written and read, a message is itself. -/
set_option linter.all false
set_option maxRecDepth 100000
namespace Go.Proofs.YtjdpeedghpblgaaGreatDoor
open Go.RowKit Go.Sort Go.Lib
theorem wrM_head (m : Mg) (n : Int) (hn : ((bdy m).size : Int) = n) : wrM m = mkS [m.k, n / 256 / 256 % 256, n / 256 % 256, n % 256] ++ bdy m := by
  unfold wrM vec
  rw [hn, ← ap_assoc, mkS_app]
  rfl
theorem ex_drop (a b : ByteArray) (n : Nat) (h : a.size = n) (k : Nat) (hk : k ≤ b.size) : (a ++ b).extract n (n + k) = b.extract 0 k := by
  apply ba_ext
  rw [ext_list, ext_list, ap_list, List.drop_append_of_le_length (by rw [len_list]; omega), List.drop_of_length_le (by rw [len_list]; omega), List.nil_append, List.drop_zero]
  congr 1
  omega
theorem rm_of (m : Mg) (hm : m.ok) (h : ftB m = true) (s r : ByteArray) (hs : s = wrM m ++ r) : rmE s = 0 ∧ rmM s = m ∧ rmR s = r := by
  have hb := bdy_size h
  obtain ⟨n, hn⟩ : ∃ n : Nat, (bdy m).size = n := ⟨_, rfl⟩
  have hw := wrM_head m n (by rw [hn])
  have hk := kd_cases (ft_kd h)
  obtain ⟨H, hH⟩ : ∃ H, H = [m.k, (n : Int) / 256 / 256 % 256, (n : Int) / 256 % 256, (n : Int) % 256] := ⟨_, rfl⟩
  have zH : (mkS H).size = 4 := by rw [mkS_size, hH]; rfl
  rw [← hH] at hw
  have e : s = mkS H ++ (bdy m ++ r) := by rw [hs, hw, ap_assoc]
  have zs : s.size = 4 + (n + r.size) := by rw [e, ap_size, ap_size, zH, hn]
  have bj : ∀ (j : Nat) (v : Int), j < 4 → H[j]? = some v → 0 ≤ v → v < 256 → bt s j = v := fun j v h4 hv v0 v1 => by
    rw [e, bt_left _ _ j (by rw [zH]; exact h4)]
    exact mkS_bt H j v hv v0 v1
  have b0 : bt s 0 = m.k := bj 0 _ (by omega) (by rw [hH]; rfl) (by omega) (by omega)
  have b1 : bt s 1 = (n : Int) / 256 / 256 % 256 := bj 1 _ (by omega) (by rw [hH]; rfl) (by omega) (by omega)
  have b2 : bt s 2 = (n : Int) / 256 % 256 := bj 2 _ (by omega) (by rw [hH]; rfl) (by omega) (by omega)
  have b3 : bt s 3 = (n : Int) % 256 := bj 3 _ (by omega) (by rw [hH]; rfl) (by omega) (by omega)
  have hl : lnM s = n := by unfold lnM; rw [b1, b2, b3]; omega
  have hE : hdE s = 0 := by
    unfold hdE
    rw [if_neg (by omega), if_neg (by rw [b0, ft_kd h]; decide), hl, if_neg (by omega), if_neg (by omega)]
  have eG : rmG s = m := by
    unfold rmG
    rw [b0, hl, Int.toNat_natCast, e, ex_drop _ _ 4 zH n (by rw [ap_size]; omega), ← hn, ex_left, gs_back m hm h]
  have eX : rmX s = wrM m := by
    unfold rmX
    have : 4 + n = (wrM m).size := by rw [hw, ap_size, zH, hn]
    rw [hl, Int.toNat_natCast, this, hs, ex_left]
  have eL : rmL s = r := by
    unfold rmL
    have : 4 + n = (wrM m).size := by rw [hw, ap_size, zH, hn]
    rw [hl, Int.toNat_natCast, this, hs, ex_right]
  have h0 : rmE s = 0 := by
    unfold rmE
    rw [if_pos hE, eG, eX, h, decide_eq_true rfl]
    rfl
  refine ⟨h0, ?_, ?_⟩
  · unfold rmM; rw [if_pos h0, eG]
  · unfold rmR; rw [if_pos h0, eL]
end Go.Proofs.YtjdpeedghpblgaaGreatDoor
/- Rows of messages; the reference's Msgs. -/
set_option linter.all false
set_option maxRecDepth 100000
namespace Go.Proofs.YtjdpeedghpblgaaGreatDoor
open Go.RowKit Go.Sort Go.Lib
/-- A row of messages in memory. -/
def Mgs (w : World) (v : Value) (l : List Mg) : Prop := ∃ (a : Option Addr) (c : Nat), v = .slice a l.length c ∧ ∀ (i : Nat) (m : Mg), l[i]? = some m → ∃ g o u, a = some ⟨g, o, none⟩ ∧ g < w.heap.size ∧ w.rangeAt g (o + i * 16) (m.l u) ∧ Txs w u m.cs
theorem range_to {w w' : World} {g o : Nat} {L : List Value} (h : w.rangeAt g o L) (lt : g < w.heap.size) (hb : Below w.heap.size w w') : w'.rangeAt g o L := fun j v hv => by
  rw [hb.cell (p := ⟨g, o + j, none⟩) lt]
  exact h j v hv
theorem Mgs.to {w w' : World} {v : Value} {l : List Mg} (h : Mgs w v l) (hb : Below w.heap.size w w') : Mgs w' v l := by
  obtain ⟨a, c, h1, h2⟩ := h
  refine ⟨a, c, h1, fun i m hi => ?_⟩
  obtain ⟨g, o, u, e, lt, r, t⟩ := h2 i m hi
  exact ⟨g, o, u, e, Nat.lt_of_lt_of_le lt hb.size, range_to r lt hb, t.to hb⟩
theorem Mgs.nil (w : World) : Mgs w (.slice none 0 0) [] := ⟨none, 0, rfl, fun i m h => by cases h⟩
/-- The load of many cells, in a region that draws its order. -/
theorem qld_r {L : List Value} {n : Nat} {F : Nat → Value} (c : Cells L n F) {T : TypeId} (t : Ty T n) {b o : Nat}
    {C : World → Prop} (hr : ∀ W, C W → W.rangeAt b o L) {ops : Array Oper} {rest : List Oper} {op : Oper} {a : Act} {Q : Act → Prop} (hw : Region.wanted op (yielded ops a.tmps) = true) (x : Operand) (hop : op.op = .load T x) (hx : a.eval x = .pointer (some ⟨b, o, none⟩))
    (h : wpQuiet Tryz.prog ops C Q rest (a.put op.dst (.agg L.toArray))) : wpQuiet Tryz.prog ops C Q (op :: rest) a := by
  refine BigFrame.wpQuiet_want hw fun K hK => ⟨.agg L.toArray, fun W hW => ?_, hK _ h⟩
  obtain ⟨d, hu, hd⟩ := t.u
  have ld := run_loadVar_mid (P := Tryz.prog) W b o T L d (hr W hW) hu hd (by rw [c.len]; exact t.i)
  unfold Oper.quietAt execOp
  simp only [hop, hx, Instr.loadAt, Instr.sureAddr, Sem.run_bind, Sem.run_pure, Result.andThen_ok, ld]
  exact ⟨rfl, rfl⟩
def mgB (a b : List Mg) : Bool := decide (a.length = b.length) && (List.zip a b).all fun p => smB p.1 p.2
theorem mgB_iff (a b : List Mg) : mgB a b = true ↔ a = b := by
  unfold mgB
  rw [Bool.and_eq_true, decide_eq_true_iff, List.all_eq_true]
  constructor
  · rintro ⟨h1, h2⟩
    apply List.ext_getElem? 
    intro i
    by_cases hi : i < a.length
    · have hi' : i < b.length := by omega
      rw [List.getElem?_eq_getElem hi, List.getElem?_eq_getElem hi']
      have hz : i < (List.zip a b).length := by rw [List.length_zip]; omega
      have := h2 _ (List.getElem_mem hz)
      rw [List.getElem_zip] at this
      exact congrArg some ((smB_iff _ _).1 this)
    · rw [List.getElem?_eq_none (by omega), List.getElem?_eq_none (by omega)]
  · intro h
    subst h
    refine ⟨rfl, fun p hp => ?_⟩
    obtain ⟨i, hi, rfl⟩ := List.getElem_of_mem hp
    rw [List.getElem_zip]
    exact (smB_iff _ _).2 rfl
set_option maxHeartbeats 4000000 in
theorem rMsgs_any (l1 l2 : List Mg) (h9 : l1.length ≤ 9223372036854775807) (h9' : l2.length ≤ 9223372036854775807) (o1 : ∀ m ∈ l1, m.ok ∧ m.cs.length ≤ 9223372036854775807 ∧ ∀ t ∈ m.cs, t.size ≤ maxLen) (o2 : ∀ m ∈ l2, m.ok ∧ ∀ t ∈ m.cs, t.size ≤ maxLen) (v1 v2 : Value) (w : World) (H1 : Mgs w v1 l1) (H2 : Mgs w v2 l2) :
    Calls Tryz.prog 18 #[v1, v2] w fun e w' => e = .returned (.bool (mgB l1 l2)) ∧ Below w.heap.size w w' := by
  obtain ⟨a1, c1, rfl, f1⟩ := H1
  obtain ⟨a2, c2, rfl, f2⟩ := H2
  by_cases hl : l1.length = l2.length
  case neg =>
    have HR : Hid (mgB l1 l2 = false) := by
      show _ = _
      unfold mgB
      rw [decide_eq_false hl]
      rfl
    have n1 : ¬ ((l1.length : Nat) : Int) = ((l2.length : Nat) : Int) := by omega
    have n2 : (((l1.length : Nat) : Int) == ((l2.length : Nat) : Int)) = false := by simpa using n1
    go_enter Tryz.func18, Tryz.ntmps18
    go_wp2_with fail
    go_ret
    exact ⟨by rw [HR.out]; rfl, Below.refl _ _⟩
  obtain ⟨n, hn⟩ : ∃ n, l1.length = n := ⟨_, rfl⟩
  have HN1 : Hid (l1.length = n) := hn
  have HN2 : Hid (l2.length = n) := by show _ = _; omega
  have n0 : (n : Int) ≤ 9223372036854775807 := by omega
  have HF : Hid (∀ (i : Nat) (m m' : Mg), l1[i]? = some m → l2[i]? = some m' → smB m m' = false → mgB l1 l2 = false) := fun i m m' h1 h2 h3 => by
    cases hq : mgB l1 l2
    · rfl
    · rw [(mgB_iff l1 l2).1 hq, h2] at h1
      cases h1
      exact absurd rfl (smB_no h3)
  have HT : Hid ((∀ i : Nat, i < n → l1[i]? = l2[i]?) → mgB l1 l2 = true) := fun h => by
    refine (mgB_iff l1 l2).2 (List.ext_getElem? fun i => ?_)
    by_cases hi : i < n
    · exact h i hi
    · rw [List.getElem?_eq_none (by omega), List.getElem?_eq_none (by omega)]
  rw [hn, ← hl, hn]
  have F1 : Hid (∀ (i : Nat) (m : Mg), l1[i]? = some m → ∃ g o u, a1 = some ⟨g, o, none⟩ ∧ g < w.heap.size ∧ w.rangeAt g (o + i * 16) (m.l u) ∧ Txs w u m.cs) := f1
  have F2 : Hid (∀ (i : Nat) (m : Mg), l2[i]? = some m → ∃ g o u, a2 = some ⟨g, o, none⟩ ∧ g < w.heap.size ∧ w.rangeAt g (o + i * 16) (m.l u) ∧ Txs w u m.cs) := f2
  have P1 : Hid (∀ m ∈ l1, m.ok ∧ m.cs.length ≤ 9223372036854775807 ∧ ∀ t ∈ m.cs, t.size ≤ maxLen) := o1
  have P2 : Hid (∀ m ∈ l2, m.ok ∧ ∀ t ∈ m.cs, t.size ≤ maxLen) := o2
  clear f1 f2 o1 o2 hl hn h9 h9'
  go_enter Tryz.func18, Tryz.ntmps18
  go_wp2_with fail
  go_loopw [5] (fun i wr => ∃ j : Nat, j ≤ n ∧ i = .int .i64 (j : Int) ∧ Below w.heap.size w wr ∧ Hid (∀ q : Nat, q < j → l1[q]? = l2[q]?)) (fun i _ => n - (Go.RowKit.intOf i).toNat)
  case atStart => exact ⟨0, by omega, rfl, Below.refl _ _, fun q hq => absurd hq (Nat.not_lt_zero _)⟩
  case round =>
    obtain ⟨j, hj, rfl, hB, ht⟩ := hrel
    have j0 : (0 : Int) ≤ (j : Int) := by omega
    by_cases hlt : j < n
    · have j1 : (j : Int) < (n : Int) := by omega
      obtain ⟨m, hm⟩ : ∃ m, l1[j]? = some m := ⟨_, List.getElem?_eq_getElem (by rw [HN1.out]; exact hlt)⟩
      obtain ⟨m', hm'⟩ : ∃ m, l2[j]? = some m := ⟨_, List.getElem?_eq_getElem (by rw [HN2.out]; exact hlt)⟩
      obtain ⟨g1, q1, u1, e1, lt1, r1, t1⟩ := F1.out j m hm
      obtain ⟨g2, q2, u2, e2, lt2, r2, t2⟩ := F2.out j m' hm'
      subst e1 e2
      obtain ⟨p1, p2, p3⟩ := P1.out m (List.mem_of_getElem? hm)
      obtain ⟨p4, p5⟩ := P2.out m' (List.mem_of_getElem? hm')
      have R1 : ∀ W, (∃ p : Regrown, W = grow (redrawn wr p.d) p.os) → W.rangeAt g1 (q1 + j * 16) (m.l u1) := fun W hW => range_to (range_to r1 lt1 hB) (Nat.lt_of_lt_of_le lt1 hB.size) (below_of hW.choose_spec)
      have R2 : ∀ W, (∃ p : Regrown, W = grow (redrawn wr p.d) p.os) → W.rangeAt g2 (q2 + j * 16) (m'.l u2) := fun W hW => range_to (range_to r2 lt2 hB) (Nat.lt_of_lt_of_le lt2 hB.size) (below_of hW.choose_spec)
      have K1 : Cells (m.l u1) 16 (m.c u1) := m.cells u1 (by obtain ⟨a, c, e, _⟩ := t1.form; rw [e]; rfl)
      have K2 : Cells (m'.l u2) 16 (m'.c u2) := m'.cells u2 (by obtain ⟨a, c, e, _⟩ := t2.form; rw [e]; rfl)
      have CS := fun W (hb : Below wr.heap.size wr W) => rSame_any m m' p1 p4 u1 u2 p2 p3 p5 W (t1.to (Bel.call hB hb)) (t2.to (Bel.call hB hb))
      rw [Mg.v_l, Mg.v_l] at CS
      have HS : Hid (smB m m' = true → ∀ q : Nat, q < j + 1 → l1[q]? = l2[q]?) := fun h q hq => by
        by_cases e : q = j
        · subst e; rw [hm, hm', (smB_iff _ _).1 h]
        · exact ht.out q (by omega)
      have HQ : Hid (smB m m' = false → mgB l1 l2 = false) := HF.out j m m' hm hm'
      clear ht hm hm' r1 r2 t1 t2
      generalize m.l u1 = L1 at *
      generalize m'.l u2 = L2 at *
      cases hb : smB m m' <;> rw [hb] at CS
      all_goals
        go_upto_region 6 with (fail)
        refine wp_region_quiet_below (by kernel_rfl) (by kernel_rfl) ?_
        go_big_quiet_step (fail)
        go_big_quiet_step (fail)
        go_big_quiet_step (fail)
        refine qld_r K1 tM R1 (by rfl) (.tmp 19) (by rfl) (by rfl) ?_
        simp only [Act.put, List.setIfInBounds_toArray, List.set_cons_succ, List.set_cons_zero]
        go_big_quiet_step (fail)
        go_big_quiet_step (fail)
        go_big_quiet_step (fail)
        refine qld_r K2 tM R2 (by rfl) (.tmp 23) (by rfl) (by rfl) ?_
        simp only [Act.put, List.setIfInBounds_toArray, List.set_cons_succ, List.set_cons_zero]
        go_big_quiet_step ((go_at_call 14; exact Calls.regrown_of (CS _ (below_regrown _ _ _))))
        go_big_quiet_step (fail)
        refine wpQuiet_nil ?_
        intro w3 hw'
        obtain ⟨⟨dq, osq⟩, hw''⟩ := hw'
        have hb3 := below_of hw''
        clear hw'' CS R1 R2
      · have HR : Hid (mgB l1 l2 = false) := HQ.out hb
        clear HQ HS hb
        go_wp2_with fail
        go_ret
        exact ⟨by rw [HR.out]; rfl, Bel.call hB hb3⟩
      · have HS2 : Hid (∀ q : Nat, q < j + 1 → l1[q]? = l2[q]?) := HS.out hb
        clear HQ HS hb
        go_wp2_with fail
        exact ⟨⟨j + 1, by omega, by go_num, Bel.call hB hb3, HS2⟩, by simp [Go.RowKit.intOf]; omega⟩
    · have j1 : ¬ (j : Int) < (n : Int) := by omega
      have HR : Hid (mgB l1 l2 = true) := HT.out (fun q hq => ht.out q (by omega))
      clear ht
      go_wp2_with fail
      go_ret
      exact ⟨by rw [HR.out]; rfl, hB⟩
end Go.Proofs.YtjdpeedghpblgaaGreatDoor
/- The reference's Signed and All. -/
set_option linter.all false
set_option maxRecDepth 100000
namespace Go.Proofs.YtjdpeedghpblgaaGreatDoor
open Go.RowKit Go.Sort Go.Lib
/-- What a server signs. -/
def sdS (d : ByteArray) : ByteArray := (mkS (List.replicate 64 32) ++ ⟨#[84, 76, 83, 32, 49, 46, 51, 44, 32, 115, 101, 114, 118, 101, 114, 32, 67, 101, 114, 116, 105, 102, 105, 99, 97, 116, 101, 86, 101, 114, 105, 102, 121, 0]⟩) ++ d
theorem sp_app (j : Nat) : mkS (List.replicate j 32) ++ ⟨#[32]⟩ = mkS (List.replicate (j + 1) 32) := by
  have : (⟨#[32]⟩ : ByteArray) = mkS [32] := rfl
  rw [this, mkS_app]
  congr 1
  rw [List.replicate_succ']
set_option maxHeartbeats 1000000 in
theorem rSigned_any (d : ByteArray) (hd : (d.size : Int) ≤ 281474976710656) (w : World) : Calls Tryz.prog 20 #[.string d] w fun e w' => e = .returned (.string (sdS d)) ∧ w' = w := by
  have HE : Hid (sdS d = (mkS (List.replicate 64 32) ++ ⟨#[84, 76, 83, 32, 49, 46, 51, 44, 32, 115, 101, 114, 118, 101, 114, 32, 67, 101, 114, 116, 105, 102, 105, 99, 97, 116, 101, 86, 101, 114, 105, 102, 121, 0]⟩) ++ d) := rfl
  go_enter Tryz.func20, Tryz.ntmps20
  go_wp2_with fail
  go_loop [3, 4] (fun x i => ∃ j : Nat, j ≤ 64 ∧ i = .int .i64 (j : Int) ∧ x = .string (mkS (List.replicate j 32))) (fun _ i => 64 - (Go.RowKit.intOf i).toNat)
  case atStart => exact ⟨0, by omega, rfl, rfl⟩
  case round =>
    obtain ⟨j, hj, rfl, rfl⟩ := hrel
    have zj : (mkS (List.replicate j 32)).size = j := by rw [mkS_size, List.length_replicate]
    have j0 : (0 : Int) ≤ (j : Int) := by omega
    by_cases hlt : j < 64
    · have j1 : (j : Int) < 64 := by omega
      have AD := fun W => add_s (mkS (List.replicate j 32)) ⟨#[32]⟩ (by rw [zj]; have : (⟨#[32]⟩ : ByteArray).size = 1 := rfl; omega) W
      rw [sp_app] at AD
      clear zj
      generalize hA : mkS (List.replicate j 32) = A at *
      generalize hB : mkS (List.replicate (j + 1) 32) = B at *
      have HB : Hid (mkS (List.replicate (j + 1) 32) = B) := hB
      clear hA hB
      go_wp2_with fail
      go_round
      case rel => exact ⟨j + 1, by omega, by go_num, by rw [HB.out]⟩
      case measure => simp [Go.RowKit.intOf]; omega
    · obtain rfl : j = 64 := by omega
      rw [show ((64 : Nat) : Int) = 64 from rfl]
      have zK : (⟨#[84, 76, 83, 32, 49, 46, 51, 44, 32, 115, 101, 114, 118, 101, 114, 32, 67, 101, 114, 116, 105, 102, 105, 99, 97, 116, 101, 86, 101, 114, 105, 102, 121, 0]⟩ : ByteArray).size = 34 := rfl
      have AD := fun W => add_s (mkS (List.replicate 64 32)) ⟨#[84, 76, 83, 32, 49, 46, 51, 44, 32, 115, 101, 114, 118, 101, 114, 32, 67, 101, 114, 116, 105, 102, 105, 99, 97, 116, 101, 86, 101, 114, 105, 102, 121, 0]⟩ (by rw [zj, zK]; omega) W
      have AE := fun W => add_s (mkS (List.replicate 64 32) ++ ⟨#[84, 76, 83, 32, 49, 46, 51, 44, 32, 115, 101, 114, 118, 101, 114, 32, 67, 101, 114, 116, 105, 102, 105, 99, 97, 116, 101, 86, 101, 114, 105, 102, 121, 0]⟩) d (by rw [ap_size, zj, zK]; omega) W
      clear zj zK
      generalize ((mkS (List.replicate 64 32) ++ ⟨#[84, 76, 83, 32, 49, 46, 51, 44, 32, 115, 101, 114, 118, 101, 114, 32, 67, 101, 114, 116, 105, 102, 105, 99, 97, 116, 101, 86, 101, 114, 105, 102, 121, 0]⟩) ++ d : ByteArray) = C at *
      generalize (mkS (List.replicate 64 32) ++ ⟨#[84, 76, 83, 32, 49, 46, 51, 44, 32, 115, 101, 114, 118, 101, 114, 32, 67, 101, 114, 116, 105, 102, 105, 99, 97, 116, 101, 86, 101, 114, 105, 102, 121, 0]⟩ : ByteArray) = B at *
      generalize mkS (List.replicate 64 32) = A at *
      go_wp2_with fail
      go_ret
      exact ⟨by rw [HE.out]; rfl, rfl⟩
/-- Messages one after another: the messages, what is left, the error. -/
def amF : Nat → ByteArray → List Mg → List Mg × ByteArray × Int
  | 0, s, acc => if s.size = 0 then (acc, nS, 0) else if rmE s = 11 then (acc, s, 0) else if rmE s = 0 then ([], nS, 18) else ([], nS, rmE s)
  | f + 1, s, acc => if s.size = 0 then (acc, nS, 0) else if rmE s = 11 then (acc, s, 0) else if rmE s = 0 then amF f (rmR s) (acc ++ [rmM s]) else ([], nS, rmE s)
/-- Messages with their rows of texts, cell by cell. -/
def flP : List (Mg × Value) → List Value
  | [] => []
  | p :: l => p.1.l p.2 ++ flP l
theorem flP_app (a b : List (Mg × Value)) : flP (a ++ b) = flP a ++ flP b := by
  induction a with
  | nil => rfl
  | cons p a ih => show _ ++ flP (a ++ b) = _; rw [ih, ← List.append_assoc]; rfl
theorem Mg.l_len (m : Mg) (u : Value) : (m.l u).length = 16 := rfl
theorem flP_at (l : List (Mg × Value)) : ∀ (i : Nat) (p : Mg × Value), l[i]? = some p → ∀ j v, (p.1.l p.2)[j]? = some v → (flP l)[i * 16 + j]? = some v := by
  induction l with
  | nil => intro i p h; cases h
  | cons q l ih =>
    intro i p h j v hv
    cases i with
    | zero =>
      simp at h
      subst h
      rw [Nat.zero_mul, Nat.zero_add]
      show (q.1.l q.2 ++ flP l)[j]? = some v
      rw [List.getElem?_append_left (List.getElem?_eq_some_iff.1 hv).1]
      exact hv
    | succ i =>
      show (q.1.l q.2 ++ flP l)[(i + 1) * 16 + j]? = some v
      rw [List.getElem?_append_right (by rw [Mg.l_len]; omega), Mg.l_len, show (i + 1) * 16 + j - 16 = i * 16 + j by omega]
      exact ih i p (by simpa using h) j v hv
theorem Mgs.own {W : World} {b : Nat} {v : Value} {l : List (Mg × Value)} (h : W.ownsRow b 29 16 v l.length (flP l)) (ht : ∀ p ∈ l, Txs W p.2 p.1.cs) : Mgs W v (l.map (·.1)) := by
  have hl := h.lt
  have hc := fun g hg => World.ownsRow.cells h (g := g) hg
  rcases h.2 with ⟨h1, h0⟩ | ⟨g, c, cur, h1, _⟩
  · have e : l = [] := List.eq_nil_of_length_eq_zero h0
    subst e
    rw [h1]
    exact Mgs.nil W
  · subst h1
    refine ⟨some ⟨g, 0, none⟩, c, by rw [List.length_map], fun i m hi => ?_⟩
    rw [List.getElem?_map] at hi
    cases hp : l[i]? with
    | none => rw [hp] at hi; cases hi
    | some p =>
      rw [hp] at hi
      cases hi
      refine ⟨g, 0, p.2, rfl, (hl g rfl).2, fun j v hv => ?_, ht p (List.mem_of_getElem? hp)⟩
      have := hc g rfl (i * 16 + j) v (flP_at l i p hp j v hv)
      rw [Addr.add_mid, Nat.zero_add] at this
      rw [Nat.zero_add]
      exact this
theorem Tryz.infoM : (Tryz.prog.info? 29).map (fun i => (i.zero, i.size, i.bytes)) = some (some (.agg z16), 16, 192) := by kernel_rfl
theorem run_bs16 (a0 a1 a2 a3 a4 a5 a6 a7 a8 a9 a10 a11 a12 a13 a14 a15 : Value) (W : World) : (Instr.buildSlice 43 1 #[(0, .agg #[a0, a1, a2, a3, a4, a5, a6, a7, a8, a9, a10, a11, a12, a13, a14, a15])]).run Tryz.prog W = .ok (.slice (some ⟨W.heap.size, 0, none⟩) 1 1) (W.alloc (.cells #[a0, a1, a2, a3, a4, a5, a6, a7, a8, a9, a10, a11, a12, a13, a14, a15] 29)) := by kernel_rfl
theorem list16 (l : List Value) (h : l.length = 16) : ∃ a0 a1 a2 a3 a4 a5 a6 a7 a8 a9 a10 a11 a12 a13 a14 a15, l = [a0, a1, a2, a3, a4, a5, a6, a7, a8, a9, a10, a11, a12, a13, a14, a15] := by
  match l, h with
  | [a0, a1, a2, a3, a4, a5, a6, a7, a8, a9, a10, a11, a12, a13, a14, a15], _ => exact ⟨a0, a1, a2, a3, a4, a5, a6, a7, a8, a9, a10, a11, a12, a13, a14, a15, rfl⟩
theorem run_bsL (l : List Value) (h : l.length = 16) (W : World) : (Instr.buildSlice 43 1 #[(0, .agg l.toArray)]).run Tryz.prog W = .ok (.slice (some ⟨W.heap.size, 0, none⟩) 1 1) (W.alloc (.cells l.toArray 29)) := by
  obtain ⟨a0, a1, a2, a3, a4, a5, a6, a7, a8, a9, a10, a11, a12, a13, a14, a15, rfl⟩ := list16 l h
  exact run_bs16 a0 a1 a2 a3 a4 a5 a6 a7 a8 a9 a10 a11 a12 a13 a14 a15 W
theorem exec_bs {a : Act} {op : Oper} {T : TypeId} {n : Nat} {parts : Array (Nat × Operand)} {parts' : Array (Nat × Value)} (ho : op.op = .buildSlice T n parts) (hp : parts.map (fun x => (x.1, a.eval x.2)) = parts') {v : Value} {W W' : World} (h : (Instr.buildSlice T n parts').run Tryz.prog W = .ok v W') :
    (execOp a.eval op).run Tryz.prog W = .ok (.value v) W' := by
  unfold execOp
  simp only [ho, hp, Sem.run_bind, h, Result.andThen_ok, Sem.run_pure]
theorem txs_own {W W' : World} {u : Value} {l : List ByteArray} {b : Nat} {row : Option Nat} (h : Txs W u l) (hF : Frs b u) (hr : ∀ g, row = some g → ∃ k, W.cell? ⟨g, 0, none⟩ = some (.int .i64 k)) (hg : W.grownBy W' row) : Txs W' u l := by
  rcases h with h | ⟨a, cap, h1, h0, h2⟩
  · exact Or.inl h
  · obtain ⟨q, rfl, hq⟩ := hF a _ _ h1
    refine Or.inr ⟨_, cap, h1, h0, fun i s hi => hg.cell (h2 i s hi) ?_⟩
    rw [Addr.add_mid]
    intro e
    obtain ⟨k, hk⟩ := hr q e.symm
    have hl : 0 < l.length := by have := (List.getElem?_eq_some_iff.1 hi).1; omega
    have c0 := h2 0 _ (List.getElem?_eq_getElem hl)
    rw [Addr.add_mid, Nat.zero_add] at c0
    rw [hk] at c0
    cases c0
theorem flP_0 {W : World} {b n : Nat} {v : Value} {l : List (Mg × Value)} (h : W.ownsRow b 29 16 v n (flP l)) (g : Nat) (hg : v.ownBlock = some g) (hne : l = [] → v = .slice none 0 0) : ∃ k, W.cell? ⟨g, 0, none⟩ = some (.int .i64 k) := by
  have hc := World.ownsRow.cells h hg
  cases l with
  | nil => rw [hne rfl] at hg; cases hg
  | cons p l =>
    have := hc 0 (.int .i64 p.1.k) rfl
    rw [Addr.add_mid, Nat.zero_add] at this
    exact ⟨_, this⟩
set_option maxHeartbeats 4000000 in
theorem rAll14_any (s : ByteArray) (hs : s.size ≤ 1000000) (w : World) :
    Calls Tryz.prog 17 #[.string s] w fun e w' => (∃ v, e = .returned (.tuple #[v, .string (amF 32 s []).2.1, .int .i64 (amF 32 s []).2.2]) ∧ Mgs w' v (amF 32 s []).1) ∧ Below w.heap.size w w' := by
  obtain ⟨i0, hi, hz0, hz1, hz2⟩ := info_parts Tryz.infoM
  obtain ⟨R, hR⟩ : ∃ R, amF 32 s [] = R := ⟨_, rfl⟩
  rw [hR]
  obtain ⟨RL, RS, RE⟩ := R
  simp only
  have HA : Hid (amF (32 - (([] : List (Mg × Value)).map (·.1)).length) s (([] : List (Mg × Value)).map (·.1)) = (RL, RS, RE)) := hR
  have own0 : w.ownsRow w.heap.size 29 16 (.slice none 0 0) 0 (flP []) := ⟨rfl, .inl ⟨rfl, rfl⟩⟩
  clear hR
  go_enter Tryz.func17, Tryz.ntmps17
  go_wp2_with fail
  go_loopw [0, 5] (fun x v wr => ∃ (S : ByteArray) (L : List (Mg × Value)), x = .string S ∧ S.size ≤ 1000000 ∧ L.length ≤ 32 ∧ Hid (amF (32 - (L.map (·.1)).length) S (L.map (·.1)) = (RL, RS, RE)) ∧ wr.ownsRow w.heap.size 29 16 v L.length (flP L) ∧ (L = [] → v = .slice none 0 0) ∧ Hid (∀ p ∈ L, Txs wr p.2 p.1.cs ∧ Frs 0 p.2) ∧ Below w.heap.size w wr)
    (fun x _ _ => szOf x)
  case atStart => exact ⟨s, [], rfl, hs, by decide, HA, own0, fun _ => rfl, fun p hp => (by cases hp), Below.refl _ _⟩
  case round =>
    clear own0 HA hs
    obtain ⟨S, L, rfl, hS, hL, hG, hown, hnil, hT, hB⟩ := hrel
    obtain ⟨ao, cv, hv⟩ := own_frm hown
    subst hv
    have HM : Hid (Mgs wr (.slice ao L.length cv) (L.map (·.1))) := Mgs.own hown (fun p hp => (hT.out p hp).1)
    by_cases h0 : S.size = 0
    · have HE : Hid (RL = L.map (·.1) ∧ RS = nS ∧ RE = 0) := by
        have := hG.out
        cases hq : 32 - (L.map (·.1)).length <;> rw [hq, amF, if_pos h0] at this <;> cases this <;> exact ⟨rfl, rfl, rfl⟩
      have e := nS_size h0
      subst e
      clear hG hown hnil hT
      go_wp2_with fail
      refine bodyPost_ret (v := .tuple #[.slice ao L.length cv, .string nS, .int .i64 0]) (by simp [results, Tryz.results17, go_sem]) rfl ⟨⟨.slice ao L.length cv, ?_, ?_⟩, hB⟩
      · rw [HE.out.2.1, HE.out.2.2]
      · rw [HE.out.1]; exact HM.out
    · have h1 : (S.toList == []) = false := by simpa using txt_ne (s := S) (t := nS) (fun e => h0 (by rw [e]; rfl))
      have C := fun W => rRead_any S hS W
      have HR : Hid (rmE S = 0 → (rmR S).size < S.size) := fun h => by
        have := (rm_yes S h).2.2
        have z : (wrM (rmM S)).size + (rmR S).size = S.size := by rw [← ap_size, this]
        have z2 : 1 ≤ (wrM (rmM S)).size := by unfold wrM; rw [ap_size, mkS_size]; simp
        omega
      by_cases hE : rmE S = 11
      · have HE : Hid (RL = L.map (·.1) ∧ RS = S ∧ RE = 0) := by
          have := hG.out
          cases hq : 32 - (L.map (·.1)).length <;> rw [hq, amF, if_neg h0, if_pos hE] at this <;> cases this <;> exact ⟨rfl, rfl, rfl⟩
        rw [hE] at C
        clear hG hown hnil hT HR hE
        go_upto_region 3 with (fail)
        refine wp_region_list ?_
        refine wpList_plain (by rfl) fun K1 hK1 => ?_
        have H1 : Hid _ := hK1
        clear hK1
        go_wp2_with fail
        refine H1.out _ _ ?_
        clear H1
        refine wpList_plain (by rfl) fun K1 hK1 => ?_
        have H1 : Hid _ := hK1
        clear hK1
        go_wp2_with fail
        refine (C _).mono ?_
        rintro e w1 ⟨⟨v, rfl, hTv, hFv⟩, hb⟩
        refine H1.out _ _ ?_
        clear H1 C
        rw [Mg.v_l]
        have hC := (rmM S).cells v (by obtain ⟨a, c, e, _⟩ := hTv.form; rw [e]; rfl)
        have HML : Hid (∃ ML, (rmM S).l v = ML) := ⟨_, rfl⟩
        obtain ⟨ML, hML⟩ := HML.out
        clear HML
        rw [hML] at hC ⊢
        refine wpList_plain (by rfl) fun K1 hK1 => ?_
        have H1 : Hid _ := hK1
        clear hK1
        go_wp2_with fail
        refine H1.out _ _ ?_
        clear H1
        refine wpList_plain (by rfl) fun K1 hK1 => ?_
        have H1 : Hid _ := hK1
        clear hK1
        go_wp2_with fail
        refine H1.out _ _ ?_
        clear H1
        refine wpList_plain (by rfl) fun K1 hK1 => ?_
        have H1 : Hid _ := hK1
        clear hK1
        go_wp2_with fail
        refine H1.out _ _ ?_
        clear H1
        refine wpList_plain (by rfl) fun K1 hK1 => ?_
        have H1 : Hid _ := hK1
        clear hK1
        go_wp2_with fail
        refine H1.out _ _ ?_
        clear H1
        refine wpList_plain (by rfl) fun K1 hK1 => ?_
        have H1 : Hid _ := hK1
        clear hK1
        go_wp2_with fail
        refine H1.out _ _ ?_
        clear H1
        have A6 := newZ w1 _ rfl
        refine hC.wst tM A6 (by rfl) (.tmp 6) (.tmp 14) (by rfl) (by rfl) (by rfl) ?_
        simp only [Act.put, List.setIfInBounds_toArray, List.set_cons_succ, List.set_cons_zero]
        refine wpList_plain (by rfl) fun K1 hK1 => ?_
        have H1 : Hid _ := hK1
        clear hK1
        go_wp2_with fail
        refine H1.out _ _ ?_
        clear H1
        refine wpList_plain (by rfl) fun K1 hK1 => ?_
        have H1 : Hid _ := hK1
        clear hK1
        go_wp2_with fail
        refine H1.out _ _ ?_
        clear H1
        refine wpList_nil ?_
        replace A6 := hC.set A6
        have hb2 : Below w1.heap.size w1 ((w1.alloc (.cells z16 29)).setCells w1.heap.size 0 ML) := below_setCells (by go_grown) (b := w1.heap.size) (Nat.le_refl _) ML 0
        have hTv2 := hTv.to hb2
        replace hb2 := Bel.call hb hb2
        generalize (w1.alloc (.cells z16 29)).setCells w1.heap.size 0 ML = W2 at *
        generalize w1.heap.size = b6 at *
        clear hML hC A6
        go_wp2_with fail
        refine bodyPost_ret (v := .tuple #[.slice ao L.length cv, .string S, .int .i64 0]) (by simp [results, Tryz.results17, go_sem]) rfl ⟨⟨.slice ao L.length cv, ?_, ?_⟩, Bel.call hB hb2⟩
        · rw [HE.out.2.1, HE.out.2.2]
        · rw [HE.out.1]; exact HM.out.to hb2
      · by_cases hZ : rmE S = 0
        · by_cases h32 : L.length = 32
          · have HE : Hid (RL = [] ∧ RS = nS ∧ RE = 18) := by
              have := hG.out
              rw [List.length_map, h32, Nat.sub_self, amF, if_neg h0, if_neg hE, if_pos hZ] at this
              cases this
              exact ⟨rfl, rfl, rfl⟩
            have l32 : ((L.length : Nat) : Int) = 32 := by omega
            rw [hZ] at C
            clear hG hown hnil hT HR hE hZ h32
            go_upto_region 3 with (fail)
            refine wp_region_list ?_
            refine wpList_plain (by rfl) fun K1 hK1 => ?_
            have H1 : Hid _ := hK1
            clear hK1
            go_wp2_with fail
            refine H1.out _ _ ?_
            clear H1
            refine wpList_plain (by rfl) fun K1 hK1 => ?_
            have H1 : Hid _ := hK1
            clear hK1
            go_wp2_with fail
            refine (C _).mono ?_
            rintro e w1 ⟨⟨v, rfl, hTv, hFv⟩, hb⟩
            refine H1.out _ _ ?_
            clear H1 C
            rw [Mg.v_l]
            have hC := (rmM S).cells v (by obtain ⟨a, c, e, _⟩ := hTv.form; rw [e]; rfl)
            have HML : Hid (∃ ML, (rmM S).l v = ML) := ⟨_, rfl⟩
            obtain ⟨ML, hML⟩ := HML.out
            clear HML
            rw [hML] at hC ⊢
            refine wpList_plain (by rfl) fun K1 hK1 => ?_
            have H1 : Hid _ := hK1
            clear hK1
            go_wp2_with fail
            refine H1.out _ _ ?_
            clear H1
            refine wpList_plain (by rfl) fun K1 hK1 => ?_
            have H1 : Hid _ := hK1
            clear hK1
            go_wp2_with fail
            refine H1.out _ _ ?_
            clear H1
            refine wpList_plain (by rfl) fun K1 hK1 => ?_
            have H1 : Hid _ := hK1
            clear hK1
            go_wp2_with fail
            refine H1.out _ _ ?_
            clear H1
            refine wpList_plain (by rfl) fun K1 hK1 => ?_
            have H1 : Hid _ := hK1
            clear hK1
            go_wp2_with fail
            refine H1.out _ _ ?_
            clear H1
            refine wpList_plain (by rfl) fun K1 hK1 => ?_
            have H1 : Hid _ := hK1
            clear hK1
            go_wp2_with fail
            refine H1.out _ _ ?_
            clear H1
            have A6 := newZ w1 _ rfl
            refine hC.wst tM A6 (by rfl) (.tmp 6) (.tmp 14) (by rfl) (by rfl) (by rfl) ?_
            simp only [Act.put, List.setIfInBounds_toArray, List.set_cons_succ, List.set_cons_zero]
            refine wpList_plain (by rfl) fun K1 hK1 => ?_
            have H1 : Hid _ := hK1
            clear hK1
            go_wp2_with fail
            refine H1.out _ _ ?_
            clear H1
            refine wpList_plain (by rfl) fun K1 hK1 => ?_
            have H1 : Hid _ := hK1
            clear hK1
            go_wp2_with fail
            refine H1.out _ _ ?_
            clear H1
            refine wpList_nil ?_
            replace A6 := hC.set A6
            have hb2 : Below w1.heap.size w1 ((w1.alloc (.cells z16 29)).setCells w1.heap.size 0 ML) := below_setCells (by go_grown) (b := w1.heap.size) (Nat.le_refl _) ML 0
            have hTv2 := hTv.to hb2
            replace hb2 := Bel.call hb hb2
            generalize (w1.alloc (.cells z16 29)).setCells w1.heap.size 0 ML = W2 at *
            generalize w1.heap.size = b6 at *
            clear hML hC A6
            go_wp2_with fail
            refine bodyPost_ret (v := .tuple #[.slice none 0 0, .string nS, .int .i64 18]) (by simp [results, Tryz.results17, go_sem]) rfl ⟨⟨.slice none 0 0, ?_, ?_⟩, Bel.call hB hb2⟩
            · rw [HE.out.2.1, HE.out.2.2]
            · rw [HE.out.1]; exact Mgs.nil _
          · have l32 : ¬ ((L.length : Nat) : Int) = 32 := by omega
            have l32b : (((L.length : Nat) : Int) == 32) = false := by simpa using l32
            obtain ⟨f, hf⟩ : ∃ f, 32 - L.length = f + 1 := ⟨31 - L.length, by omega⟩
            have HG : Hid (amF f (rmR S) (L.map (·.1) ++ [rmM S]) = (RL, RS, RE)) := by
              have := hG.out
              rw [List.length_map, hf, amF, if_neg h0, if_neg hE, if_pos hZ] at this
              exact this
            have HZ : Hid ((rmR S).size < S.size ∧ (rmR S).size ≤ 1000000) := ⟨HR.out hZ, by have := HR.out hZ; omega⟩
            have HO : Hid (wr.ownsRow w.heap.size 29 16 (.slice ao L.length cv) L.length (flP L)) := hown
            have HNil : Hid (L = [] → Value.slice ao L.length cv = .slice none 0 0) := hnil
            have kb : L.length + 1 ≤ maxLen := by unfold maxLen; omega
            have HF : Hid (f = 32 - (L.length + 1)) := by show _ = _; omega
            rw [hZ] at C
            clear hG hown hnil HR hE hZ hf HM
            go_upto_region 3 with (fail)
            refine wp_region_list ?_
            refine wpList_plain (by rfl) fun K1 hK1 => ?_
            have H1 : Hid _ := hK1
            clear hK1
            go_wp2_with fail
            refine H1.out _ _ ?_
            clear H1
            refine wpList_plain (by rfl) fun K1 hK1 => ?_
            have H1 : Hid _ := hK1
            clear hK1
            go_wp2_with fail
            refine (C _).mono ?_
            rintro e w1 ⟨⟨v, rfl, hTv, hFv⟩, hb⟩
            refine H1.out _ _ ?_
            clear H1 C
            rw [Mg.v_l]
            have hC := (rmM S).cells v (by obtain ⟨a, c, e, _⟩ := hTv.form; rw [e]; rfl)
            have HML : Hid (∃ ML, (rmM S).l v = ML) := ⟨_, rfl⟩
            obtain ⟨ML, hML⟩ := HML.out
            clear HML
            rw [hML] at hC ⊢
            refine wpList_plain (by rfl) fun K1 hK1 => ?_
            have H1 : Hid _ := hK1
            clear hK1
            go_wp2_with fail
            refine H1.out _ _ ?_
            clear H1
            refine wpList_plain (by rfl) fun K1 hK1 => ?_
            have H1 : Hid _ := hK1
            clear hK1
            go_wp2_with fail
            refine H1.out _ _ ?_
            clear H1
            refine wpList_plain (by rfl) fun K1 hK1 => ?_
            have H1 : Hid _ := hK1
            clear hK1
            go_wp2_with fail
            refine H1.out _ _ ?_
            clear H1
            refine wpList_plain (by rfl) fun K1 hK1 => ?_
            have H1 : Hid _ := hK1
            clear hK1
            go_wp2_with fail
            refine H1.out _ _ ?_
            clear H1
            refine wpList_plain (by rfl) fun K1 hK1 => ?_
            have H1 : Hid _ := hK1
            clear hK1
            go_wp2_with fail
            refine H1.out _ _ ?_
            clear H1
            have A6 := newZ w1 _ rfl
            refine hC.wst tM A6 (by rfl) (.tmp 6) (.tmp 14) (by rfl) (by rfl) (by rfl) ?_
            simp only [Act.put, List.setIfInBounds_toArray, List.set_cons_succ, List.set_cons_zero]
            refine wpList_plain (by rfl) fun K1 hK1 => ?_
            have H1 : Hid _ := hK1
            clear hK1
            go_wp2_with fail
            refine H1.out _ _ ?_
            clear H1
            refine wpList_plain (by rfl) fun K1 hK1 => ?_
            have H1 : Hid _ := hK1
            clear hK1
            go_wp2_with fail
            refine H1.out _ _ ?_
            clear H1
            refine wpList_nil ?_
            replace A6 := hC.set A6
            have hb2 : Below w1.heap.size w1 ((w1.alloc (.cells z16 29)).setCells w1.heap.size 0 ML) := below_setCells (by go_grown) (b := w1.heap.size) (Nat.le_refl _) ML 0
            have hTv2 := hTv.to hb2
            replace hb2 := Bel.call hb hb2
            generalize (w1.alloc (.cells z16 29)).setCells w1.heap.size 0 ML = W2 at *
            generalize w1.heap.size = b6 at *
            go_upto_region 10 with (fail)
            refine wp_region_list ?_
            refine wpList_plain (by rfl) fun K1 hK1 => ?_
            have H1 : Hid _ := hK1
            clear hK1
            go_wp2_with fail
            refine H1.out _ _ ?_
            clear H1
            refine hC.wld tM A6 0 (by omega) (fun j _ => by rw [Nat.zero_add]) (by rfl) (.tmp 6) (by rfl) (by rfl) ?_
            simp only [Act.put, List.setIfInBounds_toArray, List.set_cons_succ, List.set_cons_zero]
            refine wval (by rfl) _ _ (exec_bs (by rfl) (by simp [Act.eval]) (run_bsL ML hC.len W2)) ?_
            simp only [Act.put, List.setIfInBounds_toArray, List.set_cons_succ, List.set_cons_zero]
            have hsz := hb2.size
            have hwz := hB.size
            have O2 : W2.ownsRow w.heap.size 29 16 (.slice ao L.length cv) L.length (flP L) := HO.out.kept (row := none) ⟨hb2.os, hb2.tape, hb2.output, hb2.size, fun k hk _ => hb2.block k hk⟩ (by cases ao <;> simp [Value.ownBlock])
            have O3 := World.ownsRow.alloc O2 (.cells ML.toArray 29)
            have nw := news_new W2 ML 29
            have B3 : Below w.heap.size w (W2.alloc (.cells ML.toArray 29)) := Bel.al (Bel.call hB hb2) _
            have hle : w.heap.size ≤ (W2.alloc (.cells ML.toArray 29)).heap.size := B3.size
            have hal : Below W2.heap.size W2 (W2.alloc (.cells ML.toArray 29)) := by go_grown
            have T3 : ∀ p ∈ L, Txs (W2.alloc (.cells ML.toArray 29)) p.2 p.1.cs ∧ Frs 0 p.2 := fun p hp => ⟨((hT.out p hp).1.to hb2).to hal, (hT.out p hp).2⟩
            have V3 := hTv2.to hal
            clear hal A6 HO O2 hTv2
            generalize W2.alloc (.cells ML.toArray 29) = W3 at *
            refine wpList_append_own _ rfl _ _ 43 rfl w.heap.size 29 i0 (.agg z16) 16 192 Tryz.underlying43 hi hz0 hz1 hz2 rfl (by decide) _ _ _ rfl O3 ⟨_, 0, none⟩ 1 1 ML rfl hC.len nw hC.one kb (by omega) hle ?_
            intro v' w5 hown' hgrow hnl
            have b5 : Below w.heap.size w w5 := B3.grown hgrow hle (fun q hq => (O3.lt q hq).1)
            have z0 := fun g hg => flP_0 O3 g hg HNil.out
            have HO' : Hid (w5.ownsRow w.heap.size 29 16 v' (L ++ [(rmM S, v)]).length (flP (L ++ [(rmM S, v)]))) := by
              show World.ownsRow _ _ _ _ _ _ _
              rw [List.length_append, flP_app]
              have e : flP [(rmM S, v)] = ML := by show (rmM S).l v ++ [] = ML; rw [List.append_nil, hML]
              rw [e]
              exact hown'
            have HT' : Hid (∀ p ∈ L ++ [(rmM S, v)], Txs w5 p.2 p.1.cs ∧ Frs 0 p.2) := fun p hp => by
              rcases List.mem_append.1 hp with hp | hp
              · exact ⟨txs_own (T3 p hp).1 (T3 p hp).2 z0 hgrow, (T3 p hp).2⟩
              · simp at hp
                subst hp
                refine ⟨txs_own V3 hFv z0 hgrow, fun a n c h => ?_⟩
                obtain ⟨q, e, _⟩ := hFv a n c h
                exact ⟨q, e, Nat.zero_le _⟩
            have HG' : Hid (amF (32 - ((L ++ [(rmM S, v)]).map (·.1)).length) (rmR S) ((L ++ [(rmM S, v)]).map (·.1)) = (RL, RS, RE)) := by
              show _ = _
              rw [← HG.out, HF.out, List.map_append, List.length_append, List.length_map]
              rfl
            have HL' : Hid ((L ++ [(rmM S, v)]).length ≤ 32) := by show _ ≤ _; rw [List.length_append]; show L.length + 1 ≤ 32; omega
            clear hgrow hnl hown' O3 T3 V3 z0 nw hML hC hT
            go_wp2_with fail
            exact ⟨⟨rmR S, L ++ [(rmM S, v)], rfl, HZ.out.2, HL'.out, HG', HO'.out, fun h => absurd h (by simp), HT', b5⟩, HZ.out.1⟩
        · have HE : Hid (RL = [] ∧ RS = nS ∧ RE = rmE S) := by
            have := hG.out
            cases hq : 32 - (L.map (·.1)).length <;> rw [hq, amF, if_neg h0, if_neg hE, if_neg hZ] at this <;> cases this <;> exact ⟨rfl, rfl, rfl⟩
          have hE2 : (rmE S == 11) = false := by simpa using hE
          have hZ2 : (rmE S == 0) = false := by simpa using hZ
          have hE3 : ¬ rmE S = 11 := hE
          have HX : Hid (∃ X, rmE S = X) := ⟨_, rfl⟩
          obtain ⟨X, hX⟩ := HX.out
          rw [hX] at C hE2 hZ2 hE3 hZ HE
          clear hG hown hnil hT HR hE hX HX
          go_upto_region 3 with (fail)
          refine wp_region_list ?_
          refine wpList_plain (by rfl) fun K1 hK1 => ?_
          have H1 : Hid _ := hK1
          clear hK1
          go_wp2_with fail
          refine H1.out _ _ ?_
          clear H1
          refine wpList_plain (by rfl) fun K1 hK1 => ?_
          have H1 : Hid _ := hK1
          clear hK1
          go_wp2_with fail
          refine (C _).mono ?_
          rintro e w1 ⟨⟨v, rfl, hTv, hFv⟩, hb⟩
          refine H1.out _ _ ?_
          clear H1 C
          rw [Mg.v_l]
          have hC := (rmM S).cells v (by obtain ⟨a, c, e, _⟩ := hTv.form; rw [e]; rfl)
          have HML : Hid (∃ ML, (rmM S).l v = ML) := ⟨_, rfl⟩
          obtain ⟨ML, hML⟩ := HML.out
          clear HML
          rw [hML] at hC ⊢
          refine wpList_plain (by rfl) fun K1 hK1 => ?_
          have H1 : Hid _ := hK1
          clear hK1
          go_wp2_with fail
          refine H1.out _ _ ?_
          clear H1
          refine wpList_plain (by rfl) fun K1 hK1 => ?_
          have H1 : Hid _ := hK1
          clear hK1
          go_wp2_with fail
          refine H1.out _ _ ?_
          clear H1
          refine wpList_plain (by rfl) fun K1 hK1 => ?_
          have H1 : Hid _ := hK1
          clear hK1
          go_wp2_with fail
          refine H1.out _ _ ?_
          clear H1
          refine wpList_plain (by rfl) fun K1 hK1 => ?_
          have H1 : Hid _ := hK1
          clear hK1
          go_wp2_with fail
          refine H1.out _ _ ?_
          clear H1
          refine wpList_plain (by rfl) fun K1 hK1 => ?_
          have H1 : Hid _ := hK1
          clear hK1
          go_wp2_with fail
          refine H1.out _ _ ?_
          clear H1
          have A6 := newZ w1 _ rfl
          refine hC.wst tM A6 (by rfl) (.tmp 6) (.tmp 14) (by rfl) (by rfl) (by rfl) ?_
          simp only [Act.put, List.setIfInBounds_toArray, List.set_cons_succ, List.set_cons_zero]
          refine wpList_plain (by rfl) fun K1 hK1 => ?_
          have H1 : Hid _ := hK1
          clear hK1
          go_wp2_with fail
          refine H1.out _ _ ?_
          clear H1
          refine wpList_plain (by rfl) fun K1 hK1 => ?_
          have H1 : Hid _ := hK1
          clear hK1
          go_wp2_with fail
          refine H1.out _ _ ?_
          clear H1
          refine wpList_nil ?_
          replace A6 := hC.set A6
          have hb2 : Below w1.heap.size w1 ((w1.alloc (.cells z16 29)).setCells w1.heap.size 0 ML) := below_setCells (by go_grown) (b := w1.heap.size) (Nat.le_refl _) ML 0
          have hTv2 := hTv.to hb2
          replace hb2 := Bel.call hb hb2
          generalize (w1.alloc (.cells z16 29)).setCells w1.heap.size 0 ML = W2 at *
          generalize w1.heap.size = b6 at *
          clear hML hC A6
          go_wp2_with fail
          refine bodyPost_ret (v := .tuple #[.slice none 0 0, .string nS, .int .i64 X]) (by simp [results, Tryz.results17, go_sem]) rfl ⟨⟨.slice none 0 0, ?_, ?_⟩, Bel.call hB hb2⟩
          · rw [HE.out.2.1, HE.out.2.2]
          · rw [HE.out.1]; exact Mgs.nil _
end Go.Proofs.YtjdpeedghpblgaaGreatDoor
/- The statements' awake, by what the program's functions do. -/
set_option linter.all false
set_option maxRecDepth 100000
namespace Go.Proofs.YtjdpeedghpblgaaGreatDoor
open Go.RowKit Go.Sort Go.Lib
/-- What the program's Write, Read, Fit and Same do. -/
def CWr : Prop := ∀ (m : Mg) (u : Value) (W : World), m.ok → m.cs.length ≤ 9223372036854775807 → (∀ t ∈ m.cs, t.size ≤ 9223372036854775807) → m.nm.size ≤ 9223372036854775807 → Txs W u m.cs → Calls Tryz.prog 8 #[m.v u] W fun e w' => e = .returned (wmR m) ∧ Below W.heap.size W w'
def CRd : Prop := ∀ (s : ByteArray) (W : World), (s.size : Int) ≤ 281474976710656 → Calls Tryz.prog 10 #[.string s] W fun e w' => (∃ v, e = .returned (.tuple #[(rmM s).v v, .string (rmR s), .int .i64 (rmE s)]) ∧ Txs w' v (rmM s).cs) ∧ Below W.heap.size W w'
abbrev zs32 : ByteArray := mkS (List.replicate 32 0)
def m20 : Mg := ⟨20, nS, nS, nS, nS, nS, [], 0, 0, zs32⟩
abbrev ntS : ByteArray := ⟨#[110, 116, 115, 107, 101, 47, 49]⟩
def m8 : Mg := ⟨8, nS, nS, nS, nS, ntS, [], 0, 0, nS⟩
theorem ok0 (m : Mg) (h1 : m.x = 0) (h2 : m.y = 0) : m.ok := by
  have z : (0 : Int) < top256 := by decide
  unfold Mg.ok
  rw [h1, h2]
  exact ⟨by omega, z, by omega, z⟩
theorem z32_size : zs32.size = 32 := by rw [mkS_size, List.length_replicate]
theorem m20_ft : ftB m20 = true := by
  unfold ftB
  have a : kdB m20.k = true := rfl
  have b : smB m20 (onM m20) = true := (smB_iff _ _).2 rfl
  have c : knB m20 = true := by show decide (zs32.size = 32) = true; rw [z32_size]; rfl
  rw [a, b, c]; rfl
theorem m8_ft : ftB m8 = true := by
  unfold ftB
  have a : kdB m8.k = true := rfl
  have b : smB m8 (onM m8) = true := (smB_iff _ _).2 rfl
  have c : knB m8 = true := rfl
  rw [a, b, c]; rfl
theorem m20_wr : wrM m20 = ⟨#[20, 0, 0, 32]⟩ ++ zs32 := by
  rw [wrM_head m20 32 (by show ((bdy m20).size : Int) = 32; have : bdy m20 = zs32 := rfl; rw [this, z32_size]; rfl)]
  rfl
theorem m8_size : ((wrM m8).size : Int) = 20 := by
  have e : bdy m8 = exS ntS := rfl
  have z : (exS ntS).size = 16 := by unfold exS; rw [vec_size, al_size]; rfl
  rw [wrM_head m8 16 (by rw [e, z]; rfl), ap_size, e, z]
  rfl
theorem rd3 : rmE ⟨#[3]⟩ = 23 ∧ rmM ⟨#[3]⟩ = noM ∧ rmR ⟨#[3]⟩ = nS := by
  have h : hdE ⟨#[3]⟩ = 23 := by
    unfold hdE
    rw [if_neg (by decide)]
    have b : bt ⟨#[3]⟩ 0 = 3 := rfl
    rw [b]
    rfl
  have e : rmE ⟨#[3]⟩ = 23 := by unfold rmE; rw [h]; rfl
  unfold rmM rmR
  rw [e]
  exact ⟨rfl, rfl, rfl⟩
theorem zs_app (j : Nat) : mkS (List.replicate j 0) ++ ⟨#[0]⟩ = mkS (List.replicate (j + 1) 0) := by
  have : (⟨#[0]⟩ : ByteArray) = mkS [0] := rfl
  rw [this, mkS_app]
  congr 1
  rw [List.replicate_succ']
abbrev lit (k : Int) (al mc : ByteArray) : Value := .agg #[.int .i64 k, .string nS, .string nS, .string nS, .string nS, .string al, nC, .int .u64 0, .int .u64 0, .int .u64 0, .int .u64 0, .int .u64 0, .int .u64 0, .int .u64 0, .int .u64 0, .string mc]
set_option maxHeartbeats 2000000 in
theorem awake14_core (Z X Y T : ByteArray) (hX : ⟨#[20, 0, 0, 32]⟩ ++ Z = X) (hZ : Z = zs32) (hT : (T.size : Int) = 20)
    (C1 : ∀ W, Calls Tryz.prog 8 #[lit 20 nS Z] W fun e w' => e = .returned (.tuple #[.string X, .int .i64 0]) ∧ Below W.heap.size W w')
    (C2 : ∀ W, Calls Tryz.prog 10 #[.string ⟨#[3]⟩] W fun e w' => (∃ v, e = .returned (.tuple #[noM.v v, .string nS, .int .i64 23]) ∧ Txs w' v noM.cs) ∧ Below W.heap.size W w')
    (C3 : ∀ W, Calls Tryz.prog 8 #[lit 8 ntS nS] W fun e w' => e = .returned (.tuple #[.string T, .int .i64 0]) ∧ Below W.heap.size W w') (w : World) :
    Calls Tryz.prog 7 #[] w fun e w' => e = .returned (.bool true) ∧ Below w.heap.size w w' := by
  have HZ : Hid (mkS (List.replicate 32 0) = Z) := hZ.symm
  have zZ : Z.size = 32 := by rw [hZ, z32_size]
  have AX := fun W => add_s ⟨#[20, 0, 0, 32]⟩ Z (by rw [zZ]; have : (⟨#[20, 0, 0, 32]⟩ : ByteArray).size = 4 := rfl; omega) W
  rw [hX] at AX
  clear hZ hX
  go_enter Tryz.func7, Tryz.ntmps7
  go_wp2_with fail
  go_loop [1, 9] (fun x i => ∃ j : Nat, j ≤ 32 ∧ i = .int .i64 (j : Int) ∧ x = .string (mkS (List.replicate j 0))) (fun _ i => 32 - (Go.RowKit.intOf i).toNat)
  case atStart => exact ⟨0, by omega, rfl, rfl⟩
  case round =>
    obtain ⟨j, hj, rfl, rfl⟩ := hrel
    have zj : (mkS (List.replicate j 0)).size = j := by rw [mkS_size, List.length_replicate]
    have j0 : (0 : Int) ≤ (j : Int) := by omega
    by_cases hlt : j < 32
    · have j1 : (j : Int) < 32 := by omega
      have AD := fun W => add_s (mkS (List.replicate j 0)) ⟨#[0]⟩ (by rw [zj]; have : (⟨#[0]⟩ : ByteArray).size = 1 := rfl; omega) W
      rw [zs_app] at AD
      clear zj C1 C2 C3 AX
      generalize hA : mkS (List.replicate j 0) = A at *
      generalize hB : mkS (List.replicate (j + 1) 0) = B at *
      have HB : Hid (mkS (List.replicate (j + 1) 0) = B) := hB
      clear hA hB
      go_wp2_with fail
      go_round
      case rel => exact ⟨j + 1, by omega, by go_num, by rw [HB.out]⟩
      case measure => simp [Go.RowKit.intOf]; omega
    · obtain rfl : j = 32 := by omega
      rw [show ((32 : Nat) : Int) = 32 from rfl, HZ.out]
      clear zj HZ
      go_wp2_with fail
      refine (C1 _).mono ?_
      rintro e w1 ⟨rfl, hb⟩
      have hB := hb
      clear hb C1
      go_upto_region 7 with (fail)
      refine wp_region_list ?_
      refine wpList_plain (by rfl) fun K1 hK1 => ?_
      have H1 : Hid _ := hK1
      clear hK1
      go_wp2_with fail
      refine (C2 _).mono ?_
      rintro e w2 ⟨⟨v, rfl, hTv⟩, hb⟩
      refine H1.out _ _ ?_
      clear H1 C2
      replace hB := Bel.call hB hb
      clear hb
      rw [Mg.v_l]
      have hC := noM.cells v (by obtain ⟨a, c, e, _⟩ := hTv.form; rw [e]; rfl)
      generalize noM.l v = ML at hC ⊢
      refine wpList_plain (by rfl) fun K1 hK1 => ?_
      have H1 : Hid _ := hK1
      clear hK1
      go_wp2_with fail
      refine H1.out _ _ ?_
      clear H1
      refine wpList_plain (by rfl) fun K1 hK1 => ?_
      have H1 : Hid _ := hK1
      clear hK1
      go_wp2_with fail
      refine H1.out _ _ ?_
      clear H1
      refine wpList_plain (by rfl) fun K1 hK1 => ?_
      have H1 : Hid _ := hK1
      clear hK1
      go_wp2_with fail
      refine H1.out _ _ ?_
      clear H1
      refine wpList_plain (by rfl) fun K1 hK1 => ?_
      have H1 : Hid _ := hK1
      clear hK1
      go_wp2_with fail
      refine H1.out _ _ ?_
      clear H1
      refine wpList_plain (by rfl) fun K1 hK1 => ?_
      have H1 : Hid _ := hK1
      clear hK1
      go_wp2_with fail
      refine H1.out _ _ ?_
      clear H1
      have A6 := newZ w2 _ rfl
      refine hC.wst tM A6 (by rfl) (.tmp 4) (.tmp 22) (by rfl) (by rfl) (by rfl) ?_
      simp only [Act.put, List.setIfInBounds_toArray, List.set_cons_succ, List.set_cons_zero]
      refine wpList_plain (by rfl) fun K1 hK1 => ?_
      have H1 : Hid _ := hK1
      clear hK1
      go_wp2_with fail
      refine H1.out _ _ ?_
      clear H1
      refine wpList_plain (by rfl) fun K1 hK1 => ?_
      have H1 : Hid _ := hK1
      clear hK1
      go_wp2_with fail
      refine H1.out _ _ ?_
      clear H1
      refine wpList_nil ?_
      have hb2 : Below w2.heap.size w2 ((w2.alloc (.cells z16 29)).setCells w2.heap.size 0 ML) := below_setCells (by go_grown) (b := w2.heap.size) (Nat.le_refl _) ML 0
      replace hB := Bel.call hB hb2
      clear hb2 A6 hTv hC
      generalize (w2.alloc (.cells z16 29)).setCells w2.heap.size 0 ML = W2 at *
      go_wp2_with fail
      refine (C3 _).mono ?_
      rintro e w3 ⟨rfl, hb⟩
      replace hB := Bel.call hB hb
      clear hb C3
      go_wp2_with fail
      go_ret
      exact ⟨rfl, hB⟩
theorem awake14 (CW : CWr) (CR : CRd) (w : World) : Calls Tryz.prog 7 #[] w fun e w' => e = .returned (.bool true) ∧ Below w.heap.size w w' := by
  have e20 : m20.v nC = lit 20 nS zs32 := by unfold Mg.v m20; simp only [lim_0]
  have e8 : m8.v nC = lit 8 ntS nS := by unfold Mg.v m8; simp only [lim_0]
  have w20 : wmR m20 = .tuple #[.string (wrM m20), .int .i64 0] := by unfold wmR; rw [if_pos m20_ft]
  have w8 : wmR m8 = .tuple #[.string (wrM m8), .int .i64 0] := by unfold wmR; rw [if_pos m8_ft]
  have n : ∀ W : World, Txs W nC [] := fun W => Or.inl ⟨rfl, rfl⟩
  have C1 := fun W => CW m20 nC W (ok0 _ rfl rfl) (Nat.zero_le _) (fun t ht => by cases ht) (Nat.zero_le _) (n W)
  have C3 := fun W => CW m8 nC W (ok0 _ rfl rfl) (Nat.zero_le _) (fun t ht => by cases ht) (Nat.zero_le _) (n W)
  have C2 := fun W => CR ⟨#[3]⟩ W (by decide)
  rw [e20, w20] at C1
  rw [e8, w8] at C3
  obtain ⟨r1, r2, r3⟩ := rd3
  rw [r1, r2, r3] at C2
  exact awake14_core zs32 (wrM m20) nS (wrM m8) m20_wr.symm rfl m8_size C1 C2 C3 w
end Go.Proofs.YtjdpeedghpblgaaGreatDoor
/- HandReads, by what the program's functions do. -/
set_option linter.all false
set_option maxRecDepth 100000
namespace Go.Proofs.YtjdpeedghpblgaaGreatDoor
open Go.RowKit Go.Sort Go.Lib
def wmS (m : Mg) : ByteArray := if ftB m = true then wrM m else nS
def wmE (m : Mg) : Int := if ftB m = true then 0 else 10
theorem wmR_is (m : Mg) : wmR m = .tuple #[.string (wmS m), .int .i64 (wmE m)] := by unfold wmR wmS wmE; split <;> rfl
set_option maxHeartbeats 4000000 in
theorem HandReads_yes (L1 L2 : List Value) (F1 F2 : Nat → Value) (h1 : Cells L1 16 F1) (h2 : Cells L2 16 F2) (g : Mg) (s SA D : ByteArray) (EA G : Int) (f b : Bool) (hs : s.size ≤ 40000) (w : World)
    (C8 : ∀ W, Below w.heap.size w W → Calls Tryz.prog 8 #[.agg L1.toArray] W fun e w' => e = .returned (.tuple #[.string SA, .int .i64 EA]) ∧ Below W.heap.size W w')
    (C9 : ∀ W, Below w.heap.size w W → Calls Tryz.prog 9 #[.agg L1.toArray] W fun e w' => e = .returned (.tuple #[.string SA, .int .i64 EA]) ∧ Below W.heap.size W w')
    (C10 : ∀ W, Calls Tryz.prog 10 #[.string s] W fun e w' => (∃ v, e = .returned (.tuple #[g.v v, .string D, .int .i64 G]) ∧ Txs w' v g.cs) ∧ Below W.heap.size W w')
    (C11 : ∀ W, Calls Tryz.prog 11 #[.string s] W fun e w' => (∃ v, e = .returned (.tuple #[g.v v, .string D, .int .i64 G]) ∧ Txs w' v g.cs) ∧ Below W.heap.size W w')
    (C12 : ∀ W, Below w.heap.size w W → Calls Tryz.prog 12 #[.agg L1.toArray] W fun e w' => e = .returned (.bool f) ∧ Below W.heap.size W w')
    (C13 : ∀ W, Below w.heap.size w W → Calls Tryz.prog 13 #[.agg L1.toArray] W fun e w' => e = .returned (.bool f) ∧ Below W.heap.size W w')
    (C14 : ∀ W u v, Txs W u g.cs → Txs W v g.cs → Calls Tryz.prog 14 #[g.v u, g.v v] W fun e w' => e = .returned (.bool true) ∧ Below W.heap.size W w')
    (C15 : ∀ W, Below w.heap.size w W → Calls Tryz.prog 15 #[.agg L1.toArray, .agg L2.toArray] W fun e w' => e = .returned (.bool b) ∧ Below W.heap.size W w')
    (C16 : ∀ W, Below w.heap.size w W → Calls Tryz.prog 14 #[.agg L1.toArray, .agg L2.toArray] W fun e w' => e = .returned (.bool b) ∧ Below W.heap.size W w')
    (C17 : ∀ W, Below w.heap.size w W → Calls Tryz.prog 15 #[.agg L1.toArray, .agg L1.toArray] W fun e w' => e = .returned (.bool true) ∧ Below W.heap.size W w')
    (C7 : ∀ W, Calls Tryz.prog 7 #[] W fun e w' => e = .returned (.bool true) ∧ Below W.heap.size W w') :
    Calls Tryz.prog 3 #[.agg L1.toArray, .agg L2.toArray, .string s] w fun e w' => e = .returned (.bool true) ∧ Below w.heap.size w w' := by
  have s1 : ¬ (40000 : Int) < (s.size : Int) := by omega
  go_enter Tryz.func3, Tryz.ntmps3
  go_upto_region 1 with (fail)
  have A3 : Arr _ _ 16 _ := (h1.new w 29 _ rfl).al' (n := 15) (.cells L2.toArray 29)
  have A4 : Arr _ _ 16 _ := h2.new (w.alloc (.cells L1.toArray 29)) 29 (w.heap.size + 1) (by simp)
  have hB : Below w.heap.size w ((w.alloc (.cells L1.toArray 29)).alloc (.cells L2.toArray 29)) := by go_grown
  generalize (w.alloc (.cells L1.toArray 29)).alloc (.cells L2.toArray 29) = W0 at *
  go_upto_region 3 with (fail)
  refine wp_region_list ?_
  refine h1.wld tM A3 0 (by omega) (fun j _ => by rw [Nat.zero_add]) (by rfl) (.tmp 3) (by rfl) (by rfl) ?_
  simp only [Act.put, List.setIfInBounds_toArray, List.set_cons_succ, List.set_cons_zero]
  go_wp2_with fail
  refine (C8 _ hB).mono ?_
  rintro e W1 ⟨rfl, hb⟩
  replace A3 : Arr _ _ 16 _ := A3.to' (n := 15) hb
  replace A4 : Arr _ _ 16 _ := A4.to' (n := 15) hb
  replace hB := Bel.call hB hb
  clear hb
  go_upto_region 4 with (fail)
  refine wp_region_list ?_
  refine h1.wld tM A3 0 (by omega) (fun j _ => by rw [Nat.zero_add]) (by rfl) (.tmp 3) (by rfl) (by rfl) ?_
  simp only [Act.put, List.setIfInBounds_toArray, List.set_cons_succ, List.set_cons_zero]
  go_wp2_with fail
  refine (C9 _ hB).mono ?_
  rintro e W2 ⟨rfl, hb⟩
  replace A3 : Arr _ _ 16 _ := A3.to' (n := 15) hb
  replace A4 : Arr _ _ 16 _ := A4.to' (n := 15) hb
  replace hB := Bel.call hB hb
  clear hb
  go_upto_region 5 with (fail)
  refine wp_region_list ?_
  refine wpList_plain (by rfl) fun K1 hK1 => ?_
  have H1 : Hid _ := hK1
  clear hK1
  go_wp2_with fail
  refine H1.out _ _ ?_
  clear H1
  refine wpList_plain (by rfl) fun K1 hK1 => ?_
  have H1 : Hid _ := hK1
  clear hK1
  go_wp2_with fail
  refine (C10 _).mono ?_
  rintro e V1 ⟨⟨v, rfl, hTv⟩, hb⟩
  refine H1.out _ _ ?_
  clear H1 C10
  replace A3 : Arr _ _ 16 _ := A3.to' (n := 15) hb
  replace A4 : Arr _ _ 16 _ := A4.to' (n := 15) hb
  replace hB := Bel.call hB hb
  clear hb
  rw [Mg.v_l]
  have hv := g.cells v (by obtain ⟨a, c, e, _⟩ := hTv.form; rw [e]; rfl)
  have HVv : Hid (g.v v = .agg (g.l v).toArray) := rfl
  generalize g.l v = Lv at hv HVv ⊢
  refine wpList_plain (by rfl) fun K1 hK1 => ?_
  have H1 : Hid _ := hK1
  clear hK1
  go_wp2_with fail
  refine H1.out _ _ ?_
  clear H1
  refine wpList_plain (by rfl) fun K1 hK1 => ?_
  have H1 : Hid _ := hK1
  clear hK1
  go_wp2_with fail
  refine H1.out _ _ ?_
  clear H1
  refine wpList_plain (by rfl) fun K1 hK1 => ?_
  have H1 : Hid _ := hK1
  clear hK1
  go_wp2_with fail
  refine H1.out _ _ ?_
  clear H1
  refine wpList_plain (by rfl) fun K1 hK1 => ?_
  have H1 : Hid _ := hK1
  clear hK1
  go_wp2_with fail
  refine H1.out _ _ ?_
  clear H1
  refine wpList_plain (by rfl) fun K1 hK1 => ?_
  have H1 : Hid _ := hK1
  clear hK1
  go_wp2_with fail
  refine H1.out _ _ ?_
  clear H1
  have A11 := newZ V1 _ rfl
  refine hv.wst tM A11 (by rfl) (.tmp 11) (.tmp 34) (by rfl) (by rfl) (by rfl) ?_
  simp only [Act.put, List.setIfInBounds_toArray, List.set_cons_succ, List.set_cons_zero]
  refine wpList_plain (by rfl) fun K1 hK1 => ?_
  have H1 : Hid _ := hK1
  clear hK1
  go_wp2_with fail
  refine H1.out _ _ ?_
  clear H1
  refine wpList_plain (by rfl) fun K1 hK1 => ?_
  have H1 : Hid _ := hK1
  clear hK1
  go_wp2_with fail
  refine H1.out _ _ ?_
  clear H1
  refine wpList_nil ?_
  replace A11 := hv.set A11
  have hb : Below V1.heap.size V1 ((V1.alloc (.cells z16 29)).setCells V1.heap.size 0 Lv) := below_setCells (by go_grown) (b := V1.heap.size) (Nat.le_refl _) Lv 0
  replace hTv := hTv.to hb
  replace A3 : Arr _ _ 16 _ := A3.to' (n := 15) hb
  replace A4 : Arr _ _ 16 _ := A4.to' (n := 15) hb
  replace hB := Bel.call hB hb
  clear hb
  generalize (V1.alloc (.cells z16 29)).setCells V1.heap.size 0 Lv = X1 at *
  generalize V1.heap.size = b1 at *
  go_upto_region 6 with (fail)
  refine wp_region_list ?_
  refine wpList_plain (by rfl) fun K1 hK1 => ?_
  have H1 : Hid _ := hK1
  clear hK1
  go_wp2_with fail
  refine H1.out _ _ ?_
  clear H1
  refine wpList_plain (by rfl) fun K1 hK1 => ?_
  have H1 : Hid _ := hK1
  clear hK1
  go_wp2_with fail
  refine (C11 _).mono ?_
  rintro e V2 ⟨⟨u, rfl, hTu⟩, hb⟩
  refine H1.out _ _ ?_
  clear H1 C11
  replace hTv := hTv.to hb
  replace A3 : Arr _ _ 16 _ := A3.to' (n := 15) hb
  replace A4 : Arr _ _ 16 _ := A4.to' (n := 15) hb
  replace A11 : Arr _ _ 16 _ := A11.to' (n := 15) hb
  replace hB := Bel.call hB hb
  clear hb
  rw [Mg.v_l]
  have hu := g.cells u (by obtain ⟨a, c, e, _⟩ := hTu.form; rw [e]; rfl)
  have HVu : Hid (g.v u = .agg (g.l u).toArray) := rfl
  generalize g.l u = Lu at hu HVu ⊢
  refine wpList_plain (by rfl) fun K1 hK1 => ?_
  have H1 : Hid _ := hK1
  clear hK1
  go_wp2_with fail
  refine H1.out _ _ ?_
  clear H1
  refine wpList_plain (by rfl) fun K1 hK1 => ?_
  have H1 : Hid _ := hK1
  clear hK1
  go_wp2_with fail
  refine H1.out _ _ ?_
  clear H1
  refine wpList_plain (by rfl) fun K1 hK1 => ?_
  have H1 : Hid _ := hK1
  clear hK1
  go_wp2_with fail
  refine H1.out _ _ ?_
  clear H1
  refine wpList_plain (by rfl) fun K1 hK1 => ?_
  have H1 : Hid _ := hK1
  clear hK1
  go_wp2_with fail
  refine H1.out _ _ ?_
  clear H1
  refine wpList_plain (by rfl) fun K1 hK1 => ?_
  have H1 : Hid _ := hK1
  clear hK1
  go_wp2_with fail
  refine H1.out _ _ ?_
  clear H1
  have A14 := newZ V2 _ rfl
  refine hu.wst tM A14 (by rfl) (.tmp 14) (.tmp 40) (by rfl) (by rfl) (by rfl) ?_
  simp only [Act.put, List.setIfInBounds_toArray, List.set_cons_succ, List.set_cons_zero]
  refine wpList_plain (by rfl) fun K1 hK1 => ?_
  have H1 : Hid _ := hK1
  clear hK1
  go_wp2_with fail
  refine H1.out _ _ ?_
  clear H1
  refine wpList_plain (by rfl) fun K1 hK1 => ?_
  have H1 : Hid _ := hK1
  clear hK1
  go_wp2_with fail
  refine H1.out _ _ ?_
  clear H1
  refine wpList_nil ?_
  replace A14 := hu.set A14
  have hb : Below V2.heap.size V2 ((V2.alloc (.cells z16 29)).setCells V2.heap.size 0 Lu) := below_setCells (by go_grown) (b := V2.heap.size) (Nat.le_refl _) Lu 0
  replace hTv := hTv.to hb
  replace hTu := hTu.to hb
  replace A3 : Arr _ _ 16 _ := A3.to' (n := 15) hb
  replace A4 : Arr _ _ 16 _ := A4.to' (n := 15) hb
  replace A11 : Arr _ _ 16 _ := A11.to' (n := 15) hb
  replace hB := Bel.call hB hb
  clear hb
  generalize (V2.alloc (.cells z16 29)).setCells V2.heap.size 0 Lu = X2 at *
  generalize V2.heap.size = b2 at *
  have CS : ∀ W, Below X2.heap.size X2 W → Calls Tryz.prog 14 #[.agg Lv.toArray, .agg Lu.toArray] W fun e w' => e = .returned (.bool true) ∧ Below W.heap.size W w' := fun W hW => by
    have := C14 W v u (hTv.to hW) (hTu.to hW)
    rw [HVv.out, HVu.out] at this
    exact this
  have be : (f == f) = true := by simp
  have bb : (b == b) = true := by simp
  have bs : (SA.toList == SA.toList) = true := by simp
  have bd : (D.toList == D.toList) = true := by simp
  have b3 : (EA == EA) = true := by simp
  have b4 : (G == G) = true := by simp
  go_upto_region 7 with (fail)
  refine wp_region_quiet_below (by kernel_rfl) (by kernel_rfl) ?_
  refine h1.qld (N := 15) tM A3 0 (by omega) (fun j _ => by rw [Nat.zero_add]) (fun W hW => below_of hW.choose_spec) (by rfl) (.tmp 3) (by rfl) (by rfl) ?_
  simp only [Act.put, List.setIfInBounds_toArray, List.set_cons_succ, List.set_cons_zero]
  go_big_quiet_step ((go_at_call 12; exact Calls.regrown_of (C12 _ (Bel.call hB (below_regrown _ _ _)))))
  refine h1.qld (N := 15) tM A3 0 (by omega) (fun j _ => by rw [Nat.zero_add]) (fun W hW => below_of hW.choose_spec) (by rfl) (.tmp 3) (by rfl) (by rfl) ?_
  simp only [Act.put, List.setIfInBounds_toArray, List.set_cons_succ, List.set_cons_zero]
  go_big_quiet_step ((go_at_call 13; exact Calls.regrown_of (C13 _ (Bel.call hB (below_regrown _ _ _)))))
  go_big_quiet_step (fail)
  go_big_quiet_step (fail)
  go_big_quiet_step (fail)
  go_big_quiet_step (fail)
  go_big_quiet_step (fail)
  go_big_quiet_step (fail)
  go_big_quiet_step (fail)
  go_big_quiet_step (fail)
  go_big_quiet_step (fail)
  go_big_quiet_step (fail)
  go_big_quiet_step (fail)
  go_big_quiet_step (fail)
  refine hv.qld (N := 15) tM A11 0 (by omega) (fun j _ => by rw [Nat.zero_add]) (fun W hW => below_of hW.choose_spec) (by rfl) (.tmp 11) (by rfl) (by rfl) ?_
  simp only [Act.put, List.setIfInBounds_toArray, List.set_cons_succ, List.set_cons_zero]
  refine hu.qld (N := 15) tM A14 0 (by omega) (fun j _ => by rw [Nat.zero_add]) (fun W hW => below_of hW.choose_spec) (by rfl) (.tmp 14) (by rfl) (by rfl) ?_
  simp only [Act.put, List.setIfInBounds_toArray, List.set_cons_succ, List.set_cons_zero]
  go_big_quiet_step ((go_at_call 14; exact Calls.regrown_of (CS _ (below_regrown _ _ _))))
  go_big_quiet_step (fail)
  go_big_quiet_step (fail)
  go_big_quiet_step (fail)
  go_big_quiet_step (fail)
  go_big_quiet_step (fail)
  go_big_quiet_step (fail)
  go_big_quiet_step (fail)
  go_big_quiet_step (fail)
  go_big_quiet_step (fail)
  go_big_quiet_step (fail)
  go_big_quiet_step (fail)
  go_big_quiet_step (fail)
  refine h1.qld (N := 15) tM A3 0 (by omega) (fun j _ => by rw [Nat.zero_add]) (fun W hW => below_of hW.choose_spec) (by rfl) (.tmp 3) (by rfl) (by rfl) ?_
  simp only [Act.put, List.setIfInBounds_toArray, List.set_cons_succ, List.set_cons_zero]
  refine h2.qld (N := 15) tM A4 0 (by omega) (fun j _ => by rw [Nat.zero_add]) (fun W hW => below_of hW.choose_spec) (by rfl) (.tmp 4) (by rfl) (by rfl) ?_
  simp only [Act.put, List.setIfInBounds_toArray, List.set_cons_succ, List.set_cons_zero]
  go_big_quiet_step ((go_at_call 15; exact Calls.regrown_of (C15 _ (Bel.call hB (below_regrown _ _ _)))))
  refine h1.qld (N := 15) tM A3 0 (by omega) (fun j _ => by rw [Nat.zero_add]) (fun W hW => below_of hW.choose_spec) (by rfl) (.tmp 3) (by rfl) (by rfl) ?_
  simp only [Act.put, List.setIfInBounds_toArray, List.set_cons_succ, List.set_cons_zero]
  refine h2.qld (N := 15) tM A4 0 (by omega) (fun j _ => by rw [Nat.zero_add]) (fun W hW => below_of hW.choose_spec) (by rfl) (.tmp 4) (by rfl) (by rfl) ?_
  simp only [Act.put, List.setIfInBounds_toArray, List.set_cons_succ, List.set_cons_zero]
  go_big_quiet_step ((go_at_call 14; exact Calls.regrown_of (C16 _ (Bel.call hB (below_regrown _ _ _)))))
  go_big_quiet_step (fail)
  go_big_quiet_step (fail)
  go_big_quiet_step (fail)
  refine h1.qld (N := 15) tM A3 0 (by omega) (fun j _ => by rw [Nat.zero_add]) (fun W hW => below_of hW.choose_spec) (by rfl) (.tmp 3) (by rfl) (by rfl) ?_
  simp only [Act.put, List.setIfInBounds_toArray, List.set_cons_succ, List.set_cons_zero]
  refine h1.qld (N := 15) tM A3 0 (by omega) (fun j _ => by rw [Nat.zero_add]) (fun W hW => below_of hW.choose_spec) (by rfl) (.tmp 3) (by rfl) (by rfl) ?_
  simp only [Act.put, List.setIfInBounds_toArray, List.set_cons_succ, List.set_cons_zero]
  go_big_quiet_step ((go_at_call 15; exact Calls.regrown_of (C17 _ (Bel.call hB (below_regrown _ _ _)))))
  go_big_quiet_step (fail)
  go_big_quiet_step (fail)
  go_big_quiet_step ((go_at_call 7; exact Calls.regrown_of (C7 _)))
  go_big_quiet_step (fail)
  go_big_quiet_step (fail)
  refine wpQuiet_nil ?_
  intro w9 hw'
  obtain ⟨⟨dq, osq⟩, hw''⟩ := hw'
  have hb := below_of hw''
  clear hw'' C12 C13 CS C15 C16 C17 C7
  go_wp2_with fail
  go_ret
  exact ⟨rfl, Bel.call hB hb⟩
end Go.Proofs.YtjdpeedghpblgaaGreatDoor
/- HandReads of any arguments, by what the program's functions do. -/
set_option linter.all false
set_option maxRecDepth 100000
namespace Go.Proofs.YtjdpeedghpblgaaGreatDoor
open Go.RowKit Go.Sort Go.Lib
/-- A message that an argument can be. -/
structure Mg.fits (m : Mg) : Prop where
  ok : m.ok
  ln : m.cs.length ≤ 9223372036854775807
  tx : ∀ t ∈ m.cs, t.size ≤ 9223372036854775807
  nm : m.nm.size ≤ 9223372036854775807
theorem Mg.fits.tl {m : Mg} (h : m.fits) : ∀ t ∈ m.cs, t.size ≤ maxLen := fun t ht => by have := h.tx t ht; unfold maxLen; omega
theorem Mg.fits.nl {m : Mg} (h : m.fits) : m.nm.size ≤ maxLen := by have := h.nm; unfold maxLen; omega
def CFt : Prop := ∀ (m : Mg) (u : Value) (W : World), m.fits → Txs W u m.cs → Calls Tryz.prog 12 #[m.v u] W fun e w' => e = .returned (.bool (ftB m)) ∧ Below W.heap.size W w'
def CSm : Prop := ∀ (m o : Mg) (u v : Value) (W : World), m.fits → o.fits → Txs W u m.cs → Txs W v o.cs → Calls Tryz.prog 15 #[m.v u, o.v v] W fun e w' => e = .returned (.bool (smB m o)) ∧ Below W.heap.size W w'
theorem rmM_fits (s : ByteArray) (hs : s.size ≤ 1000000) : (rmM s).fits := by
  unfold rmM
  split
  · obtain ⟨f1, f2, f3, f4⟩ := gsM_fits (bt s 0) (s.extract 4 (4 + (lnM s).toNat))
    have zB : (s.extract 4 (4 + (lnM s).toNat)).size ≤ 1000000 := by rw [ByteArray.size_extract]; omega
    exact ⟨f1, by unfold rmG; omega, fun t ht => by have := f3 t ht; omega, by unfold rmG; omega⟩
  · exact ⟨ok0 _ rfl rfl, Nat.zero_le _, fun t ht => (by cases ht), Nat.zero_le _⟩
theorem sm_self (m : Mg) : smB m m = true := (smB_iff m m).2 rfl
set_option maxHeartbeats 1000000 in
theorem HandReads_long (L1 L2 : List Value) (F1 F2 : Nat → Value) (h1 : Cells L1 16 F1) (h2 : Cells L2 16 F2) (s : ByteArray) (hs : ¬ s.size ≤ 40000) (hz : s.size ≤ maxLen) (w : World)
    (C7 : ∀ W, Calls Tryz.prog 7 #[] W fun e w' => e = .returned (.bool true) ∧ Below W.heap.size W w') :
    Calls Tryz.prog 3 #[.agg L1.toArray, .agg L2.toArray, .string s] w fun e w' => e = .returned (.bool true) ∧ Below w.heap.size w w' := by
  unfold maxLen at hz
  have s1 : (40000 : Int) < (s.size : Int) := by omega
  go_enter Tryz.func3, Tryz.ntmps3
  go_upto_region 1 with (fail)
  have hB : Below w.heap.size w ((w.alloc (.cells L1.toArray 29)).alloc (.cells L2.toArray 29)) := by go_grown
  generalize (w.alloc (.cells L1.toArray 29)).alloc (.cells L2.toArray 29) = W0 at *
  go_wp2_with fail
  refine (C7 _).mono ?_
  rintro e W1 ⟨rfl, hb⟩
  go_wp2_with fail
  go_ret
  exact ⟨rfl, Bel.call hB hb⟩
theorem HandReads_any (CW : CWr) (CR : CRd) (CF : CFt) (CS : CSm) (m o : Mg) (hm : m.fits) (ho : o.fits) (u v : Value) (s : ByteArray) (hz : s.size ≤ maxLen) (w : World) (hu : Txs w u m.cs) (hv : Txs w v o.cs) :
    Calls Tryz.prog 3 #[m.v u, o.v v, .string s] w fun e w' => e = .returned (.bool true) ∧ Below w.heap.size w w' := by
  have K1 : Cells (m.l u) 16 (m.c u) := m.cells u (by obtain ⟨a, c, e, _⟩ := hu.form; rw [e]; rfl)
  have K2 : Cells (o.l v) 16 (o.c v) := o.cells v (by obtain ⟨a, c, e, _⟩ := hv.form; rw [e]; rfl)
  have C7 := fun W => awake14 CW CR W
  by_cases hs : s.size ≤ 40000
  · have C8 := fun W (hb : Below w.heap.size w W) => CW m u W hm.ok hm.ln hm.tx hm.nm (hu.to hb)
    have C9 := fun W (hb : Below w.heap.size w W) => rWrite_any m hm.ok u hm.ln hm.tl hm.nl W (hu.to hb)
    rw [wmR_is] at C8 C9
    have fr := rmM_fits s (by omega)
    have C10 := fun W => CR s W (by omega)
    have C11 : ∀ W, Calls Tryz.prog 11 #[.string s] W fun e w' => (∃ v, e = .returned (.tuple #[(rmM s).v v, .string (rmR s), .int .i64 (rmE s)]) ∧ Txs w' v (rmM s).cs) ∧ Below W.heap.size W w' := fun W => (rRead_any s (by omega) W).mono fun e w' ⟨⟨v, h1, h2, _⟩, h3⟩ => ⟨⟨v, h1, h2⟩, h3⟩
    have C12 := fun W (hb : Below w.heap.size w W) => CF m u W hm (hu.to hb)
    have C13 := fun W (hb : Below w.heap.size w W) => rFit_any m hm.ok u hm.ln hm.tl hm.nl W (hu.to hb)
    have C14 := fun W a b (h1 : Txs W a (rmM s).cs) (h2 : Txs W b (rmM s).cs) => rSame_any (rmM s) (rmM s) fr.ok fr.ok a b fr.ln fr.tl fr.tl W h1 h2
    rw [sm_self] at C14
    have C15 := fun W (hb : Below w.heap.size w W) => CS m o u v W hm ho (hu.to hb) (hv.to hb)
    have C16 := fun W (hb : Below w.heap.size w W) => rSame_any m o hm.ok ho.ok u v hm.ln hm.tl ho.tl W (hu.to hb) (hv.to hb)
    have C17 := fun W (hb : Below w.heap.size w W) => CS m m u u W hm hm (hu.to hb) (hu.to hb)
    rw [sm_self] at C17
    rw [Mg.v_l, Mg.v_l] at *
    exact HandReads_yes _ _ _ _ K1 K2 (rmM s) s _ _ _ _ _ _ hs w C8 C9 C10 C11 C12 C13 C14 C15 C16 C17 C7
  · rw [Mg.v_l, Mg.v_l]
    exact HandReads_long _ _ _ _ K1 K2 s hs hz w C7
end Go.Proofs.YtjdpeedghpblgaaGreatDoor
/- HandBack, by what the program's functions do. -/
set_option linter.all false
set_option maxRecDepth 100000
namespace Go.Proofs.YtjdpeedghpblgaaGreatDoor
open Go.RowKit Go.Sort Go.Lib
/-- A load of many cells under a guard that is met. -/
theorem Cells.wldg {L : List Value} {n : Nat} {F : Nat → Value} (c : Cells L n F) {T : TypeId} (t : Ty T n) {w : World} {b N : Nat} {G : Nat → Value} (A : Arr w b N G) (o : Nat) (ho : o + n ≤ N) (e : ∀ j, j < n → G (o + j) = F j)
    {ops : Array Oper} {rest : List Oper} {op : Oper} {a : Act} {Q : Exit → Act → World → Prop} (hw : Region.wanted op (yielded ops a.tmps) = true) (x : Operand) (hop : op.op = .load T x) (hx : a.eval x = .pointer (some ⟨b, o, none⟩))
    (h : wpList Tryz.prog ops Q rest (a.put op.dst (.agg L.toArray)) w) : wpList Tryz.prog ops Q (op :: rest) a w := by
  refine BigFrame.wpList_want hw fun K hK => ?_
  unfold Oper.wp execOp
  simp only [hop, hx, Instr.loadAt, Instr.sureAddr, Sem.run_bind, Sem.run_pure, Result.andThen_ok, c.ld t A o ho e]
  exact hK _ _ h
set_option maxHeartbeats 4000000 in
theorem HandBack_yy (L1 : List Value) (F1 : Nat → Value) (h1 : Cells L1 16 F1) (m g : Mg) (u : Value) (s more D Y Z : ByteArray) (E : Int) (hs : s.size ≤ 40000) (hmz : (more.size : Int) ≤ 281474976710656) (w : World) (hu : Txs w u m.cs) (hV : m.v u = .agg L1.toArray)
    (C10 : ∀ W, Calls Tryz.prog 10 #[.string s] W fun e w' => (∃ v, e = .returned (.tuple #[g.v v, .string D, .int .i64 0]) ∧ Txs w' v g.cs) ∧ Below W.heap.size W w')
    (C8 : ∀ W v, Txs W v g.cs → Calls Tryz.prog 8 #[g.v v] W fun e w' => e = .returned (.tuple #[.string Y, .int .i64 0]) ∧ Below W.heap.size W w') (hY : Y ++ D = s)
    (C13 : ∀ W v, Txs W v g.cs → Calls Tryz.prog 13 #[g.v v] W fun e w' => e = .returned (.bool true) ∧ Below W.heap.size W w')
    (C18 : ∀ W, Below w.heap.size w W → Calls Tryz.prog 8 #[.agg L1.toArray] W fun e w' => e = .returned (.tuple #[.string Z, .int .i64 0]) ∧ Below W.heap.size W w')
    (C23 : ∀ W, Below w.heap.size w W → Calls Tryz.prog 13 #[.agg L1.toArray] W fun e w' => e = .returned (.bool true) ∧ Below W.heap.size W w')
    (hZ : Z.size ≤ 10000)
    (C20 : ∀ W, Calls Tryz.prog 10 #[.string (Z ++ more)] W fun e w' => (∃ v, e = .returned (.tuple #[m.v v, .string more, .int .i64 0]) ∧ Txs w' v m.cs) ∧ Below W.heap.size W w')
    (C24 : ∀ W v, Txs W v m.cs → Txs W u m.cs → Calls Tryz.prog 14 #[m.v v, m.v u] W fun e w' => e = .returned (.bool true) ∧ Below W.heap.size W w')
    (C7 : ∀ W, Calls Tryz.prog 7 #[] W fun e w' => e = .returned (.bool true) ∧ Below W.heap.size W w') :
    Calls Tryz.prog 5 #[.agg L1.toArray, .string more, .string s] w fun e w' => e = .returned (.bool true) ∧ Below w.heap.size w w' := by
  have s1 : ¬ (40000 : Int) < (s.size : Int) := by omega
  have zY : Y.size + D.size = s.size := by rw [← ap_size, hY]
  have AY := fun W => add_s Y D (by omega) W
  rw [hY] at AY
  have bs : (s.toList == s.toList) = true := by simp
  clear hY zY
  have AZ := fun W => add_s Z more (by omega) W
  have bm : (more.toList == more.toList) = true := by simp
  generalize Z ++ more = ZM at *
  go_enter Tryz.func5, Tryz.ntmps5
  go_upto_region 1 with (fail)
  have A3 : Arr _ _ 16 _ := h1.new w 29 _ rfl
  have hB : Below w.heap.size w (w.alloc (.cells L1.toArray 29)) := by go_grown
  generalize w.alloc (.cells L1.toArray 29) = W0 at *
  go_upto_region 3 with (fail)
  refine wp_region_list ?_
  refine wpList_plain (by rfl) fun K1 hK1 => ?_
  have H1 : Hid _ := hK1
  clear hK1
  go_wp2_with fail
  refine H1.out _ _ ?_
  clear H1
  refine wpList_plain (by rfl) fun K1 hK1 => ?_
  have H1 : Hid _ := hK1
  clear hK1
  go_wp2_with fail
  refine (C10 _).mono ?_
  rintro e V1 ⟨⟨v, rfl, hTv⟩, hb⟩
  refine H1.out _ _ ?_
  clear H1 C10
  replace A3 : Arr _ _ 16 _ := A3.to' (n := 15) hb
  replace hB := Bel.call hB hb
  clear hb
  rw [Mg.v_l]
  have hv := g.cells v (by obtain ⟨a, c, e, _⟩ := hTv.form; rw [e]; rfl)
  have HVv : Hid (g.v v = .agg (g.l v).toArray) := rfl
  generalize g.l v = Lv at hv HVv ⊢
  refine wpList_plain (by rfl) fun K1 hK1 => ?_
  have H1 : Hid _ := hK1
  clear hK1
  go_wp2_with fail
  refine H1.out _ _ ?_
  clear H1
  refine wpList_plain (by rfl) fun K1 hK1 => ?_
  have H1 : Hid _ := hK1
  clear hK1
  go_wp2_with fail
  refine H1.out _ _ ?_
  clear H1
  refine wpList_plain (by rfl) fun K1 hK1 => ?_
  have H1 : Hid _ := hK1
  clear hK1
  go_wp2_with fail
  refine H1.out _ _ ?_
  clear H1
  refine wpList_plain (by rfl) fun K1 hK1 => ?_
  have H1 : Hid _ := hK1
  clear hK1
  go_wp2_with fail
  refine H1.out _ _ ?_
  clear H1
  refine wpList_plain (by rfl) fun K1 hK1 => ?_
  have H1 : Hid _ := hK1
  clear hK1
  go_wp2_with fail
  refine H1.out _ _ ?_
  clear H1
  have A7 := newZ V1 _ rfl
  refine hv.wst tM A7 (by rfl) (.tmp 7) (.tmp 24) (by rfl) (by rfl) (by rfl) ?_
  simp only [Act.put, List.setIfInBounds_toArray, List.set_cons_succ, List.set_cons_zero]
  refine wpList_plain (by rfl) fun K1 hK1 => ?_
  have H1 : Hid _ := hK1
  clear hK1
  go_wp2_with fail
  refine H1.out _ _ ?_
  clear H1
  refine wpList_plain (by rfl) fun K1 hK1 => ?_
  have H1 : Hid _ := hK1
  clear hK1
  go_wp2_with fail
  refine H1.out _ _ ?_
  clear H1
  refine wpList_nil ?_
  replace A7 := hv.set A7
  have hb : Below V1.heap.size V1 ((V1.alloc (.cells z16 29)).setCells V1.heap.size 0 Lv) := below_setCells (by go_grown) (b := V1.heap.size) (Nat.le_refl _) Lv 0
  replace hTv := hTv.to hb
  replace A3 : Arr _ _ 16 _ := A3.to' (n := 15) hb
  replace hB := Bel.call hB hb
  clear hb
  generalize (V1.alloc (.cells z16 29)).setCells V1.heap.size 0 Lv = X1 at *
  generalize V1.heap.size = b1 at *
  have C8v := fun W h => C8 W v h
  have C13v := fun W h => C13 W v h
  simp only [HVv.out] at C8v C13v
  clear C8 C13
  go_upto_region 5 with (fail)
  refine wp_region_list ?_
  refine hv.wld tM A7 0 (by omega) (fun j _ => by rw [Nat.zero_add]) (by rfl) (.tmp 7) (by rfl) (by rfl) ?_
  simp only [Act.put, List.setIfInBounds_toArray, List.set_cons_succ, List.set_cons_zero]
  go_wp2_with fail
  refine (C8v _ hTv).mono ?_
  rintro e W4 ⟨rfl, hb⟩
  replace hTv := hTv.to hb
  replace A3 : Arr _ _ 16 _ := A3.to' (n := 15) hb
  replace A7 : Arr _ _ 16 _ := A7.to' (n := 15) hb
  replace hB := Bel.call hB hb
  clear hb
  go_upto_region 6 with (fail)
  refine wp_region_list ?_
  refine wpList_plain (by rfl) fun K1 hK1 => ?_
  have H1 : Hid _ := hK1
  clear hK1
  go_wp2_with fail
  refine H1.out _ _ ?_
  clear H1
  refine wpList_plain (by rfl) fun K1 hK1 => ?_
  have H1 : Hid _ := hK1
  clear hK1
  go_wp2_with fail
  refine H1.out _ _ ?_
  clear H1
  refine wpList_plain (by rfl) fun K1 hK1 => ?_
  have H1 : Hid _ := hK1
  clear hK1
  go_wp2_with fail
  refine H1.out _ _ ?_
  clear H1
  refine BigFrame.wpList_want (by rfl) fun K1 hK1 => ?_
  have H1 : Hid _ := hK1
  clear hK1
  go_wp2_with fail
  refine H1.out _ _ ?_
  clear H1
  refine BigFrame.wpList_want (by rfl) fun K1 hK1 => ?_
  have H1 : Hid _ := hK1
  clear hK1
  go_wp2_with fail
  refine H1.out _ _ ?_
  clear H1
  refine BigFrame.wpList_want (by rfl) fun K1 hK1 => ?_
  have H1 : Hid _ := hK1
  clear hK1
  go_wp2_with fail
  refine H1.out _ _ ?_
  clear H1
  refine BigFrame.wpList_want (by rfl) fun K1 hK1 => ?_
  have H1 : Hid _ := hK1
  clear hK1
  go_wp2_with fail
  refine H1.out _ _ ?_
  clear H1
  refine BigFrame.wpList_want (by rfl) fun K1 hK1 => ?_
  have H1 : Hid _ := hK1
  clear hK1
  go_wp2_with fail
  refine H1.out _ _ ?_
  clear H1
  refine wpList_plain (by rfl) fun K1 hK1 => ?_
  have H1 : Hid _ := hK1
  clear hK1
  go_wp2_with fail
  refine H1.out _ _ ?_
  clear H1
  refine wpList_plain (by rfl) fun K1 hK1 => ?_
  have H1 : Hid _ := hK1
  clear hK1
  go_wp2_with fail
  refine H1.out _ _ ?_
  clear H1
  refine hv.wldg tM A7 0 (by omega) (fun j _ => by rw [Nat.zero_add]) (by rfl) (.tmp 7) (by rfl) (by rfl) ?_
  simp only [Act.put, List.setIfInBounds_toArray, List.set_cons_succ, List.set_cons_zero]
  refine BigFrame.wpList_want (by rfl) fun K1 hK1 => ?_
  have H1 : Hid _ := hK1
  clear hK1
  go_wp2_with fail
  refine (C13v _ hTv).mono ?_
  rintro e W5 ⟨rfl, hb⟩
  refine H1.out _ _ ?_
  clear H1
  replace A3 : Arr _ _ 16 _ := A3.to' (n := 15) hb
  replace hB := Bel.call hB hb
  clear hb
  refine BigFrame.wpList_want (by rfl) fun K1 hK1 => ?_
  have H1 : Hid _ := hK1
  clear hK1
  go_wp2_with fail
  refine H1.out _ _ ?_
  clear H1
  refine wpList_plain (by rfl) fun K1 hK1 => ?_
  have H1 : Hid _ := hK1
  clear hK1
  go_wp2_with fail
  refine H1.out _ _ ?_
  clear H1
  refine wpList_nil ?_
  clear C8v C13v hTv A7 AY
  go_upto_region 8 with (fail)
  refine wp_region_list ?_
  refine h1.wld tM A3 0 (by omega) (fun j _ => by rw [Nat.zero_add]) (by rfl) (.tmp 3) (by rfl) (by rfl) ?_
  simp only [Act.put, List.setIfInBounds_toArray, List.set_cons_succ, List.set_cons_zero]
  go_wp2_with fail
  refine (C18 _ hB).mono ?_
  rintro e W6 ⟨rfl, hb⟩
  replace A3 : Arr _ _ 16 _ := A3.to' (n := 15) hb
  replace hB := Bel.call hB hb
  clear hb
  go_upto_region 9 with (fail)
  refine wp_region_list ?_
  refine wpList_plain (by rfl) fun K1 hK1 => ?_
  have H1 : Hid _ := hK1
  clear hK1
  go_wp2_with fail
  refine H1.out _ _ ?_
  clear H1
  refine wpList_plain (by rfl) fun K1 hK1 => ?_
  have H1 : Hid _ := hK1
  clear hK1
  go_wp2_with fail
  refine H1.out _ _ ?_
  clear H1
  refine h1.wld tM A3 0 (by omega) (fun j _ => by rw [Nat.zero_add]) (by rfl) (.tmp 3) (by rfl) (by rfl) ?_
  simp only [Act.put, List.setIfInBounds_toArray, List.set_cons_succ, List.set_cons_zero]
  refine wpList_plain (by rfl) fun K1 hK1 => ?_
  have H1 : Hid _ := hK1
  clear hK1
  go_wp2_with fail
  refine (C23 _ hB).mono ?_
  rintro e W7 ⟨rfl, hb⟩
  refine H1.out _ _ ?_
  clear H1
  replace A3 : Arr _ _ 16 _ := A3.to' (n := 15) hb
  replace hB := Bel.call hB hb
  clear hb
  refine wpList_plain (by rfl) fun K1 hK1 => ?_
  have H1 : Hid _ := hK1
  clear hK1
  go_wp2_with fail
  refine H1.out _ _ ?_
  clear H1
  refine wpList_nil ?_
  clear C18 C23
  go_upto_region 13 with (fail)
  refine wp_region_list ?_
  refine wpList_plain (by rfl) fun K1 hK1 => ?_
  have H1 : Hid _ := hK1
  clear hK1
  go_wp2_with fail
  refine H1.out _ _ ?_
  clear H1
  refine wpList_plain (by rfl) fun K1 hK1 => ?_
  have H1 : Hid _ := hK1
  clear hK1
  go_wp2_with fail
  refine H1.out _ _ ?_
  clear H1
  refine wpList_plain (by rfl) fun K1 hK1 => ?_
  have H1 : Hid _ := hK1
  clear hK1
  go_wp2_with fail
  refine H1.out _ _ ?_
  clear H1
  refine wpList_plain (by rfl) fun K1 hK1 => ?_
  have H1 : Hid _ := hK1
  clear hK1
  go_wp2_with fail
  refine (C20 _).mono ?_
  rintro e V2 ⟨⟨x, rfl, hTx⟩, hb⟩
  refine H1.out _ _ ?_
  clear H1 C20
  replace A3 : Arr _ _ 16 _ := A3.to' (n := 15) hb
  replace hB := Bel.call hB hb
  clear hb
  rw [Mg.v_l]
  have hx := m.cells x (by obtain ⟨a, c, e, _⟩ := hTx.form; rw [e]; rfl)
  have HVx : Hid (m.v x = .agg (m.l x).toArray) := rfl
  generalize m.l x = Lx at hx HVx ⊢
  refine wpList_plain (by rfl) fun K1 hK1 => ?_
  have H1 : Hid _ := hK1
  clear hK1
  go_wp2_with fail
  refine H1.out _ _ ?_
  clear H1
  refine wpList_plain (by rfl) fun K1 hK1 => ?_
  have H1 : Hid _ := hK1
  clear hK1
  go_wp2_with fail
  refine H1.out _ _ ?_
  clear H1
  refine wpList_plain (by rfl) fun K1 hK1 => ?_
  have H1 : Hid _ := hK1
  clear hK1
  go_wp2_with fail
  refine H1.out _ _ ?_
  clear H1
  refine wpList_plain (by rfl) fun K1 hK1 => ?_
  have H1 : Hid _ := hK1
  clear hK1
  go_wp2_with fail
  refine H1.out _ _ ?_
  clear H1
  refine wpList_plain (by rfl) fun K1 hK1 => ?_
  have H1 : Hid _ := hK1
  clear hK1
  go_wp2_with fail
  refine H1.out _ _ ?_
  clear H1
  have A14 := newZ V2 _ rfl
  refine hx.wst tM A14 (by rfl) (.tmp 14) (.tmp 66) (by rfl) (by rfl) (by rfl) ?_
  simp only [Act.put, List.setIfInBounds_toArray, List.set_cons_succ, List.set_cons_zero]
  refine wpList_plain (by rfl) fun K1 hK1 => ?_
  have H1 : Hid _ := hK1
  clear hK1
  go_wp2_with fail
  refine H1.out _ _ ?_
  clear H1
  refine wpList_plain (by rfl) fun K1 hK1 => ?_
  have H1 : Hid _ := hK1
  clear hK1
  go_wp2_with fail
  refine H1.out _ _ ?_
  clear H1
  refine wpList_nil ?_
  replace A14 := hx.set A14
  have hb : Below V2.heap.size V2 ((V2.alloc (.cells z16 29)).setCells V2.heap.size 0 Lx) := below_setCells (by go_grown) (b := V2.heap.size) (Nat.le_refl _) Lx 0
  replace hTx := hTx.to hb
  replace A3 : Arr _ _ 16 _ := A3.to' (n := 15) hb
  replace hB := Bel.call hB hb
  clear hb
  generalize (V2.alloc (.cells z16 29)).setCells V2.heap.size 0 Lx = X2 at *
  generalize V2.heap.size = b2 at *
  have C24v := fun W h h' => C24 W x h h'
  simp only [HVx.out, hV] at C24v
  go_upto_region 14 with (fail)
  refine wp_region_list ?_
  refine hx.wld tM A14 0 (by omega) (fun j _ => by rw [Nat.zero_add]) (by rfl) (.tmp 14) (by rfl) (by rfl) ?_
  simp only [Act.put, List.setIfInBounds_toArray, List.set_cons_succ, List.set_cons_zero]
  refine h1.wld tM A3 0 (by omega) (fun j _ => by rw [Nat.zero_add]) (by rfl) (.tmp 3) (by rfl) (by rfl) ?_
  simp only [Act.put, List.setIfInBounds_toArray, List.set_cons_succ, List.set_cons_zero]
  refine wpList_plain (by rfl) fun K1 hK1 => ?_
  have H1 : Hid _ := hK1
  clear hK1
  go_wp2_with fail
  refine (C24v _ hTx (hu.to hB)).mono ?_
  rintro e W9 ⟨rfl, hb⟩
  refine H1.out _ _ ?_
  clear H1
  replace A3 : Arr _ _ 16 _ := A3.to' (n := 15) hb
  replace hB := Bel.call hB hb
  clear hb
  refine wpList_plain (by rfl) fun K1 hK1 => ?_
  have H1 : Hid _ := hK1
  clear hK1
  go_wp2_with fail
  refine H1.out _ _ ?_
  clear H1
  refine BigFrame.wpList_want (by rfl) fun K1 hK1 => ?_
  have H1 : Hid _ := hK1
  clear hK1
  go_wp2_with fail
  refine H1.out _ _ ?_
  clear H1
  refine BigFrame.wpList_want (by rfl) fun K1 hK1 => ?_
  have H1 : Hid _ := hK1
  clear hK1
  go_wp2_with fail
  refine H1.out _ _ ?_
  clear H1
  refine BigFrame.wpList_want (by rfl) fun K1 hK1 => ?_
  have H1 : Hid _ := hK1
  clear hK1
  go_wp2_with fail
  refine H1.out _ _ ?_
  clear H1
  refine wpList_plain (by rfl) fun K1 hK1 => ?_
  have H1 : Hid _ := hK1
  clear hK1
  go_wp2_with fail
  refine H1.out _ _ ?_
  clear H1
  refine wpList_plain (by rfl) fun K1 hK1 => ?_
  have H1 : Hid _ := hK1
  clear hK1
  go_wp2_with fail
  refine H1.out _ _ ?_
  clear H1
  refine BigFrame.wpList_want (by rfl) fun K1 hK1 => ?_
  have H1 : Hid _ := hK1
  clear hK1
  go_wp2_with fail
  refine H1.out _ _ ?_
  clear H1
  refine BigFrame.wpList_want (by rfl) fun K1 hK1 => ?_
  have H1 : Hid _ := hK1
  clear hK1
  go_wp2_with fail
  refine H1.out _ _ ?_
  clear H1
  refine wpList_plain (by rfl) fun K1 hK1 => ?_
  have H1 : Hid _ := hK1
  clear hK1
  go_wp2_with fail
  refine H1.out _ _ ?_
  clear H1
  refine wpList_plain (by rfl) fun K1 hK1 => ?_
  have H1 : Hid _ := hK1
  clear hK1
  go_wp2_with fail
  refine H1.out _ _ ?_
  clear H1
  refine BigFrame.wpList_want (by rfl) fun K1 hK1 => ?_
  have H1 : Hid _ := hK1
  clear hK1
  go_wp2_with fail
  refine (C7 _).mono ?_
  rintro e W10 ⟨rfl, hb⟩
  refine H1.out _ _ ?_
  clear H1
  replace A3 : Arr _ _ 16 _ := A3.to' (n := 15) hb
  replace hB := Bel.call hB hb
  clear hb
  refine wpList_plain (by rfl) fun K1 hK1 => ?_
  have H1 : Hid _ := hK1
  clear hK1
  go_wp2_with fail
  refine H1.out _ _ ?_
  clear H1
  refine wpList_plain (by rfl) fun K1 hK1 => ?_
  have H1 : Hid _ := hK1
  clear hK1
  go_wp2_with fail
  refine H1.out _ _ ?_
  clear H1
  refine wpList_nil ?_
  go_wp2_with fail
  go_ret
  exact ⟨rfl, hB⟩
set_option maxHeartbeats 4000000 in
theorem HandBack_yn (L1 : List Value) (F1 : Nat → Value) (h1 : Cells L1 16 F1) (m g : Mg) (u : Value) (s more D Y Z : ByteArray) (E : Int) (hs : s.size ≤ 40000) (hmz : (more.size : Int) ≤ 281474976710656) (w : World) (hu : Txs w u m.cs) (hV : m.v u = .agg L1.toArray)
    (C10 : ∀ W, Calls Tryz.prog 10 #[.string s] W fun e w' => (∃ v, e = .returned (.tuple #[g.v v, .string D, .int .i64 0]) ∧ Txs w' v g.cs) ∧ Below W.heap.size W w')
    (C8 : ∀ W v, Txs W v g.cs → Calls Tryz.prog 8 #[g.v v] W fun e w' => e = .returned (.tuple #[.string Y, .int .i64 0]) ∧ Below W.heap.size W w') (hY : Y ++ D = s)
    (C13 : ∀ W v, Txs W v g.cs → Calls Tryz.prog 13 #[g.v v] W fun e w' => e = .returned (.bool true) ∧ Below W.heap.size W w')
    (C18 : ∀ W, Below w.heap.size w W → Calls Tryz.prog 8 #[.agg L1.toArray] W fun e w' => e = .returned (.tuple #[.string nS, .int .i64 10]) ∧ Below W.heap.size W w')
    (C23 : ∀ W, Below w.heap.size w W → Calls Tryz.prog 13 #[.agg L1.toArray] W fun e w' => e = .returned (.bool false) ∧ Below W.heap.size W w')
    (C7 : ∀ W, Calls Tryz.prog 7 #[] W fun e w' => e = .returned (.bool true) ∧ Below W.heap.size W w') :
    Calls Tryz.prog 5 #[.agg L1.toArray, .string more, .string s] w fun e w' => e = .returned (.bool true) ∧ Below w.heap.size w w' := by
  have s1 : ¬ (40000 : Int) < (s.size : Int) := by omega
  have zY : Y.size + D.size = s.size := by rw [← ap_size, hY]
  have AY := fun W => add_s Y D (by omega) W
  rw [hY] at AY
  have bs : (s.toList == s.toList) = true := by simp
  clear hY zY
  go_enter Tryz.func5, Tryz.ntmps5
  go_upto_region 1 with (fail)
  have A3 : Arr _ _ 16 _ := h1.new w 29 _ rfl
  have hB : Below w.heap.size w (w.alloc (.cells L1.toArray 29)) := by go_grown
  generalize w.alloc (.cells L1.toArray 29) = W0 at *
  go_upto_region 3 with (fail)
  refine wp_region_list ?_
  refine wpList_plain (by rfl) fun K1 hK1 => ?_
  have H1 : Hid _ := hK1
  clear hK1
  go_wp2_with fail
  refine H1.out _ _ ?_
  clear H1
  refine wpList_plain (by rfl) fun K1 hK1 => ?_
  have H1 : Hid _ := hK1
  clear hK1
  go_wp2_with fail
  refine (C10 _).mono ?_
  rintro e V1 ⟨⟨v, rfl, hTv⟩, hb⟩
  refine H1.out _ _ ?_
  clear H1 C10
  replace A3 : Arr _ _ 16 _ := A3.to' (n := 15) hb
  replace hB := Bel.call hB hb
  clear hb
  rw [Mg.v_l]
  have hv := g.cells v (by obtain ⟨a, c, e, _⟩ := hTv.form; rw [e]; rfl)
  have HVv : Hid (g.v v = .agg (g.l v).toArray) := rfl
  generalize g.l v = Lv at hv HVv ⊢
  refine wpList_plain (by rfl) fun K1 hK1 => ?_
  have H1 : Hid _ := hK1
  clear hK1
  go_wp2_with fail
  refine H1.out _ _ ?_
  clear H1
  refine wpList_plain (by rfl) fun K1 hK1 => ?_
  have H1 : Hid _ := hK1
  clear hK1
  go_wp2_with fail
  refine H1.out _ _ ?_
  clear H1
  refine wpList_plain (by rfl) fun K1 hK1 => ?_
  have H1 : Hid _ := hK1
  clear hK1
  go_wp2_with fail
  refine H1.out _ _ ?_
  clear H1
  refine wpList_plain (by rfl) fun K1 hK1 => ?_
  have H1 : Hid _ := hK1
  clear hK1
  go_wp2_with fail
  refine H1.out _ _ ?_
  clear H1
  refine wpList_plain (by rfl) fun K1 hK1 => ?_
  have H1 : Hid _ := hK1
  clear hK1
  go_wp2_with fail
  refine H1.out _ _ ?_
  clear H1
  have A7 := newZ V1 _ rfl
  refine hv.wst tM A7 (by rfl) (.tmp 7) (.tmp 24) (by rfl) (by rfl) (by rfl) ?_
  simp only [Act.put, List.setIfInBounds_toArray, List.set_cons_succ, List.set_cons_zero]
  refine wpList_plain (by rfl) fun K1 hK1 => ?_
  have H1 : Hid _ := hK1
  clear hK1
  go_wp2_with fail
  refine H1.out _ _ ?_
  clear H1
  refine wpList_plain (by rfl) fun K1 hK1 => ?_
  have H1 : Hid _ := hK1
  clear hK1
  go_wp2_with fail
  refine H1.out _ _ ?_
  clear H1
  refine wpList_nil ?_
  replace A7 := hv.set A7
  have hb : Below V1.heap.size V1 ((V1.alloc (.cells z16 29)).setCells V1.heap.size 0 Lv) := below_setCells (by go_grown) (b := V1.heap.size) (Nat.le_refl _) Lv 0
  replace hTv := hTv.to hb
  replace A3 : Arr _ _ 16 _ := A3.to' (n := 15) hb
  replace hB := Bel.call hB hb
  clear hb
  generalize (V1.alloc (.cells z16 29)).setCells V1.heap.size 0 Lv = X1 at *
  generalize V1.heap.size = b1 at *
  have C8v := fun W h => C8 W v h
  have C13v := fun W h => C13 W v h
  simp only [HVv.out] at C8v C13v
  clear C8 C13
  go_upto_region 5 with (fail)
  refine wp_region_list ?_
  refine hv.wld tM A7 0 (by omega) (fun j _ => by rw [Nat.zero_add]) (by rfl) (.tmp 7) (by rfl) (by rfl) ?_
  simp only [Act.put, List.setIfInBounds_toArray, List.set_cons_succ, List.set_cons_zero]
  go_wp2_with fail
  refine (C8v _ hTv).mono ?_
  rintro e W4 ⟨rfl, hb⟩
  replace hTv := hTv.to hb
  replace A3 : Arr _ _ 16 _ := A3.to' (n := 15) hb
  replace A7 : Arr _ _ 16 _ := A7.to' (n := 15) hb
  replace hB := Bel.call hB hb
  clear hb
  go_upto_region 6 with (fail)
  refine wp_region_list ?_
  refine wpList_plain (by rfl) fun K1 hK1 => ?_
  have H1 : Hid _ := hK1
  clear hK1
  go_wp2_with fail
  refine H1.out _ _ ?_
  clear H1
  refine wpList_plain (by rfl) fun K1 hK1 => ?_
  have H1 : Hid _ := hK1
  clear hK1
  go_wp2_with fail
  refine H1.out _ _ ?_
  clear H1
  refine wpList_plain (by rfl) fun K1 hK1 => ?_
  have H1 : Hid _ := hK1
  clear hK1
  go_wp2_with fail
  refine H1.out _ _ ?_
  clear H1
  refine BigFrame.wpList_want (by rfl) fun K1 hK1 => ?_
  have H1 : Hid _ := hK1
  clear hK1
  go_wp2_with fail
  refine H1.out _ _ ?_
  clear H1
  refine BigFrame.wpList_want (by rfl) fun K1 hK1 => ?_
  have H1 : Hid _ := hK1
  clear hK1
  go_wp2_with fail
  refine H1.out _ _ ?_
  clear H1
  refine BigFrame.wpList_want (by rfl) fun K1 hK1 => ?_
  have H1 : Hid _ := hK1
  clear hK1
  go_wp2_with fail
  refine H1.out _ _ ?_
  clear H1
  refine BigFrame.wpList_want (by rfl) fun K1 hK1 => ?_
  have H1 : Hid _ := hK1
  clear hK1
  go_wp2_with fail
  refine H1.out _ _ ?_
  clear H1
  refine BigFrame.wpList_want (by rfl) fun K1 hK1 => ?_
  have H1 : Hid _ := hK1
  clear hK1
  go_wp2_with fail
  refine H1.out _ _ ?_
  clear H1
  refine wpList_plain (by rfl) fun K1 hK1 => ?_
  have H1 : Hid _ := hK1
  clear hK1
  go_wp2_with fail
  refine H1.out _ _ ?_
  clear H1
  refine wpList_plain (by rfl) fun K1 hK1 => ?_
  have H1 : Hid _ := hK1
  clear hK1
  go_wp2_with fail
  refine H1.out _ _ ?_
  clear H1
  refine hv.wldg tM A7 0 (by omega) (fun j _ => by rw [Nat.zero_add]) (by rfl) (.tmp 7) (by rfl) (by rfl) ?_
  simp only [Act.put, List.setIfInBounds_toArray, List.set_cons_succ, List.set_cons_zero]
  refine BigFrame.wpList_want (by rfl) fun K1 hK1 => ?_
  have H1 : Hid _ := hK1
  clear hK1
  go_wp2_with fail
  refine (C13v _ hTv).mono ?_
  rintro e W5 ⟨rfl, hb⟩
  refine H1.out _ _ ?_
  clear H1
  replace A3 : Arr _ _ 16 _ := A3.to' (n := 15) hb
  replace hB := Bel.call hB hb
  clear hb
  refine BigFrame.wpList_want (by rfl) fun K1 hK1 => ?_
  have H1 : Hid _ := hK1
  clear hK1
  go_wp2_with fail
  refine H1.out _ _ ?_
  clear H1
  refine wpList_plain (by rfl) fun K1 hK1 => ?_
  have H1 : Hid _ := hK1
  clear hK1
  go_wp2_with fail
  refine H1.out _ _ ?_
  clear H1
  refine wpList_nil ?_
  clear C8v C13v hTv A7 AY
  go_upto_region 8 with (fail)
  refine wp_region_list ?_
  refine h1.wld tM A3 0 (by omega) (fun j _ => by rw [Nat.zero_add]) (by rfl) (.tmp 3) (by rfl) (by rfl) ?_
  simp only [Act.put, List.setIfInBounds_toArray, List.set_cons_succ, List.set_cons_zero]
  go_wp2_with fail
  refine (C18 _ hB).mono ?_
  rintro e W6 ⟨rfl, hb⟩
  replace A3 : Arr _ _ 16 _ := A3.to' (n := 15) hb
  replace hB := Bel.call hB hb
  clear hb
  go_upto_region 9 with (fail)
  refine wp_region_list ?_
  refine wpList_plain (by rfl) fun K1 hK1 => ?_
  have H1 : Hid _ := hK1
  clear hK1
  go_wp2_with fail
  refine H1.out _ _ ?_
  clear H1
  refine wpList_plain (by rfl) fun K1 hK1 => ?_
  have H1 : Hid _ := hK1
  clear hK1
  go_wp2_with fail
  refine H1.out _ _ ?_
  clear H1
  refine h1.wld tM A3 0 (by omega) (fun j _ => by rw [Nat.zero_add]) (by rfl) (.tmp 3) (by rfl) (by rfl) ?_
  simp only [Act.put, List.setIfInBounds_toArray, List.set_cons_succ, List.set_cons_zero]
  refine wpList_plain (by rfl) fun K1 hK1 => ?_
  have H1 : Hid _ := hK1
  clear hK1
  go_wp2_with fail
  refine (C23 _ hB).mono ?_
  rintro e W7 ⟨rfl, hb⟩
  refine H1.out _ _ ?_
  clear H1
  replace A3 : Arr _ _ 16 _ := A3.to' (n := 15) hb
  replace hB := Bel.call hB hb
  clear hb
  refine wpList_plain (by rfl) fun K1 hK1 => ?_
  have H1 : Hid _ := hK1
  clear hK1
  go_wp2_with fail
  refine H1.out _ _ ?_
  clear H1
  refine wpList_nil ?_
  clear C18 C23
  go_wp2_with fail
  refine (C7 _).mono ?_
  rintro e W8 ⟨rfl, hb⟩
  go_wp2_with fail
  go_ret
  exact ⟨rfl, Bel.call hB hb⟩
set_option maxHeartbeats 4000000 in
theorem HandBack_ny (L1 : List Value) (F1 : Nat → Value) (h1 : Cells L1 16 F1) (m g : Mg) (u : Value) (s more D Y Z : ByteArray) (E : Int) (hs : s.size ≤ 40000) (hmz : (more.size : Int) ≤ 281474976710656) (w : World) (hu : Txs w u m.cs) (hV : m.v u = .agg L1.toArray)
    (C10 : ∀ W, Calls Tryz.prog 10 #[.string s] W fun e w' => (∃ v, e = .returned (.tuple #[g.v v, .string D, .int .i64 E]) ∧ Txs w' v g.cs) ∧ Below W.heap.size W w')
    (hE : ¬ E = 0)
    (C18 : ∀ W, Below w.heap.size w W → Calls Tryz.prog 8 #[.agg L1.toArray] W fun e w' => e = .returned (.tuple #[.string Z, .int .i64 0]) ∧ Below W.heap.size W w')
    (C23 : ∀ W, Below w.heap.size w W → Calls Tryz.prog 13 #[.agg L1.toArray] W fun e w' => e = .returned (.bool true) ∧ Below W.heap.size W w')
    (hZ : Z.size ≤ 10000)
    (C20 : ∀ W, Calls Tryz.prog 10 #[.string (Z ++ more)] W fun e w' => (∃ v, e = .returned (.tuple #[m.v v, .string more, .int .i64 0]) ∧ Txs w' v m.cs) ∧ Below W.heap.size W w')
    (C24 : ∀ W v, Txs W v m.cs → Txs W u m.cs → Calls Tryz.prog 14 #[m.v v, m.v u] W fun e w' => e = .returned (.bool true) ∧ Below W.heap.size W w')
    (C7 : ∀ W, Calls Tryz.prog 7 #[] W fun e w' => e = .returned (.bool true) ∧ Below W.heap.size W w') :
    Calls Tryz.prog 5 #[.agg L1.toArray, .string more, .string s] w fun e w' => e = .returned (.bool true) ∧ Below w.heap.size w w' := by
  have s1 : ¬ (40000 : Int) < (s.size : Int) := by omega
  have hE2 : (E == 0) = false := by simpa using hE
  have AZ := fun W => add_s Z more (by omega) W
  have bm : (more.toList == more.toList) = true := by simp
  generalize Z ++ more = ZM at *
  go_enter Tryz.func5, Tryz.ntmps5
  go_upto_region 1 with (fail)
  have A3 : Arr _ _ 16 _ := h1.new w 29 _ rfl
  have hB : Below w.heap.size w (w.alloc (.cells L1.toArray 29)) := by go_grown
  generalize w.alloc (.cells L1.toArray 29) = W0 at *
  go_upto_region 3 with (fail)
  refine wp_region_list ?_
  refine wpList_plain (by rfl) fun K1 hK1 => ?_
  have H1 : Hid _ := hK1
  clear hK1
  go_wp2_with fail
  refine H1.out _ _ ?_
  clear H1
  refine wpList_plain (by rfl) fun K1 hK1 => ?_
  have H1 : Hid _ := hK1
  clear hK1
  go_wp2_with fail
  refine (C10 _).mono ?_
  rintro e V1 ⟨⟨v, rfl, hTv⟩, hb⟩
  refine H1.out _ _ ?_
  clear H1 C10
  replace A3 : Arr _ _ 16 _ := A3.to' (n := 15) hb
  replace hB := Bel.call hB hb
  clear hb
  rw [Mg.v_l]
  have hv := g.cells v (by obtain ⟨a, c, e, _⟩ := hTv.form; rw [e]; rfl)
  have HVv : Hid (g.v v = .agg (g.l v).toArray) := rfl
  generalize g.l v = Lv at hv HVv ⊢
  refine wpList_plain (by rfl) fun K1 hK1 => ?_
  have H1 : Hid _ := hK1
  clear hK1
  go_wp2_with fail
  refine H1.out _ _ ?_
  clear H1
  refine wpList_plain (by rfl) fun K1 hK1 => ?_
  have H1 : Hid _ := hK1
  clear hK1
  go_wp2_with fail
  refine H1.out _ _ ?_
  clear H1
  refine wpList_plain (by rfl) fun K1 hK1 => ?_
  have H1 : Hid _ := hK1
  clear hK1
  go_wp2_with fail
  refine H1.out _ _ ?_
  clear H1
  refine wpList_plain (by rfl) fun K1 hK1 => ?_
  have H1 : Hid _ := hK1
  clear hK1
  go_wp2_with fail
  refine H1.out _ _ ?_
  clear H1
  refine wpList_plain (by rfl) fun K1 hK1 => ?_
  have H1 : Hid _ := hK1
  clear hK1
  go_wp2_with fail
  refine H1.out _ _ ?_
  clear H1
  have A7 := newZ V1 _ rfl
  refine hv.wst tM A7 (by rfl) (.tmp 7) (.tmp 24) (by rfl) (by rfl) (by rfl) ?_
  simp only [Act.put, List.setIfInBounds_toArray, List.set_cons_succ, List.set_cons_zero]
  refine wpList_plain (by rfl) fun K1 hK1 => ?_
  have H1 : Hid _ := hK1
  clear hK1
  go_wp2_with fail
  refine H1.out _ _ ?_
  clear H1
  refine wpList_plain (by rfl) fun K1 hK1 => ?_
  have H1 : Hid _ := hK1
  clear hK1
  go_wp2_with fail
  refine H1.out _ _ ?_
  clear H1
  refine wpList_nil ?_
  replace A7 := hv.set A7
  have hb : Below V1.heap.size V1 ((V1.alloc (.cells z16 29)).setCells V1.heap.size 0 Lv) := below_setCells (by go_grown) (b := V1.heap.size) (Nat.le_refl _) Lv 0
  replace hTv := hTv.to hb
  replace A3 : Arr _ _ 16 _ := A3.to' (n := 15) hb
  replace hB := Bel.call hB hb
  clear hb
  generalize (V1.alloc (.cells z16 29)).setCells V1.heap.size 0 Lv = X1 at *
  generalize V1.heap.size = b1 at *
  clear hTv A7
  go_upto_region 8 with (fail)
  refine wp_region_list ?_
  refine h1.wld tM A3 0 (by omega) (fun j _ => by rw [Nat.zero_add]) (by rfl) (.tmp 3) (by rfl) (by rfl) ?_
  simp only [Act.put, List.setIfInBounds_toArray, List.set_cons_succ, List.set_cons_zero]
  go_wp2_with fail
  refine (C18 _ hB).mono ?_
  rintro e W6 ⟨rfl, hb⟩
  replace A3 : Arr _ _ 16 _ := A3.to' (n := 15) hb
  replace hB := Bel.call hB hb
  clear hb
  go_upto_region 9 with (fail)
  refine wp_region_list ?_
  refine wpList_plain (by rfl) fun K1 hK1 => ?_
  have H1 : Hid _ := hK1
  clear hK1
  go_wp2_with fail
  refine H1.out _ _ ?_
  clear H1
  refine wpList_plain (by rfl) fun K1 hK1 => ?_
  have H1 : Hid _ := hK1
  clear hK1
  go_wp2_with fail
  refine H1.out _ _ ?_
  clear H1
  refine h1.wld tM A3 0 (by omega) (fun j _ => by rw [Nat.zero_add]) (by rfl) (.tmp 3) (by rfl) (by rfl) ?_
  simp only [Act.put, List.setIfInBounds_toArray, List.set_cons_succ, List.set_cons_zero]
  refine wpList_plain (by rfl) fun K1 hK1 => ?_
  have H1 : Hid _ := hK1
  clear hK1
  go_wp2_with fail
  refine (C23 _ hB).mono ?_
  rintro e W7 ⟨rfl, hb⟩
  refine H1.out _ _ ?_
  clear H1
  replace A3 : Arr _ _ 16 _ := A3.to' (n := 15) hb
  replace hB := Bel.call hB hb
  clear hb
  refine wpList_plain (by rfl) fun K1 hK1 => ?_
  have H1 : Hid _ := hK1
  clear hK1
  go_wp2_with fail
  refine H1.out _ _ ?_
  clear H1
  refine wpList_nil ?_
  clear C18 C23
  go_upto_region 13 with (fail)
  refine wp_region_list ?_
  refine wpList_plain (by rfl) fun K1 hK1 => ?_
  have H1 : Hid _ := hK1
  clear hK1
  go_wp2_with fail
  refine H1.out _ _ ?_
  clear H1
  refine wpList_plain (by rfl) fun K1 hK1 => ?_
  have H1 : Hid _ := hK1
  clear hK1
  go_wp2_with fail
  refine H1.out _ _ ?_
  clear H1
  refine wpList_plain (by rfl) fun K1 hK1 => ?_
  have H1 : Hid _ := hK1
  clear hK1
  go_wp2_with fail
  refine H1.out _ _ ?_
  clear H1
  refine wpList_plain (by rfl) fun K1 hK1 => ?_
  have H1 : Hid _ := hK1
  clear hK1
  go_wp2_with fail
  refine (C20 _).mono ?_
  rintro e V2 ⟨⟨x, rfl, hTx⟩, hb⟩
  refine H1.out _ _ ?_
  clear H1 C20
  replace A3 : Arr _ _ 16 _ := A3.to' (n := 15) hb
  replace hB := Bel.call hB hb
  clear hb
  rw [Mg.v_l]
  have hx := m.cells x (by obtain ⟨a, c, e, _⟩ := hTx.form; rw [e]; rfl)
  have HVx : Hid (m.v x = .agg (m.l x).toArray) := rfl
  generalize m.l x = Lx at hx HVx ⊢
  refine wpList_plain (by rfl) fun K1 hK1 => ?_
  have H1 : Hid _ := hK1
  clear hK1
  go_wp2_with fail
  refine H1.out _ _ ?_
  clear H1
  refine wpList_plain (by rfl) fun K1 hK1 => ?_
  have H1 : Hid _ := hK1
  clear hK1
  go_wp2_with fail
  refine H1.out _ _ ?_
  clear H1
  refine wpList_plain (by rfl) fun K1 hK1 => ?_
  have H1 : Hid _ := hK1
  clear hK1
  go_wp2_with fail
  refine H1.out _ _ ?_
  clear H1
  refine wpList_plain (by rfl) fun K1 hK1 => ?_
  have H1 : Hid _ := hK1
  clear hK1
  go_wp2_with fail
  refine H1.out _ _ ?_
  clear H1
  refine wpList_plain (by rfl) fun K1 hK1 => ?_
  have H1 : Hid _ := hK1
  clear hK1
  go_wp2_with fail
  refine H1.out _ _ ?_
  clear H1
  have A14 := newZ V2 _ rfl
  refine hx.wst tM A14 (by rfl) (.tmp 14) (.tmp 66) (by rfl) (by rfl) (by rfl) ?_
  simp only [Act.put, List.setIfInBounds_toArray, List.set_cons_succ, List.set_cons_zero]
  refine wpList_plain (by rfl) fun K1 hK1 => ?_
  have H1 : Hid _ := hK1
  clear hK1
  go_wp2_with fail
  refine H1.out _ _ ?_
  clear H1
  refine wpList_plain (by rfl) fun K1 hK1 => ?_
  have H1 : Hid _ := hK1
  clear hK1
  go_wp2_with fail
  refine H1.out _ _ ?_
  clear H1
  refine wpList_nil ?_
  replace A14 := hx.set A14
  have hb : Below V2.heap.size V2 ((V2.alloc (.cells z16 29)).setCells V2.heap.size 0 Lx) := below_setCells (by go_grown) (b := V2.heap.size) (Nat.le_refl _) Lx 0
  replace hTx := hTx.to hb
  replace A3 : Arr _ _ 16 _ := A3.to' (n := 15) hb
  replace hB := Bel.call hB hb
  clear hb
  generalize (V2.alloc (.cells z16 29)).setCells V2.heap.size 0 Lx = X2 at *
  generalize V2.heap.size = b2 at *
  have C24v := fun W h h' => C24 W x h h'
  simp only [HVx.out, hV] at C24v
  go_upto_region 14 with (fail)
  refine wp_region_list ?_
  refine hx.wld tM A14 0 (by omega) (fun j _ => by rw [Nat.zero_add]) (by rfl) (.tmp 14) (by rfl) (by rfl) ?_
  simp only [Act.put, List.setIfInBounds_toArray, List.set_cons_succ, List.set_cons_zero]
  refine h1.wld tM A3 0 (by omega) (fun j _ => by rw [Nat.zero_add]) (by rfl) (.tmp 3) (by rfl) (by rfl) ?_
  simp only [Act.put, List.setIfInBounds_toArray, List.set_cons_succ, List.set_cons_zero]
  refine wpList_plain (by rfl) fun K1 hK1 => ?_
  have H1 : Hid _ := hK1
  clear hK1
  go_wp2_with fail
  refine (C24v _ hTx (hu.to hB)).mono ?_
  rintro e W9 ⟨rfl, hb⟩
  refine H1.out _ _ ?_
  clear H1
  replace A3 : Arr _ _ 16 _ := A3.to' (n := 15) hb
  replace hB := Bel.call hB hb
  clear hb
  refine wpList_plain (by rfl) fun K1 hK1 => ?_
  have H1 : Hid _ := hK1
  clear hK1
  go_wp2_with fail
  refine H1.out _ _ ?_
  clear H1
  refine BigFrame.wpList_want (by rfl) fun K1 hK1 => ?_
  have H1 : Hid _ := hK1
  clear hK1
  go_wp2_with fail
  refine H1.out _ _ ?_
  clear H1
  refine BigFrame.wpList_want (by rfl) fun K1 hK1 => ?_
  have H1 : Hid _ := hK1
  clear hK1
  go_wp2_with fail
  refine H1.out _ _ ?_
  clear H1
  refine BigFrame.wpList_want (by rfl) fun K1 hK1 => ?_
  have H1 : Hid _ := hK1
  clear hK1
  go_wp2_with fail
  refine H1.out _ _ ?_
  clear H1
  refine wpList_plain (by rfl) fun K1 hK1 => ?_
  have H1 : Hid _ := hK1
  clear hK1
  go_wp2_with fail
  refine H1.out _ _ ?_
  clear H1
  refine wpList_plain (by rfl) fun K1 hK1 => ?_
  have H1 : Hid _ := hK1
  clear hK1
  go_wp2_with fail
  refine H1.out _ _ ?_
  clear H1
  refine BigFrame.wpList_want (by rfl) fun K1 hK1 => ?_
  have H1 : Hid _ := hK1
  clear hK1
  go_wp2_with fail
  refine H1.out _ _ ?_
  clear H1
  refine BigFrame.wpList_want (by rfl) fun K1 hK1 => ?_
  have H1 : Hid _ := hK1
  clear hK1
  go_wp2_with fail
  refine H1.out _ _ ?_
  clear H1
  refine wpList_plain (by rfl) fun K1 hK1 => ?_
  have H1 : Hid _ := hK1
  clear hK1
  go_wp2_with fail
  refine H1.out _ _ ?_
  clear H1
  refine wpList_plain (by rfl) fun K1 hK1 => ?_
  have H1 : Hid _ := hK1
  clear hK1
  go_wp2_with fail
  refine H1.out _ _ ?_
  clear H1
  refine BigFrame.wpList_want (by rfl) fun K1 hK1 => ?_
  have H1 : Hid _ := hK1
  clear hK1
  go_wp2_with fail
  refine (C7 _).mono ?_
  rintro e W10 ⟨rfl, hb⟩
  refine H1.out _ _ ?_
  clear H1
  replace A3 : Arr _ _ 16 _ := A3.to' (n := 15) hb
  replace hB := Bel.call hB hb
  clear hb
  refine wpList_plain (by rfl) fun K1 hK1 => ?_
  have H1 : Hid _ := hK1
  clear hK1
  go_wp2_with fail
  refine H1.out _ _ ?_
  clear H1
  refine wpList_plain (by rfl) fun K1 hK1 => ?_
  have H1 : Hid _ := hK1
  clear hK1
  go_wp2_with fail
  refine H1.out _ _ ?_
  clear H1
  refine wpList_nil ?_
  go_wp2_with fail
  go_ret
  exact ⟨rfl, hB⟩
set_option maxHeartbeats 4000000 in
theorem HandBack_nn (L1 : List Value) (F1 : Nat → Value) (h1 : Cells L1 16 F1) (m g : Mg) (u : Value) (s more D Y Z : ByteArray) (E : Int) (hs : s.size ≤ 40000) (hmz : (more.size : Int) ≤ 281474976710656) (w : World) (hu : Txs w u m.cs) (hV : m.v u = .agg L1.toArray)
    (C10 : ∀ W, Calls Tryz.prog 10 #[.string s] W fun e w' => (∃ v, e = .returned (.tuple #[g.v v, .string D, .int .i64 E]) ∧ Txs w' v g.cs) ∧ Below W.heap.size W w')
    (hE : ¬ E = 0)
    (C18 : ∀ W, Below w.heap.size w W → Calls Tryz.prog 8 #[.agg L1.toArray] W fun e w' => e = .returned (.tuple #[.string nS, .int .i64 10]) ∧ Below W.heap.size W w')
    (C23 : ∀ W, Below w.heap.size w W → Calls Tryz.prog 13 #[.agg L1.toArray] W fun e w' => e = .returned (.bool false) ∧ Below W.heap.size W w')
    (C7 : ∀ W, Calls Tryz.prog 7 #[] W fun e w' => e = .returned (.bool true) ∧ Below W.heap.size W w') :
    Calls Tryz.prog 5 #[.agg L1.toArray, .string more, .string s] w fun e w' => e = .returned (.bool true) ∧ Below w.heap.size w w' := by
  have s1 : ¬ (40000 : Int) < (s.size : Int) := by omega
  have hE2 : (E == 0) = false := by simpa using hE
  go_enter Tryz.func5, Tryz.ntmps5
  go_upto_region 1 with (fail)
  have A3 : Arr _ _ 16 _ := h1.new w 29 _ rfl
  have hB : Below w.heap.size w (w.alloc (.cells L1.toArray 29)) := by go_grown
  generalize w.alloc (.cells L1.toArray 29) = W0 at *
  go_upto_region 3 with (fail)
  refine wp_region_list ?_
  refine wpList_plain (by rfl) fun K1 hK1 => ?_
  have H1 : Hid _ := hK1
  clear hK1
  go_wp2_with fail
  refine H1.out _ _ ?_
  clear H1
  refine wpList_plain (by rfl) fun K1 hK1 => ?_
  have H1 : Hid _ := hK1
  clear hK1
  go_wp2_with fail
  refine (C10 _).mono ?_
  rintro e V1 ⟨⟨v, rfl, hTv⟩, hb⟩
  refine H1.out _ _ ?_
  clear H1 C10
  replace A3 : Arr _ _ 16 _ := A3.to' (n := 15) hb
  replace hB := Bel.call hB hb
  clear hb
  rw [Mg.v_l]
  have hv := g.cells v (by obtain ⟨a, c, e, _⟩ := hTv.form; rw [e]; rfl)
  have HVv : Hid (g.v v = .agg (g.l v).toArray) := rfl
  generalize g.l v = Lv at hv HVv ⊢
  refine wpList_plain (by rfl) fun K1 hK1 => ?_
  have H1 : Hid _ := hK1
  clear hK1
  go_wp2_with fail
  refine H1.out _ _ ?_
  clear H1
  refine wpList_plain (by rfl) fun K1 hK1 => ?_
  have H1 : Hid _ := hK1
  clear hK1
  go_wp2_with fail
  refine H1.out _ _ ?_
  clear H1
  refine wpList_plain (by rfl) fun K1 hK1 => ?_
  have H1 : Hid _ := hK1
  clear hK1
  go_wp2_with fail
  refine H1.out _ _ ?_
  clear H1
  refine wpList_plain (by rfl) fun K1 hK1 => ?_
  have H1 : Hid _ := hK1
  clear hK1
  go_wp2_with fail
  refine H1.out _ _ ?_
  clear H1
  refine wpList_plain (by rfl) fun K1 hK1 => ?_
  have H1 : Hid _ := hK1
  clear hK1
  go_wp2_with fail
  refine H1.out _ _ ?_
  clear H1
  have A7 := newZ V1 _ rfl
  refine hv.wst tM A7 (by rfl) (.tmp 7) (.tmp 24) (by rfl) (by rfl) (by rfl) ?_
  simp only [Act.put, List.setIfInBounds_toArray, List.set_cons_succ, List.set_cons_zero]
  refine wpList_plain (by rfl) fun K1 hK1 => ?_
  have H1 : Hid _ := hK1
  clear hK1
  go_wp2_with fail
  refine H1.out _ _ ?_
  clear H1
  refine wpList_plain (by rfl) fun K1 hK1 => ?_
  have H1 : Hid _ := hK1
  clear hK1
  go_wp2_with fail
  refine H1.out _ _ ?_
  clear H1
  refine wpList_nil ?_
  replace A7 := hv.set A7
  have hb : Below V1.heap.size V1 ((V1.alloc (.cells z16 29)).setCells V1.heap.size 0 Lv) := below_setCells (by go_grown) (b := V1.heap.size) (Nat.le_refl _) Lv 0
  replace hTv := hTv.to hb
  replace A3 : Arr _ _ 16 _ := A3.to' (n := 15) hb
  replace hB := Bel.call hB hb
  clear hb
  generalize (V1.alloc (.cells z16 29)).setCells V1.heap.size 0 Lv = X1 at *
  generalize V1.heap.size = b1 at *
  clear hTv A7
  go_upto_region 8 with (fail)
  refine wp_region_list ?_
  refine h1.wld tM A3 0 (by omega) (fun j _ => by rw [Nat.zero_add]) (by rfl) (.tmp 3) (by rfl) (by rfl) ?_
  simp only [Act.put, List.setIfInBounds_toArray, List.set_cons_succ, List.set_cons_zero]
  go_wp2_with fail
  refine (C18 _ hB).mono ?_
  rintro e W6 ⟨rfl, hb⟩
  replace A3 : Arr _ _ 16 _ := A3.to' (n := 15) hb
  replace hB := Bel.call hB hb
  clear hb
  go_upto_region 9 with (fail)
  refine wp_region_list ?_
  refine wpList_plain (by rfl) fun K1 hK1 => ?_
  have H1 : Hid _ := hK1
  clear hK1
  go_wp2_with fail
  refine H1.out _ _ ?_
  clear H1
  refine wpList_plain (by rfl) fun K1 hK1 => ?_
  have H1 : Hid _ := hK1
  clear hK1
  go_wp2_with fail
  refine H1.out _ _ ?_
  clear H1
  refine h1.wld tM A3 0 (by omega) (fun j _ => by rw [Nat.zero_add]) (by rfl) (.tmp 3) (by rfl) (by rfl) ?_
  simp only [Act.put, List.setIfInBounds_toArray, List.set_cons_succ, List.set_cons_zero]
  refine wpList_plain (by rfl) fun K1 hK1 => ?_
  have H1 : Hid _ := hK1
  clear hK1
  go_wp2_with fail
  refine (C23 _ hB).mono ?_
  rintro e W7 ⟨rfl, hb⟩
  refine H1.out _ _ ?_
  clear H1
  replace A3 : Arr _ _ 16 _ := A3.to' (n := 15) hb
  replace hB := Bel.call hB hb
  clear hb
  refine wpList_plain (by rfl) fun K1 hK1 => ?_
  have H1 : Hid _ := hK1
  clear hK1
  go_wp2_with fail
  refine H1.out _ _ ?_
  clear H1
  refine wpList_nil ?_
  clear C18 C23
  go_wp2_with fail
  refine (C7 _).mono ?_
  rintro e W8 ⟨rfl, hb⟩
  go_wp2_with fail
  go_ret
  exact ⟨rfl, Bel.call hB hb⟩
end Go.Proofs.YtjdpeedghpblgaaGreatDoor
/- HandBack of any arguments, by what the program's functions do. -/
set_option linter.all false
set_option maxRecDepth 100000
namespace Go.Proofs.YtjdpeedghpblgaaGreatDoor
open Go.RowKit Go.Sort Go.Lib
set_option maxHeartbeats 1000000 in
theorem HandBack_long (L1 : List Value) (F1 : Nat → Value) (h1 : Cells L1 16 F1) (more s : ByteArray) (hs : ¬ s.size ≤ 40000) (hz : s.size ≤ maxLen) (w : World)
    (C7 : ∀ W, Calls Tryz.prog 7 #[] W fun e w' => e = .returned (.bool true) ∧ Below W.heap.size W w') :
    Calls Tryz.prog 5 #[.agg L1.toArray, .string more, .string s] w fun e w' => e = .returned (.bool true) ∧ Below w.heap.size w w' := by
  unfold maxLen at hz
  have s1 : (40000 : Int) < (s.size : Int) := by omega
  go_enter Tryz.func5, Tryz.ntmps5
  go_upto_region 1 with (fail)
  have hB : Below w.heap.size w (w.alloc (.cells L1.toArray 29)) := by go_grown
  generalize w.alloc (.cells L1.toArray 29) = W0 at *
  go_wp2_with fail
  refine (C7 _).mono ?_
  rintro e W1 ⟨rfl, hb⟩
  go_wp2_with fail
  go_ret
  exact ⟨rfl, Bel.call hB hb⟩
theorem wrM_size {m : Mg} (h : ftB m = true) : (wrM m).size ≤ 8304 := by
  have := bdy_size h
  unfold wrM
  rw [ap_size, mkS_size, vec_size]
  simp
  omega
theorem HandBack_any (CW : CWr) (CR : CRd) (m : Mg) (hm : m.fits) (u : Value) (more s : ByteArray) (hmz : (more.size : Int) ≤ 140737488355328) (hz : s.size ≤ maxLen) (w : World) (hu : Txs w u m.cs) :
    Calls Tryz.prog 5 #[m.v u, .string more, .string s] w fun e w' => e = .returned (.bool true) ∧ Below w.heap.size w w' := by
  have K1 : Cells (m.l u) 16 (m.c u) := m.cells u (by obtain ⟨a, c, e, _⟩ := hu.form; rw [e]; rfl)
  have C7 := fun W => awake14 CW CR W
  by_cases hs : s.size ≤ 40000
  · have fr := rmM_fits s (by omega)
    have C10 := fun W => CR s W (by omega)
    have C18 := fun W (hb : Below w.heap.size w W) => CW m u W hm.ok hm.ln hm.tx hm.nm (hu.to hb)
    have C23 := fun W (hb : Below w.heap.size w W) => rFit_any m hm.ok u hm.ln hm.tl hm.nl W (hu.to hb)
    have hV : m.v u = .agg (m.l u).toArray := rfl
    have C8 := fun W v (h : Txs W v (rmM s).cs) => CW (rmM s) v W fr.ok fr.ln fr.tx fr.nm h
    have C13 := fun W v (h : Txs W v (rmM s).cs) => rFit_any (rmM s) fr.ok v fr.ln fr.tl fr.nl W h
    have C24 := fun W v (h : Txs W v m.cs) (h' : Txs W u m.cs) => rSame_any m m hm.ok hm.ok v u hm.ln hm.tl hm.tl W h h'
    rw [sm_self] at C24
    have w0 : ftB m = false → wmR m = .tuple #[.string nS, .int .i64 10] := fun h => by unfold wmR; rw [h]; rfl
    have w1 : ∀ x : Mg, ftB x = true → wmR x = .tuple #[.string (wrM x), .int .i64 0] := fun x h => by unfold wmR; rw [if_pos h]
    have back : ftB m = true → ∀ W, Calls Tryz.prog 10 #[.string (wrM m ++ more)] W fun e w' => (∃ v, e = .returned (.tuple #[m.v v, .string more, .int .i64 0]) ∧ Txs w' v m.cs) ∧ Below W.heap.size W w' := fun h W => by
      obtain ⟨r1, r2, r3⟩ := rm_of m hm.ok h (wrM m ++ more) more rfl
      have := CR (wrM m ++ more) W (by have := wrM_size h; rw [ap_size]; omega)
      rw [r1, r2, r3] at this
      exact this
    by_cases hE : rmE s = 0
    · obtain ⟨y1, y2, y3⟩ := rm_yes s hE
      rw [hE] at C10
      rw [w1 _ y1] at C8
      rw [y1] at C13
      cases hf : ftB m
      · rw [w0 hf] at C18
        rw [hf] at C23
        exact HandBack_yn _ _ K1 m (rmM s) u s more (rmR s) (wrM (rmM s)) nS 0 hs (by omega) w hu hV C10 C8 y3 C13 C18 C23 C7
      · rw [w1 _ hf] at C18
        rw [hf] at C23
        exact HandBack_yy _ _ K1 m (rmM s) u s more (rmR s) (wrM (rmM s)) (wrM m) 0 hs (by omega) w hu hV C10 C8 y3 C13 C18 C23 (by have := wrM_size hf; omega) (back hf) C24 C7
    · cases hf : ftB m
      · rw [w0 hf] at C18
        rw [hf] at C23
        exact HandBack_nn _ _ K1 m (rmM s) u s more (rmR s) nS nS (rmE s) hs (by omega) w hu hV C10 hE C18 C23 C7
      · rw [w1 _ hf] at C18
        rw [hf] at C23
        exact HandBack_ny _ _ K1 m (rmM s) u s more (rmR s) nS (wrM m) (rmE s) hs (by omega) w hu hV C10 hE C18 C23 (by have := wrM_size hf; omega) (back hf) C24 C7
  · exact HandBack_long _ _ K1 more s hs hz w C7
end Go.Proofs.YtjdpeedghpblgaaGreatDoor
/- HandRows, by what the program's functions do. -/
set_option linter.all false
set_option maxRecDepth 100000
namespace Go.Proofs.YtjdpeedghpblgaaGreatDoor
open Go.RowKit Go.Sort Go.Lib
set_option maxHeartbeats 2000000 in
theorem HandRows_yes (l : List Mg) (s d D S : ByteArray) (E : Int) (hs : s.size ≤ 40000) (w : World)
    (C16 : ∀ W, Calls Tryz.prog 16 #[.string s] W fun e w' => (∃ v, e = .returned (.tuple #[v, .string D, .int .i64 E]) ∧ Mgs w' v l) ∧ Below W.heap.size W w')
    (C17 : ∀ W, Calls Tryz.prog 17 #[.string s] W fun e w' => (∃ v, e = .returned (.tuple #[v, .string D, .int .i64 E]) ∧ Mgs w' v l) ∧ Below W.heap.size W w')
    (C18 : ∀ W u v, Mgs W u l → Mgs W v l → Calls Tryz.prog 18 #[u, v] W fun e w' => e = .returned (.bool true) ∧ Below W.heap.size W w')
    (C19 : ∀ W, Calls Tryz.prog 19 #[.string d] W fun e w' => e = .returned (.string S) ∧ Below W.heap.size W w')
    (C20 : ∀ W, Calls Tryz.prog 20 #[.string d] W fun e w' => e = .returned (.string S) ∧ Below W.heap.size W w')
    (C7 : ∀ W, Calls Tryz.prog 7 #[] W fun e w' => e = .returned (.bool true) ∧ Below W.heap.size W w') :
    Calls Tryz.prog 4 #[.string s, .string d] w fun e w' => e = .returned (.bool true) ∧ Below w.heap.size w w' := by
  have s1 : ¬ (40000 : Int) < (s.size : Int) := by omega
  have bd : (D.toList == D.toList) = true := by simp
  have bs : (S.toList == S.toList) = true := by simp
  have be : (E == E) = true := by simp
  go_enter Tryz.func4, Tryz.ntmps4
  go_wp2_with fail
  refine (C16 _).mono ?_
  rintro e w1 ⟨⟨u, rfl, hu⟩, hb⟩
  have hB := hb
  clear hb C16
  obtain ⟨a1, c1, rfl, f1⟩ := hu
  have HU : Hid (Mgs w1 (.slice a1 l.length c1) l) := ⟨a1, c1, rfl, f1⟩
  clear f1
  go_wp2_with fail
  refine (C17 _).mono ?_
  rintro e w2 ⟨⟨v, rfl, hv⟩, hb⟩
  replace hB := Bel.call hB hb
  have HU2 : Hid (Mgs w2 (.slice a1 l.length c1) l) := HU.out.to hb
  clear hb C17 HU
  obtain ⟨a2, c2, rfl, f2⟩ := hv
  have HV : Hid (Mgs w2 (.slice a2 l.length c2) l) := ⟨a2, c2, rfl, f2⟩
  clear f2
  go_wp2_with fail
  refine (C18 _ _ _ HU2.out HV.out).mono ?_
  rintro e w3 ⟨rfl, hb⟩
  replace hB := Bel.call hB hb
  clear hb C18 HU2 HV
  go_wp2_with fail
  refine (C19 _).mono ?_
  rintro e w4 ⟨rfl, hb⟩
  replace hB := Bel.call hB hb
  clear hb C19
  go_wp2_with fail
  refine (C20 _).mono ?_
  rintro e w5 ⟨rfl, hb⟩
  replace hB := Bel.call hB hb
  clear hb C20
  go_wp2_with fail
  refine (C7 _).mono ?_
  rintro e w6 ⟨rfl, hb⟩
  replace hB := Bel.call hB hb
  clear hb C7
  go_wp2_with fail
  go_ret
  exact ⟨rfl, hB⟩
set_option maxHeartbeats 1000000 in
theorem HandRows_long (s d : ByteArray) (hs : ¬ s.size ≤ 40000) (hz : s.size ≤ maxLen) (w : World)
    (C7 : ∀ W, Calls Tryz.prog 7 #[] W fun e w' => e = .returned (.bool true) ∧ Below W.heap.size W w') :
    Calls Tryz.prog 4 #[.string s, .string d] w fun e w' => e = .returned (.bool true) ∧ Below w.heap.size w w' := by
  unfold maxLen at hz
  have s1 : (40000 : Int) < (s.size : Int) := by omega
  go_enter Tryz.func4, Tryz.ntmps4
  go_wp2_with fail
  refine (C7 _).mono ?_
  rintro e W1 ⟨rfl, hb⟩
  go_wp2_with fail
  go_ret
  exact ⟨rfl, hb⟩
/-- What the program's All does, by a function; Signed. -/
def CAl (f : ByteArray → List Mg × ByteArray × Int) : Prop := ∀ (s : ByteArray) (W : World), s.size ≤ 200000 → Calls Tryz.prog 16 #[.string s] W fun e w' => (∃ v, e = .returned (.tuple #[v, .string (f s).2.1, .int .i64 (f s).2.2]) ∧ Mgs w' v (f s).1) ∧ Below W.heap.size W w'
def CSd : Prop := ∀ (d : ByteArray) (W : World), (d.size : Int) ≤ 281474976710656 → Calls Tryz.prog 19 #[.string d] W fun e w' => e = .returned (.string (sdS d)) ∧ Below W.heap.size W w'
theorem amF_fits (f : Nat) : ∀ (s : ByteArray) (acc : List Mg), s.size ≤ 1000000 → (∀ m ∈ acc, m.fits) → ∀ m ∈ (amF f s acc).1, m.fits := by
  induction f with
  | zero =>
    intro s acc hs ha
    unfold amF
    split
    · exact ha
    · split
      · exact ha
      · split <;> exact fun m hm => by cases hm
  | succ f ih =>
    intro s acc hs ha
    unfold amF
    split
    · exact ha
    · split
      · exact ha
      · split
        · rename_i h
          have y := (rm_yes s h).2.2
          have z : (wrM (rmM s)).size + (rmR s).size = s.size := by rw [← ap_size, y]
          refine ih _ _ (by omega) (fun m hm => ?_)
          rcases List.mem_append.1 hm with hm | hm
          · exact ha m hm
          · simp at hm; subst hm; exact rmM_fits s hs
        · exact fun m hm => by cases hm
theorem amF_len (f : Nat) : ∀ (s : ByteArray) (acc : List Mg), (amF f s acc).1.length ≤ acc.length + f := by
  induction f with
  | zero =>
    intro s acc
    unfold amF
    split
    · show acc.length ≤ _; omega
    · split
      · show acc.length ≤ _; omega
      · split <;> exact Nat.zero_le _
  | succ f ih =>
    intro s acc
    unfold amF
    split
    · show acc.length ≤ _; omega
    · split
      · show acc.length ≤ _; omega
      · split
        · have := ih (rmR s) (acc ++ [rmM s])
          rw [List.length_append] at this
          simp at this
          omega
        · exact Nat.zero_le _
theorem rMsgs_fits (a b : List Mg) (ha : ∀ m ∈ a, m.fits) (hb : ∀ m ∈ b, m.fits) (la : a.length ≤ 1000000) (lb : b.length ≤ 1000000) (u v : Value) (W : World) (h1 : Mgs W u a) (h2 : Mgs W v b) :
    Calls Tryz.prog 18 #[u, v] W fun e w' => e = .returned (.bool (mgB a b)) ∧ Below W.heap.size W w' :=
  rMsgs_any a b (by omega) (by omega) (fun m hm => ⟨(ha m hm).ok, (ha m hm).ln, (ha m hm).tl⟩) (fun m hm => ⟨(hb m hm).ok, (hb m hm).tl⟩) u v W h1 h2
theorem HandRows_any (CW : CWr) (CR : CRd) (CA : CAl (fun s => amF 32 s [])) (CD : CSd) (s d : ByteArray) (hz : s.size ≤ maxLen) (hd : (d.size : Int) ≤ 281474976710656) (w : World) :
    Calls Tryz.prog 4 #[.string s, .string d] w fun e w' => e = .returned (.bool true) ∧ Below w.heap.size w w' := by
  have C7 := fun W => awake14 CW CR W
  by_cases hs : s.size ≤ 40000
  · have hf := amF_fits 32 s [] (by omega) (fun m hm => by cases hm)
    have hl := amF_len 32 s []
    have hl' : (amF 32 s []).1.length ≤ 1000000 := by simp at hl; omega
    have C18 := fun W u v h1 h2 => rMsgs_fits (amF 32 s []).1 (amF 32 s []).1 hf hf hl' hl' u v W h1 h2
    rw [(mgB_iff _ _).2 rfl] at C18
    exact HandRows_yes (amF 32 s []).1 s d _ _ _ hs w (fun W => CA s W (by omega)) (fun W => rAll14_any s (by omega) W) C18 (fun W => CD d W hd) (fun W => (rSigned_any d hd W).mono fun e w' ⟨h1, h2⟩ => ⟨h1, by rw [h2]; exact Below.refl _ _⟩) C7
  · exact HandRows_long s d hs hz w C7
end Go.Proofs.YtjdpeedghpblgaaGreatDoor
/- Messages among the arguments, opened. -/
set_option linter.all false
set_option maxRecDepth 100000
namespace Go.Proofs.YtjdpeedghpblgaaGreatDoor
open Go.ChangeShapes Go.WideShapes Go.ChangeAt Go.RowKit
theorem cM16 : Tryz.prog.cellsOf 29 = 16 := by kernel_rfl
theorem cG8 : Tryz.prog.cellsOf 27 = 8 := by kernel_rfl
theorem cI1 : Tryz.prog.cellsOf 3 = 1 := by kernel_rfl
theorem cS1 : Tryz.prog.cellsOf 9 = 1 := by kernel_rfl
theorem cT1 : Tryz.prog.cellsOf 22 = 1 := by kernel_rfl
theorem list16' (l : List Value) (h : l.length = 16) : ∃ a0 a1 a2 a3 a4 a5 a6 a7 a8 a9 a10 a11 a12 a13 a14 a15, l = [a0, a1, a2, a3, a4, a5, a6, a7, a8, a9, a10, a11, a12, a13, a14, a15] := by
  match l, h with
  | [a0, a1, a2, a3, a4, a5, a6, a7, a8, a9, a10, a11, a12, a13, a14, a15], _ => exact ⟨a0, a1, a2, a3, a4, a5, a6, a7, a8, a9, a10, a11, a12, a13, a14, a15, rfl⟩
/-- A number's four cells. -/
theorem open_num {H : Type} {enc : TypeId × Value → H} {W : World} {base : Nat} {sp : Nat → Bool} {held : Bool} {fuel : Nat} {c0 c1 c2 c3 : Value} {x : DataW H × List MemPlace} (h : DataW.trod enc Tryz.prog W base sp held fuel 25 [c0, c1, c2, c3] = some x) :
    ∃ N : Int, 0 ≤ N ∧ N < top256 ∧ c0 = .int .u64 (lim N 0) ∧ c1 = .int .u64 (lim N 1) ∧ c2 = .int .u64 (lim N 2) ∧ c3 = .int .u64 (lim N 3) := by
  obtain ⟨y0, y1, y2, y3, m, hx, hy0, hy1, hy2, hy3⟩ := Go.ChangeShapes.trod_array4 Tryz.underlying25 cells22 h
  obtain ⟨x0, e0, rfl, w0⟩ := DataW.trod_int Tryz.underlying23 hy0
  obtain ⟨x1, e1, rfl, w1⟩ := DataW.trod_int Tryz.underlying23 hy1
  obtain ⟨x2, e2, rfl, w2⟩ := DataW.trod_int Tryz.underlying23 hy2
  obtain ⟨x3, e3, rfl, w3⟩ := DataW.trod_int Tryz.underlying23 hy3
  simp at e0 e1 e2 e3
  subst e0 e1 e2 e3
  have b0 := bounds_u64 w0
  have b1 := bounds_u64 w1
  have b2 := bounds_u64 w2
  have b3 := bounds_u64 w3
  have bd := V4_bd b0.1 (by omega) b1.1 (by omega) b2.1 (by omega) b3.1 (show x3 < 18446744073709551616 by omega)
  obtain ⟨k0, k1, k2, k3⟩ := lims_of (N := V4 x0 x1 x2 x3) (q := 0) b0.1 (by omega) b1.1 (by omega) b2.1 (by omega) b3.1 (by omega) (by omega)
  exact ⟨V4 x0 x1 x2 x3, bd.1, bd.2, by rw [k0], by rw [k1], by rw [k2], by rw [k3]⟩
set_option maxHeartbeats 2000000 in
theorem open_msgC {H : Type} {enc : TypeId × Value → H} {W : World} {fuel : Nat} {cs : List Value} {x : DataW H × List MemPlace} (h : DataW.trod enc Tryz.prog W 0 (fun _ => true) true fuel 29 cs = some x) :
    ∃ (m : Mg) (u : Value), cs = m.l u ∧ Txs W u m.cs ∧ m.ok ∧ m.cs.length ≤ maxLen ∧ (∀ t ∈ m.cs, t.size ≤ maxLen) ∧ m.nm.size ≤ maxLen := by
  obtain ⟨xs, n, _, _, hl, hlen, hf⟩ := DataW.trod_struct Tryz.underlying29 h
  rw [cM16] at hl
  obtain ⟨a0, a1, a2, a3, a4, a5, a6, a7, a8, a9, a10, a11, a12, a13, a14, a15, rfl⟩ := list16' cs hl
  match xs, hlen, hf with
  | [y0, y1, y2, y3, y4, y5, y6, y7, y8], _, hf =>
    have f0 := hf 0 _ rfl
    have f1 := hf 1 _ rfl
    have f2 := hf 2 _ rfl
    have f3 := hf 3 _ rfl
    have f4 := hf 4 _ rfl
    have f5 := hf 5 _ rfl
    have f6 := hf 6 _ rfl
    have f7 := hf 7 _ rfl
    have f8 := hf 8 _ rfl
    simp only [cI1, cS1, cT1, cG8, List.drop_zero, List.drop_succ_cons, List.take_succ_cons, List.take_zero, List.getElem?_cons_zero, List.getElem?_cons_succ] at f0 f1 f2 f3 f4 f5 f6 f7 f8
    obtain ⟨k, e0, _, _⟩ := DataW.trod_int Tryz.underlying3 f0
    obtain ⟨s1, e1, _, _⟩ := DataW.trod_string Tryz.underlying9 f1
    obtain ⟨s2, e2, _, _⟩ := DataW.trod_string Tryz.underlying9 f2
    obtain ⟨s3, e3, _, _⟩ := DataW.trod_string Tryz.underlying9 f3
    obtain ⟨s4, e4, _, z4⟩ := DataW.trod_string Tryz.underlying9 f4
    obtain ⟨s5, e5, _, _⟩ := DataW.trod_string Tryz.underlying9 f5
    obtain ⟨s8, e8, _, _⟩ := DataW.trod_string Tryz.underlying9 f8
    obtain ⟨p0, p1, m, _, _, g0, g1⟩ := Go.ChangeShapes.trod_struct2 Tryz.underlying27 f7
    simp only [cells24, List.drop_zero, List.drop_succ_cons, List.take_succ_cons, List.take_zero] at g0 g1
    obtain ⟨X, x0, x1, q0, q1, q2, q3⟩ := open_num g0
    obtain ⟨Y, y0, y1, r0, r1, r2, r3⟩ := open_num g1
    have o : ∃ l : List ByteArray, Txs W a6 l ∧ l.length ≤ maxLen ∧ ∀ s ∈ l, s.size ≤ maxLen := by
      rcases open_strings Tryz.underlying22 Tryz.underlying9 cS1 f6 with ⟨hcs, _⟩ | ⟨a, len', cap', ss, hcs, _, hle, hm, hz, hx, hcell, hws⟩
      · injection hcs with hcs _
        exact ⟨[], .inl ⟨hcs, rfl⟩, Nat.zero_le _, fun s hs => by cases hs⟩
      · injection hcs with hcs _
        subst hcs
        simp only [if_true] at hz
        have hlen : (ss.take len').length = len' := by rw [List.length_take]; omega
        refine ⟨ss.take len', .inr ⟨a, cap', by rw [hlen], by rw [hlen]; exact hle, fun i s hi => ?_⟩, by rw [hlen]; omega, fun s hs => hws s (List.mem_of_mem_take hs)⟩
        have hi' := (List.getElem?_eq_some_iff.1 hi).1
        rw [hlen] at hi'
        rw [List.getElem?_take, if_pos hi'] at hi
        have e := hcell i (by omega)
        rw [List.getD_eq_getElem?_getD, hi] at e
        exact e
    obtain ⟨l, ht, z1, z2⟩ := o
    have E0 : a0 = .int .i64 k := by simpa [cI1, cS1] using e0
    have E1 : a1 = .string s1 := by simpa [cI1, cS1] using e1
    have E2 : a2 = .string s2 := by simpa [cI1, cS1] using e2
    have E3 : a3 = .string s3 := by simpa [cI1, cS1] using e3
    have E4 : a4 = .string s4 := by simpa [cI1, cS1] using e4
    have E5 : a5 = .string s5 := by simpa [cI1, cS1] using e5
    have E8 : a15 = .string s8 := by simpa [cI1, cS1] using e8
    subst E0 E1 E2 E3 E4 E5 E8 q0 q1 q2 q3 r0 r1 r2 r3
    exact ⟨⟨k, s1, s2, s3, s4, s5, l, X, Y, s8⟩, a6, rfl, ht, ⟨x0, x1, y0, y1⟩, z1, z2, z4⟩
theorem open_msg {H : Type} {enc : TypeId × Value → H} {W : World} {base : Nat} {v : Value} {d : DataW H} {p : List MemPlace}
    (hv : Value.okWide Tryz.prog W .any base 29 v) (h : DataW.Trod enc Tryz.prog W 0 (fun _ => true) true 29 v d p) :
    ∃ (m : Mg) (u : Value), v = m.v u ∧ Txs W u m.cs ∧ m.ok ∧ m.cs.length ≤ maxLen ∧ (∀ t ∈ m.cs, t.size ≤ maxLen) ∧ m.nm.size ≤ maxLen := by
  obtain ⟨cs, rfl, hsz, _⟩ : ∃ cs, v = .agg cs ∧ cs.size = Tryz.prog.cellsOf 29 ∧ Row.okWide Tryz.prog W .any base 29 cs := by
    simpa [Value.okWide, Tryz.underlying29] using hv
  obtain ⟨fuel, hf⟩ := h
  obtain ⟨m, u, e, rest⟩ := open_msgC hf
  refine ⟨m, u, ?_, rest⟩
  rw [Mg.v_l]
  congr 1
  cases cs with
  | mk l => simp only [Value.cells] at e; rw [← e]
end Go.Proofs.YtjdpeedghpblgaaGreatDoor
/- Rows of messages among the arguments, opened. -/
set_option linter.all false
set_option maxRecDepth 100000
namespace Go.Proofs.YtjdpeedghpblgaaGreatDoor
open Go.ChangeShapes Go.WideShapes Go.ChangeAt Go.RowKit
/-- What is known of a message that came in. -/
structure Mg.came (m : Mg) : Prop where
  ok : m.ok
  ln : m.cs.length ≤ maxLen
  tx : ∀ t ∈ m.cs, t.size ≤ maxLen
  nm : m.nm.size ≤ maxLen
theorem collect {W : World} (a : Addr) (len : Nat) (h : ∀ i, i < len → ∃ (m : Mg) (u : Value), (∀ j v, (m.l u)[j]? = some v → W.cell? (a.add (i * 16 + j)) = some v) ∧ Txs W u m.cs ∧ m.came) :
    ∃ l : List Mg, l.length = len ∧ (∀ m ∈ l, m.came) ∧ ∀ i m, l[i]? = some m → ∃ u, (∀ j v, (m.l u)[j]? = some v → W.cell? (a.add (i * 16 + j)) = some v) ∧ Txs W u m.cs := by
  induction len with
  | zero => exact ⟨[], rfl, (fun m hm => by cases hm), (fun i m hm => by cases hm)⟩
  | succ n ih =>
    obtain ⟨l, hl, hc, hi⟩ := ih (fun i hi => h i (by omega))
    obtain ⟨m, u, h1, h2, h3⟩ := h n (by omega)
    refine ⟨l ++ [m], by rw [List.length_append, hl]; rfl, fun x hx => ?_, fun i x hx => ?_⟩
    · rcases List.mem_append.1 hx with hx | hx
      · exact hc x hx
      · simp at hx; subst hx; exact h3
    · by_cases hin : i < l.length
      · rw [List.getElem?_append_left hin] at hx
        exact hi i x hx
      · rw [List.getElem?_append_right (by omega)] at hx
        have : i - l.length = 0 := by
          cases hq : i - l.length with
          | zero => rfl
          | succ q => rw [hq] at hx; simp at hx
        rw [this] at hx
        simp at hx
        subst hx
        have : i = n := by omega
        subst this
        exact ⟨u, h1, h2⟩
theorem open_msgs {H : Type} {enc : TypeId × Value → H} {W : World} {base : Nat} {v : Value} {d : DataW H} {ps : List MemPlace} (hval : Value.okWide Tryz.prog W .any base 43 v) (hd : DataW.Trod enc Tryz.prog W 0 (fun _ => true) true 43 v d ps) :
    ∃ l : List Mg, Mgs W v l ∧ l.length ≤ maxLen ∧ ∀ m ∈ l, m.came := by
  obtain ⟨a0, len, cap, rfl⟩ := okWide_slice Tryz.underlying43 hval
  obtain ⟨fuel, hf⟩ := hd
  rcases DataW.trod_slice Tryz.underlying43 hf with ⟨hcs, _⟩ | ⟨a, len', cap', elems, rest, n, _, hcs, _, _, hle, hm, hlen, hel, _, _⟩
  · simp [Value.cells] at hcs
    obtain ⟨rfl, rfl, rfl⟩ := hcs
    exact ⟨[], Mgs.nil W, Nat.zero_le _, fun m hm => by cases hm⟩
  · simp [Value.cells] at hcs
    obtain ⟨rfl, rfl, rfl⟩ := hcs
    have each : ∀ i, i < len → ∃ (m : Mg) (u : Value), (∀ j v, (m.l u)[j]? = some v → W.cell? (a.add (i * 16 + j)) = some v) ∧ Txs W u m.cs ∧ m.came := fun i hi => by
      have h1 := hel i hi
      rw [List.getElem?_eq_getElem (by omega), cM16, Option.bind_eq_some_iff] at h1
      obtain ⟨cs, hcs, ht⟩ := h1
      obtain ⟨m, u, e, t, o1, o2, o3, o4⟩ := open_msgC ht
      obtain ⟨_, hl, hc⟩ := World.cells?_some hcs
      refine ⟨m, u, fun j v hv => ?_, t, ⟨o1, o2, o3, o4⟩⟩
      subst e
      have hj : j < 16 := by rw [← hl]; exact (List.getElem?_eq_some_iff.1 hv).1
      have := hc j hj
      rw [hv, Addr.add_add] at this
      exact this
    obtain ⟨l, hl, hc, hi⟩ := collect a len each
    refine ⟨l, ⟨some a, cap, by rw [hl], fun i m him => ?_⟩, by rw [hl]; omega, hc⟩
    obtain ⟨u, h1, h2⟩ := hi i m him
    have c0 := h1 0 (.int .i64 m.k) rfl
    have sp := World.cell?_spot c0
    obtain ⟨g, o, spot⟩ := a
    have sp' : spot = none := by
      rw [Nat.add_zero] at c0 sp
      have := World.cell?_spot ((hi 0 _ (List.getElem?_eq_getElem (by have := (List.getElem?_eq_some_iff.1 him).1; omega))).choose_spec.1 0 _ rfl)
      simpa [Addr.add] using this
    subst sp'
    refine ⟨g, o, u, rfl, ?_, fun j v hv => ?_, h2⟩
    · have := block_lt_of_cell c0
      rwa [Addr.add_mid] at this
    · have := h1 j v hv
      rw [Addr.add_mid, ← Nat.add_assoc] at this
      exact this
end Go.Proofs.YtjdpeedghpblgaaGreatDoor
