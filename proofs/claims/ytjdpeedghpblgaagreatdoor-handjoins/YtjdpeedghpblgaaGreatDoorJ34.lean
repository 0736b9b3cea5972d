/- Texts joined: HR, HT, IB. -/
import Derived.Test.YtjdpeedghpblgaaGreatDoorJ33
import Derived.Test.YtjdpeedghpblgaaGreatDoorJ32
import Derived.Test.YtjdpeedghpblgaaGreatDoorJ28
import Derived.Test.YtjdpeedghpblgaaGreatDoorJ25
import Derived.Test.YtjdpeedghpblgaaGreatDoorJ20
/- Package hand: readMessage, of any text. -/
set_option linter.all false
set_option maxRecDepth 100000
namespace Go.Proofs.YtjdpeedghpblgaaGreatDoor
open Go.RowKit Go.Sort Go.Shelf
theorem lnR_nB (r : ByteArray) : lnR r = nB r 3 := by unfold lnR; simp only [nB]; omega
theorem bt_tail (s : ByteArray) (j : Nat) : bt (s.extract 1 s.size) j = bt s (j + 1) := by
  by_cases h : 1 + j < s.size
  · rw [bt_ext s 1 s.size j h (Nat.le_refl _), Nat.add_comm]
  · rw [bt_end _ _ (by simp only [ByteArray.size_extract]; omega), bt_end s (j + 1) (by omega)]
theorem lnR_M (s : ByteArray) : lnR (s.extract 1 s.size) = lnM s := by unfold lnR lnM; rw [bt_tail, bt_tail, bt_tail]
theorem head_1 (s : ByteArray) (h : s.size ≠ 0) : s = mkS [bt s 0] ++ s.extract 1 s.size := by
  have q := vec_of 1 (by omega) s (by omega) (bt s 0).toNat (by have := bt_bd s 0; show 0 * 256 + bt s 0 = _; omega)
  have b := bt_bd s 0
  have e : mkS [bt s 0] = s.extract 0 1 := by
    rw [q]
    show _ = mkS ([] ++ [((bt s 0).toNat : Int) % 256])
    congr 1
    simp
    omega
  rw [e]
  exact ba_ext (by rw [ap_list, ext_list, ex_to, List.drop_zero]; exact (List.take_append_drop 1 _).symm)
/-- What reading a message ends in. -/
def MsR (s : ByteArray) (p N : Nat) (x : Ending) (w' : World) : Prop :=
  (rmE s ≠ 0 ∧ x = .panicked (pk (rmE s))) ∨ (rmE s = 0 ∧ ∃ u, x = .returned ((rmM s).v u) ∧ Txs w' u (rmM s).cs ∧ Fsh N u ∧ Rdr w' p (rmR s) 11)
theorem rm_head {m : Mg} {s q : ByteArray} (hs : s = wrM m ++ q) (hk : 0 ≤ m.k ∧ m.k < 256) (hb : (bdy m).size < 16777216) : s.size ≠ 0 ∧ bt s 0 = m.k ∧ lnM s = (bdy m).size ∧ (s.extract 1 s.size).extract 3 (3 + (bdy m).size) = bdy m := by
  have e0 : s = mkS [m.k] ++ (vec 3 (bdy m) ++ q) := by rw [hs]; unfold wrM; rw [ap_assoc]
  have z1 : (mkS [m.k]).size = 1 := by rw [mkS_size]; rfl
  have b0 : bt s 0 = m.k := by
    rw [e0, bt_left _ _ 0 (by rw [z1]; omega)]
    have := bt_sL (mkS [m.k]) 0
    rw [this, sL_mkS [m.k] (fun x hx => by rw [List.mem_singleton.1 hx]; exact hk)]
    rfl
  have er : s.extract 1 s.size = vec 3 (bdy m) ++ q := by
    have := ex_right (mkS [m.k]) (vec 3 (bdy m) ++ q)
    rw [z1, ← e0] at this
    exact this
  have ln : lnM s = (bdy m).size := by rw [← lnR_M, er, lnR_nB, nB_vec 3 (by omega) _ _ (by omega)]
  refine ⟨by rw [e0, ap_size, z1]; omega, b0, ln, ?_⟩
  rw [er]
  unfold vec
  rw [ap_assoc]
  have := ex_mid (mkS (dgL 3 (bdy m).size)) (bdy m) q
  rw [mkS_size, dgL_len] at this
  exact this
theorem kd_bd {k : Int} (h : kdB k = true) : 0 ≤ k ∧ k < 256 := by
  unfold kdB at h
  simp only [Bool.or_eq_true, beq_iff_eq] at h
  omega
theorem bod_is (s : ByteArray) (h0 : s.size ≠ 0) (hk : kdB (bt s 0) = true) (p N : Nat) (x : Ending) (w' : World) (h : Bod (gK (bt s 0)) (bt s 0) (s.extract 1 s.size) p N x w') : MsR s p N x w' := by
  have zr : (s.extract 1 s.size).size = s.size - 1 := by simp only [ByteArray.size_extract]; omega
  have ln := lnR_M s
  have l0 := (lnM_bd s).1
  have hd : hdE s = if 16384 < lnM s then 12 else if s.size < 4 ∨ (s.size : Int) < 4 + lnM s then 11 else 0 := by unfold hdE; rw [if_neg h0, if_neg (by rw [hk]; decide)]
  obtain ⟨n, hn⟩ : ∃ n : Nat, lnM s = n := ⟨(lnM s).toNat, by omega⟩
  unfold Bod at h
  rw [ln, hn, Int.toNat_natCast] at h
  rw [hn] at hd
  rcases h with ⟨g1, rfl⟩ | ⟨g1, g2, rfl⟩ | ⟨g1, g2, g3, rfl⟩ | ⟨g1, g2, m, u, g3, g4, rfl, g5, g6, g7⟩
  · have e : rmE s = 12 := by unfold rmE; rw [hd, if_pos g1]; rfl
    exact .inl ⟨by rw [e]; decide, by rw [e]⟩
  · have e : rmE s = 11 := by unfold rmE; rw [hd, if_neg (show ¬ (16384 : Int) < (n : Int) by omega), if_pos (show s.size < 4 ∨ (s.size : Int) < 4 + (n : Int) by omega)]; rfl
    exact .inl ⟨by rw [e]; decide, by rw [e]⟩
  · have e0 : hdE s = 0 := by rw [hd, if_neg (show ¬ (16384 : Int) < (n : Int) by omega), if_neg (show ¬ (s.size < 4 ∨ (s.size : Int) < 4 + (n : Int)) by omega)]
    have ne : rmE s ≠ 0 := fun q => by
      obtain ⟨f1, f2, f3⟩ := rm_yes s q
      have kb := kd_bd (ft_kd f1)
      obtain ⟨_, k1, k2, k3⟩ := rm_head (q := rmR s) f3.symm kb (by have := bdy_size f1; omega)
      obtain ⟨m0, c1, c2⟩ := gk_compl (rmM s) f2 f1
      have en : (bdy (rmM s)).size = n := by omega
      rw [en] at k3
      rw [← k1, ← k3] at c1
      rcases g3 with g3 | ⟨m', g3, g4⟩
      · rw [g3] at c1; cases c1
      · rw [g3] at c1
        cases c1
        have : kM m0 (bt s 0) = rmM s := by rw [k1]; exact c2
        rw [this, f1] at g4
        cases g4
    have e : rmE s = 10 := by
      unfold rmE at ne ⊢
      rw [e0, if_pos rfl] at ne ⊢
      split at ne
      · exact absurd rfl ne
      · rename_i c; rw [if_neg c]
    exact .inl ⟨ne, by rw [e]⟩
  · have zB : ((s.extract 1 s.size).extract 3 (3 + n)).size = n := by simp only [ByteArray.size_extract]; omega
    obtain ⟨s1, s2⟩ := gk_sound (bt s 0) hk _ (by omega) m g3
    have s3 := s2 g4
    have er : s.extract 1 s.size = vec 3 ((s.extract 1 s.size).extract 3 (3 + n)) ++ (s.extract 1 s.size).extract (3 + n) (s.extract 1 s.size).size := by
      have tb : tkB 3 (s.extract 1 s.size) = true := by unfold tkB; rw [← lnR_nB, ln, hn]; simp; omega
      have t := (tk_is 3 (by omega) _ tb).2
      have a1 : tkA 3 (s.extract 1 s.size) = (s.extract 1 s.size).extract 3 (3 + n) := by unfold tkA; rw [if_pos tb, ← lnR_nB, ln, hn, Int.toNat_natCast]
      have a2 : tkR 3 (s.extract 1 s.size) = (s.extract 1 s.size).extract (3 + n) (s.extract 1 s.size).size := by unfold tkR; rw [if_pos tb, ← lnR_nB, ln, hn, Int.toNat_natCast]
      rw [a1, a2] at t
      exact t
    have hs : s = wrM (kM m (bt s 0)) ++ (s.extract 1 s.size).extract (3 + n) (s.extract 1 s.size).size := by
      have h1 := head_1 s h0
      rw [er] at h1
      unfold wrM
      have hb : bdy (kM m (bt s 0)) = (s.extract 1 s.size).extract 3 (3 + n) := s3
      rw [hb, ap_assoc]
      exact h1
    obtain ⟨r1, r2, r3⟩ := rm_of (kM m (bt s 0)) s1.1 g4 s _ hs
    exact .inr ⟨r1, u, by rw [r2], by rw [r2]; exact g5, g6, by rw [r3]; exact g7⟩
set_option maxHeartbeats 2000000 in
theorem readMsg_unk (p : Nat) (s : ByteArray) (hz : (s.size : Int) ≤ 281474976710656) (h0 : s.size ≠ 0) (k : Int) (hk : bt s 0 = k) (hK : kdB k = false) (w : World) (h : Rdr w p s 11) :
    Calls Tryz.prog 27 #[rp p] w fun x w' => Upto p w w' ∧ x = .panicked (pk 23) := by
  have hB0 := Below.alloc (Below.refl w.heap.size w) (Nat.le_refl _) (.cells z16 29)
  have hR := h.to hB0
  have hU := Below.upto p hB0
  go_enter Tryz.func27, Tryz.ntmps27
  go_wp2_with fail
  generalize w.alloc (.cells z16 29) = w0 at *
  have hR' : Rdr w0 p (s.extract 0 s.size) 11 := by rw [show s.extract 0 s.size = s from ByteArray.extract_zero_size]; exact hR
  refine (num1 p s 11 0 hz w0 hR' (by omega)).mono ?_
  rintro xe w1 ⟨hU1, ⟨h1, rfl, hR1⟩ | ⟨h1, rfl⟩⟩
  · rw [hk]
    replace hU := hU.trans hU1
    clear hU1 hR hR' hB0
    have SH := shapes_any w1
    go_wp2_with fail
    refine SH.mono ?_
    rintro xe w2 ⟨rfl, hs, hb2⟩
    have lk := hs.look k true
    rw [shV_no k hK, hK] at lk
    simp only [if_true] at lk
    replace hU := hU.trans (Below.upto p hb2)
    clear hR1 SH hb2 hs
    have hC := fn_cells .nilFunc .nilFunc .nilFunc rfl rfl rfl
    have A4 := hC.new w2 56 w2.heap.size rfl
    go_upto_region 3 with (refine hC.wst tH A4 (by rfl) (.tmp 4) (.tmp 13) (by rfl) (by rfl) (by rfl) ?_)
    have hb3 := below_setCells (Below.alloc (Below.refl w2.heap.size w2) (Nat.le_refl _) (.cells (fnL .nilFunc .nilFunc .nilFunc).toArray 56)) (b := w2.heap.size) (Nat.le_refl _) (fnL .nilFunc .nilFunc .nilFunc) 0
    replace hU := hU.trans (Below.upto p hb3)
    clear A4 hC hb3 lk
    generalize (w2.alloc (.cells (fnL .nilFunc .nilFunc .nilFunc).toArray 56)).setCells w2.heap.size 0 (fnL .nilFunc .nilFunc .nilFunc) = w3 at *
    go_wp2_with fail
    exact ⟨rfl, hU, rfl⟩
  · omega
set_option maxHeartbeats 1000000 in
theorem readMsg_mt (p : Nat) (w : World) (h : Rdr w p nS 11) :
    Calls Tryz.prog 27 #[rp p] w fun x w' => Upto p w w' ∧ x = .panicked (pk 11) := by
  have hB0 := Below.alloc (Below.refl w.heap.size w) (Nat.le_refl _) (.cells z16 29)
  have hR := h.to hB0
  have hU := Below.upto p hB0
  go_enter Tryz.func27, Tryz.ntmps27
  go_wp2_with fail
  generalize w.alloc (.cells z16 29) = w0 at *
  refine (number_any p nS 11 1 (by omega) (by decide) w0 hR).mono ?_
  rintro xe w1 ⟨hU1, ⟨h1, _⟩ | ⟨h1, rfl⟩⟩
  · exact absurd h1 (by decide)
  · replace hU := hU.trans hU1
    go_wp2_with fail
    exact ⟨rfl, hU, rfl⟩
theorem readMsg_any (p : Nat) (s : ByteArray) (hz : (s.size : Int) ≤ 281474976710656) (w : World) (h : Rdr w p s 11) :
    Calls Tryz.prog 27 #[rp p] w fun x w' => Upto p w w' ∧ MsR s p w.heap.size x w' := by
  by_cases h0 : s.size = 0
  · have e := nS_size h0
    subst e
    have er : rmE nS = 11 := rfl
    exact (readMsg_mt p w h).mono fun x w' ⟨h1, h2⟩ => ⟨h1, .inl ⟨by rw [er]; decide, by rw [er]; exact h2⟩⟩
  cases hk : kdB (bt s 0) with
  | false =>
    have er : rmE s = 23 := by unfold rmE hdE; rw [if_neg h0, if_pos hk]; rfl
    exact (readMsg_unk p s hz h0 _ rfl hk w h).mono fun x w' ⟨h1, h2⟩ => ⟨h1, .inl ⟨by rw [er]; decide, by rw [er]; exact h2⟩⟩
  | true =>
    suffices Calls Tryz.prog 27 #[rp p] w fun x w' => Upto p w w' ∧ Bod (gK (bt s 0)) (bt s 0) (s.extract 1 s.size) p w.heap.size x w' from
      this.mono fun x w' ⟨h1, h2⟩ => ⟨h1, bod_is s h0 hk p _ x w' h2⟩
    have hk' := hk
    unfold kdB at hk'
    simp only [Bool.or_eq_true, beq_iff_eq] at hk'
    have SM := fun (B : ByteArray) (m : Mg) (hB : B.size ≤ 20000) (e : whF (gK (bt s 0)) B = some m) => (gk_sound (bt s 0) hk B hB m e).1
    rcases hk' with ((((e | e) | e) | e) | e) | e
    · rw [show gK (bt s 0) = clF by rw [e]; rfl] at *
      exact readMsg_core (bt s 0) 36 34 35 clF (by rw [e]; rfl) hk (enters_of Tryz.func36 (by kernel_rfl) rfl) (enters_of Tryz.func34 (by kernel_rfl) rfl) rCl (fun m u W h1 h2 h3 h4 h5 h6 => fCl m (h1.trans e) h2 (by omega) (fun t ht => by have := h4 t ht; omega) (by omega) u W h6) SM p s hz h0 rfl _ rfl w h
    · rw [show gK (bt s 0) = svF by rw [e]; rfl] at *
      exact readMsg_core (bt s 0) 39 37 38 svF (by rw [e]; rfl) hk (enters_of Tryz.func39 (by kernel_rfl) rfl) (enters_of Tryz.func37 (by kernel_rfl) rfl) rSv (fun m u W h1 h2 h3 h4 h5 h6 => fSv m (h1.trans e) h2 (by omega) (fun t ht => by have := h4 t ht; omega) (by omega) u W h6) SM p s hz h0 rfl _ rfl w h
    · rw [show gK (bt s 0) = exF by rw [e]; rfl] at *
      exact readMsg_core (bt s 0) 42 40 41 exF (by rw [e]; rfl) hk (enters_of Tryz.func42 (by kernel_rfl) rfl) (enters_of Tryz.func40 (by kernel_rfl) rfl) rEx (fun m u W h1 h2 h3 h4 h5 h6 => fEx m (h1.trans e) h2 (by omega) (fun t ht => by have := h4 t ht; omega) (by omega) u W h6) SM p s hz h0 rfl _ rfl w h
    · rw [show gK (bt s 0) = ctF by rw [e]; rfl] at *
      exact readMsg_core (bt s 0) 45 43 44 ctF (by rw [e]; rfl) hk (enters_of Tryz.func45 (by kernel_rfl) rfl) (enters_of Tryz.func43 (by kernel_rfl) rfl) rCt (fun m u W h1 h2 h3 h4 h5 h6 => fCt m (h1.trans e) h2 (by omega) (fun t ht => by have := h4 t ht; omega) (by omega) u W h6) SM p s hz h0 rfl _ rfl w h
    · rw [show gK (bt s 0) = vfF by rw [e]; rfl] at *
      exact readMsg_core (bt s 0) 48 46 47 vfF (by rw [e]; rfl) hk (enters_of Tryz.func48 (by kernel_rfl) rfl) (enters_of Tryz.func46 (by kernel_rfl) rfl) rVf (fun m u W h1 h2 h3 h4 h5 h6 => fVf m (h1.trans e) h2 (by omega) (fun t ht => by have := h4 t ht; omega) (by omega) u W h6) SM p s hz h0 rfl _ rfl w h
    · rw [show gK (bt s 0) = fiF by rw [e]; rfl] at *
      exact readMsg_core (bt s 0) 51 49 50 fiF (by rw [e]; rfl) hk (enters_of Tryz.func51 (by kernel_rfl) rfl) (enters_of Tryz.func49 (by kernel_rfl) rfl) rFi (fun m u W h1 h2 h3 h4 h5 h6 => fFi m (h1.trans e) h2 (by omega) (fun t ht => by have := h4 t ht; omega) (by omega) u W h6) SM p s hz h0 rfl _ rfl w h
end Go.Proofs.YtjdpeedghpblgaaGreatDoor
/- Package hand: Read. -/
set_option linter.all false
set_option maxRecDepth 100000
namespace Go.Proofs.YtjdpeedghpblgaaGreatDoor
open Go.RowKit Go.Sort Go.Shelf
theorem results_c3 {P : Program} {fn : Func} {p q r : Tmp} {t1 t2 t3 : TypeId} {a b c : Addr} {u v x : Value} {w : World} (h : fn.results = #[.cell p t1, .cell q t2, .cell r t3]) (tmps : Array Value) (hp : tmps.getD p undef = .pointer (some a)) (hq : tmps.getD q undef = .pointer (some b)) (hr : tmps.getD r undef = .pointer (some c))
    (h1 : (loadVar t1 a).run P w = .ok u w) (h2 : (loadVar t2 b).run P w = .ok v w) (h3 : (loadVar t3 c).run P w = .ok x w) : (results fn tmps).run P w = .ok (.tuple #[u, v, x]) w := by
  have hp' : tmps[p]?.getD undef = .pointer (some a) := by rw [← hp, Array.getD_eq_getD_getElem?]
  have hq' : tmps[q]?.getD undef = .pointer (some b) := by rw [← hq, Array.getD_eq_getD_getElem?]
  have hr' : tmps[r]?.getD undef = .pointer (some c) := by rw [← hr, Array.getD_eq_getD_getElem?]
  simp [results, h, hp', hq', hr', h1, h2, h3, asAddr, Result.andThen, Sem.run_bind, Sem.run_pure]
theorem ld_9 {w : World} {b : Nat} {s : ByteArray} (A : V1 w b (.string s)) : (loadVar 9 ⟨b, 0, none⟩).run Tryz.prog w = .ok (.string s) w := by
  have c0 := A.c 0 (by omega)
  simp [c0, go_sem]
theorem ld_e {w : World} {b : Nat} {E : Int} (A : V1 w b (.int .i64 E)) : (loadVar 31 ⟨b, 0, none⟩).run Tryz.prog w = .ok (.int .i64 E) w := by
  have c0 := A.c 0 (by omega)
  simp [c0, go_sem]
def reV (p b3 b4 : Nat) (L : List Value) (R : ByteArray) (_ : Array Bool) : Nat → Value → World → Prop
  | 0, v, _ => v = .agg L.toArray
  | 1, v, _ => v = rp p
  | 2, v, _ => v = rp p
  | 3, v, _ => v = .pointer (some ⟨p, 0, none⟩)
  | 4, v, _ => v = .string R
  | 5, _, _ => True
  | 6, _, W => V1 W b3 (.string R)
  | 7, _, W => V1 W b4 (.int .i64 0)
  | _, _, _ => False
def reF (b2 p b3 b4 : Nat) (F : Nat → Value) (R : ByteArray) (_ : Array Bool) (W : World) : Prop := Arr W b2 16 F ∧ Rdr W p R 11 ∧ (∃ v, V1 W b3 v) ∧ (∃ v, V1 W b4 v)
set_option maxHeartbeats 4000000 in
theorem Read_any (s : ByteArray) (hz : (s.size : Int) ≤ 281474976710656) (w : World) :
    Calls Tryz.prog 10 #[.string s] w fun e w' => (∃ v, e = .returned (.tuple #[(rmM s).v v, .string (rmR s), .int .i64 (rmE s)]) ∧ Txs w' v (rmM s).cs ∧ Fsh w.heap.size v) ∧ Below w.heap.size w w' := by
  have hmf : ∀ (fn : Fn) (first cap : Array Value) (w : World), (Instr.makeFunc fn first cap).run Tryz.prog w = .ok (.func fn first cap) w := fun _ _ _ _ => rfl
  go_enter_defers Tryz.func10, Tryz.ntmps10
  go_wp2_with fail
  have z0 : w.heap.size + 1 + 1 + 1 = w.heap.size + 3 := rfl
  have hR : Rdr ((((w.alloc (.cells z16 29)).alloc (.cells #[.string nS] 9)).alloc (.cells #[.int .i64 0] 31)).alloc (.cells #[.string s, .int .i64 11] 64)) (w.heap.size + 1 + 1 + 1) s 11 := by
    have := Rdr.new s 11 (((w.alloc (.cells z16 29)).alloc (.cells #[.string nS] 9)).alloc (.cells #[.int .i64 0] 31))
    simpa using this
  have A2 : Arr ((((w.alloc (.cells z16 29)).alloc (.cells #[.string nS] 9)).alloc (.cells #[.int .i64 0] 31)).alloc (.cells #[.string s, .int .i64 11] 64)) w.heap.size 16 (noM.c nC) := ((Arr.al' (n := 15) (newZ w w.heap.size rfl) _).al' (n := 15) _).al' (n := 15) _
  have A3 : V1 ((((w.alloc (.cells z16 29)).alloc (.cells #[.string nS] 9)).alloc (.cells #[.int .i64 0] 31)).alloc (.cells #[.string s, .int .i64 11] 64)) (w.heap.size + 1) (.string nS) := ((Arr.new _ _ 9 _ (by simp) _ 1 (one_of _)).al' _).al' _
  have A4 : V1 ((((w.alloc (.cells z16 29)).alloc (.cells #[.string nS] 9)).alloc (.cells #[.int .i64 0] 31)).alloc (.cells #[.string s, .int .i64 11] 64)) (w.heap.size + 2) (.int .i64 0) := (Arr.new _ _ 31 _ (by simp) _ 1 (one_of _)).al' _
  have hB : Below w.heap.size w ((((w.alloc (.cells z16 29)).alloc (.cells #[.string nS] 9)).alloc (.cells #[.int .i64 0] 31)).alloc (.cells #[.string s, .int .i64 11] 64)) := by go_grown
  have zW : ((((w.alloc (.cells z16 29)).alloc (.cells #[.string nS] 9)).alloc (.cells #[.int .i64 0] 31)).alloc (.cells #[.string s, .int .i64 11] 64)).heap.size = w.heap.size + 4 := by simp
  have RM := readMsg_any (w.heap.size + 1 + 1 + 1) s hz _ hR
  generalize (((w.alloc (.cells z16 29)).alloc (.cells #[.string nS] 9)).alloc (.cells #[.int .i64 0] 31)).alloc (.cells #[.string s, .int .i64 11] 64) = W4 at *
  refine RM.mono ?_
  rintro x W5 ⟨hU, hx⟩
  have B2 := hU.arr (n := 15) A2 (by omega)
  have B3 := hU.arr (n := 0) A3 (by omega)
  have B4 := hU.arr (n := 0) A4 (by omega)
  have hB5 := hB.trans (hU.below (n := w.heap.size) (by omega) (by omega))
  have z5 := hU.size
  clear RM A2 A3 A4 hR hU hB
  rcases hx with ⟨hE, rfl⟩ | ⟨hE, u, rfl, hT, hF, hR⟩
  · have CA := catch_p w.heap.size (w.heap.size + 1) (w.heap.size + 2) (rmE s) W5 (by omega) (by omega) (by omega) ⟨⟨_, B2⟩, ⟨_, B3⟩, ⟨_, B4⟩⟩
    have e1 : rmM s = noM := by unfold rmM; rw [if_neg hE]
    have e2 : rmR s = nS := by unfold rmR; rw [if_neg hE]
    have HE1 : Hid _ := e1
    have HE2 : Hid _ := e2
    clear e1 e2 B2 B3 B4
    generalize hEE : rmE s = E at *
    have HEE : Hid _ := hEE
    clear hEE
    go_wp2_with fail
    refine leaves_cons (f := 26) (args := #[.pointer (some ⟨w.heap.size, 0, none⟩), .pointer (some ⟨w.heap.size + 1, 0, none⟩), .pointer (some ⟨w.heap.size + 2, 0, none⟩)]) (by simp) (by simp [go_sem]) ?_
    refine CA.mono ?_
    rintro e u' w'' ⟨rfl, rfl, hU3, C2, C3, C4⟩
    have R3 := results_c3 (P := Tryz.prog) (fn := Tryz.f10) (p := 2) (q := 3) (r := 4) rfl #[.string s, undef, .pointer (some ⟨w.heap.size, 0, none⟩), .pointer (some ⟨w.heap.size + 1, 0, none⟩), .pointer (some ⟨w.heap.size + 1 + 1, 0, none⟩), .pointer (some ⟨w.heap.size + 1 + 1 + 1, 0, none⟩), .func (.func 26) #[] #[.pointer (some ⟨w.heap.size, 0, none⟩), .pointer (some ⟨w.heap.size + 1, 0, none⟩), .pointer (some ⟨w.heap.size + 1 + 1, 0, none⟩)], .string s, .agg #[.string s, .int .i64 11], .pointer (some ⟨w.heap.size + 1 + 1 + 1, 0, none⟩), .pointer (some ⟨w.heap.size + 1 + 1 + 1, 0, none⟩), undef, undef, undef, undef, undef, undef] rfl rfl rfl (noM_ld C2) (ld_9 C3) (ld_e C4)
    refine ⟨.tuple #[noM.v nC, .string nS, .int .i64 E], R3, ⟨nC, ?_, ?_, Fsh.nil _⟩, ?_⟩
    · rw [HE1.out, HE2.out, HEE.out]
    · rw [HE1.out]; exact .inl ⟨rfl, rfl⟩
    · exact hB5.trans ⟨hU3.os, hU3.tape, hU3.output, hU3.size, fun q hq => hU3.block q (by omega) (by omega) (by omega) (by omega)⟩
  · have hL := (rmM s).cells u hT.one
    have HV : Hid ((rmM s).v u = .agg ((rmM s).l u).toArray) := Mg.v_l _ _
    have HT : Hid (Txs W5 u (rmM s).cs ∧ Fsh W4.heap.size u) := ⟨hT, hF⟩
    have HE : Hid _ := hE
    rw [Mg.v_l (rmM s) u]
    clear hT hF hE
    generalize (rmM s).l u = L at *
    generalize (rmM s).c u = F at *
    have HB2 : Hid _ := B2
    clear B2
    go_upto_region 4 with (refine hL.wst tM HB2.out (by rfl) (.tmp 2) (.tmp 11) (by rfl) (by rfl) (by rfl) ?_)
    have hU6 := Upto.sets w.heap.size W5 L 0
    have D2 := hL.set HB2.out
    have D3 := hU6.arr (n := 0) B3 (by omega)
    have D4 := hU6.arr (n := 0) B4 (by omega)
    have R6 := hR.up hU6 (by omega)
    have T6 := HT.out.1.up HT.out.2 (by omega) hU6
    have hB6 := hB5.trans (hU6.below (n := w.heap.size) (Nat.le_refl _) (by omega))
    have z6 := hU6.size
    clear hU6 B3 B4 hR HB2 hB5
    generalize W5.setCells w.heap.size 0 L = W6 at *
    generalize hRR : rmR s = R at *
    have HRR : Hid _ := hRR
    clear hRR
    refine wp_region_st (Up3 w.heap.size (w.heap.size + 1) (w.heap.size + 2)) (reV (w.heap.size + 1 + 1 + 1) (w.heap.size + 1) (w.heap.size + 2) L R) (reF w.heap.size (w.heap.size + 1 + 1 + 1) (w.heap.size + 1) (w.heap.size + 2) F R) rfl (by kernel_rfl) (by kernel_rfl) (fun d => ⟨rfl, rfl, rfl, Nat.le_refl _, fun _ _ _ _ _ => rfl⟩) (fun d => ⟨D2, ⟨R6.l, R6.k, R6.z⟩, ⟨_, D3⟩, ⟨_, D4⟩⟩) (fun _ _ _ h1 h2 => h1.trans h2) ?_ ?_
    · intro ls i o ρ W hi ho hz9 hun hdep hA hFf hW hP hS
      have ci : i = 0 ∨ i = 1 ∨ i = 2 ∨ i = 3 ∨ i = 4 ∨ i = 5 ∨ i = 6 ∨ i = 7 := by simp only [List.length_cons, List.length_nil] at hi; omega
      have hc := hP.c
      have rf : ∀ {ll : List Oper} {i : Nat}, (Up3 w.heap.size (w.heap.size + 1) (w.heap.size + 2) W W ∧ reF w.heap.size (w.heap.size + 1 + 1 + 1) (w.heap.size + 1) (w.heap.size + 2) F R (ls.setIfInBounds i true) W ∧ ∀ j v, j < 8 → j ≠ i → ls.getD j true = true → (∀ t, dAt ll j = some t → v = ρ (.tmp t)) → reV (w.heap.size + 1 + 1 + 1) (w.heap.size + 1) (w.heap.size + 2) L R ls j v W → reV (w.heap.size + 1 + 1 + 1) (w.heap.size + 1) (w.heap.size + 2) L R (ls.setIfInBounds i true) j v W) := ⟨Up3.refl _ _ _ _, hFf, fun j v _ _ _ _ q => (by match j, q with | 0, q | 1, q | 2, q | 3, q | 4, q | 5, q | 6, q | 7, q => exact q)⟩
      have stb : ∀ {q0 i : Nat} {W' : World}, Upto q0 W W' → (q0 = w.heap.size ∨ (q0 = w.heap.size + 1 ∧ i = 6) ∨ (q0 = w.heap.size + 2 ∧ i = 7)) → ∀ j v, j ≠ i → reV (w.heap.size + 1 + 1 + 1) (w.heap.size + 1) (w.heap.size + 2) L R ls j v W → reV (w.heap.size + 1 + 1 + 1) (w.heap.size + 1) (w.heap.size + 2) L R (ls.setIfInBounds i true) j v W' := fun hU hq j v hne q => by
        match j, q with
        | 0, q | 1, q | 2, q | 3, q | 4, q | 5, q => exact q
        | 6, q => exact hU.arr (n := 0) q (by omega)
        | 7, q => exact hU.arr (n := 0) q (by omega)
      rcases ci with rfl | rfl | rfl | rfl | rfl | rfl | rfl | rfl <;> cases ho
      · have h' : ρ (.tmp 2) = .pointer (some ⟨w.heap.size, 0, none⟩) := hS 2 (by kernel_rfl)
        exact .of (StG.val (by simp only [execOp, h', Instr.loadAt, Instr.sureAddr, Sem.run_bind, Sem.run_pure, Result.andThen_ok, hL.ld tM hFf.1 0 (by omega) (fun j _ => by rw [Nat.zero_add])] <;> rfl) rf rfl)
      · have h' : ρ (.tmp 5) = rp (w.heap.size + 1 + 1 + 1) := hS 5 (by kernel_rfl)
        exact .of (StG.val (by simp [execOp, h', go_sem] <;> rfl) rf rfl)
      · have h' : ρ (.tmp 13) = rp (w.heap.size + 1 + 1 + 1) := hS 13 (by kernel_rfl)
        exact .of (StG.val (by simp [execOp, h', go_sem] <;> rfl) rf rfl)
      · have h' : ρ (.tmp 14) = rp (w.heap.size + 1 + 1 + 1) := hS 14 (by kernel_rfl)
        exact .of (StG.val (by simp [execOp, h', go_sem] <;> rfl) rf rfl)
      · have h' : ρ (.tmp 15) = .pointer (some ⟨w.heap.size + 1 + 1 + 1, 0, none⟩) := hS 15 (by kernel_rfl)
        have l0 := hFf.2.1.l
        exact .of (StG.val (by simp [execOp, h', l0, go_sem] <;> rfl) rf rfl)
      · have h1 : ρ (.tmp 2) = .pointer (some ⟨w.heap.size, 0, none⟩) := hS 2 (by kernel_rfl)
        have h2 : ρ (.tmp 12) = .agg L.toArray := hS 12 (by kernel_rfl)
        obtain ⟨g1, g2, ⟨v3, g3⟩, ⟨v4, g4⟩⟩ := hFf
        have hU := Upto.sets w.heap.size W L 0
        exact .of (StG.put (w' := W.setCells w.heap.size 0 L) (by simp only [execOp, h1, h2, Sem.run_bind, run_store16 hL g1, Result.andThen_ok, Sem.run_pure] <;> rfl) ⟨hU.up3 (.inl rfl), ⟨hL.set g1, g2.up hU (by omega), ⟨v3, hU.arr (n := 0) g3 (by omega)⟩, ⟨v4, hU.arr (n := 0) g4 (by omega)⟩⟩, fun j v _ hne _ _ q => stb hU (.inl rfl) j v hne q⟩ trivial)
      · have h1 : ρ (.tmp 3) = .pointer (some ⟨w.heap.size + 1, 0, none⟩) := hS 3 (by kernel_rfl)
        have h2 : ρ (.tmp 16) = .string R := hS 16 (by kernel_rfl)
        obtain ⟨g1, g2, ⟨v3, g3⟩, ⟨v4, g4⟩⟩ := hFf
        have c0 := g3.c 0 (by omega)
        have f0 := g3.z 0 (by omega)
        have hU := Upto.put (w.heap.size + 1) 0 W (.string R)
        exact .of (StG.put (w' := W.setCell ⟨w.heap.size + 1, 0, none⟩ (.string R)) (by simp [execOp, h1, h2, c0, f0, go_sem] <;> rfl) ⟨hU.up3 (.inr (.inl rfl)), ⟨hU.arr (n := 15) g1 (by omega), g2.up hU (by omega), ⟨_, V1.set g3 _⟩, ⟨v4, hU.arr (n := 0) g4 (by omega)⟩⟩, fun j v _ hne _ _ q => stb hU (.inr (.inl ⟨rfl, rfl⟩)) j v hne q⟩ (V1.set g3 _))
      · have h1 : ρ (.tmp 4) = .pointer (some ⟨w.heap.size + 2, 0, none⟩) := hS 4 (by kernel_rfl)
        obtain ⟨g1, g2, ⟨v3, g3⟩, ⟨v4, g4⟩⟩ := hFf
        have c0 := g4.c 0 (by omega)
        have f0 := g4.z 0 (by omega)
        have hU := Upto.put (w.heap.size + 2) 0 W (.int .i64 0)
        exact .of (StG.put (w' := W.setCell ⟨w.heap.size + 2, 0, none⟩ (.int .i64 0)) (by simp [execOp, h1, hc, c0, f0, go_sem] <;> rfl) ⟨hU.up3 (.inr (.inr rfl)), ⟨hU.arr (n := 15) g1 (by omega), g2.up hU (by omega), ⟨v3, hU.arr (n := 0) g3 (by omega)⟩, ⟨_, V1.set g4 _⟩⟩, fun j v _ hne _ _ q => stb hU (.inr (.inr ⟨rfl, rfl⟩)) j v hne q⟩ (V1.set g4 _))
    · intro ls x W hz9 hall hFf hW hv
      have h6 : V1 W (w.heap.size + 1) (.string R) := hv 6 (by decide)
      have h7 : V1 W (w.heap.size + 2) (.int .i64 0) := hv 7 (by decide)
      have g1 := hFf.1
      have TW : Txs W u (rmM s).cs := by
        rcases T6 with q | ⟨a, cap, q1, q2, q3⟩
        · exact .inl q
        · refine .inr ⟨a, cap, q1, q2, fun i t ht => ?_⟩
          obtain ⟨gg, e, hgg⟩ := HT.out.2 a _ _ q1
          subst e
          have q5 := q3 i t ht
          have q6 := block_lt_of_cell q5
          rw [Addr.add_mid] at q5 q6 ⊢
          rw [← q5]
          exact World.cell?_of_block (w := W6) (hW.block gg q6 (by omega) (by omega) (by omega))
      have hB7 : Below w.heap.size w W := hB6.trans ⟨hW.os, hW.tape, hW.output, hW.size, fun q hq => hW.block q (by omega) (by omega) (by omega) (by omega)⟩
      clear hv hall hFf hW
      simp only [puts, Act.put, List.setIfInBounds_toArray, List.set_cons_succ, List.set_cons_zero]
      go_wp2_with fail
      refine leaves_cons (f := 26) (args := #[.pointer (some ⟨w.heap.size, 0, none⟩), .pointer (some ⟨w.heap.size + 1, 0, none⟩), .pointer (some ⟨w.heap.size + 2, 0, none⟩)]) (by simp) (by simp [go_sem]) ?_
      refine (catch_idle w.heap.size (w.heap.size + 1) (w.heap.size + 2) W).mono ?_
      rintro e u' w'' ⟨rfl, rfl, rfl⟩
      refine ⟨.tuple #[.agg L.toArray, .string R, .int .i64 0], results_c3 rfl _ rfl rfl rfl (hL.ld tM g1 0 (by omega) (fun j _ => by rw [Nat.zero_add])) (ld_9 h6) (ld_e h7), ⟨u, ?_, TW, HT.out.2.less (by omega)⟩, hB7⟩
      rw [HV.out, HE.out, HRR.out]
end Go.Proofs.YtjdpeedghpblgaaGreatDoor
/- Package hand: what the four functions are held to. -/
set_option linter.all false
set_option maxRecDepth 100000
namespace Go.Proofs.YtjdpeedghpblgaaGreatDoor
open Go.RowKit Go.Sort Go.Shelf
theorem dg1 (k : Nat) (h : (k : Int) ≤ 255) : mkS (dgL 1 k) = mkS [(k : Int)] := by
  congr 1
  have z := dgL_len 1 (k : Int)
  have a := dgL_at 1 (k : Int) 0 (by omega)
  match hq : dgL 1 (k : Int), z, a with
  | [y], _, a =>
    have : y = dgF 1 k 0 := a
    rw [this]
    unfold dgF
    congr 1
    simp
    omega
theorem tW : CWr := by
  intro m u w hm y1 y2 y3 hu
  obtain ⟨a0, c, e, f1⟩ := hu.form
  subst e
  have CF := fun W (hb : Below w.heap.size w W) => Fit_any m hm y1 y2 y3 _ W (hu.to hb)
  unfold wmR
  cases h : ftB m
  · rw [h] at CF
    exact hWrite_no m a0 _ c w CF
  · rw [h] at CF
    have zb := bdy_size h
    have go : ∀ (k : Nat), m.k = (k : Int) → (k : Int) ≤ 255 → ∀ (a c' : Value) (F : FuncId), Enters Tryz.prog F → shV k = .agg (fnL a (.func (.func F) #[] #[]) c').toArray → (∀ W, Below w.heap.size w W → Calls Tryz.prog F #[m.v (.slice a0 m.cs.length c)] W fun e w' => e = .returned (.string (bdy m)) ∧ Below W.heap.size W w') →
        Calls Tryz.prog 8 #[m.v (.slice a0 m.cs.length c)] w fun e w' => e = .returned (.tuple #[.string (wrM m), .int .i64 0]) ∧ Below w.heap.size w w' := fun k hk hk2 a c' F EF hV C2 =>
      hWrite_yes m k hk hk2 a _ c' F EF rfl hV a0 _ c (mkS (dgL 1 k)) (bdy m) (vec 3 (bdy m)) (wrM m) rfl rfl (by omega) (by rw [dg1 k hk2, ← hk]; rfl) w CF C2
    rcases kd_cases (ft_kd h) with hk | hk | hk | hk | hk | hk
    · obtain ⟨z1, z2, z3, z4, z5, z6⟩ := ft_1 h hk
      have z7 := (ho_size z4).2
      exact go 1 hk (by omega) _ _ 35 (enters_of Tryz.func35 (by kernel_rfl) rfl) rfl (fun W hB => wCl m hk a0 _ c z1 z2 z3 z7 z6 W)
    · obtain ⟨z1, z2, z3⟩ := ft_2 h hk
      exact go 2 hk (by omega) _ _ 38 (enters_of Tryz.func38 (by kernel_rfl) rfl) rfl (fun W hB => wSv m hk a0 _ c z1 z2 z3 W)
    · obtain ⟨z1, z2⟩ := ft_8 h hk
      exact go 8 hk (by omega) _ _ 41 (enters_of Tryz.func41 (by kernel_rfl) rfl) rfl (fun W hB => wEx m hk a0 _ c z2 W)
    · obtain ⟨z1, z2, z3⟩ := ft_11 h hk
      exact go 11 hk (by omega) _ _ 44 (enters_of Tryz.func44 (by kernel_rfl) rfl) rfl (fun W hB => wCt m hk a0 c z2 (fun t ht => (z3 t ht).2) W (hu.to hB))
    · exact go 15 hk (by omega) _ _ 47 (enters_of Tryz.func47 (by kernel_rfl) rfl) rfl (fun W hB => wVf m hk hm a0 _ c W)
    · exact go 20 hk (by omega) _ _ 50 (enters_of Tryz.func50 (by kernel_rfl) rfl) rfl (fun W hB => wFi m hk a0 _ c W)
theorem tR : CRd := fun s W hz => (Read_any s hz W).mono fun e w' ⟨⟨v, h1, h2, _⟩, h3⟩ => ⟨⟨v, h1, h2⟩, h3⟩
theorem tF : CFt := fun m u W hm hu => Fit_any m hm.ok hm.ln hm.tx hm.nm u W hu
theorem tS : CSm := fun m o u v W hm ho hu hv => hSame_any m o hm.ok ho.ok u v hm.ln W hu hv
end Go.Proofs.YtjdpeedghpblgaaGreatDoor
