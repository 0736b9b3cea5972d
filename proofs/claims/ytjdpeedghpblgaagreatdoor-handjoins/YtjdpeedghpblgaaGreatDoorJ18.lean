/- Texts joined: T17, T18, HW. -/
import Derived.Lib.Builder
import Derived.Test.YtjdpeedghpblgaaGreatDoorJ17
import Derived.Test.YtjdpeedghpblgaaGreatDoorJ2
/- The reference's guess of any kind; what is guessed of a message's own bytes is the message. -/
set_option linter.all false
set_option maxRecDepth 100000
namespace Go.Proofs.YtjdpeedghpblgaaGreatDoor
open Go.RowKit Go.Sort Go.Lib
def gsX (s : ByteArray) : ByteArray := tkA 2 (bh (tkR 1 (bh s 34)) 6)
/-- A message, as far as one is found. -/
def gsM (k : Int) (s : ByteArray) : Mg :=
  if k = 1 then ⟨1, fs (bh s 2) 32, tkA 1 (bh s 34), lsN (gsX s) 32, tkA 2 (bh (tkA 2 (tkA 2 (bh (gsX s) 2))) 1), alO (bh (tkR 2 (bh (gsX s) 2)) 16), [], 0, 0, nS⟩
  else if k = 2 then ⟨2, fs (bh s 2) 32, tkA 1 (bh s 34), lsN s 32, nS, nS, [], 0, 0, nS⟩
  else if k = 8 then ⟨8, nS, nS, nS, nS, alO (tkA 2 s), [], 0, 0, nS⟩
  else if k = 11 then ⟨11, nS, nS, nS, nS, nS, gsC 5 (tkA 3 (bh s 1)) [], 0, 0, nS⟩
  else if k = 15 then ⟨15, nS, nS, nS, nS, nS, [], sgA (tkA 2 (bh s 2)), sgB (tkA 2 (bh s 2)), nS⟩
  else ⟨20, nS, nS, nS, nS, nS, [], 0, 0, s⟩
theorem fs_size (s : ByteArray) (n : Nat) : (fs s n).size ≤ s.size := by
  unfold fs
  split
  · exact Nat.zero_le _
  · rw [ByteArray.size_extract]; omega
theorem bh_i (s : ByteArray) (n : Nat) (I : Int) (hI : (n : Int) = I) (hn : n ≤ 1000000) (w : World) : Calls Tryz.prog 59 #[.string s, .int .i64 I] w fun e w' => e = .returned (.string (bh s n)) ∧ Below w.heap.size w w' := by rw [← hI]; exact rbehind_any s n hn w
theorem fs_i (s : ByteArray) (n : Nat) (I : Int) (hI : (n : Int) = I) (hn : n ≤ 1000000) (w : World) : Calls Tryz.prog 58 #[.string s, .int .i64 I] w fun e w' => e = .returned (.string (fs s n)) ∧ Below w.heap.size w w' := by rw [← hI]; exact rfirst_any s n hn w
theorem tk_i (k : Nat) (I : Int) (hI : (k : Int) = I) (s : ByteArray) (hk : k ≤ 3) (hz : s.size ≤ 1000000) (w : World) : Calls Tryz.prog 60 #[.int .i64 I, .string s] w fun e w' => e = .returned (.tuple #[.string (tkA k s), .string (tkR k s)]) ∧ Below w.heap.size w w' := by rw [← hI]; exact rtaken_any k s hk (by omega) w
theorem ls_run (x : ByteArray) (h : 32 ≤ x.size) (W : World) : (Instr.slice 9 (.string x) (some (.int .i64 ((x.size : Int) - 32))) none none).run Tryz.prog W = .ok (.string (lsN x 32)) W := by
  have := run_slice_string_l (P := Tryz.prog) W 9 x Tryz.underlying9 .i64 ((x.size : Int) - 32) (by omega) (by omega)
  unfold lsN
  rw [if_pos h]
  rw [show ((x.size : Int) - 32).toNat = x.size - 32 by omega] at this
  exact this
theorem ls_no (x : ByteArray) (h : ¬ 32 ≤ x.size) : lsN x 32 = nS := by unfold lsN; rw [if_neg h]
theorem rguess_any (k : Int) (hk : kdB k = true) (s : ByteArray) (hs : s.size ≤ 1000000) (w : World) :
    Calls Tryz.prog 29 #[.int .i64 k, .string s] w fun e w' => (∃ v, e = .returned ((gsM k s).v v) ∧ Txs w' v (gsM k s).cs ∧ Frs w.heap.size v) ∧ Below w.heap.size w w' := by
  have nil : ∀ (m : Mg) (h : m.cs = []) (w : World), Calls Tryz.prog 29 #[.int .i64 k, .string s] w (fun e w' => e = .returned (m.v nC) ∧ Below w.heap.size w w') → Calls Tryz.prog 29 #[.int .i64 k, .string s] w fun e w' => (∃ v, e = .returned (m.v v) ∧ Txs w' v m.cs ∧ Frs w.heap.size v) ∧ Below w.heap.size w w' := fun m h w c =>
    c.mono fun e w' ⟨h1, h2⟩ => ⟨⟨nC, h1, by rw [h]; exact Or.inl ⟨rfl, rfl⟩, Frs.nil _⟩, h2⟩
  have b2 := bh_size s 2
  have b34 := bh_size s 34
  have b1 := bh_size s 1
  have t1 := tk_size 1 (bh s 34)
  unfold gsM
  rcases kd_cases hk with h | h | h | h | h | h <;> subst h
  · rw [if_pos rfl]
    refine nil _ rfl w ?_
    have c6 := bh_size (tkR 1 (bh s 34)) 6
    have cX := tk_size 2 (bh (tkR 1 (bh s 34)) 6)
    have zX : (gsX s).size ≤ s.size := by unfold gsX; omega
    have d2 := bh_size (gsX s) 2
    have dY := tk_size 2 (bh (gsX s) 2)
    have dZ := tk_size 2 (tkA 2 (bh (gsX s) 2))
    have e1 := bh_size (tkA 2 (tkA 2 (bh (gsX s) 2))) 1
    have e16 := bh_size (tkR 2 (bh (gsX s) 2)) 16
    have C6 := fun W => tk_i 2 2 rfl (bh (tkR 1 (bh s 34)) 6) (by omega) (by omega) W
    by_cases h32 : 32 ≤ (gsX s).size
    · exact rguess_1y s _ _ _ _ (gsX s) _ _ _ _ _ _ _ _ _ _ _ _ _ _ w (fun W => bh_i s 2 2 rfl (by omega) W) (fun W => fs_i _ 32 32 rfl (by omega) W) (fun W => bh_i s 34 34 rfl (by omega) W) (fun W => tk_i 1 1 rfl _ (by omega) (by omega) W) (fun W => bh_i _ 6 6 rfl (by omega) W) C6 (fun W => bh_i _ 2 2 rfl (by omega) W) (fun W => tk_i 2 2 rfl _ (by omega) (by omega) W) (fun W => tk_i 2 2 rfl _ (by omega) (by omega) W) (fun W => bh_i _ 1 1 rfl (by omega) W) (fun W => tk_i 2 2 rfl _ (by omega) (by omega) W) (fun W => bh_i _ 16 16 rfl (by omega) W) (fun W => ralpnOf_any _ (by omega) W) (by omega) (by omega) (fun W => ls_run _ h32 W)
    · rw [ls_no _ h32]
      exact rguess_1n s _ _ _ _ (gsX s) _ _ _ _ _ _ _ _ _ _ _ _ _ w (fun W => bh_i s 2 2 rfl (by omega) W) (fun W => fs_i _ 32 32 rfl (by omega) W) (fun W => bh_i s 34 34 rfl (by omega) W) (fun W => tk_i 1 1 rfl _ (by omega) (by omega) W) (fun W => bh_i _ 6 6 rfl (by omega) W) C6 (fun W => bh_i _ 2 2 rfl (by omega) W) (fun W => tk_i 2 2 rfl _ (by omega) (by omega) W) (fun W => tk_i 2 2 rfl _ (by omega) (by omega) W) (fun W => bh_i _ 1 1 rfl (by omega) W) (fun W => tk_i 2 2 rfl _ (by omega) (by omega) W) (fun W => bh_i _ 16 16 rfl (by omega) W) (fun W => ralpnOf_any _ (by omega) W) (by omega)
  · rw [if_neg (by decide), if_pos rfl]
    refine nil _ rfl w ?_
    by_cases h32 : 32 ≤ s.size
    · exact rguess_2y s _ _ _ _ _ _ w (fun W => bh_i s 2 2 rfl (by omega) W) (fun W => fs_i _ 32 32 rfl (by omega) W) (fun W => bh_i s 34 34 rfl (by omega) W) (fun W => tk_i 1 1 rfl _ (by omega) (by omega) W) (by omega) (by omega) (fun W => ls_run _ h32 W)
    · rw [ls_no _ h32]
      exact rguess_2n s _ _ _ _ _ w (fun W => bh_i s 2 2 rfl (by omega) W) (fun W => fs_i _ 32 32 rfl (by omega) W) (fun W => bh_i s 34 34 rfl (by omega) W) (fun W => tk_i 1 1 rfl _ (by omega) (by omega) W) (by omega)
  · rw [if_neg (by decide), if_neg (by decide), if_pos rfl]
    refine nil _ rfl w ?_
    have t2 := tk_size 2 s
    exact rguess_8 s _ _ _ w (fun W => tk_i 2 2 rfl _ (by omega) (by omega) W) (fun W => ralpnOf_any _ (by omega) W)
  · rw [if_neg (by decide), if_neg (by decide), if_neg (by decide), if_pos rfl]
    have t3 := tk_size 3 (bh s 1)
    exact rguess_11 s _ _ _ w (fun W => bh_i s 1 1 rfl (by omega) W) (fun W => tk_i 3 3 rfl _ (by omega) (by omega) W) (by omega)
  · rw [if_neg (by decide), if_neg (by decide), if_neg (by decide), if_neg (by decide), if_pos rfl]
    refine nil _ rfl w ?_
    have t2 := tk_size 2 (bh s 2)
    exact rguess_15 s _ _ _ _ _ w (fun W => bh_i s 2 2 rfl (by omega) W) (fun W => tk_i 2 2 rfl _ (by omega) (by omega) W) (fun W => rSign_any _ (by omega) W)
  · rw [if_neg (by decide), if_neg (by decide), if_neg (by decide), if_neg (by decide), if_neg (by decide)]
    exact nil _ rfl w (rguess_20 s w hs)
end Go.Proofs.YtjdpeedghpblgaaGreatDoor
/- What is guessed of a message's own bytes is the message. -/
set_option linter.all false
set_option maxRecDepth 100000
namespace Go.Proofs.YtjdpeedghpblgaaGreatDoor
open Go.RowKit Go.Sort Go.Lib
theorem rd_parts (t : Int) (b more : ByteArray) (t0 : 0 ≤ t) (t1 : t < 256) (hb : b.size ≤ 65535) : rdE (wrS t b ++ more) = 0 ∧ bt (wrS t b ++ more) 0 = t ∧ rdB (wrS t b ++ more) = b ∧ rdT (wrS t b ++ more) = more := by
  obtain ⟨h1, h2, _, _⟩ := rd_wr t b more t0 t1 hb
  have h := rd_back t b more t0 t1 hb
  unfold rdR at h
  rw [if_pos h1, h2] at h
  unfold rdB rdT
  generalize (wrS t b ++ more).extract (rdH (wrS t b ++ more)) (rdH (wrS t b ++ more) + rdN (wrS t b ++ more)) = p at *
  generalize (wrS t b ++ more).extract (rdH (wrS t b ++ more) + rdN (wrS t b ++ more)) (wrS t b ++ more).size = q at *
  injection h with h
  injection h with h
  simp only [List.cons.injEq, Value.agg.injEq, Value.string.injEq] at h
  obtain ⟨h3, h4, _⟩ := h
  have h5 := congrArg Array.toList h3
  simp at h5
  exact ⟨h1, h2, h5, h4⟩
theorem wr_pos (t : Int) (b more : ByteArray) : (wrS t b ++ more).size ≠ 0 := by
  unfold wrS
  rw [ap_size, ap_size, mkS_size, List.length_cons]
  omega
theorem alG_step (f : Nat) (t : Int) (b more : ByteArray) (t0 : 0 ≤ t) (t1 : t < 256) (hb : b.size ≤ 65535) (acc : List (Int × ByteArray)) : alG (f + 1) (wrS t b ++ more) acc = alG f more (acc ++ [(t, b)]) := by
  obtain ⟨h1, h2, h3, h4⟩ := rd_parts t b more t0 t1 hb
  rw [alG, if_neg (wr_pos t b more), if_pos h1, h2, h3, h4]
theorem alG_end (f : Nat) (acc : List (Int × ByteArray)) : alG f nS acc = some acc := by cases f <;> rfl
theorem sg_back (x y : Int) (x0 : 0 ≤ x) (x1 : x < top256) (y0 : 0 ≤ y) (y1 : y < top256) : sgA (sgS x y) = x ∧ sgB (sgS x y) = y := by
  have a := inL_len x
  have b := inL_len y
  have e1 := wrS_size 2 (mkS (inL x)) (by rw [mkS_size]; omega)
  have e2 := wrS_size 2 (mkS (inL y)) (by rw [mkS_size]; omega)
  rw [mkS_size] at e1 e2
  have h1 : alL (sgS x y) = [(48, wrS 2 (mkS (inL x)) ++ wrS 2 (mkS (inL y)))] := by
    unfold alL sgS
    have := alG_step 63 48 (wrS 2 (mkS (inL x)) ++ wrS 2 (mkS (inL y))) nS (by decide) (by decide) (by rw [ap_size]; omega) []
    rw [ap_nS] at this
    rw [this, alG_end]
    rfl
  have h2 : alL (wrS 2 (mkS (inL x)) ++ wrS 2 (mkS (inL y))) = [(2, mkS (inL x)), (2, mkS (inL y))] := by
    unfold alL
    rw [alG_step 63 2 _ _ (by decide) (by decide) (by rw [mkS_size]; omega)]
    have := alG_step 62 2 (mkS (inL y)) nS (by decide) (by decide) (by rw [mkS_size]; omega) ([] ++ [(2, mkS (inL x))])
    rw [ap_nS] at this
    rw [this, alG_end]
    rfl
  have h3 : wiL (alL (sgS x y)) = [(2, mkS (inL x)), (2, mkS (inL y))] := by
    rw [h1, wiL, if_pos rfl, h2]
  have n : ∀ N : Int, 0 ≤ N → N < top256 → tiN (mkS (inL N)) = N := fun N n0 n1 => by
    obtain ⟨p, q⟩ := int_back N n0 n1
    unfold tiN
    rw [if_pos p, q]
  unfold sgA sgB
  rw [h3]
  exact ⟨n x x0 x1, n y y0 y1⟩
theorem gsC_back (l : List ByteArray) (h : ∀ c ∈ l, c.size ≤ 2048) : ∀ (f : Nat) (acc : List ByteArray), l.length ≤ f → gsC f (cfS l) acc = acc ++ l := by
  induction l with
  | nil =>
    intro f acc _
    rw [List.append_nil]
    cases f with
    | zero => rfl
    | succ f => rw [gsC]; exact if_pos rfl
  | cons c l ih =>
    intro f acc hl
    cases f with
    | zero => simp at hl
    | succ f =>
      obtain ⟨p, q⟩ := cf_step c l (h c (List.mem_cons_self ..))
      have z := (cfS_size (c :: l) h).2 (by simp)
      rw [gsC, if_neg z, p, q, ih (fun x hx => h x (List.mem_cons_of_mem _ hx)) f _ (by simp at hl; omega), List.append_assoc]
      rfl
theorem gs_back (m : Mg) (hm : m.ok) (h : ftB m = true) : gsM m.k (bdy m) = m := by
  have ho := ft_on h
  unfold onM at ho
  unfold gsM bdy
  rcases kd_cases (ft_kd h) with hk | hk | hk | hk | hk | hk
  · obtain ⟨z1, z2, z3, z4, z5, z6⟩ := ft_1 h hk
    have z7 := (ho_size z4).2
    rw [if_pos hk] at ho
    rw [if_pos hk, if_pos hk]
    obtain ⟨p1, p2, p3, p4, p5, p6⟩ := cl_back m.rn m.ss m.nm m.al m.sh z1 z3 z7 z6 z2 _ rfl
    unfold gsX
    rw [p3, p1, p2, p4, p5, p6]
    exact ho.symm
  · obtain ⟨z1, z2, z3⟩ := ft_2 h hk
    rw [if_neg (by omega), if_pos hk] at ho
    rw [if_neg (by omega), if_pos hk, if_neg (by omega), if_pos hk]
    obtain ⟨p1, p2, p3⟩ := sv_back m.rn m.ss m.sh z1 z3 z2 _ rfl
    rw [p1, p2, p3]
    exact ho.symm
  · obtain ⟨z1, z2⟩ := ft_8 h hk
    rw [if_neg (by omega), if_neg (by omega), if_pos hk] at ho
    rw [if_neg (by omega), if_neg (by omega), if_pos hk, if_neg (by omega), if_neg (by omega), if_pos hk, ex_back m.al z2]
    exact ho.symm
  · obtain ⟨z1, z2, z3⟩ := ft_11 h hk
    rw [if_neg (by omega), if_neg (by omega), if_neg (by omega), if_pos hk] at ho
    rw [if_neg (by omega), if_neg (by omega), if_neg (by omega), if_pos hk, if_neg (by omega), if_neg (by omega), if_neg (by omega), if_pos hk, ct_back m.cs (fun c hc => (z3 c hc).2) z2, gsC_back m.cs (fun c hc => (z3 c hc).2) 5 [] (by omega), List.nil_append]
    exact ho.symm
  · rw [if_neg (by omega), if_neg (by omega), if_neg (by omega), if_neg (by omega), if_pos hk] at ho
    have zs := sgS_size m.x m.y
    obtain ⟨p, q⟩ := sg_back m.x m.y hm.1 hm.2.1 hm.2.2.1 hm.2.2.2
    rw [if_neg (by omega), if_neg (by omega), if_neg (by omega), if_neg (by omega), if_pos hk, if_neg (by omega), if_neg (by omega), if_neg (by omega), if_neg (by omega), if_pos hk, vf_back (sgS m.x m.y) (by omega), p, q]
    exact ho.symm
  · rw [if_neg (by omega), if_neg (by omega), if_neg (by omega), if_neg (by omega), if_neg (by omega), if_pos hk] at ho
    rw [if_neg (by omega), if_neg (by omega), if_neg (by omega), if_neg (by omega), if_neg (by omega), if_neg (by omega), if_neg (by omega), if_neg (by omega), if_neg (by omega), if_neg (by omega)]
    exact ho.symm
end Go.Proofs.YtjdpeedghpblgaaGreatDoor
/- strings.Builder, walked: texts are written to it. -/
set_option linter.all false
set_option maxRecDepth 100000
namespace Go.Proofs.YtjdpeedghpblgaaGreatDoor
open Go.RowKit Go.Sort Go.Shelf
set_option maxHeartbeats 1000000 in
theorem ck_fresh (b : Nat) (w : World) (h0 : w.cell? ⟨b, 0, none⟩ = some (.pointer none)) (hs : w.shape? b = some (85, 2)) (hf : w.frozen? ⟨b, 0, none⟩ = false) :
    Calls Tryz.prog 98 #[.pointer (some ⟨b, 0, none⟩)] w fun e w' => e = .returned (.tuple #[]) ∧ w' = w.setCell ⟨b, 0, none⟩ (.pointer (some ⟨b, 0, none⟩)) := by
  obtain ⟨j, hj, hjs⟩ := Option.map_eq_some_iff.1 (show (Tryz.prog.info? 85).map (·.size) = some 2 by kernel_rfl)
  go_enter Tryz.func98, Tryz.ntmps98
  go_wp2
  rw [Lib.run_to_unsafe w ⟨b, 0, none⟩ Tryz.underlying83 Tryz.underlying131 hj (by rw [hjs]; decide) hs (Nat.zero_lt_succ 1)]
  simp only [Result.andThen]
  rw [Oper.upon_value]
  go_wp2
  rw [run_callFunc_extern Tryz.func115 (by kernel_rfl) (by kernel_rfl) (by kernel_rfl) (e := Extern.AbiNoEscape.same) (by kernel_rfl)]
  rw [Lib.run_noEscape]
  simp only [Result.andThen]
  rw [Oper.upon_value]
  go_wp2
  rw [Lib.run_from_unsafe w ⟨b, 0, none⟩ Tryz.underlying131 Tryz.underlying83 hj hs (by kernel_rfl)]
  simp only [Result.andThen]
  rw [Oper.upon_value]
  go_wp2
  go_end0
  exact ⟨rfl, rfl⟩
set_option maxHeartbeats 1000000 in
theorem ck_used (b : Nat) (w : World) (h0 : w.cell? ⟨b, 0, none⟩ = some (.pointer (some ⟨b, 0, none⟩))) :
    Calls Tryz.prog 98 #[.pointer (some ⟨b, 0, none⟩)] w fun e w' => e = .returned (.tuple #[]) ∧ w' = w := by
  obtain ⟨j, hj, _⟩ := Option.map_eq_some_iff.1 (show (Tryz.prog.info? 85).map (·.size) = some 2 by kernel_rfl)
  go_enter Tryz.func98, Tryz.ntmps98
  go_wp2
  rw [Lib.run_neq_ptr_same w _ Tryz.underlying83 hj]
  go_wp2
  go_end0
  exact ⟨rfl, rfl⟩
theorem ck_any (B b : Nat) (bs : List Value) (w : World) (h : Lib.IsBuilder 85 5 B b bs w) :
    Calls Tryz.prog 98 #[.pointer (some ⟨b, 0, none⟩)] w fun e w' => e = .returned (.tuple #[]) ∧ (Lib.BuilderAt 85 5 B b (.pointer (some ⟨b, 0, none⟩)) bs w' ∧ Below B w w') := by
  rcases h with h | h
  · exact (ck_fresh b w h.cell0 h.shape h.frozen0).mono fun e w' ⟨h1, h2⟩ => by subst h2; exact ⟨h1, h.used _, (Below.refl B w).setCell (p := ⟨b, 0, none⟩) h.1 _⟩
  · exact (ck_used b w h.cell0).mono fun e w' ⟨h1, h2⟩ => by subst h2; exact ⟨h1, h, Below.refl B _⟩
set_option maxHeartbeats 2000000 in
theorem bw_any (B b : Nat) (bs : List Value) (s : ByteArray) (w : World) (h : Lib.IsBuilder 85 5 B b bs w) (hl : bs.length + s.size ≤ 1000000) (hB : B ≤ w.heap.size) :
    Calls Tryz.prog 66 #[.pointer (some ⟨b, 0, none⟩), .string s] w fun e w' => e = .returned (.tuple #[.int .i64 s.size, .nilIface]) ∧ (Lib.BuilderAt 85 5 B b (.pointer (some ⟨b, 0, none⟩)) (bs ++ Lib.strCells s) w' ∧ Below B w w') := by
  obtain ⟨i0, hi, hz0, hz1, hz2⟩ := info_parts Tryz.info5
  have K := ck_any B b bs w h
  go_enter Tryz.func66, Tryz.ntmps66
  go_wp2_with fail
  refine K.mono ?_
  rintro e w1 ⟨rfl, ⟨hBb, v, hbk, hown, hne⟩, hb1⟩
  have c1 : w1.cell? ⟨b, 1, none⟩ = some v := by rw [Lib.cell_of_heap hbk]; rfl
  have s1 := hb1.size
  have lt : b < w1.heap.size := (Array.getElem?_eq_some_iff.1 hbk).1
  go_wp2_with (at_builtin; refine Lib.wpList_append_own_string _ rfl _ _ 61 9 rfl B 5 i0 Tryz.underlying61 Tryz.underlying9 hi hz0 hz1 hz2 _ _ _ rfl hown s rfl (by unfold maxLen; omega) (by omega) (by omega) ?_)
  intro v' w2 hown' hg _
  have hb2 : w2.heap[b]? = some (.cells #[.pointer (some ⟨b, 0, none⟩), v] 85 (0, 0)) := (hg.block b lt (fun e => hne e.symm)).trans hbk
  have d1 : w2.cell? ⟨b, 1, none⟩ = some v := by rw [Lib.cell_of_heap hb2]; rfl
  have f1 : w2.frozen? ⟨b, 1, none⟩ = false := Lib.frozen_of_heap hb2 1
  obtain ⟨ao, cap, rfl⟩ := own_frm hown'
  have HO : Hid _ := hown'
  have HG : Hid _ := hb1.grown hg (by omega) (fun k hk => (hown.lt k hk).1)
  clear hown' hg hown hbk c1
  go_wp2
  go_ret2
  refine ⟨rfl, ?_, ?_⟩
  · exact Lib.BuilderAt.put (T := 85) (e := 5) hBb hb2 (bs' := bs ++ Lib.strCells s) (by rw [List.length_append, Lib.strCells_length]; exact HO.out) (by decide)
  · exact HG.out.setCell (p := ⟨b, 1, none⟩) hBb _
end Go.Proofs.YtjdpeedghpblgaaGreatDoor
