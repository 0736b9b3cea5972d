/- Texts joined: T4, HB. -/
import Derived.Test.YtjdpeedghpblgaaGreatDoorJ3
import Derived.Test.YtjdpeedghpblgaaGreatDoorJ2
/- Messages as one letter; the reference's Same of any two. -/
set_option linter.all false
set_option maxRecDepth 100000
namespace Go.Proofs.YtjdpeedghpblgaaGreatDoor
open Go.RowKit Go.Sort
/-- A message. -/
structure Mg where
  k : Int
  rn : ByteArray
  ss : ByteArray
  sh : ByteArray
  nm : ByteArray
  al : ByteArray
  cs : List ByteArray
  x : Int
  y : Int
  mc : ByteArray
/-- Its numbers are numbers. -/
def Mg.ok (m : Mg) : Prop := 0 ≤ m.x ∧ m.x < top256 ∧ 0 ≤ m.y ∧ m.y < top256
/-- Its value, the row of texts given. -/
abbrev Mg.v (m : Mg) (cv : Value) : Value := .agg #[.int .i64 m.k, .string m.rn, .string m.ss, .string m.sh, .string m.nm, .string m.al, cv, .int .u64 (lim m.x 0), .int .u64 (lim m.x 1), .int .u64 (lim m.x 2), .int .u64 (lim m.x 3), .int .u64 (lim m.y 0), .int .u64 (lim m.y 1), .int .u64 (lim m.y 2), .int .u64 (lim m.y 3), .string m.mc]
def smB (m o : Mg) : Bool := decide (m.k = o.k ∧ m.rn = o.rn ∧ m.ss = o.ss ∧ m.sh = o.sh ∧ m.nm = o.nm ∧ m.al = o.al ∧ m.x = o.x ∧ m.y = o.y ∧ m.mc = o.mc ∧ m.cs = o.cs)
theorem smB_iff (m o : Mg) : smB m o = true ↔ m = o := by
  unfold smB
  rw [decide_eq_true_iff]
  constructor
  · intro h
    cases m; cases o
    simp only at h
    obtain ⟨h1, h2, h3, h4, h5, h6, h7, h8, h9, h10⟩ := h
    subst h1 h2 h3 h4 h5 h6 h7 h8 h9 h10
    rfl
  · intro h
    subst h
    exact ⟨rfl, rfl, rfl, rfl, rfl, rfl, rfl, rfl, rfl, rfl⟩
theorem smB_no {m o : Mg} (h : smB m o = false) : m ≠ o := fun e => by rw [(smB_iff m o).2 e] at h; cases h
/-- A number is its four parts. -/
theorem lim_all {N M : Int} (h0 : 0 ≤ N) (h1 : N < top256) (g0 : 0 ≤ M) (g1 : M < top256) (e0 : lim N 0 = lim M 0) (e1 : lim N 1 = lim M 1) (e2 : lim N 2 = lim M 2) (e3 : lim N 3 = lim M 3) : N = M := by
  rw [lim0, lim0] at e0
  rw [lim1, lim1] at e1
  rw [lim2, lim2] at e2
  rw [lim3, lim3] at e3
  unfold top256 at h1 g1
  omega
theorem rSame_any (m o : Mg) (hm : m.ok) (ho : o.ok) (u v : Value) (z1 : m.cs.length ≤ 9223372036854775807) (y1 : ∀ t ∈ m.cs, t.size ≤ maxLen) (y2 : ∀ t ∈ o.cs, t.size ≤ maxLen) (w : World) (hu : Txs w u m.cs) (hv : Txs w v o.cs) :
    Calls Tryz.prog 14 #[m.v u, o.v v] w fun e w' => e = .returned (.bool (smB m o)) ∧ Below w.heap.size w w' := by
  obtain ⟨k, rn, ss, sh, nm, al, cs, x, y, mc⟩ := m
  obtain ⟨k', rn', ss', sh', nm', al', cs', x', y', mc'⟩ := o
  obtain ⟨m0, m1, m2, m3⟩ := hm
  obtain ⟨o0, o1, o2, o3⟩ := ho
  unfold smB Mg.v
  simp only at *
  have neg : ∀ {p : Prop} [Decidable p], ¬ p → decide p = false := fun h => decide_eq_false h
  by_cases h1 : k = k'
  case neg => rw [neg (fun h => h1 h.1)]; exact rSame_0 _ _ _ _ _ _ _ _ _ _ _ _ _ _ _ _ _ _ _ _ _ _ _ _ _ _ _ _ _ _ _ _ h1 w
  subst h1
  by_cases h2 : rn = rn'
  case neg => rw [neg (fun h => h2 h.2.1)]; exact rSame_1 _ 0 _ _ _ _ _ _ _ _ _ _ _ _ _ _ _ _ _ _ _ _ _ _ _ _ _ _ _ _ _ _ h2 w
  subst h2
  by_cases h3 : ss = ss'
  case neg => rw [neg (fun h => h3 h.2.2.1)]; exact rSame_2 _ 0 _ _ _ _ _ nS _ _ _ _ _ _ _ _ _ _ _ _ _ _ _ _ _ _ _ _ _ _ _ _ h3 w
  subst h3
  by_cases h4 : sh = sh'
  case neg => rw [neg (fun h => h4 h.2.2.2.1)]; exact rSame_3 _ 0 _ _ _ _ _ nS nS _ _ _ _ _ _ _ _ _ _ _ _ _ _ _ _ _ _ _ _ _ _ _ h4 w
  subst h4
  by_cases h5 : nm = nm'
  case neg => rw [neg (fun h => h5 h.2.2.2.2.1)]; exact rSame_4 _ 0 _ _ _ _ _ nS nS nS _ _ _ _ _ _ _ _ _ _ _ _ _ _ _ _ _ _ _ _ _ _ h5 w
  subst h5
  by_cases h6 : al = al'
  case neg => rw [neg (fun h => h6 h.2.2.2.2.2.1)]; exact rSame_5 _ 0 _ _ _ _ _ nS nS nS nS _ _ _ _ _ _ _ _ _ _ _ _ _ _ _ _ _ _ _ _ _ h6 w
  subst h6
  by_cases h7 : x = x' ∧ y = y'
  case neg =>
    rw [neg (fun h => h7 ⟨h.2.2.2.2.2.2.1, h.2.2.2.2.2.2.2.1⟩)]
    refine rSame_6 _ 0 _ _ _ _ _ nS nS nS nS nS _ _ _ _ _ _ _ _ _ _ _ _ _ _ _ _ _ _ _ _ ?_ w
    cases hq : ((lim x 0 == lim x' 0 && (lim x 1 == lim x' 1 && (lim x 2 == lim x' 2 && lim x 3 == lim x' 3))) && (lim y 0 == lim y' 0 && (lim y 1 == lim y' 1 && (lim y 2 == lim y' 2 && lim y 3 == lim y' 3))))
    · intro W; rw [eqSg, hq]
    · simp only [Bool.and_eq_true, beq_iff_eq] at hq
      obtain ⟨⟨a0, a1, a2, a3⟩, b0, b1, b2, b3⟩ := hq
      exact absurd ⟨lim_all m0 m1 o0 o1 a0 a1 a2 a3, lim_all m2 m3 o2 o3 b0 b1 b2 b3⟩ h7
  obtain ⟨h7, h8⟩ := h7
  subst h7 h8
  by_cases h9 : mc = mc'
  case neg => rw [neg (fun h => h9 h.2.2.2.2.2.2.2.2.1)]; exact rSame_7 _ 0 _ _ _ _ _ nS nS nS nS nS _ _ _ _ _ _ _ _ _ _ _ _ 0 0 0 0 0 0 0 0 h9 w
  subst h9
  obtain ⟨a0, c, rfl, f1⟩ := hu.form
  obtain ⟨b0, c', rfl, f2⟩ := hv.form
  by_cases h10 : cs.length = cs'.length
  case neg =>
    rw [neg (fun h => h10 (congrArg List.length h.2.2.2.2.2.2.2.2.2))]
    exact rSame_8 _ 0 _ _ _ _ _ nS nS nS nS nS _ nS _ _ _ _ _ _ _ _ _ _ 0 0 0 0 0 0 0 0 _ _ _ _ _ _ rfl rfl h10 w
  have := rSame_9 k rn ss sh nm al mc (lim x 0) (lim x 1) (lim x 2) (lim x 3) (lim y 0) (lim y 1) (lim y 2) (lim y 3) cs.length c c' a0 b0 cs cs' rfl h10.symm z1 w y1 y2 f1 f2
  rw [← h10]
  refine this.mono ?_
  rintro e w' ⟨rfl, hb⟩
  refine ⟨?_, hb⟩
  congr 2
  by_cases h11 : cs = cs'
  · rw [decide_eq_true h11, decide_eq_true ⟨rfl, rfl, rfl, rfl, rfl, rfl, rfl, rfl, rfl, h11⟩]
  · rw [decide_eq_false h11, decide_eq_false (fun h => h11 h.2.2.2.2.2.2.2.2.2)]
end Go.Proofs.YtjdpeedghpblgaaGreatDoor
/- Package hand: the reader's numbers, vectors, and what has to stand there. -/
set_option linter.all false
set_option maxRecDepth 100000
namespace Go.Proofs.YtjdpeedghpblgaaGreatDoor
open Go.RowKit Go.Sort
/-- But for one block nothing that was there has turned. -/
structure Upto (p : Nat) (w w' : World) : Prop where
  os : w'.os = w.os
  tape : w'.tape = w.tape
  output : w'.output = w.output
  size : w.heap.size ≤ w'.heap.size
  block : ∀ k, k < w.heap.size → k ≠ p → w'.heap[k]? = w.heap[k]?
theorem Upto.refl (p : Nat) (w : World) : Upto p w w := ⟨rfl, rfl, rfl, Nat.le_refl _, fun _ _ _ => rfl⟩
theorem Upto.trans {p : Nat} {a b c : World} (h : Upto p a b) (k : Upto p b c) : Upto p a c :=
  ⟨k.os.trans h.os, k.tape.trans h.tape, k.output.trans h.output, Nat.le_trans h.size k.size, fun i hi hp => (k.block i (Nat.lt_of_lt_of_le hi h.size) hp).trans (h.block i hi hp)⟩
theorem Below.upto {w w' : World} (p : Nat) (h : Below w.heap.size w w') : Upto p w w' := ⟨h.os, h.tape, h.output, h.size, fun k hk _ => h.block k hk⟩
theorem Upto.below {p n : Nat} {w w' : World} (h : Upto p w w') (hn : n ≤ p) (hw : n ≤ w.heap.size) : Below n w w' := ⟨h.os, h.tape, h.output, h.size, fun k hk => h.block k (by omega) (by omega)⟩
theorem Upto.put (p i : Nat) (w : World) (v : Value) : Upto p w (w.setCell ⟨p, i, none⟩ v) := ⟨rfl, rfl, rfl, by simp [World.setCell], fun k _ hp => Below.heap_setCell _ _ _ _ (by simpa using hp)⟩
theorem Upto.cell {p : Nat} {w w' : World} (h : Upto p w w') {a : Addr} (hb : a.block < w.heap.size) (hp : a.block ≠ p) : w'.cell? a = w.cell? a := by
  exact World.cell?_of_block (w := w) (h.block a.block hb hp)
theorem Upto.frozen {p : Nat} {w w' : World} (h : Upto p w w') {a : Addr} (hb : a.block < w.heap.size) (hp : a.block ≠ p) : w'.frozen? a = w.frozen? a := by
  exact World.frozen?_of_block (w := w) (h.block a.block hb hp)
theorem Rdr.lt {w : World} {p : Nat} {s : ByteArray} {e : Int} (h : Rdr w p s e) : p < w.heap.size := block_lt_of_cell h.l
theorem Rdr.to {w w' : World} {p : Nat} {s : ByteArray} {e : Int} (h : Rdr w p s e) (hb : Below w.heap.size w w') : Rdr w' p s e :=
  ⟨(hb.cell (block_lt_of_cell h.l)).trans h.l, (hb.cell (block_lt_of_cell h.k)).trans h.k, (hb.frozen (block_lt_of_cell h.l)).trans h.z⟩
theorem Rdr.put {w : World} {p : Nat} {s : ByteArray} {e : Int} (h : Rdr w p s e) (r : ByteArray) : Rdr (w.setCell ⟨p, 0, none⟩ (.string r)) p r e := by
  obtain ⟨h1, h2, h3⟩ := h
  refine ⟨World.cell?_setCell_same' _ _ _ (by rw [h1]; rfl), ?_, ?_⟩
  · rw [World.cell?_setCell_other _ _ _ _ (by simp)]; exact h2
  · rw [World.frozen?_setCell]; exact h3
theorem ex_to (s : ByteArray) (a : Nat) : (s.extract a s.size).data.toList = s.data.toList.drop a := by
  rw [ext_list]; exact List.take_of_length_le (by rw [List.length_drop, len_list]; omega)
theorem ex_ex (s : ByteArray) (a b : Nat) : (s.extract a s.size).extract b (s.extract a s.size).size = s.extract (a + b) s.size := ba_ext (by rw [ex_to, ex_to, ex_to, List.drop_drop])
theorem ex_1 (s : ByteArray) (j : Nat) (h : j < s.size) : ((s.extract j s.size).extract 0 1).size = 1 ∧ bt ((s.extract j s.size).extract 0 1) 0 = bt s j ∧ (s.extract j s.size).extract 1 (s.extract j s.size).size = s.extract (j + 1) s.size := by
  have z : (s.extract j s.size).size = s.size - j := by simp only [ByteArray.size_extract]; omega
  refine ⟨by rw [ByteArray.size_extract]; omega, ?_, ex_ex s j 1⟩
  rw [bt_ext _ 0 1 0 (by omega) (by omega), bt_ext s j s.size _ (by omega) (by omega)]
  rfl
set_option maxHeartbeats 2000000 in
theorem number_any (p : Nat) (s : ByteArray) (e : Int) (k : Nat) (hk : k ≤ 3) (hz : (s.size : Int) ≤ 281474976710656) (w : World) (h : Rdr w p s e) :
    Calls Tryz.prog 54 #[rp p, .int .i64 (k : Int)] w fun x w' => Upto p w w' ∧ ((k ≤ s.size ∧ x = .returned (.int .i64 (nB s k)) ∧ Rdr w' p (s.extract k s.size) e) ∨ (s.size < k ∧ x = .panicked (pk e))) := by
  have k0 : (0 : Int) ≤ (k : Int) := by omega
  have k3 : (k : Int) ≤ 3 := by omega
  have HB : Hid (∀ j, 0 ≤ nB s j ∧ nB s j < 256 ^ j) := fun j => nB_bd s j
  have HN : Hid (∀ j, nB s (j + 1) = nB s j * 256 + bt s j) := fun j => rfl
  go_enter Tryz.func54, Tryz.ntmps54
  go_wp2_with fail
  go_loopw [5, 7] (fun n i wr => ∃ j : Nat, j ≤ k ∧ j ≤ s.size ∧ i = .int .i64 (j : Int) ∧ n = .int .i64 (nB s j) ∧ Rdr wr p (s.extract j s.size) e ∧ Upto p w wr) (fun _ i _ => k - (intOf i).toNat)
  case atStart => exact ⟨0, by omega, by omega, rfl, rfl, by rw [show s.extract 0 s.size = s from ByteArray.extract_zero_size]; exact h, Upto.refl _ _⟩
  case round =>
    obtain ⟨j, hj, hjs, rfl, rfl, hR, hU⟩ := hrel
    have j0 : (0 : Int) ≤ (j : Int) := by omega
    by_cases hlt : j < k
    · have j1 : (j : Int) < (k : Int) := by omega
      have b := bt_bd s j
      have hn := HB.out j
      have pw : (256 : Int) ^ j ≤ 65536 := by
        have : j = 0 ∨ j = 1 ∨ j = 2 := by omega
        rcases this with rfl | rfl | rfl <;> decide
      have n1 : nB s j < 65536 := by omega
      have n0 := hn.1
      have HX : Hid (nB s (j + 1) = nB s j * 256 + bt s j) := HN.out j
      clear hn pw
      by_cases hs : j < s.size
      · obtain ⟨a1, a2, a3⟩ := ex_1 s j hs
        have T := take_ok p (s.extract j s.size) e 1 wr hR (by rw [ByteArray.size_extract]; omega)
        rw [a3] at T
        obtain ⟨A, zA, eA, T⟩ : ∃ A : ByteArray, ∃ z : A.size = 1, ((A[0]'(by omega)).toNat : Int) = bt s j ∧ Calls Tryz.prog 56 #[rp p, .int .i64 1] wr fun x w' => x = .returned (.string A) ∧ w' = wr.setCell ⟨p, 0, none⟩ (.string (s.extract (j + 1) s.size)) := ⟨_, a1, (bt_of _ 0 (by omega)).trans a2, T⟩
        clear a1 a2 a3
        generalize nB s j = x at *
        generalize bt s j = y at *
        obtain ⟨y0, y1⟩ := b
        have hP := hR.put (s.extract (j + 1) s.size)
        go_wp2_with (go_at_call 56; refine T.mono ?_; rintro e w' ⟨rfl, rfl⟩)
        exact ⟨⟨j + 1, by omega, by omega, by go_num, by rw [HX.out], hP, hU.trans (Upto.put _ _ _ _)⟩, by simp [intOf]; omega⟩
      · have T := take_no p (s.extract j s.size) e 1 wr hR (by rw [ByteArray.size_extract]; omega)
        go_wp2_with (go_at_call 56; refine T.mono ?_; rintro e w' ⟨rfl, rfl⟩)
        exact ⟨rfl, hU, .inr ⟨by omega, rfl⟩⟩
    · have ej : j = k := by omega
      subst ej
      go_wp2_with fail
      go_ret
      exact ⟨hU, .inl ⟨hjs, rfl, hR⟩⟩
/-- What is left behind what has to stand there. -/
def psF (t s : ByteArray) : Option ByteArray := if t.size ≤ s.size ∧ s.extract 0 t.size = t then some (s.extract t.size s.size) else none
def tkF (n : Nat) (s : ByteArray) : Option (ByteArray × ByteArray) := if n ≤ s.size then some (s.extract 0 n, s.extract n s.size) else none
def vcF (k : Nat) (s : ByteArray) : Option (ByteArray × ByteArray) := if tkB k s = true then some (tkA k s, tkR k s) else none
theorem ps_iff (t s r : ByteArray) : psF t s = some r ↔ s = t ++ r := by
  unfold psF
  constructor
  · intro h
    split at h
    · rename_i c
      simp only [Option.some.injEq] at h
      rw [← h, ← c.2]
      exact ba_ext (by rw [ap_list, ext_list, ex_to, c.2]; simp)
    · cases h
  · rintro rfl
    rw [if_pos ⟨by rw [ap_size]; omega, ex_left _ _⟩, ex_right]
theorem tk_iff (n : Nat) (s x r : ByteArray) : tkF n s = some (x, r) ↔ x.size = n ∧ s = x ++ r := by
  unfold tkF
  constructor
  · intro h
    split at h
    · rename_i c
      simp only [Option.some.injEq, Prod.mk.injEq] at h
      rw [← h.1, ← h.2]
      exact ⟨by rw [ByteArray.size_extract]; omega, ba_ext (by rw [ap_list, ext_list, ex_to]; simp)⟩
    · cases h
  · rintro ⟨rfl, rfl⟩
    rw [if_pos (by rw [ap_size]; omega), ex_left, ex_right]
theorem vec_of (k : Nat) (hk : k ≤ 3) (s : ByteArray) (h : k ≤ s.size) (n : Nat) (hn : nB s k = n) : s.extract 0 k = mkS (dgL k n) := by
  have q : ∀ k, k ≤ s.size → (sL s).take k = dgL k (nB s k) := by
    intro k
    induction k with
    | zero => intro _; rfl
    | succ k ih =>
      intro hk
      have b := bt_bd s k
      have e : nB s (k + 1) = nB s k * 256 + bt s k := rfl
      have hl : k < (sL s).length := by rw [sL_len]; omega
      rw [List.take_add_one, ih (by omega), dgL, e, show (nB s k * 256 + bt s k) / 256 = nB s k by omega, show (nB s k * 256 + bt s k) % 256 = bt s k by omega, bt_sL, List.getD_eq_getElem?_getD, List.getElem?_eq_getElem hl]
      rfl
  have t : sL (s.extract 0 k) = (sL s).take k := by unfold sL; rw [ext_list]; simp [List.map_take]
  rw [← mkS_sL (s.extract 0 k), t, q k h, hn]
theorem tk_is (k : Nat) (hk : k ≤ 3) (s : ByteArray) (h : tkB k s = true) : (tkA k s).size < 256 ^ k ∧ s = vec k (tkA k s) ++ tkR k s := by
  have c : k ≤ s.size ∧ nB s k ≤ (s.size : Int) - k := by unfold tkB at h; exact of_decide_eq_true h
  have bd := nB_bd s k
  obtain ⟨n, hn⟩ : ∃ n : Nat, nB s k = n := ⟨(nB s k).toNat, by omega⟩
  have zA : (tkA k s).size = n := by unfold tkA; rw [if_pos h, hn, Int.toNat_natCast, ByteArray.size_extract]; omega
  have p : ((256 ^ k : Nat) : Int) = 256 ^ k := by push_cast; rfl
  refine ⟨by omega, ?_⟩
  unfold vec
  rw [zA, ← vec_of k hk s c.1 n hn]
  unfold tkA tkR
  rw [if_pos h, if_pos h, hn, Int.toNat_natCast]
  refine ba_ext ?_
  rw [ap_list, ap_list, ext_list, ext_list, ex_to]
  simp only [Nat.add_sub_cancel_left, List.drop_zero, Nat.sub_zero]
  rw [List.append_assoc, ← List.drop_drop, List.take_append_drop, List.take_append_drop]
theorem vc_iff (k : Nat) (hk : k ≤ 3) (s x r : ByteArray) : vcF k s = some (x, r) ↔ x.size < 256 ^ k ∧ s = vec k x ++ r := by
  unfold vcF
  constructor
  · intro h
    split at h
    · rename_i c
      simp only [Option.some.injEq, Prod.mk.injEq] at h
      have d := tk_is k hk s c
      rw [← h.1, ← h.2]
      exact d
    · cases h
  · rintro ⟨h, rfl⟩
    have e := tk_vec k hk x r h
    rw [e.1, e.2, if_pos]
    unfold tkB
    rw [nB_vec k hk x r h, ap_size, vec_size]
    simp
    omega
/-- What a reading function tells. -/
def RdR {α : Type} (V : World → Value → α → Prop) (p : Nat) : Option (α × ByteArray) → Ending → World → Prop
  | some (a, r), x, w' => ∃ v, x = .returned v ∧ V w' v a ∧ Rdr w' p r 10
  | none, x, _ => x = .panicked (pk 10)
set_option maxHeartbeats 1000000 in
theorem pass_any (p : Nat) (s t : ByteArray) (hz : (s.size : Int) ≤ 281474976710656) (w : World) (h : Rdr w p s 10) :
    Calls Tryz.prog 74 #[rp p, .string t] w fun x w' => Upto p w w' ∧ RdR (fun _ v (_ : Unit) => v = .tuple #[]) p ((psF t s).map fun r => ((), r)) x w' := by
  by_cases c : t.size ≤ s.size
  · have T := take_ok p s 10 t.size w h c
    have hP := h.put (s.extract t.size s.size)
    have hU := Upto.put p 0 w (.string (s.extract t.size s.size))
    by_cases d : s.extract 0 t.size = t
    · have g : psF t s = some (s.extract t.size s.size) := by unfold psF; rw [if_pos ⟨c, d⟩]
      rw [g]
      rw [d] at T
      generalize w.setCell ⟨p, 0, none⟩ (.string (s.extract t.size s.size)) = w1 at *
      go_enter Tryz.func74, Tryz.ntmps74
      go_wp2_with (go_at_call 56; refine T.mono ?_; rintro e w' ⟨rfl, rfl⟩)
      go_end0
      exact ⟨hU, _, rfl, rfl, hP⟩
    · have g : psF t s = none := by unfold psF; rw [if_neg (fun x => d x.2)]
      rw [g]
      generalize s.extract 0 t.size = A at *
      have d2 := txt_ne d
      generalize w.setCell ⟨p, 0, none⟩ (.string (s.extract t.size s.size)) = w1 at *
      go_enter Tryz.func74, Tryz.ntmps74
      go_wp2_with (go_at_call 56; refine T.mono ?_; rintro e w' ⟨rfl, rfl⟩)
      exact ⟨rfl, hU, rfl⟩
  · have T := take_no p s 10 t.size w h (by omega)
    have g : psF t s = none := by unfold psF; rw [if_neg (fun x => c x.1)]
    rw [g]
    go_enter Tryz.func74, Tryz.ntmps74
    go_wp2_with (go_at_call 56; refine T.mono ?_; rintro e w' ⟨rfl, rfl⟩)
    exact ⟨rfl, Upto.refl _ _, rfl⟩
set_option maxHeartbeats 1000000 in
theorem vector_any (p : Nat) (s : ByteArray) (k : Nat) (hk : k ≤ 3) (hz : (s.size : Int) ≤ 281474976710656) (w : World) (h : Rdr w p s 10) :
    Calls Tryz.prog 75 #[rp p, .int .i64 (k : Int)] w fun x w' => Upto p w w' ∧ RdR (fun _ v a => v = .string a) p (vcF k s) x w' := by
  have N := number_any p s 10 k hk hz w h
  go_enter Tryz.func75, Tryz.ntmps75
  go_wp2_with fail
  go_at_call 54
  refine N.mono ?_
  rintro x w1 ⟨hU, ⟨c, rfl, hR⟩ | ⟨c, rfl⟩⟩
  · have bd := nB_bd s k
    obtain ⟨n, hn⟩ : ∃ n : Nat, nB s k = n := ⟨(nB s k).toNat, by omega⟩
    rw [hn]
    by_cases d : k + n ≤ s.size
    · have z : (s.extract k s.size).size = s.size - k := by simp only [ByteArray.size_extract]; omega
      have T := take_ok p _ 10 n w1 hR (by omega)
      rw [ex_ex] at T
      have g : vcF k s = some ((s.extract k s.size).extract 0 n, s.extract (k + n) s.size) := by
        have b : tkB k s = true := by unfold tkB; rw [hn]; simp; omega
        unfold vcF tkA tkR
        rw [if_pos b, if_pos b, if_pos b, hn, Int.toNat_natCast]
        congr 2
        exact ba_ext (by rw [ext_list, ext_list, ex_to]; simp)
      have hP := hR.put (s.extract (k + n) s.size)
      have hU2 := hU.trans (Upto.put p 0 w1 (.string (s.extract (k + n) s.size)))
      generalize w1.setCell ⟨p, 0, none⟩ (.string (s.extract (k + n) s.size)) = w2 at *
      generalize (s.extract k s.size).extract 0 n = A at *
      go_wp2_with (go_at_call 56; refine T.mono ?_; rintro e w' ⟨rfl, rfl⟩)
      go_ret
      exact ⟨hU2, by rw [g]; exact ⟨_, rfl, rfl, hP⟩⟩
    · have z : (s.extract k s.size).size = s.size - k := by simp only [ByteArray.size_extract]; omega
      have T := take_no p _ 10 n w1 hR (by omega)
      have g : vcF k s = none := by
        have b : tkB k s = false := by unfold tkB; rw [hn]; simp; omega
        unfold vcF
        rw [b]; rfl
      go_wp2_with (go_at_call 56; refine T.mono ?_; rintro e w' ⟨rfl, rfl⟩)
      exact ⟨rfl, hU, by rw [g]; rfl⟩
  · have g : vcF k s = none := by
      have b : tkB k s = false := by unfold tkB; simp; omega
      unfold vcF
      rw [b]; rfl
    go_wp2_with fail
    exact ⟨rfl, hU, by rw [g]; rfl⟩
end Go.Proofs.YtjdpeedghpblgaaGreatDoor
