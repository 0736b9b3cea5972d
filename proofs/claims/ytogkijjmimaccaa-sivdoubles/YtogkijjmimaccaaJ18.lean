/- A text's blocks as they are tagged, handed out by an iterator. -/
import Derived.Sort.CutIn
import Derived.Test.YtogkijjmimaccaaJ17
set_option linter.all false
set_option maxRecDepth 100000
namespace Go.Proofs.Ytogkijjmimaccaa
open Go.RowKit Go.Shelf Go.Sort Lin
attribute [local go_sem] Oper.semAt_some
/-- A text's first k blocks. -/
def bkF (s : ByteArray) (k : Nat) : List (Nat → By) := (List.range k).map fun j => bF (s.extract (16 * j) s.size)
theorem bkF_succ (s : ByteArray) (k : Nat) : bkF s (k + 1) = bkF s k ++ [bF (s.extract (16 * k) s.size)] := by simp [bkF, List.range_succ]
/-- How many blocks stand ahead of the last one. -/
def nB (s : ByteArray) : Nat := (s.size - 1) / 16
/-- The last block, as it is tagged. -/
def lsF (key r : ByteArray) : Nat → By := if r.size = 16 then pl (bF r) (k1 key) else pl (flF r) (k2 key)
def BL (key s : ByteArray) : List (Nat → By) := bkF s (nB s) ++ [lsF key (s.extract (16 * nB s) s.size)]
theorem slast_any (key r : ByteArray) (hr : r.size ≤ 16) (w : World) : Calls Try.prog 52 #[.agg (tL key (k1 key) (k2 key)).toArray, .string r] w fun e w' => e = .returned (bB (lsF key r)) ∧ Below w.heap.size w w' := by
  unfold lsF
  by_cases h : r.size = 16
  · rw [if_pos h]
    exact slast_16 _ _ _ _ key r _ _ _ _ _ (by omega) (tgr key _ _) (blk _) (blk _) (tC_f key _ _) (blk _) w (fun W => sblockOf_any r W) (fun W => splus_any _ _ W)
  · rw [if_neg h]
    exact slast_no _ _ _ _ key r _ _ _ _ _ (by omega) (tgr key _ _) (blk _) (blk _) (tC_g key _ _) (blk _) w (fun W => sfilled_any r (by omega) W) (fun W => splus_any _ _ W)
/-- A variable is loaded, inside a fence. -/
theorem Cells.wldIn {F' : Fence} {m : Nat} {L : List Value} {n : Nat} {F : Nat → Value} (c : Cells L n F) {T : TypeId} (t : Ty T n) {w : World} {b N : Nat} {G : Nat → Value} (A : Arr w b N G) (o : Nat) (ho : o + n ≤ N) (e : ∀ j, j < n → G (o + j) = F j)
    {ops : Array Oper} {rest : List Oper} {op : Oper} {a : Act} {Q : Exit → Act → World → Prop} (hgd : op.guard = none) (x : Operand) (hop : op.op = .load T x) (hx : a.eval x = .pointer (some ⟨b, o, none⟩))
    (h : wpListIn F' m Try.prog ops Q rest (a.put op.dst (.agg L.toArray)) w) : wpListIn F' m Try.prog ops Q (op :: rest) a w := by
  refine wpListIn_plain hgd fun K hK => ?_
  unfold Oper.wpIn
  refine ⟨?_, ?_⟩
  · simp [Oper.about, hop]
  · rw [Oper.semAt_plain F' _ _ (by rw [hop]; intro c hc'; cases hc')]
    unfold execOp
    simp only [hop, hx, Instr.loadAt, Instr.sureAddr, Sem.run_bind, Sem.run_pure, Result.andThen_ok, c.ld t A o ho e]
    exact hK _ _ h
/-- A value is stored, inside a fence. -/
theorem Cells.wstIn {F' : Fence} {m : Nat} {L : List Value} {n : Nat} {F : Nat → Value} (c : Cells L n F) {T : TypeId} (t : Ty T n) {w : World} {b : Nat} {G : Nat → Value} (A : Arr w b n G)
    {ops : Array Oper} {rest : List Oper} {op : Oper} {a : Act} {Q : Exit → Act → World → Prop} (hgd : op.guard = none) (x y : Operand) (hop : op.op = .store T x y) (hx : a.eval x = .pointer (some ⟨b, 0, none⟩)) (hy : a.eval y = .agg L.toArray)
    (h : wpListIn F' m Try.prog ops Q rest (a.put op.dst undef) (w.setCells b 0 L)) : wpListIn F' m Try.prog ops Q (op :: rest) a w := by
  have hs : L.toArray.size = n := by rw [List.size_toArray]; exact c.len
  refine wpListIn_plain hgd fun K hK => ?_
  unfold Oper.wpIn
  refine ⟨?_, ?_⟩
  · simp [Oper.about, hop]
  · rw [Oper.semAt_plain F' _ _ (by rw [hop]; intro c hc'; cases hc')]
    unfold execOp
    simp only [hop, hx, hy, Instr.storeAt, Instr.sureAddr, Sem.run_bind, Sem.run_pure, Result.andThen_ok, run_storeVar_mid (P := Try.prog) w b 0 T L.toArray (by rw [hs]; exact A.there) (by rw [hs]; exact t.i) (all_oneCell_toArray c.one)]
    exact hK _ _ h
def szS : Value → Nat
  | .string t => t.size
  | _ => 0
theorem ext_all (a : ByteArray) : a.extract 0 a.size = a := by
  apply ba_ext
  rw [ext_list, List.drop_zero, Nat.sub_zero, List.take_of_length_le (by rw [len_list]; exact Nat.le_refl _)]
theorem ext_ext (s : ByteArray) (a : Nat) : (s.extract a s.size).extract 16 (s.extract a s.size).size = s.extract (a + 16) s.size := by
  apply ba_ext
  rw [ext_list, ext_list, ext_list, ByteArray.size_extract]
  rw [List.take_of_length_le (l := (s.data.toList.drop a)) (by rw [List.length_drop, len_list]; omega)]
  rw [List.drop_drop]
  rw [List.take_of_length_le (by rw [List.length_drop, len_list]; omega), List.take_of_length_le (by rw [List.length_drop, len_list]; omega)]
set_option maxHeartbeats 1000000 in
theorem sblocks1_in (key s : ByteArray) (TL : List Value) (hT : Tgr TL key (k1 key) (k2 key)) (hs : s.size ≤ 1000000) (n l q b1 b2 : Nat) (hn : 1 ≤ n) (Jv Jx : List (Nat → By) → World → Prop) {B : Nat} (hJ : AbidesFrom B Jv)
    (C52 : ∀ r : ByteArray, r.size ≤ 16 → ∀ W, Calls Try.prog 52 #[.agg TL.toArray, .string r] W fun e w' => e = .returned (bB (lsF key r)) ∧ Below W.heap.size W w')
    (hY : ∀ pre (x : Nat → By) W, Jv pre W → YieldAt Fence.wide (n - 1) Try.prog l #[bB x] W fun e W' => (e = .returned (.bool true) ∧ Jv (pre ++ [x]) W' ∧ KC q q q W W') ∨ (e = .returned (.bool false) ∧ Jx (pre ++ [x]) W'))
    (W : World) (n1 : b1 ≠ q) (n2 : b2 ≠ q) (A1 : Arr W b1 1 (fun _ => .string s)) (A2 : Arr W b2 33 (tC key (k1 key) (k2 key))) (h0 : Jv [] W) :
    CallsIn Fence.wide n Try.prog 51 #[.func (.yield l) #[] #[], .pointer (some ⟨b1, 0, none⟩), .pointer (some ⟨b2, 0, none⟩)] W fun e W' => (∃ v, e = .returned v) ∧
      ((∃ ys : List (Nat → By), ys = BL key s ∧ Jv ys W' ∧ True) ∨ (∃ pre : List (Nat → By), True ∧ Jx pre W')) := by
  have hd : 1 ≤ n := hn
  refine callsIn_of_wp Try.func51 rfl trivial ?_ rfl
  simp only [Try.ntmps51, List.size_toArray, List.length_cons, List.length_nil, Nat.reduceAdd, Nat.reduceSub, Array.replicate_succ, Array.replicate_zero, List.push_toArray, List.append_toArray, List.nil_append, List.cons_append]
  have c1 := A1.c 0 (by omega)
  have hnot : ∀ (x : Bool) (w : World), (Op.unary .not (.bool x)).run Try.prog w = .ok (.bool (!x)) w := fun _ _ => rfl
  gi_wp2
  gi_loopw [4] (fun z wr => ∃ k : Nat, k ≤ nB s ∧ z = .string (s.extract (16 * k) s.size) ∧ Jv (bkF s k) wr ∧ Arr wr b2 33 (tC key (k1 key) (k2 key))) (fun z _ => szS z)
  case atStart => exact ⟨0, by omega, by rw [Nat.mul_zero, ext_all], h0, A2⟩
  case round =>
    clear A1 A2 h0 c1
    obtain ⟨k, hk, rfl, hJs, A2⟩ := hrel
    have hz : (s.extract (16 * k) s.size).size = s.size - 16 * k := by rw [ByteArray.size_extract]; omega
    have HZ : Hid ((s.extract (16 * k) s.size).extract 16 (s.extract (16 * k) s.size).size = s.extract (16 * (k + 1)) s.size) := by
      show _ = _
      rw [ext_ext]
      rfl
    have HB : Hid (bkF s (k + 1) = bkF s k ++ [bF (s.extract (16 * k) s.size)]) := bkF_succ s k
    by_cases hlk : k < nB s
    · have r1 : (16 : Int) < ((s.extract (16 * k) s.size).size : Int) := by unfold nB at hlk; omega
      have r2 : ((s.extract (16 * k) s.size).size : Int) ≤ 1000000 := by omega
      have HS : Hid (szS (.string ((s.extract (16 * k) s.size).extract 16 (s.extract (16 * k) s.size).size)) < szS (.string (s.extract (16 * k) s.size))) := by
        show ((s.extract (16 * k) s.size).extract 16 (s.extract (16 * k) s.size).size).size < (s.extract (16 * k) s.size).size
        rw [ByteArray.size_extract]
        omega
      clear hz
      generalize s.extract (16 * k) s.size = r at *
      have bo := sblockOf_any r wr
      generalize bF r = x at *
      gi_wp2_with (refine ⟨trivial, ?_⟩; gi_at_call 31; refine (callsIn_wide.2 bo).mono ?_; rintro e w2 ⟨rfl, hb⟩; have hJ2 := hJ _ wr w2 none hJs (gby hb) (fun r e => by cases e); have hA2 : Arr _ _ 33 _ := A2.to' (n := 32) hb; obtain ⟨fn, tmps, assign, body, hy, hR⟩ := hY _ x w2 hJ2; clear hJs A2 hb bo)
      refine hR.mono ?_
      rintro e W3 (⟨rfl, hJ3, hK⟩ | ⟨rfl, hJx3⟩)
      · gi_wp2
        refine ⟨⟨k + 1, by omega, by rw [HZ.out], ?_, hK _ 32 _ n2 n2 n2 hA2⟩, HS.out⟩
        rw [HB.out]
        exact hJ3
      · gi_wp2
        refine bodyPost_ret (results_none rfl _ _ _) rfl ?_
        exact ⟨⟨_, rfl⟩, .inr ⟨_, trivial, hJx3⟩⟩
    · have hk2 : k = nB s := by omega
      have r1 : ¬ (16 : Int) < ((s.extract (16 * k) s.size).size : Int) := by unfold nB at hk2; omega
      have HE : Hid (bkF s k ++ [lsF key (s.extract (16 * k) s.size)] = BL key s) := by
        show _ = _
        unfold BL
        rw [hk2]
      have C := C52 (s.extract (16 * k) s.size) (by unfold nB at hk2; omega)
      clear hz HZ HB C52 hk2 hk hlk
      generalize s.extract (16 * k) s.size = r at *
      generalize lsF key r = x at *
      gi_upto_region 4 with (fail)
      refine wpIn_region_list ?_
      refine wpListIn_plain (by rfl) fun K1 hK1 => ?_
      have H1 : Hid _ := hK1
      clear hK1
      gi_wp2
      refine H1.out _ _ ?_
      clear H1
      refine hT.wldIn t45 A2 0 (by omega) (fun j _ => by rw [Nat.zero_add]) (by rfl) (.tmp 2) (by rfl) (by rfl) ?_
      gi_wp2_with (refine ⟨trivial, ?_⟩; gi_at_call 52; refine (callsIn_wide.2 (C _)).mono ?_; rintro e w2 ⟨rfl, hb⟩; have hJ2 := hJ _ wr w2 none hJs (gby hb) (fun r e => by cases e); obtain ⟨fn, tmps, assign, body, hy, hR⟩ := hY _ x w2 hJ2; clear hJs A2 hb C)
      refine hR.mono ?_
      rintro e W3 (⟨rfl, hJ3, hK⟩ | ⟨rfl, hJx3⟩)
      · gi_wp2
        go_end0
        refine ⟨⟨_, rfl⟩, .inl ⟨_, HE.out, hJ3, trivial⟩⟩
      · gi_wp2
        go_end0
        exact ⟨⟨_, rfl⟩, .inr ⟨_, trivial, hJx3⟩⟩
theorem sblocks_seq (key s : ByteArray) (hs : s.size ≤ 1000000) (n q b1 b2 : Nat) (hn : 1 ≤ n) (w0 : World) (n1 : b1 ≠ q) (n2 : b2 ≠ q) (A1 : Arr w0 b1 1 (fun _ => .string s)) (A2 : Arr w0 b2 33 (tC key (k1 key) (k2 key))) :
    SeqM Fence.wide n Try.prog 51 #[.pointer (some ⟨b1, 0, none⟩), .pointer (some ⟨b2, 0, none⟩)] (fun x : Nat → By => #[bB x]) (KC q q q) (fun _ _ _ => True) (fun _ => True) (fun ys => ys = BL key s) (fun _ => True) none (fun _ => True) w0 :=
  fun l Jv Jx W hW hJ _ _ _ hY hj => sblocks1_in key s _ (tgr key _ _) hs n l q b1 b2 hn Jv Jx hJ (fun r hr W => slast_any key r hr W) (fun pre x W h => hY pre x W h trivial) W n1 n2 (A1.to' hW) (Arr.to' (n := 32) A2 hW) hj
set_option maxHeartbeats 1000000 in
theorem sblocks_any (TL : List Value) (s : ByteArray) (w : World) : Calls Try.prog 40 #[.agg TL.toArray, .string s] w fun e w' => e = .returned (.func (.func 51) #[] #[.pointer (some ⟨w.heap.size + 1, 0, none⟩), .pointer (some ⟨w.heap.size, 0, none⟩)]) ∧ w' = (w.alloc (.cells TL.toArray 45)).alloc (.cells #[.string s] 9) := by
  go_enter Try.func40, Try.ntmps40
  go_wp2
  go_ret
  exact ⟨rfl, rfl⟩
end Go.Proofs.Ytogkijjmimaccaa
