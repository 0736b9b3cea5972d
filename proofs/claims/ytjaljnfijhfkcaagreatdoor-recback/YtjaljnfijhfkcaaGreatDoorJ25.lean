/- The blocks that are hashed, handed out. -/
import Derived.Test.YtjaljnfijhfkcaaGreatDoorJ15
import Derived.Test.YtjaljnfijhfkcaaGreatDoorJ24
set_option linter.all false
set_option maxRecDepth 100000
namespace Go.Proofs.YtjaljnfijhfkcaaGreatDoor
open Go.RowKit Go.Shelf Go.Sort Lin
attribute [local go_sem] Oper.semAt_some
/-- A text's first k blocks. -/
def bk16 (t : ByteArray) (k : Nat) : List Nat := (List.range k).map fun j => bN (t.extract (16 * j) t.size)
theorem bk16_succ (t : ByteArray) (k : Nat) : bk16 t (k + 1) = bk16 t k ++ [bN (t.extract (16 * k) t.size)] := by simp [bk16, List.range_succ]
def bls (t : ByteArray) : List Nat := bk16 t ((t.size + 15) / 16)
/-- The block that says how many bits both have. -/
def lenB (a s : ByteArray) : Nat := 8 * a.size * 2 ^ 64 + 8 * s.size
def hBl (a s : ByteArray) : List Nat := bls a ++ bls s ++ [lenB a s]
def tw (a s : ByteArray) (i : Nat) : ByteArray := if i = 0 then a else s
def pf (a s : ByteArray) : Nat → List Nat
  | 0 => []
  | i + 1 => pf a s i ++ bls (tw a s i)
theorem idx69 (a s : ByteArray) (k : Nat) (hk : k < 2) (W : World) : (Instr.index 188 (.agg #[.string a, .string s]) (.int .i64 (k : Int))).run Tryz.prog W = .ok (.string (tw a s k)) W := by
  have h0 : (0 : Int) ≤ (k : Int) ∧ (k : Int) < ((2 : Nat) : Int) := by omega
  have hs : (Go.sizeOf 9).run Tryz.prog W = .ok 1 W := by kernel_rfl
  simp only [Instr.index, asIntOf, Sem.run_bind, Sem.run_pure, Result.andThen_ok, run_underlying Tryz.underlying188]
  rw [Sem.run_ite, if_pos h0]
  simp only [Sem.run_bind, hs, Result.andThen_ok, Int.toNat_natCast, Nat.mul_one]
  have ha : (isAgg 9).run Tryz.prog W = .ok false W := by kernel_rfl
  have : k = 0 ∨ k = 1 := by omega
  rcases this with rfl | rfl <;> simp [part, Sem.run_bind, ha, tw]
set_option maxHeartbeats 1000000 in
theorem gblocks1_in (a s : ByteArray) (ha : a.size ≤ 1000000) (hs : s.size ≤ 1000000) (n l q b1 b2 : Nat) (hn : 1 ≤ n) (Jv Jx : List Nat → World → Prop) {B : Nat} (hJ : AbidesFrom B Jv)
    (hY : ∀ pre (x : Nat) W, Jv pre W → x < 2 ^ 128 → YieldAt Fence.wide (n - 1) Tryz.prog l #[gB x] W fun e W' => (e = .returned (.bool true) ∧ Jv (pre ++ [x]) W' ∧ KC q q q W W') ∨ (e = .returned (.bool false) ∧ Jx (pre ++ [x]) W'))
    (W : World) (n1 : b1 ≠ q) (n2 : b2 ≠ q) (A1 : Arr W b1 1 (fun _ => .string a)) (A2 : Arr W b2 1 (fun _ => .string s)) (h0 : Jv [] W) :
    CallsIn Fence.wide n Tryz.prog 115 #[.func (.yield l) #[] #[], .pointer (some ⟨b1, 0, none⟩), .pointer (some ⟨b2, 0, none⟩)] W fun e W' => (∃ v, e = .returned v) ∧
      ((∃ ys : List Nat, ys = hBl a s ∧ Jv ys W' ∧ True) ∨ (∃ pre : List Nat, True ∧ Jx pre W')) := by
  have hd : 1 ≤ n := hn
  refine callsIn_of_wp Tryz.func115 rfl trivial ?_ rfl
  simp only [Tryz.ntmps115, List.size_toArray, List.length_cons, List.length_nil, Nat.reduceAdd, Nat.reduceSub, Array.replicate_succ, Array.replicate_zero, List.push_toArray, List.append_toArray, List.nil_append, List.cons_append]
  have c1 := A1.c 0 (by omega)
  have c2 := A2.c 0 (by omega)
  have hnot : ∀ (x : Bool) (w : World), (Op.unary .not (.bool x)).run Tryz.prog w = .ok (.bool (!x)) w := fun _ _ => rfl
  gi_wp2
  gi_loopw [10] (fun i wr => ∃ k : Nat, k ≤ 2 ∧ i = .int .i64 k ∧ Jv (pf a s k) wr ∧ Arr wr b1 1 (fun _ => .string a) ∧ Arr wr b2 1 (fun _ => .string s)) (fun i _ => 2 - (intOf i).toNat)
  case atStart => exact ⟨0, by omega, rfl, h0, A1, A2⟩
  case round =>
    clear A1 A2 h0 c1 c2
    obtain ⟨i, hi2, rfl, hJs, A1, A2⟩ := hrel
    by_cases hlt : i < 2
    · have i0 : (0 : Int) ≤ (i : Int) := by omega
      have i2 : (i : Int) < 2 := by omega
      have I := fun W => idx69 a s i hlt W
      have HP : Hid (pf a s (i + 1) = pf a s i ++ bls (tw a s i)) := rfl
      have ht : (tw a s i).size ≤ 1000000 := by unfold tw; split <;> assumption
      generalize tw a s i = t at *
      generalize pf a s i = ps at *
      have t1 : (t.size : Int) ≤ 1000000 := by omega
      gi_wp2
      gi_loopw [6] (fun z wr => ∃ k : Nat, 16 * k < t.size + 16 ∧ z = .int .i64 (16 * (k : Int)) ∧ Jv (ps ++ bk16 t k) wr ∧ Arr wr b1 1 (fun _ => .string a) ∧ Arr wr b2 1 (fun _ => .string s)) (fun z _ => t.size + 16 - (intOf z).toNat)
      case atStart => exact ⟨0, by omega, rfl, by simpa [bk16] using hJs, A1, A2⟩
      case round =>
        clear A1 A2 hJs I
        obtain ⟨k, hk, rfl, hJs, A1, A2⟩ := hrel
        by_cases hlk : 16 * k < t.size
        · have k0 : (0 : Int) ≤ 16 * (k : Int) := by omega
          have k2 : 16 * (k : Int) < (t.size : Int) := by omega
          have bo := gblockOf_any (t.extract (16 * k) t.size) wr
          have HB : Hid (bk16 t (k + 1) = bk16 t k ++ [bN (t.extract (16 * k) t.size)]) := bk16_succ t k
          have bl := bN_lt (t.extract (16 * k) t.size)
          generalize bN (t.extract (16 * k) t.size) = x at *
          gi_wp2_with (refine ⟨trivial, ?_⟩; gi_at_call 70; refine (callsIn_wide.2 bo).mono ?_; rintro e w2 ⟨rfl, hb⟩; have hJ2 := hJ _ wr w2 none hJs (gby hb) (fun r e => by cases e); have hA1 := A1.to' hb; have hA2 := A2.to' hb; obtain ⟨fn, tmps, assign, body, hy, hR⟩ := hY _ x w2 hJ2 bl; clear hJs A1 A2 hb bo)
          refine hR.mono ?_
          rintro e W3 (⟨rfl, hJ3, hK⟩ | ⟨rfl, hJx3⟩)
          · gi_wp2
            refine ⟨⟨k + 1, by omega, by congr 1, ?_, hK _ _ _ n1 n1 n1 hA1, hK _ _ _ n2 n2 n2 hA2⟩, by first | (simp [intOf]; done) | (simp [intOf]; omega)⟩
            rw [HB.out, ← List.append_assoc]
            exact hJ3
          · gi_wp2
            refine bodyPost_ret (results_none rfl _ _ _) rfl ?_
            exact ⟨⟨_, rfl⟩, .inr ⟨_, trivial, hJx3⟩⟩
        · have k2 : ¬ 16 * (k : Int) < (t.size : Int) := by omega
          have HE : Hid (ps ++ bk16 t k = ps ++ bls t) := by
            show _ = _
            unfold bls
            rw [show (t.size + 15) / 16 = k by omega]
          gi_wp2
          refine ⟨⟨i + 1, by omega, by go_num, ?_, A1, A2⟩, by first | (simp [intOf]; done) | (simp [intOf]; omega)⟩
          rw [HP.out, ← HE.out]
          exact hJs
    · have e : i = 2 := by omega
      rw [show ((i : Nat) : Int) = 2 by omega]
      subst e
      have c1 := A1.c 0 (by omega)
      have c2 := A2.c 0 (by omega)
      have xl : lenB a s < 2 ^ 128 := by unfold lenB; omega
      obtain ⟨fn, tmps, assign, body, hy, hR⟩ := hY _ (lenB a s) wr hJs xl
      have e1 : hi (lenB a s) = 8 * (a.size : Int) := by unfold hi lenB; omega
      have e2 : lo (lenB a s) = 8 * (s.size : Int) := by unfold lo lenB; omega
      unfold gB gk at hy
      rw [e1, e2] at hy
      have a1 : (a.size : Int) ≤ 1000000 := by omega
      have s1 : (s.size : Int) ≤ 1000000 := by omega
      have HE : Hid (pf a s 2 ++ [lenB a s] = hBl a s) := by
        show _ = _
        unfold pf pf pf hBl tw
        simp
      clear e1 e2 hJs A1 A2
      gi_wp2
      refine hR.mono ?_
      rintro e W3 (⟨rfl, hJ3, hK⟩ | ⟨rfl, hJx3⟩)
      · gi_wp2
        go_end0
        refine ⟨⟨_, rfl⟩, .inl ⟨_, HE.out, hJ3, trivial⟩⟩
      · gi_wp2
        go_end0
        exact ⟨⟨_, rfl⟩, .inr ⟨_, trivial, hJx3⟩⟩
theorem gblocks_seq (a s : ByteArray) (ha : a.size ≤ 1000000) (hs : s.size ≤ 1000000) (n q b1 b2 : Nat) (hn : 1 ≤ n) (w0 : World) (n1 : b1 ≠ q) (n2 : b2 ≠ q) (A1 : Arr w0 b1 1 (fun _ => .string a)) (A2 : Arr w0 b2 1 (fun _ => .string s)) :
    SeqM Fence.wide n Tryz.prog 115 #[.pointer (some ⟨b1, 0, none⟩), .pointer (some ⟨b2, 0, none⟩)] (fun x : Nat => #[gB x]) (KC q q q) (fun _ x _ => x < 2 ^ 128) (fun _ => True) (fun ys => ys = hBl a s) (fun _ => True) none (fun _ => True) w0 :=
  fun l Jv Jx W hW hJ _ _ _ hY hj => gblocks1_in a s ha hs n l q b1 b2 hn Jv Jx hJ hY W n1 n2 (A1.to' hW) (A2.to' hW) hj
set_option maxHeartbeats 1000000 in
theorem gblocks_any (a s : ByteArray) (w : World) : Calls Tryz.prog 101 #[.string a, .string s] w fun e w' => e = .returned (.func (.func 115) #[] #[.pointer (some ⟨w.heap.size, 0, none⟩), .pointer (some ⟨w.heap.size + 1, 0, none⟩)]) ∧ w' = (w.alloc (.cells #[.string a] 9)).alloc (.cells #[.string s] 9) := by
  go_enter Tryz.func101, Tryz.ntmps101
  go_wp2
  go_ret
  exact ⟨rfl, rfl⟩
end Go.Proofs.YtjaljnfijhfkcaaGreatDoor
