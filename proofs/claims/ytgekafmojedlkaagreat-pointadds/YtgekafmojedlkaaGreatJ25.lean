/- point.bits hands out the bits of two numbers, the highest first. -/
import Derived.Test.YtgekafmojedlkaaGreatJ24
import Derived.Test.YtgekafmojedlkaaGreatJ2
import Derived.Test.YtgekafmojedlkaaGreatJ1
import Derived.Test.YtgekafmojedlkaaGreatJ22
set_option linter.all false
set_option maxRecDepth 100000
namespace Go.Proofs.YtgekafmojedlkaaGreat
open Go.RowKit Go.Shelf Go.Sort
attribute [local go_sem] Oper.semAt_some
theorem ko_below {W W' : World} (hb : Below W.heap.size W W') : KeepsOthers W W' := KeepsOthers.of_grownBy (gby hb) (fun j o e _ => by cases e)
theorem kb_below {b : Nat} {W W' : World} (hb : Below W.heap.size W W') : KB b W W' := fun f h => h.below hb h.lt
theorem arr_kept {W W' : World} {b n : Nat} {f : Nat → Value} {row : Option Nat} (h : Arr W b n f) (hg : W.grownBy W' row) (hr : ∀ r, row = some r → ∃ o : Obj, W.heap[r]? = some o ∧ o.isCells = false) : Arr W' b n f := fun j hj =>
  ⟨cell_kept (h j hj).1 hg hr, (frozen_kept (h j hj).1 hg hr).trans (h j hj).2⟩
theorem bv_t : bv true = .int .u64 1 := rfl
theorem bv_f : bv false = .int .u64 0 := rfl
theorem ko_set4 (W : World) (b : Nat) (v0 v1 v2 v3 : Value) : KeepsOthers W ((((W.setCell ⟨b, 0, none⟩ v0).setCell ⟨b, 1, none⟩ v1).setCell ⟨b, 2, none⟩ v2).setCell ⟨b, 3, none⟩ v3) :=
  (((KeepsOthers.setCell _ _ _).trans (KeepsOthers.setCell _ _ _)).trans (KeepsOthers.setCell _ _ _)).trans (KeepsOthers.setCell _ _ _)
theorem oth4 {W : World} {b b' n : Nat} {f : Nat → Value} (h : Arr W b n f) (hne : b' ≠ b) (v0 v1 v2 v3 : Value) : Arr ((((W.setCell ⟨b', 0, none⟩ v0).setCell ⟨b', 1, none⟩ v1).setCell ⟨b', 2, none⟩ v2).setCell ⟨b', 3, none⟩ v3) b n f :=
  (((h.other hne _).other hne _).other hne _).other hne _
theorem bel4 {w W : World} (h : Below w.heap.size w W) {b : Nat} (hle : w.heap.size ≤ b) (v0 v1 v2 v3 : Value) : Below w.heap.size w ((((W.setCell ⟨b, 0, none⟩ v0).setCell ⟨b, 1, none⟩ v1).setCell ⟨b, 2, none⟩ v2).setCell ⟨b, 3, none⟩ v3) :=
  Bel.st (Bel.st (Bel.st (Bel.st h hle _) hle _) hle _) hle _
/-- Bits of two numbers side by side. -/
def up2 (J K : Int) (L k : Nat) : List (Bool × Bool) := (List.range k).map fun j => (bitB J (L - 1 - j), bitB K (L - 1 - j))
theorem up2_succ (J K : Int) (L k : Nat) : up2 J K L (k + 1) = up2 J K L k ++ [(bitB J (L - 1 - k), bitB K (L - 1 - k))] := by simp [up2, List.range_succ]
theorem up2_len (J K : Int) (L k : Nat) : (up2 J K L k).length = k := by simp [up2]
theorem up2_pre (J K : Int) (L k : Nat) (h : k ≤ L) : up2 J K L k <+: up2 J K L L := by
  refine ⟨((List.range' k (L - k)).map fun j => (bitB J (L - 1 - j), bitB K (L - 1 - j))), ?_⟩
  unfold up2
  rw [← List.map_append]
  congr 1
  have h2 := @List.range'_append_1 0 k (L - k)
  rw [Nat.zero_add] at h2
  rw [List.range_eq_range', List.range_eq_range', h2]
  congr 1; omega
/-- Two blocks of four cells stay. -/
def KB2 (b c : Nat) (W W' : World) : Prop := KB b W W' ∧ KB c W W'
theorem KB2.t {b c : Nat} {A B D : World} (h1 : KB2 b c A B) (h2 : KB2 b c B D) : KB2 b c A D := ⟨h1.1.t h2.1, h1.2.t h2.2⟩
theorem kb2_below {b c : Nat} {W W' : World} (hb : Below W.heap.size W W') : KB2 b c W W' := ⟨kb_below hb, kb_below hb⟩
attribute [local go_sem] bv_t bv_f
set_option maxHeartbeats 4000000 in
theorem pbits1_in (J K : Int) (L1 L2 L : Nat) (n l Bj Bk : Nat) (hn : 1 ≤ n) (Jv Jx : List (Bool × Bool) → World → Prop) (h1 : L1 ≤ 256) (h2 : L2 ≤ 256) (hL : L ≤ 256) (hmax : (if L1 < L2 then (L2 : Int) else (L1 : Int)) = (L : Int)) {B : Nat} (hJ : AbidesFrom B Jv)
    (C1 : ∀ W, Calls Tryz.prog 55 #[nv J] W fun e w' => e = .returned (.int .i64 (L1 : Int)) ∧ Below W.heap.size W w')
    (C2 : ∀ W, Calls Tryz.prog 55 #[nv K] W fun e w' => e = .returned (.int .i64 (L2 : Int)) ∧ Below W.heap.size W w')
    (CJ : ∀ (k : Nat) W, k < 256 → Calls Tryz.prog 56 #[nv J, .int .i64 k] W fun e w' => e = .returned (bv (bitB J k)) ∧ Below W.heap.size W w')
    (CK : ∀ (k : Nat) W, k < 256 → Calls Tryz.prog 56 #[nv K, .int .i64 k] W fun e w' => e = .returned (bv (bitB K k)) ∧ Below W.heap.size W w')
    (hY : ∀ pre x W, Jv pre W → pre.length < 257 → YieldAt Fence.wide (n - 1) Tryz.prog l #[bv x.1, bv x.2] W fun e W' =>
      (e = .returned (.bool true) ∧ Jv (pre ++ [x]) W' ∧ KB2 Bj Bk W W') ∨ (e = .returned (.bool false) ∧ Jx (pre ++ [x]) W'))
    (W : World) (hA : Arr W Bj 4 (fun j => .int .u64 (lim J j))) (hD : Arr W Bk 4 (fun j => .int .u64 (lim K j))) (h0 : Jv [] W) :
    CallsIn Fence.wide n Tryz.prog 54 #[.func (.yield l) #[] #[], .pointer (some ⟨Bj, 0, none⟩), .pointer (some ⟨Bk, 0, none⟩)] W fun e W' => (∃ v, e = .returned v) ∧
      ((∃ ys, ys = up2 J K L L ∧ Jv ys W') ∨ (∃ pre, pre <+: up2 J K L L ∧ Jx pre W')) := by
  have hd : 1 ≤ n := hn
  have HH : Hid ((if L1 < L2 then (L2 : Int) else (L1 : Int)) = (L : Int)) := hmax
  clear hmax
  refine callsIn_of_wp Tryz.func54 rfl trivial ?_ rfl
  simp only [Tryz.ntmps54, List.size_toArray, List.length_cons, List.length_nil, Nat.reduceAdd, Nat.reduceSub, Array.replicate_succ, Array.replicate_zero, List.push_toArray, List.append_toArray, List.nil_append, List.cons_append]
  have n1 : (L1 : Int) ≤ 256 := by omega
  have n2 : (L2 : Int) ≤ 256 := by omega
  have n0 : (0 : Int) ≤ (L1 : Int) := by omega
  have n3 : (0 : Int) ≤ (L2 : Int) := by omega
  have rj0 := fun ds os => cell_regrown (hA.c 0 (by omega)) ds os
  have rk0 := fun ds os => cell_regrown (hD.c 0 (by omega)) ds os
  have rj1 := fun ds os => cell_regrown (hA.c 1 (by omega)) ds os
  have rk1 := fun ds os => cell_regrown (hD.c 1 (by omega)) ds os
  have rj2 := fun ds os => cell_regrown (hA.c 2 (by omega)) ds os
  have rk2 := fun ds os => cell_regrown (hD.c 2 (by omega)) ds os
  have rj3 := fun ds os => cell_regrown (hA.c 3 (by omega)) ds os
  have rk3 := fun ds os => cell_regrown (hD.c 3 (by omega)) ds os
  gi_wp2
  refine wpIn_region_below_tailw 6 (by kernel_rfl) (by kernel_rfl) ?_
  simp only [List.take_succ_cons, List.take_zero, List.drop_succ_cons, List.drop_zero]
  repeat (go_big_quiet_step (first | (go_at_call 55; with_reducible first | exact Calls.regrown_of (C1 _) | exact Calls.regrown_of (C2 _))))
  refine wpQuiet_nil ?_
  intro w1 hw'
  obtain ⟨⟨dq, osq⟩, hw''⟩ := hw'
  have hb1 := below_of hw''
  clear hw'' rj0 rj1 rj2 rj3 rk0 rk1 rk2 rk3
  have hA1 := hA.below hb1 hA.lt
  have hD1 := hD.below hb1 hD.lt
  have h01 := hJ _ _ _ none h0 (gby hb1) (fun r e => by cases e)
  clear hA hD h0 hb1 C1 C2
  rw [HH.out]
  clear HH n0 n1 n2 n3 h1 h2
  gi_wp2
  gi_loopw [4] (fun i wr => ∃ k : Nat, k ≤ L ∧ i = .int .i64 ((L : Int) - 1 - (k : Int)) ∧ Jv (up2 J K L k) wr ∧ Arr wr Bj 4 (fun j => .int .u64 (lim J j)) ∧ Arr wr Bk 4 (fun j => .int .u64 (lim K j))) (fun i _ => (intOf i + 1).toNat)
  case atStart => exact ⟨0, by omega, by go_num, h01, hA1, hD1⟩
  case round =>
    clear h01 hA1 hD1
    obtain ⟨k, hk, rfl, hJs, hA, hD⟩ := hrel
    by_cases hlt : k < L
    · obtain ⟨m, hm⟩ : ∃ m : Nat, (L : Int) - 1 - (k : Int) = (m : Int) := ⟨L - 1 - k, by omega⟩
      have em : m = L - 1 - k := by omega
      have HM : Hid (m = L - 1 - k) := em
      have HK : Hid (L = m + 1 + k) := (by omega : L = m + 1 + k)
      rw [hm]
      have m0 : (0 : Int) ≤ (m : Int) := by omega
      have m1 : (m : Int) ≤ 255 := by omega
      have cj := fun W => CJ m W (by omega)
      have ck := fun W => CK m W (by omega)
      have hk3 : (up2 J K L k).length < 257 := by rw [up2_len]; omega
      have hpre := up2_pre J K L (k + 1) hlt
      rw [up2_succ, ← em] at hpre
      have hus := up2_succ J K L k
      rw [← em] at hus
      have HU : Hid (up2 J K L (k + 1) = up2 J K L k ++ [(bitB J m, bitB K m)]) := hus
      clear em hm hus
      have rj0 := fun ds os => cell_regrown (hA.c 0 (by omega)) ds os
      have rk0 := fun ds os => cell_regrown (hD.c 0 (by omega)) ds os
      have rj1 := fun ds os => cell_regrown (hA.c 1 (by omega)) ds os
      have rk1 := fun ds os => cell_regrown (hD.c 1 (by omega)) ds os
      have rj2 := fun ds os => cell_regrown (hA.c 2 (by omega)) ds os
      have rk2 := fun ds os => cell_regrown (hD.c 2 (by omega)) ds os
      have rj3 := fun ds os => cell_regrown (hA.c 3 (by omega)) ds os
      have rk3 := fun ds os => cell_regrown (hD.c 3 (by omega)) ds os
      gi_wp2
      refine wpIn_region_below_tailw 7 (by kernel_rfl) (by kernel_rfl) ?_
      simp only [List.take_succ_cons, List.take_zero, List.drop_succ_cons, List.drop_zero]
      repeat (go_big_quiet_step (first | (go_at_call 56; with_reducible first | exact Calls.regrown_of (cj _) | exact Calls.regrown_of (ck _))))
      refine wpQuiet_nil ?_
      intro w2 hw'
      obtain ⟨⟨dq, osq⟩, hw''⟩ := hw'
      have hb2 := below_of hw''
      clear hw'' rj0 rj1 rj2 rj3 rk0 rk1 rk2 rk3
      obtain ⟨fn, tmps, assign, body, hy, hR⟩ := hY (up2 J K L k) (bitB J m, bitB K m) w2 (hJ _ _ _ none hJs (gby hb2) (fun r e => by cases e)) hk3
      gi_wp2
      refine hR.mono ?_
      rintro e W3 (⟨rfl, hJ3, hb3⟩ | ⟨rfl, hJx3⟩)
      · have hA3 := hb3.1 _ (hA.below hb2 hA.lt)
        have hD3 := hb3.2 _ (hD.below hb2 hD.lt)
        gi_wp2
        go_roundw
        case rel => exact ⟨k + 1, by omega, by have := HK.out; go_num, by rw [HU.out]; exact hJ3, hA3, hD3⟩
        case measure => first | (simp [intOf]; done) | (simp [intOf]; omega)
      · gi_wp2
        refine bodyPost_ret (results_none rfl _ _ _) rfl ?_
        exact ⟨⟨_, rfl⟩, .inr ⟨_, hpre, hJx3⟩⟩
    · have e : k = L := by omega
      subst e
      gi_wp2
      go_end0
      exact ⟨⟨_, rfl⟩, .inl ⟨_, rfl, hJs⟩⟩
theorem pbits_seq (J K : Int) (L1 L2 L n Bj Bk : Nat) (hn : 1 ≤ n) (h1 : L1 ≤ 256) (h2 : L2 ≤ 256) (hL : L ≤ 256) (hmax : (if L1 < L2 then (L2 : Int) else (L1 : Int)) = (L : Int)) (w0 : World)
    (C1 : ∀ W, Calls Tryz.prog 55 #[nv J] W fun e w' => e = .returned (.int .i64 (L1 : Int)) ∧ Below W.heap.size W w')
    (C2 : ∀ W, Calls Tryz.prog 55 #[nv K] W fun e w' => e = .returned (.int .i64 (L2 : Int)) ∧ Below W.heap.size W w')
    (CJ : ∀ (k : Nat) W, k < 256 → Calls Tryz.prog 56 #[nv J, .int .i64 k] W fun e w' => e = .returned (bv (bitB J k)) ∧ Below W.heap.size W w')
    (CK : ∀ (k : Nat) W, k < 256 → Calls Tryz.prog 56 #[nv K, .int .i64 k] W fun e w' => e = .returned (bv (bitB K k)) ∧ Below W.heap.size W w')
    (hA : Arr w0 Bj 4 (fun j => .int .u64 (lim J j))) (hD : Arr w0 Bk 4 (fun j => .int .u64 (lim K j))) :
    SeqStopsK Fence.wide n Tryz.prog 54 #[.pointer (some ⟨Bj, 0, none⟩), .pointer (some ⟨Bk, 0, none⟩)] (fun b : Bool × Bool => #[bv b.1, bv b.2]) (KB2 Bj Bk) (fun ys => ys = up2 J K L L) (fun pre => pre <+: up2 J K L L) 257 w0 :=
  fun l Jv Jx W hW hJ _ hY h0 =>
    pbits1_in J K L1 L2 L n l Bj Bk hn Jv Jx h1 h2 hL hmax hJ C1 C2 CJ CK hY W (hA.below hW hA.lt) (hD.below hW hD.lt) h0
set_option maxHeartbeats 1000000 in
theorem pbits_any (J K : Int) (w : World) : Calls Tryz.prog 31 #[nv J, nv K] w fun e w' => e = .returned (.func (.func 54) #[] #[.pointer (some ⟨w.heap.size, 0, none⟩), .pointer (some ⟨w.heap.size + 1, 0, none⟩)]) ∧ w' = (w.alloc (.cells #[.int .u64 (lim (J) 0), .int .u64 (lim (J) 1), .int .u64 (lim (J) 2), .int .u64 (lim (J) 3)] 24)).alloc (.cells #[.int .u64 (lim (K) 0), .int .u64 (lim (K) 1), .int .u64 (lim (K) 2), .int .u64 (lim (K) 3)] 24) := by
  go_enter Tryz.func31, Tryz.ntmps31
  go_wp2
  go_ret
  exact ⟨rfl, rfl⟩
end Go.Proofs.YtgekafmojedlkaaGreat
