/- What the reference's Block answers. -/
import Derived.Test.YtmkfnfencllfnaaDoorJ3
set_option linter.all false
set_option maxRecDepth 100000
namespace Go.Proofs.YtmkfnfencllfnaaDoor
open Go.RowKit Go.Sort
theorem Tryd.info99 : (Tryd.prog.info? 99).map (fun i => (i.zero, i.size, i.bytes)) = some (some (.int .u32 0), 1, 4) := by kernel_rfl
theorem made64 : ∃ C : Array Value, C.size = 64 ∧ (∀ j, j < 64 → C[j]? = some (.int .u32 0)) ∧ ∀ W : World, (Instr.makeSlice 112 (.int .i64 64) (.int .i64 64)).run Tryd.prog W = .ok (.slice (some ⟨W.heap.size, 0, none⟩) 64 64) (W.alloc (.cells C 99)) := by
  obtain ⟨i0, hi, hz0, hz1, hz2⟩ := info_parts Tryd.info99
  refine ⟨madeCells (Value.int .u32 0).cells (64 * 1), by rw [size_madeCells], ?_, fun W => ?_⟩
  · intro j hj
    simp only [madeCells, Value.cells]
    rw [Array.getElem?_map, Array.getElem?_range, if_pos (by omega)]
    simp [Nat.mod_one]
  · have := run_make (P := Tryd.prog) W 112 99 i0 (.int .u32 0) Tryd.underlying112 hi hz0 .i64 .i64 64 64 (by omega) (by omega) (by rw [hz2]; omega) (by omega)
    rw [hz1] at this
    exact this
set_option maxHeartbeats 2000000 in
theorem rblock_no (h : Nat → Int) (s : ByteArray) (hs : s.size ≠ 64) (hm : s.size ≤ maxLen) (w : World) :
    Calls Tryd.prog 69 #[w8 h, .string s] w fun e w' => e = .returned (.tuple #[w8 (fun _ => 0), .int .i64 10]) ∧ Below w.heap.size w w' := by
  unfold maxLen at hm
  have n64 : ¬ (s.size : Int) = 64 := by omega
  unfold w8
  go_enter Tryd.func69, Tryd.ntmps69
  go_wp2_with fail
  refine bodyPost_ret (v := .tuple #[.agg #[.int .u32 0, .int .u32 0, .int .u32 0, .int .u32 0, .int .u32 0, .int .u32 0, .int .u32 0, .int .u32 0], .int .i64 10]) (by simp [results, Tryd.results69, go_sem]) rfl ⟨rfl, ?_⟩
  go_grown
/-- The blocks of the reference's Block. -/
def RB (w : World) (h g K : Nat → Int) (k : Nat) (W : World) : Prop :=
  Below w.heap.size w W ∧ Arr W w.heap.size 8 (fun j => .int .u32 (h j)) ∧ Arr W (w.heap.size + 1) 8 (fun _ => .int .u32 0) ∧ Arr W (w.heap.size + 1 + 1) 64 (fun j => .int .u32 (K j)) ∧ Arr W (w.heap.size + 1 + 1 + 1) 64 (fun j => .int .u32 (if j < k then g j else 0))
theorem RB.to {w : World} {h g K : Nat → Int} {k : Nat} {A B : World} (x : RB w h g K k A) (hb : Below A.heap.size A B) : RB w h g K k B :=
  ⟨Bel.call x.1 hb, x.2.1.to' hb, x.2.2.1.to' hb, x.2.2.2.1.to' hb, x.2.2.2.2.to' hb⟩
theorem RB.next {w : World} {h g K : Nat → Int} {k : Nat} {A : World} (x : RB w h g K k A) (hk : k < 64) : RB w h g K (k + 1) (A.setCell ⟨w.heap.size + 1 + 1 + 1, k, none⟩ (.int .u32 (g k))) :=
  ⟨Bel.st x.1 (by omega) _, x.2.1.other (by omega) _, x.2.2.1.other (by omega) _, x.2.2.2.1.other (by omega) _, arr_next x.2.2.2.2 hk⟩
theorem RB.st8o {w : World} {h g K : Nat → Int} {k B : Nat} {A : World} (x : RB w h g K k A) (hB : w.heap.size + 1 + 1 + 1 < B) (q : Nat → Int) : RB w h g K k (st8 A B q) :=
  ⟨Bel.st8 x.1 (by omega) q, x.2.1.st8o (by omega) q, x.2.2.1.st8o (by omega) q, x.2.2.2.1.st8o (by omega) q, x.2.2.2.2.st8o (by omega) q⟩
theorem RB.sto {w : World} {h g K : Nat → Int} {k B j : Nat} {A : World} (x : RB w h g K k A) (hB : w.heap.size + 1 + 1 + 1 < B) (v : Value) : RB w h g K k (A.setCell ⟨B, j, none⟩ v) :=
  ⟨Bel.st x.1 (by omega) v, x.2.1.other (by omega) v, x.2.2.1.other (by omega) v, x.2.2.2.1.other (by omega) v, x.2.2.2.2.other (by omega) v⟩
set_option maxHeartbeats 8000000 in
theorem rblock_core (h : Nat → Int) (s : ByteArray) (hs : s.size = 64) (KL C : Array Value) (g K : Nat → Int) (S : Nat → Nat → Int) (y : Nat → Int)
    (hlo : ∀ k, k < 16 → g k = bw (bt s (4 * k)) (bt s (4 * k + 1)) (bt s (4 * k + 2)) (bt s (4 * k + 3)))
    (hhi : ∀ k, 16 ≤ k → k < 64 → g k = ext (g (k - 2)) (g (k - 7)) (g (k - 15)) (g (k - 16)))
    (kat : ∀ j, j < 64 → KL[j]? = some (.int .u32 (K j))) (hC : ∀ j, j < 64 → C[j]? = some (.int .u32 0)) (h0 : ∀ j, S 0 j = h j) (hS : ∀ k, k < 64 → S (k + 1) = rd (K k) (g k) (S k))
    (hy : ∀ j, y j = (h j + S 64 j) % 4294967296) (w : World)
    (mk : ∀ W : World, (Instr.makeSlice 112 (.int .i64 64) (.int .i64 64)).run Tryd.prog W = .ok (.slice (some ⟨W.heap.size, 0, none⟩) 64 64) (W.alloc (.cells C 99)))
    (C25 : ∀ W, Calls Tryd.prog 79 #[] W fun e w' => e = .returned (.slice (some ⟨W.heap.size, 0, none⟩) 64 64) ∧ w' = W.alloc (.cells KL 99)) :
    Calls Tryd.prog 69 #[w8 h, .string s] w fun e w' => e = .returned (.tuple #[w8 y, .int .i64 0]) ∧ Below w.heap.size w w' := by
  have n64 : (s.size : Int) = 64 := by omega
  unfold w8
  go_enter Tryd.func69, Tryd.ntmps69
  go_wp2_with (go_at_call 79; refine (C25 _).mono ?_; rintro e w1 ⟨rfl, rfl⟩)
  have X : RB w h g K 0 ((((w.alloc (.cells #[.int .u32 (h 0), .int .u32 (h 1), .int .u32 (h 2), .int .u32 (h 3), .int .u32 (h 4), .int .u32 (h 5), .int .u32 (h 6), .int .u32 (h 7)] 100)).alloc (.cells #[.int .u32 0, .int .u32 0, .int .u32 0, .int .u32 0, .int .u32 0, .int .u32 0, .int .u32 0, .int .u32 0] 100)).alloc (.cells KL 99)).alloc (.cells C 99)) :=
    ⟨by go_grown, (((Arr.new w _ 100 _ rfl _ 8 (h8_at h)).al' _).al' _).al' _, ((Arr.new _ _ 100 _ (by simp) _ 8 z8_at).al' _).al' _, (Arr.new _ _ 99 _ (by simp) _ 64 kat).al' _, Arr.new _ _ 99 _ (by simp) _ 64 (by intro j hj; rw [if_neg (by omega)]; exact hC j hj)⟩
  generalize ((((w.alloc (.cells #[.int .u32 (h 0), .int .u32 (h 1), .int .u32 (h 2), .int .u32 (h 3), .int .u32 (h 4), .int .u32 (h 5), .int .u32 (h 6), .int .u32 (h 7)] 100)).alloc (.cells #[.int .u32 0, .int .u32 0, .int .u32 0, .int .u32 0, .int .u32 0, .int .u32 0, .int .u32 0, .int .u32 0] 100)).alloc (.cells KL 99)).alloc (.cells C 99)) = W at *
  clear mk C25 kat hC
  go_loopw [8] (fun i wr => ∃ k : Nat, k ≤ 64 ∧ i = .int .i64 k ∧ RB w h g K k wr) (fun i _ => 64 - (RowKit.intOf i).toNat)
  case atStart => exact ⟨0, by omega, rfl, X⟩
  case round =>
    clear X
    obtain ⟨k, hk, rfl, X⟩ := hrel
    by_cases hlt : k < 64
    · have k64 : (k : Int) < 64 := by omega
      by_cases h16 : k < 16
      · have k0 : (0 : Int) ≤ (k : Int) := by omega
        have k16 : (k : Int) < 16 := by omega
        have I0 := fun W => idxS s (4 * k) (by omega) W
        have I1 := fun W => idxS s (4 * k + 1) (by omega) W
        have I2 := fun W => idxS s (4 * k + 2) (by omega) W
        have I3 := fun W => idxS s (4 * k + 3) (by omega) W
        rw [show ((4 * k : Nat) : Int) = 4 * (k : Int) by omega] at I0
        rw [show ((4 * k + 1 : Nat) : Int) = 4 * (k : Int) + 1 by omega] at I1
        rw [show ((4 * k + 2 : Nat) : Int) = 4 * (k : Int) + 2 by omega] at I2
        rw [show ((4 * k + 3 : Nat) : Int) = 4 * (k : Int) + 3 by omega] at I3
        have gk := hlo k h16
        have m0 := bt_m s (4 * k)
        have m1 := bt_m s (4 * k + 1)
        have m2 := bt_m s (4 * k + 2)
        have m3 := bt_m s (4 * k + 3)
        generalize bt s (4 * k) = x0 at *
        generalize bt s (4 * k + 1) = x1 at *
        generalize bt s (4 * k + 2) = x2 at *
        generalize bt s (4 * k + 3) = x3 at *
        have HG : Hid _ := gk
        clear hlo hhi hS h0 hy gk
        go_wp2_with fail
        refine wp_region_below_tail 32 (by kernel_rfl) (by kernel_rfl) ?_
        simp only [List.take_succ_cons, List.take_zero, List.drop_succ_cons, List.drop_zero]
        repeat (go_big_quiet_step (fail))
        refine wpQuiet_nil ?_
        intro w2 hw'
        obtain ⟨⟨dq, osq⟩, hw''⟩ := hw'
        have hb := below_of hw''
        clear hw''
        have X' := X.to hb
        have c := X'.2.2.2.2.c k hlt
        have z := X'.2.2.2.2.z k hlt
        clear X hb
        go_wp2_with fail
        rw [show bits .or .u32 (bits .or .u32 (bits .or .u32 (x0 * 16777216 % 4294967296) (x1 * 65536 % 4294967296)) (x2 * 256 % 4294967296)) x3 = g k from HG.out.symm]
        exact ⟨⟨k + 1, by omega, by go_num, X'.next hlt⟩, by simp [RowKit.intOf]; omega⟩
      · have k16 : (16 : Int) ≤ (k : Int) := by omega
        have gk := hhi k (by omega) hlt
        obtain ⟨p2, q2, e2⟩ : ∃ p : Nat, (k : Int) - 2 = (p : Int) ∧ k - 2 = p := ⟨k - 2, by omega, rfl⟩
        obtain ⟨p7, q7, e7⟩ : ∃ p : Nat, (k : Int) - 7 = (p : Int) ∧ k - 7 = p := ⟨k - 7, by omega, rfl⟩
        obtain ⟨p15, q15, e15⟩ : ∃ p : Nat, (k : Int) - 15 = (p : Int) ∧ k - 15 = p := ⟨k - 15, by omega, rfl⟩
        obtain ⟨p16, q16, e16⟩ : ∃ p : Nat, (k : Int) - 16 = (p : Int) ∧ k - 16 = p := ⟨k - 16, by omega, rfl⟩
        rw [e2, e7, e15, e16] at gk
        have l2 : (p2 : Int) < 64 := by omega
        have l7 : (p7 : Int) < 64 := by omega
        have l15 : (p15 : Int) < 64 := by omega
        have l16 : (p16 : Int) < 64 := by omega
        have A1 := X.2.2.2.2
        have c2 := A1.cv p2 (by omega) (.int .u32 (g p2)) (by rw [if_pos (by omega)])
        have c7 := A1.cv p7 (by omega) (.int .u32 (g p7)) (by rw [if_pos (by omega)])
        have c15 := A1.cv p15 (by omega) (.int .u32 (g p15)) (by rw [if_pos (by omega)])
        have c16 := A1.cv p16 (by omega) (.int .u32 (g p16)) (by rw [if_pos (by omega)])
        have r7 := fun ds os => cell_regrown c7 ds os
        have r16 := fun ds os => cell_regrown c16 ds os
        have HG : Hid (g k = ext (g p2) (g p7) (g p15) (g p16)) := gk
        clear hlo hhi hS h0 hy gk e2 e7 e15 e16 c7 c16 A1
        unfold ext sg0 sg1 at HG
        generalize g p2 = x2 at *
        generalize g p7 = x7 at *
        generalize g p15 = x15 at *
        generalize g p16 = x16 at *
        go_wp2_with fail
        refine wp_region_below_tail 32 (by kernel_rfl) (by kernel_rfl) ?_
        simp only [List.take_succ_cons, List.take_zero, List.drop_succ_cons, List.drop_zero]
        repeat (go_big_quiet_step (first | (go_at_call 80; exact Calls.regrown_of (rturn_any _ _ (by first | exact amt_17 | exact amt_19 | exact amt_7 | exact amt_18) _))))
        refine wpQuiet_nil ?_
        intro w2 hw'
        obtain ⟨⟨dq, osq⟩, hw''⟩ := hw'
        have hb := below_of hw''
        clear hw'' r7 r16 c2 c15
        have X' := X.to hb
        have c := X'.2.2.2.2.c k hlt
        have z := X'.2.2.2.2.z k hlt
        clear X hb
        go_wp2_with fail
        rw [show (bits .xor .u32 (bits .xor .u32 (rot x2 17) (rot x2 19)) (x2 / 1024) + x7 + bits .xor .u32 (bits .xor .u32 (rot x15 7) (rot x15 18)) (x15 / 8) + x16) % 4294967296 = g k from HG.out.symm]
        exact ⟨⟨k + 1, by omega, by go_num, X'.next hlt⟩, by simp [RowKit.intOf]; omega⟩
    · have e64 : k = 64 := by omega
      have ek : ((k : Nat) : Int) = 64 := by omega
      rw [ek]
      clear ek
      subst e64
      clear hlo hhi hlt hk
      have c0 := X.2.1.c
      go_upto_region 14 with fail
      have X2 := X.to ((Below.refl _ wr).alloc (Nat.le_refl _) (.cells #[.int .u32 (h 0), .int .u32 (h 1), .int .u32 (h 2), .int .u32 (h 3), .int .u32 (h 4), .int .u32 (h 5), .int .u32 (h 6), .int .u32 (h 7)] 100))
      have A4 := Arr.new wr #[.int .u32 (h 0), .int .u32 (h 1), .int .u32 (h 2), .int .u32 (h 3), .int .u32 (h 4), .int .u32 (h 5), .int .u32 (h 6), .int .u32 (h 7)] 100 _ rfl _ 8 (h8_at h)
      have lB : w.heap.size + 1 + 1 + 1 < wr.heap.size := X.2.2.2.2.lt
      generalize (wr.alloc (.cells #[.int .u32 (h 0), .int .u32 (h 1), .int .u32 (h 2), .int .u32 (h 3), .int .u32 (h 4), .int .u32 (h 5), .int .u32 (h 6), .int .u32 (h 7)] 100)) = W2 at *
      generalize wr.heap.size = B at *
      clear X c0
      go_wp2_with fail
      go_loopw [12] (fun i wr => ∃ k : Nat, k ≤ 64 ∧ i = .int .i64 k ∧ RB w h g K 64 wr ∧ Arr wr B 8 (fun j => .int .u32 (S k j))) (fun i _ => 64 - (RowKit.intOf i).toNat)
      case atStart => exact ⟨0, by omega, rfl, X2, A4.congr (by intro j hj; rw [h0])⟩
      case round =>
        clear X2 A4 h0
        obtain ⟨k, hk, rfl, X, A4⟩ := hrel
        by_cases hlt : k < 64
        · have k0 : (0 : Int) ≤ (k : Int) := by omega
          have k64 : (k : Int) < 64 := by omega
          have s1 : Hid (S (k + 1) 1 = S k 0) := by show S (k + 1) 1 = S k 0; rw [hS k hlt]; rfl
          have s2 : Hid (S (k + 1) 2 = S k 1) := by show S (k + 1) 2 = S k 1; rw [hS k hlt]; rfl
          have s3 : Hid (S (k + 1) 3 = S k 2) := by show S (k + 1) 3 = S k 2; rw [hS k hlt]; rfl
          have s5 : Hid (S (k + 1) 5 = S k 4) := by show S (k + 1) 5 = S k 4; rw [hS k hlt]; rfl
          have s6 : Hid (S (k + 1) 6 = S k 5) := by show S (k + 1) 6 = S k 5; rw [hS k hlt]; rfl
          have s7 : Hid (S (k + 1) 7 = S k 6) := by show S (k + 1) 7 = S k 6; rw [hS k hlt]; rfl
          have s0 : Hid (S (k + 1) 0 = (((S k 7 + bits .xor .u32 (bits .xor .u32 (rot (S k 4) 6) (rot (S k 4) 11)) (rot (S k 4) 25) + bits .xor .u32 (bits .and .u32 (S k 4) (S k 5)) (bits .and .u32 (bits .xor .u32 (if IntKind.u32.signed = true then -1 else IntKind.u32.max) (S k 4)) (S k 6)) + K k) % 4294967296 + g k) % 4294967296 + (bits .xor .u32 (bits .xor .u32 (rot (S k 0) 2) (rot (S k 0) 13)) (rot (S k 0) 22) + bits .xor .u32 (bits .xor .u32 (bits .and .u32 (S k 0) (S k 1)) (bits .and .u32 (S k 0) (S k 2))) (bits .and .u32 (S k 1) (S k 2))) % 4294967296) % 4294967296) := by show S (k + 1) 0 = _; rw [hS k hlt]; rfl
          have s4 : Hid (S (k + 1) 4 = (S k 3 + ((S k 7 + bits .xor .u32 (bits .xor .u32 (rot (S k 4) 6) (rot (S k 4) 11)) (rot (S k 4) 25) + bits .xor .u32 (bits .and .u32 (S k 4) (S k 5)) (bits .and .u32 (bits .xor .u32 (if IntKind.u32.signed = true then -1 else IntKind.u32.max) (S k 4)) (S k 6)) + K k) % 4294967296 + g k) % 4294967296) % 4294967296) := by show S (k + 1) 4 = _; rw [hS k hlt]; rfl
          clear hS hy
          have rg := fun ds os => cell_regrown (X.2.2.2.2.cv k hlt (.int .u32 (g k)) (by rw [if_pos hlt])) ds os
          have rk := fun ds os => cell_regrown (X.2.2.2.1.c k hlt) ds os
          have r0 := fun ds os => cell_regrown (A4.c 0 (by omega)) ds os
          have r1 := fun ds os => cell_regrown (A4.c 1 (by omega)) ds os
          have r2 := fun ds os => cell_regrown (A4.c 2 (by omega)) ds os
          have r3 := fun ds os => cell_regrown (A4.c 3 (by omega)) ds os
          have r4 := fun ds os => cell_regrown (A4.c 4 (by omega)) ds os
          have r5 := fun ds os => cell_regrown (A4.c 5 (by omega)) ds os
          have r6 := fun ds os => cell_regrown (A4.c 6 (by omega)) ds os
          have r7 := fun ds os => cell_regrown (A4.c 7 (by omega)) ds os
          generalize S k = x at *
          go_wp2_with fail
          refine wp_region_quiet_below (by kernel_rfl) (by kernel_rfl) ?_
          repeat (go_big_quiet_step (first | (go_at_call 80; exact Calls.regrown_of (rturn_any _ _ (by first | exact amt_6 | exact amt_11 | exact amt_25) _))))
          refine wpQuiet_nil ?_
          intro w3 hw'
          obtain ⟨⟨dq, osq⟩, hw''⟩ := hw'
          have hb := below_of hw''
          clear hw'' rg rk r0 r1 r2 r3 r4 r5 r6 r7
          have X3 := X.to hb
          have A5 := A4.to' hb
          clear X A4 hb
          generalize ((x 7 + bits .xor .u32 (bits .xor .u32 (rot (x 4) 6) (rot (x 4) 11)) (rot (x 4) 25) + bits .xor .u32 (bits .and .u32 (x 4) (x 5)) (bits .and .u32 (bits .xor .u32 (if IntKind.u32.signed = true then -1 else IntKind.u32.max) (x 4)) (x 6)) + K k) % 4294967296 + g k) % 4294967296 = T at *
          have r0 := fun ds os => cell_regrown (A5.c 0 (by omega)) ds os
          have r1 := fun ds os => cell_regrown (A5.c 1 (by omega)) ds os
          have r2 := fun ds os => cell_regrown (A5.c 2 (by omega)) ds os
          go_wp2_with fail
          refine wp_region_quiet_below (by kernel_rfl) (by kernel_rfl) ?_
          repeat (go_big_quiet_step (first | (go_at_call 80; exact Calls.regrown_of (rturn_any _ _ (by first | exact amt_2 | exact amt_13 | exact amt_22) _))))
          refine wpQuiet_nil ?_
          intro w4 hw'
          obtain ⟨⟨dq, osq⟩, hw''⟩ := hw'
          have hb := below_of hw''
          clear hw'' r0 r1 r2
          have X4 := X3.to hb
          have A6 := A5.to' hb
          clear X3 A5 hb
          generalize (bits .xor .u32 (bits .xor .u32 (rot (x 0) 2) (rot (x 0) 13)) (rot (x 0) 22) + bits .xor .u32 (bits .xor .u32 (bits .and .u32 (x 0) (x 1)) (bits .and .u32 (x 0) (x 2))) (bits .and .u32 (x 1) (x 2))) % 4294967296 = V at *
          have c6 := A6.c
          have z6 := A6.z
          go_wp2_with fail
          rw [← s0.out, ← s1.out, ← s2.out, ← s3.out, ← s4.out, ← s5.out, ← s6.out, ← s7.out]
          exact ⟨⟨k + 1, by omega, by go_num, X4.st8o lB (S (k + 1)), A6.st8 (S (k + 1))⟩, by simp [RowKit.intOf]; omega⟩
        · have e64 : k = 64 := by omega
          have ek : ((k : Nat) : Int) = 64 := by omega
          rw [ek]
          clear ek
          subst e64
          clear hS hlt hk
          generalize S 64 = q at *
          go_wp2_with fail
          go_loopw [15] (fun i wr => ∃ k : Nat, k ≤ 8 ∧ i = .int .i64 k ∧ RB w h g K 64 wr ∧ Arr wr B 8 (fun j => .int .u32 (if j < k then y j else q j))) (fun i _ => 8 - (RowKit.intOf i).toNat)
          case atStart => exact ⟨0, by omega, rfl, X, A4.congr (by intro j hj; rw [if_neg (by omega)])⟩
          case round =>
            clear X A4
            obtain ⟨k, hk, rfl, X, A4⟩ := hrel
            by_cases hlt : k < 8
            · have k0 : (0 : Int) ≤ (k : Int) := by omega
              have k8 : (k : Int) < 8 := by omega
              have ra := fun ds os => cell_regrown (A4.cv k hlt (.int .u32 (q k)) (by rw [if_neg (by omega)])) ds os
              have rh := fun ds os => cell_regrown (X.2.1.c k hlt) ds os
              have HY : Hid (y k = (q k + h k) % 4294967296) := by show _ = _; rw [hy k, Int.add_comm]
              clear hy
              go_wp2_with fail
              refine wp_region_below_tail 9 (by kernel_rfl) (by kernel_rfl) ?_
              simp only [List.take_succ_cons, List.take_zero, List.drop_succ_cons, List.drop_zero]
              repeat (go_big_quiet_step (fail))
              refine wpQuiet_nil ?_
              intro w3 hw'
              obtain ⟨⟨dq, osq⟩, hw''⟩ := hw'
              have hb := below_of hw''
              clear hw'' ra rh
              have X3 := X.to hb
              have A5 := A4.to' hb
              clear X A4 hb
              have c5 := A5.c k hlt
              have z5 := A5.z k hlt
              go_wp2_with fail
              rw [← HY.out]
              refine ⟨⟨k + 1, by omega, by go_num, X3.sto lB _, (A5.set k hlt _).congr ?_⟩, by simp [RowKit.intOf]; omega⟩
              intro j hj
              by_cases e : j = k
              · subst e; simp
              · simp only [if_neg e]
                by_cases e2 : j < k
                · rw [if_pos e2, if_pos (by omega)]
                · rw [if_neg e2, if_neg (by omega)]
            · have e8 : k = 8 := by omega
              subst e8
              have c4 := (A4.congr (g := fun j => .int .u32 (y j)) (by intro j hj; rw [if_pos hj])).c
              have c1 := X.2.2.1.c
              have z1 := X.2.2.1.z
              have hB := X.1
              clear A4 X hy
              go_wp2_with fail
              refine bodyPost_ret (v := .tuple #[.agg #[.int .u32 (y 0), .int .u32 (y 1), .int .u32 (y 2), .int .u32 (y 3), .int .u32 (y 4), .int .u32 (y 5), .int .u32 (y 6), .int .u32 (y 7)], .int .i64 0]) (by simp [results, Tryd.results69, go_sem, c1]) rfl ⟨rfl, ?_⟩
              go_grown
theorem rblock_any (h : Nat → Int) (s : ByteArray) (hm : s.size ≤ maxLen) (w : World) : Calls Tryd.prog 69 #[w8 h, .string s] w fun e w' => e = .returned (if s.size = 64 then .tuple #[w8 (mixF h s), .int .i64 0] else .tuple #[w8 (fun _ => 0), .int .i64 10]) ∧ Below w.heap.size w w' := by
  by_cases c : s.size = 64
  · rw [if_pos c]
    obtain ⟨C, _, hC, mk⟩ := made64
    exact rblock_core h s c kkL.toArray C (sW (bt s)) kk (rs (bt s) h) _ (fun k hk => sW_lo _ k hk) (fun k hk _ => sW_hi _ k hk) (by intro j hj; rw [List.getElem?_toArray]; exact kkL_at j hj) hC (fun _ => rfl) (fun _ _ => rfl) (fun _ => rfl) w mk (fun W => rconst_any W)
  · rw [if_neg c]; exact rblock_no h s c hm w
end Go.Proofs.YtmkfnfencllfnaaDoor
