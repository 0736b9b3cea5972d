/- Texts joined: A6, A7, A10, G4, A8, A9, A11, A12, A13, G6, G7, C1, Z11. -/
import Derived.Lib.BufferWrite
import Derived.Test.YtjaljnfijhfkcaaGreatDoorJ7
import Derived.Test.YtjaljnfijhfkcaaGreatDoorJ4
/- Blocks: sums, bytes become, rows turned, columns mixed, as words. -/
set_option linter.all false
set_option maxRecDepth 100000
namespace Go.Proofs.YtjaljnfijhfkcaaGreatDoor
open Go.RowKit Go.Sort Lin
/-- Four words. -/
def bv (x : Nat → Int) : Value := .agg #[.int .u32 (x 0), .int .u32 (x 1), .int .u32 (x 2), .int .u32 (x 3)]
theorem h4_at (x : Nat → Int) (j : Nat) (hj : j < 4) : (#[.int .u32 (x 0), .int .u32 (x 1), .int .u32 (x 2), .int .u32 (x 3)] : Array Value)[j]? = some (.int .u32 (x j)) := by
  have : j = 0 ∨ j = 1 ∨ j = 2 ∨ j = 3 := by omega
  rcases this with rfl | rfl | rfl | rfl <;> rfl
theorem z4_at (j : Nat) (hj : j < 4) : (#[.int .u32 0, .int .u32 0, .int .u32 0, .int .u32 0] : Array Value)[j]? = some (.int .u32 0) := h4_at (fun _ => 0) j hj
theorem idx68 (A : Array Value) (k : Nat) (v : Int) (hk : k < 4) (hv : A[k]? = some (.int .u32 v)) (W : World) : (Instr.index 168 (.agg A) (.int .i64 (k : Int))).run Tryz.prog W = .ok (.int .u32 v) W := by
  have h0 : (0 : Int) ≤ (k : Int) ∧ (k : Int) < ((4 : Nat) : Int) := by omega
  have hs : (Go.sizeOf 112).run Tryz.prog W = .ok 1 W := by kernel_rfl
  simp only [Instr.index, asIntOf, Sem.run_bind, Sem.run_pure, Result.andThen_ok, run_underlying Tryz.underlying168]
  rw [Sem.run_ite, if_pos h0]
  simp only [Sem.run_bind, hs, Result.andThen_ok, Int.toNat_natCast, Nat.mul_one]
  have ha : (isAgg 112).run Tryz.prog W = .ok false W := by kernel_rfl
  simp [part, Sem.run_bind, ha, hv]
/-- The first k are done. -/
def mid (y x : Nat → Int) (k : Nat) (j : Nat) : Value := .int .u32 (if j < k then y j else x j)
theorem mid_at {w : World} {b : Nat} {x y : Nat → Int} {k : Nat} (h : Arr w b 4 (mid y x k)) (hk : k < 4) : Arr (w.setCell ⟨b, k, none⟩ (.int .u32 (y k))) b 4 (mid y x (k + 1)) := by
  refine (h.set k hk _).congr ?_
  intro j hj
  unfold mid
  by_cases e : j = k
  · subst e; simp
  · simp only [if_neg e]
    by_cases e2 : j < k
    · rw [if_pos e2, if_pos (by omega)]
    · rw [if_neg e2, if_neg (by omega)]
theorem mid_end {w : World} {b : Nat} {x y : Nat → Int} (h : Arr w b 4 (mid y x 4)) : Arr w b 4 (fun j => .int .u32 (y j)) := h.congr fun j hj => by unfold mid; rw [if_pos hj]
theorem mid_0 (x y : Nat → Int) (j : Nat) : mid y x 0 j = .int .u32 (x j) := by unfold mid; rw [if_neg (by omega)]
/-- Four words put into a block. -/
def st4 (w : World) (b : Nat) (g : Nat → Int) : World := (((w.setCell ⟨b, 0, none⟩ (.int .u32 (g 0))).setCell ⟨b, 1, none⟩ (.int .u32 (g 1))).setCell ⟨b, 2, none⟩ (.int .u32 (g 2))).setCell ⟨b, 3, none⟩ (.int .u32 (g 3))
theorem Arr.st4 {w : World} {b : Nat} {f : Nat → Value} (h : Arr w b 4 f) (g : Nat → Int) : Arr (st4 w b g) b 4 (fun j => .int .u32 (g j)) :=
  ((((h.set 0 (by omega) _).set 1 (by omega) _).set 2 (by omega) _).set 3 (by omega) _).congr (by
    intro j hj
    have : j = 0 ∨ j = 1 ∨ j = 2 ∨ j = 3 := by omega
    rcases this with rfl | rfl | rfl | rfl <;> simp)
theorem Arr.st4o {w : World} {b b' n : Nat} {f : Nat → Value} (h : Arr w b n f) (hne : b' ≠ b) (g : Nat → Int) : Arr (Go.Proofs.YtjaljnfijhfkcaaGreatDoor.st4 w b' g) b n f := (((h.other hne _).other hne _).other hne _).other hne _
theorem Bel.st4 {w W : World} (h : Below w.heap.size w W) {b : Nat} (hle : w.heap.size ≤ b) (g : Nat → Int) : Below w.heap.size w (Go.Proofs.YtjaljnfijhfkcaaGreatDoor.st4 W b g) := Bel.st (Bel.st (Bel.st (Bel.st h hle _) hle _) hle _) hle _
theorem ko_st4 (W : World) (b : Nat) (g : Nat → Int) : KeepsOthers W (st4 W b g) := (((KeepsOthers.setCell _ _ _).trans (KeepsOthers.setCell _ _ _)).trans (KeepsOthers.setCell _ _ _)).trans (KeepsOthers.setCell _ _ _)
set_option maxHeartbeats 2000000 in
theorem plus_core (x y g : Nat → Int) (hg : ∀ k, k < 4 → bits .xor .u32 (x k) (y k) = g k) (w : World) :
    Calls Tryz.prog 111 #[bv x, bv y] w fun e w' => e = .returned (bv g) ∧ Below w.heap.size w w' := by
  unfold bv
  go_enter Tryz.func111, Tryz.ntmps111
  go_wp2_with fail
  go_loopw [8] (fun i wr => ∃ k : Nat, k ≤ 4 ∧ i = .int .i64 k ∧ Below w.heap.size w wr ∧ Arr wr w.heap.size 4 (mid g x k) ∧ Arr wr (w.heap.size + 1 + 1) 4 (fun _ => .int .u32 0)) (fun i _ => 4 - (intOf i).toNat)
  case atStart =>
    refine ⟨0, by omega, rfl, by go_grown, ?_, ?_⟩
    · exact (((Arr.new w _ _ _ rfl _ 4 (h4_at x)).al' _).al' _).congr fun j _ => (mid_0 _ _ j).symm
    · exact Arr.new _ _ _ _ (by simp) _ 4 z4_at
  case round =>
    obtain ⟨k, hk, rfl, hB, A0, A2⟩ := hrel
    by_cases hlt : k < 4
    · have k0 : (0 : Int) ≤ (k : Int) := by omega
      have k4 : (k : Int) < 4 := by omega
      have I := fun W => idx68 _ k _ hlt (h4_at y k hlt) W
      have c := A0.cv k hlt (.int .u32 (x k)) (by unfold mid; rw [if_neg (by omega)])
      have z := A0.z k hlt
      have hgk := hg k hlt
      clear hg
      go_wp2_with fail
      refine ⟨⟨k + 1, by omega, by go_num, Bel.st hB (by omega) _, mid_at A0 hlt, A2.other (by omega) _⟩, by simp [intOf]; omega⟩
    · have e : k = 4 := by omega
      rw [show ((k : Nat) : Int) = 4 by omega]
      subst e
      have A := mid_end A0
      have c0 := A.c 0 (by omega)
      have c1 := A.c 1 (by omega)
      have c2 := A.c 2 (by omega)
      have c3 := A.c 3 (by omega)
      have d := A2.c
      have z := A2.z
      have E := (A2.st4 g).c
      clear A0 hk hlt hg
      go_wp2_with fail
      refine bodyPost_ret (v := bv g) ?_ rfl ⟨rfl, Bel.st4 hB (by omega) g⟩
      simp only [Go.Proofs.YtjaljnfijhfkcaaGreatDoor.st4] at E
      simp [bv, results, Tryz.results111, go_sem, E]
end Go.Proofs.YtjaljnfijhfkcaaGreatDoor
/- Blocks: bytes become. -/
set_option linter.all false
set_option maxRecDepth 100000
namespace Go.Proofs.YtjaljnfijhfkcaaGreatDoor
open Go.RowKit Go.Sort Lin
/-- A table lies in a block. -/
def TabAt (w : World) (b o : Nat) (f : By → By) : Prop := ∀ a : By, w.cell? ⟨b, o + a.val, none⟩ = some (.int .u8 ((f a).val : Int))
theorem TabAt.to {w w' : World} {b o : Nat} {f : By → By} (h : TabAt w b o f) (hb : Below w.heap.size w w') : TabAt w' b o f := fun a => (hb.cell (p := ⟨b, o + a.val, none⟩) (block_lt_of_cell (h a))).trans (h a)
theorem TabAt.lt {w : World} {b o : Nat} {f : By → By} (h : TabAt w b o f) : b < w.heap.size := block_lt_of_cell (h 0)
set_option maxHeartbeats 2000000 in
theorem become_core (x g : Nat → Int) (b o : Nat) (f : By → By) (C57 : ∀ k, k < 4 → ∀ W, TabAt W b o f → Calls Tryz.prog 126 #[.pointer (some ⟨b, o, none⟩), .int .u32 (x k)] W fun e w' => e = .returned (.int .u32 (g k)) ∧ Below W.heap.size W w') (w : World) (hT : TabAt w b o f) :
    Calls Tryz.prog 108 #[bv x, .pointer (some ⟨b, o, none⟩)] w fun e w' => e = .returned (bv g) ∧ Below w.heap.size w w' := by
  unfold bv
  go_enter Tryz.func108, Tryz.ntmps108
  go_wp2_with fail
  go_loopw [8] (fun i wr => ∃ k : Nat, k ≤ 4 ∧ i = .int .i64 k ∧ Below w.heap.size w wr ∧ Arr wr w.heap.size 4 (mid g x k) ∧ Arr wr (w.heap.size + 1) 4 (fun _ => .int .u32 0)) (fun i _ => 4 - (intOf i).toNat)
  case atStart =>
    refine ⟨0, by omega, rfl, by go_grown, ?_, ?_⟩
    · exact ((Arr.new w _ _ _ rfl _ 4 (h4_at x)).al' _).congr fun j _ => (mid_0 _ _ j).symm
    · exact Arr.new _ _ _ _ (by simp) _ 4 z4_at
  case round =>
    obtain ⟨k, hk, rfl, hB, A0, A2⟩ := hrel
    by_cases hlt : k < 4
    · have k0 : (0 : Int) ≤ (k : Int) := by omega
      have k4 : (k : Int) < 4 := by omega
      have I := fun W => idx68 _ k _ hlt (h4_at x k hlt) W
      have hc := C57 k hlt wr (hT.to hB)
      clear C57
      go_wp2_with fail
      refine hc.mono ?_
      rintro e w1 ⟨rfl, hb⟩
      have hB1 := Bel.call hB hb
      have B0 := A0.to' hb
      have B2 := A2.to' hb
      have c := B0.c k hlt
      have z := B0.z k hlt
      clear A0 A2 hc hB hb
      go_wp2_with fail
      refine ⟨⟨k + 1, by omega, by go_num, Bel.st hB1 (by omega) _, mid_at B0 hlt, B2.other (by omega) _⟩, by simp [intOf]; omega⟩
    · have e : k = 4 := by omega
      rw [show ((k : Nat) : Int) = 4 by omega]
      subst e
      have A := mid_end A0
      have c0 := A.c 0 (by omega)
      have c1 := A.c 1 (by omega)
      have c2 := A.c 2 (by omega)
      have c3 := A.c 3 (by omega)
      have d := A2.c
      have z := A2.z
      have E := (A2.st4 g).c
      clear A0 hk hlt C57
      go_wp2_with fail
      refine bodyPost_ret (v := bv g) ?_ rfl ⟨rfl, Bel.st4 hB (by omega) g⟩
      simp only [Go.Proofs.YtjaljnfijhfkcaaGreatDoor.st4] at E
      simp [bv, results, Tryz.results108, go_sem, E]
end Go.Proofs.YtjaljnfijhfkcaaGreatDoor
/- Words of texts, blocks of texts, a word by a table. -/
set_option linter.all false
set_option maxRecDepth 100000
namespace Go.Proofs.YtjaljnfijhfkcaaGreatDoor
open Go.RowKit Go.Sort Lin
/-- Four bytes put together are their word. -/
theorem put4 (a b c d : By) : bits .or .u32 (bits .or .u32 (bits .or .u32 ((a.val : Int) * 16777216 % 4294967296) ((b.val : Int) * 65536 % 4294967296)) ((c.val : Int) * 256 % 4294967296)) (d.val : Int) = wd a b c d := by
  have ea : (a.val : Int) * 16777216 % 4294967296 = wd a 0 0 0 := by unfold wd wdN; have := a.2; simp; omega
  have eb : (b.val : Int) * 65536 % 4294967296 = wd 0 b 0 0 := by unfold wd wdN; have := b.2; simp; omega
  have ec : (c.val : Int) * 256 % 4294967296 = wd 0 0 c 0 := by unfold wd wdN; have := c.2; simp; omega
  have ed : (d.val : Int) = wd 0 0 0 d := by unfold wd wdN; simp
  rw [ea, eb, ec, ed, wd_or, wd_or, wd_or]
  simp only [or_0, or_0']
theorem put4' (a b c d : By) : bits .or .u32 (bits .or .u32 (bits .or .u32 ((a.val : Int) * 16777216) ((b.val : Int) * 65536)) ((c.val : Int) * 256)) (d.val : Int) = wd a b c d := by
  rw [← put4]
  have := a.2
  have := b.2
  have := c.2
  rw [show (a.val : Int) * 16777216 % 4294967296 = (a.val : Int) * 16777216 by omega, show (b.val : Int) * 65536 % 4294967296 = (b.val : Int) * 65536 by omega, show (c.val : Int) * 256 % 4294967296 = (c.val : Int) * 256 by omega]
theorem hi1 (a b c d : By) : wd a b c d / 16777216 = (a.val : Int) := by unfold wd wdN; have := a.2; have := b.2; have := c.2; have := d.2; omega
theorem ff32 (n : Nat) (h : n < 4294967296) : bits .and .u32 (n : Int) 255 = ((n % 256 : Nat) : Int) := by
  have := (bits_ao32 n 255 h (by decide)).1
  rw [show ((255 : Nat) : Int) = 255 from rfl] at this
  rw [this]
  congr 1
  exact Nat.and_two_pow_sub_one_eq_mod n 8
theorem hi2 (a b c d : By) : bits .and .u32 (wd a b c d / 65536) 255 = (b.val : Int) := by
  have e : wd a b c d / 65536 = ((wdN a b c d / 65536 : Nat) : Int) := by unfold wd; omega
  have l := wdN_lt a b c d
  rw [e, ff32 _ (by omega)]
  unfold wdN
  have := a.2; have := b.2; have := c.2; have := d.2
  omega
theorem hi3 (a b c d : By) : bits .and .u32 (wd a b c d / 256) 255 = (c.val : Int) := by
  have e : wd a b c d / 256 = ((wdN a b c d / 256 : Nat) : Int) := by unfold wd; omega
  have l := wdN_lt a b c d
  rw [e, ff32 _ (by omega)]
  unfold wdN
  have := a.2; have := b.2; have := c.2; have := d.2
  omega
theorem hi4 (a b c d : By) : bits .and .u32 (wd a b c d) 255 = (d.val : Int) := by
  have l := wdN_lt a b c d
  unfold wd
  rw [ff32 _ l]
  unfold wdN
  have := a.2; have := b.2; have := c.2; have := d.2
  omega
set_option maxHeartbeats 1000000 in
theorem of_any (f : By → By) (b o : Nat) (a0 a1 a2 a3 : By) (w : World) (hT : TabAt w b o f) :
    Calls Tryz.prog 126 #[.pointer (some ⟨b, o, none⟩), .int .u32 (wd a0 a1 a2 a3)] w fun e w' => e = .returned (.int .u32 (wd (f a0) (f a1) (f a2) (f a3))) ∧ Below w.heap.size w w' := by
  have h1 := hi1 a0 a1 a2 a3
  have h2 := hi2 a0 a1 a2 a3
  have h3 := hi3 a0 a1 a2 a3
  have h4 := hi4 a0 a1 a2 a3
  have HP : Hid _ := put4' (f a0) (f a1) (f a2) (f a3)
  have r0 := fun ds os => cell_regrown (hT a0) ds os
  have r1 := fun ds os => cell_regrown (hT a1) ds os
  have r2 := fun ds os => cell_regrown (hT a2) ds os
  have r3 := fun ds os => cell_regrown (hT a3) ds os
  have n0 : (a0.val : Int) < 256 := by have := a0.2; omega
  have n1 : (a1.val : Int) < 256 := by have := a1.2; omega
  have n2 : (a2.val : Int) < 256 := by have := a2.2; omega
  have n3 : (a3.val : Int) < 256 := by have := a3.2; omega
  clear hT
  generalize wd a0 a1 a2 a3 = x at *
  generalize f a0 = g0 at *
  generalize f a1 = g1 at *
  generalize f a2 = g2 at *
  generalize f a3 = g3 at *
  have m0 : (g0.val : Int) < 256 := by have := g0.2; omega
  have m1 : (g1.val : Int) < 256 := by have := g1.2; omega
  have m2 : (g2.val : Int) < 256 := by have := g2.2; omega
  have m3 : (g3.val : Int) < 256 := by have := g3.2; omega
  go_enter Tryz.func126, Tryz.ntmps126
  go_wp2
  refine wp_region_quiet_below (by kernel_rfl) (by kernel_rfl) ?_
  repeat (go_big_quiet_step (fail))
  refine wpQuiet_nil ?_
  intro w1 hw'
  obtain ⟨⟨dq, osq⟩, hw''⟩ := hw'
  have hb := below_of hw''
  clear hw''
  go_wp2
  go_ret
  refine ⟨?_, hb⟩
  rw [← HP.out]
  rfl
/-- A text's byte. -/
def bF (s : ByteArray) (i : Nat) : By := ⟨(bt s i).toNat, by have := bt_bd s i; omega⟩
theorem bF_bt (s : ByteArray) (i : Nat) : bt s i = ((bF s i).val : Int) := by have := bt_bd s i; simp [bF]; omega
set_option maxHeartbeats 1000000 in
theorem wordOf_core (s : ByteArray) (g0 g1 g2 g3 : By)
    (i0 : ∀ W, (Instr.index 9 (.string s) (.int .i64 0)).run Tryz.prog W = .ok (.int .u8 (g0.val : Int)) W)
    (i1 : ∀ W, (Instr.index 9 (.string s) (.int .i64 1)).run Tryz.prog W = .ok (.int .u8 (g1.val : Int)) W)
    (i2 : ∀ W, (Instr.index 9 (.string s) (.int .i64 2)).run Tryz.prog W = .ok (.int .u8 (g2.val : Int)) W)
    (i3 : ∀ W, (Instr.index 9 (.string s) (.int .i64 3)).run Tryz.prog W = .ok (.int .u8 (g3.val : Int)) W) (w : World) : Calls Tryz.prog 112 #[.string s] w fun e w' => e = .returned (.int .u32 (wd g0 g1 g2 g3)) ∧ Below w.heap.size w w' := by
  have HP : Hid _ := put4' g0 g1 g2 g3
  have m0 : (g0.val : Int) < 256 := by have := g0.2; omega
  have m1 : (g1.val : Int) < 256 := by have := g1.2; omega
  have m2 : (g2.val : Int) < 256 := by have := g2.2; omega
  have m3 : (g3.val : Int) < 256 := by have := g3.2; omega
  go_enter Tryz.func112, Tryz.ntmps112
  go_wp2
  refine wp_region_quiet_below (by kernel_rfl) (by kernel_rfl) ?_
  repeat (go_big_quiet_step (fail))
  refine wpQuiet_nil ?_
  intro w1 hw'
  obtain ⟨⟨dq, osq⟩, hw''⟩ := hw'
  have hb := below_of hw''
  clear hw''
  go_wp2
  go_ret
  refine ⟨?_, hb⟩
  rw [← HP.out]
  rfl
theorem wordOf_any (s : ByteArray) (hs : 4 ≤ s.size) (w : World) : Calls Tryz.prog 112 #[.string s] w fun e w' => e = .returned (.int .u32 (wd (bF s 0) (bF s 1) (bF s 2) (bF s 3))) ∧ Below w.heap.size w w' := by
  have I : ∀ k : Nat, k < 4 → ∀ W, (Instr.index 9 (.string s) (.int .i64 (k : Int))).run Tryz.prog W = .ok (.int .u8 ((bF s k).val : Int)) W := fun k hk W => by rw [← bF_bt]; exact idxS s k (by omega) W
  exact wordOf_core s _ _ _ _ (I 0 (by omega)) (I 1 (by omega)) (I 2 (by omega)) (I 3 (by omega)) w
/-- A block's columns. -/
def col (f : Nat → By) (c : Nat) : Int := wd (f (4 * c)) (f (4 * c + 1)) (f (4 * c + 2)) (f (4 * c + 3))
theorem bF_ext (s : ByteArray) (a i : Nat) (h : a + i < s.size) : bF (s.extract a s.size) i = bF s (a + i) := by
  apply Fin.ext
  simp only [bF]
  rw [bt_ext s a s.size i h (by omega)]
end Go.Proofs.YtjaljnfijhfkcaaGreatDoor
/- A text's first 16 bytes as a block. -/
set_option linter.all false
set_option maxRecDepth 100000
namespace Go.Proofs.YtjaljnfijhfkcaaGreatDoor
open Go.RowKit Go.Sort Lin
theorem Tryz.size5 : (Tryz.prog.info? 5).map (·.size) = some 1 := by kernel_rfl
/-- copy(dst, s): as many bytes of s as dst has room for. -/
theorem run_copy_some {P : Program} (w : World) (dT sT ty elem : TypeId) (g o dLen dCap : Nat) (s : ByteArray) (cur : Array Value) (t : TypeId)
    (hu : P.underlying dT = some (.slice elem)) (hs : (P.info? elem).map (·.size) = some 1) (hg : w.heap[g]? = some (.cells cur t (0, 0))) (hfit : o + dLen ≤ cur.size) :
    (Builtin.copy_ #[dT, sT] ty #[.slice (some ⟨g, o, none⟩) dLen dCap, .string s]).run P w =
      .ok (goInt (Nat.min s.size dLen)) (w.setRow g (cur.toList.take o ++ Lib.byteCells (s.data.toList.take (Nat.min s.size dLen)) ++ cur.toList.drop (o + Nat.min s.size dLen)).toArray) := by
  have hlen : (Lib.byteCells (s.data.toList.take (Nat.min s.size dLen))).length = Nat.min s.size dLen := by
    rw [Lib.byteCells_length, List.length_take, Array.length_toList]
    show min (min s.size dLen) s.size = min s.size dLen
    omega
  have hst := run_storeCells_at P g o t (Lib.byteCells (s.data.toList.take (Nat.min s.size dLen))) 0 cur w hg (by rw [hlen]; have : min s.size dLen ≤ dLen := Nat.min_le_right _ _; show o + 0 + min s.size dLen ≤ _; omega) (Lib.byteCells_one _)
  have htk : List.take (Nat.min s.size dLen) (List.map (fun b : UInt8 => Value.int IntKind.u8 (b.toNat : Int)) s.data.toList) = Lib.byteCells (s.data.toList.take (Nat.min s.size dLen)) := by
    rw [← List.map_take]
    rfl
  rw [hlen] at hst
  simp only [Nat.add_zero] at hst
  cases hq : P.info? elem with
  | none => simp [hq] at hs
  | some i =>
    simp [Builtin.copy_, run_underlying hu, Builtin.lenOf, Builtin.firstCells, sizeOf, typeInfo, hq]
    rw [htk, hst]
    simp [Result.andThen]
theorem copy_gen (w : World) (M : Array Value) (hM : M.size = 16) (hz : ∀ j, j < 16 → M[j]? = some (.int .u8 0)) (s : ByteArray) : ∃ W : World, (Builtin.copy_ #[50, 9] 3 #[.slice (some ⟨w.heap.size, 0, none⟩) 16 16, .string s]).run Tryz.prog (w.alloc (.cells M 147)) = .ok (goInt (Nat.min s.size 16)) W ∧
    Below w.heap.size w W ∧ w.heap.size < W.heap.size ∧ Arr W w.heap.size 16 (fun j => .int .u8 (bt s j)) := by
  have sz : s.data.toList.length = s.size := by rw [Array.length_toList]; rfl
  have hcp := run_copy_some (P := Tryz.prog) (w.alloc (.cells M 147)) 50 9 3 5 w.heap.size 0 16 16 s M 147 Tryz.underlying50 Tryz.size5 (heap_alloc_new w _) (by omega)
  obtain ⟨Y, hY⟩ : ∃ Y, Y = (M.toList.take 0 ++ Lib.byteCells (s.data.toList.take (Nat.min s.size 16)) ++ M.toList.drop (0 + Nat.min s.size 16)).toArray := ⟨_, rfl⟩
  rw [← hY] at hcp
  refine ⟨_, hcp, ?_, ?_, ?_⟩
  · have hb1 : Below w.heap.size w (w.alloc (.cells M 147)) := (Below.refl _ w).alloc (Nat.le_refl _) _
    exact hb1.trans ⟨rfl, rfl, rfl, by simp, fun k hk => setRow_other _ _ _ _ (by omega)⟩
  · simp
  · have hgY : ((w.alloc (.cells M 147)).setRow w.heap.size Y).heap[w.heap.size]? = some (.cells Y 147 (0, 0)) := setRow_heap _ _ M _ 147 (0, 0) (heap_alloc_new w _)
    generalize (w.alloc (.cells M 147)).setRow w.heap.size Y = V at *
    intro j hj
    refine ⟨?_, by unfold World.frozen?; rw [hgY]; simp⟩
    have lm : (Lib.byteCells (s.data.toList.take (Nat.min s.size 16))).length = Nat.min s.size 16 := by
      rw [Lib.byteCells_length, List.length_take, sz]
      show min (min s.size 16) s.size = min s.size 16
      omega
    have e : Y[j]? = some (.int .u8 (bt s j)) := by
      rw [hY, List.getElem?_toArray, List.take_zero, List.nil_append]
      by_cases c : j < s.size
      · have cm : j < Nat.min s.size 16 := by show j < min s.size 16; omega
        rw [List.getElem?_append_left (by rw [lm]; exact cm)]
        unfold Lib.byteCells bt
        rw [List.getElem?_map, List.getElem?_take, if_pos cm, Array.getElem?_toList, Array.getElem?_eq_getElem (show j < s.data.size from c)]
        rfl
      · have cm : ¬ j < Nat.min s.size 16 := by show ¬ j < min s.size 16; omega
        rw [List.getElem?_append_right (by rw [lm]; omega), lm]
        have b0 : bt s j = 0 := by
          unfold bt
          rw [Array.getElem?_eq_none (by show s.size ≤ j; omega)]
          rfl
        rw [b0, List.getElem?_drop, Array.getElem?_toList, ← hz j hj]
        congr 1
        omega
    unfold World.cell?
    rw [hgY]
    simp [e]
theorem zb_at (j : Nat) (hj : j < 16) : (#[.int .u8 0, .int .u8 0, .int .u8 0, .int .u8 0, .int .u8 0, .int .u8 0, .int .u8 0, .int .u8 0, .int .u8 0, .int .u8 0, .int .u8 0, .int .u8 0, .int .u8 0, .int .u8 0, .int .u8 0, .int .u8 0] : Array Value)[j]? = some (.int .u8 0) := by
  have e : (#[.int .u8 0, .int .u8 0, .int .u8 0, .int .u8 0, .int .u8 0, .int .u8 0, .int .u8 0, .int .u8 0, .int .u8 0, .int .u8 0, .int .u8 0, .int .u8 0, .int .u8 0, .int .u8 0, .int .u8 0, .int .u8 0] : Array Value) = (List.replicate 16 (Value.int .u8 0)).toArray := rfl
  rw [e, List.getElem?_toArray, List.getElem?_replicate, if_pos hj]
theorem copy_row (w : World) (s : ByteArray) : ∃ W : World, (Builtin.copy_ #[50, 9] 3 #[.slice (some ⟨w.heap.size, 0, none⟩) 16 16, .string s]).run Tryz.prog (w.alloc (.cells #[.int .u8 0, .int .u8 0, .int .u8 0, .int .u8 0, .int .u8 0, .int .u8 0, .int .u8 0, .int .u8 0, .int .u8 0, .int .u8 0, .int .u8 0, .int .u8 0, .int .u8 0, .int .u8 0, .int .u8 0, .int .u8 0] 147)) = .ok (goInt (Nat.min s.size 16)) W ∧
    Below w.heap.size w W ∧ w.heap.size < W.heap.size ∧ Arr W w.heap.size 16 (fun j => .int .u8 (bt s j)) := copy_gen w _ rfl zb_at s
set_option maxHeartbeats 1000000 in
theorem gblockOf_core (s : ByteArray) (b H L : Nat → Int) (hbt : ∀ j, bt s j = b j) (hb : ∀ j, 0 ≤ b j ∧ b j < 256) (h0 : H 0 = 0) (l0 : L 0 = 0)
    (hH : ∀ k, k < 8 → bits .or .u64 (IntKind.u64.wrap (H k * 256)) (b k) = H (k + 1)) (hL : ∀ k, k < 8 → bits .or .u64 (IntKind.u64.wrap (L k * 256)) (b (8 + k)) = L (k + 1)) (w : World) :
    Calls Tryz.prog 70 #[.string s] w fun e w' => e = .returned (gk (H 8) (L 8)) ∧ Below w.heap.size w w' := by
  obtain ⟨W, hcp, hB0, hs0, A0⟩ := copy_row (w.alloc (.cells #[.int .u64 0, .int .u64 0] 105)) s
  have Z0 := (Arr.new w _ 105 _ rfl _ 2 (g2_at 0 0)).to' hB0
  have hB := Bel.call ((Below.refl _ w).alloc (Nat.le_refl _) (.cells #[.int .u64 0, .int .u64 0] 105)) hB0
  rw [World.size_alloc] at A0 hs0 hcp
  go_enter Tryz.func70, Tryz.ntmps70
  go_wp2_with fail
  clear hcp
  have A1 : Arr _ _ 16 _ := A0.al' (n := 15) (.cells #[.int .u64 0, .int .u64 0] 105)
  have Z1 := Z0.al' (.cells #[.int .u64 0, .int .u64 0] 105)
  have O1 := Arr.new W _ 105 _ rfl _ 2 (g2_at 0 0)
  have hB1 := Bel.al hB (.cells #[.int .u64 0, .int .u64 0] 105)
  clear A0 Z0 hB hB0
  generalize W.alloc (.cells #[.int .u64 0, .int .u64 0] 105) = W1 at *
  obtain ⟨p, hp⟩ : ∃ p, W.heap.size = p := ⟨_, rfl⟩
  rw [hp] at O1 hs0 ⊢
  clear hp
  go_loopw [9] (fun i wr => ∃ k : Nat, k ≤ 8 ∧ i = .int .i64 k ∧ Below w.heap.size w wr ∧ Arr wr w.heap.size 2 (g2 0 0) ∧ Arr wr (w.heap.size + 1) 16 (fun j => .int .u8 (bt s j)) ∧ Arr wr p 2 (g2 (H k) (L k))) (fun i _ => 8 - (intOf i).toNat)
  case atStart => exact ⟨0, by omega, rfl, hB1, Z1, A1, by rw [h0, l0]; exact O1⟩
  case round =>
    clear A1 Z1 O1 hB1
    obtain ⟨k, hk, rfl, hB, Z, A, O⟩ := hrel
    by_cases hlt : k < 8
    · have k0 : (0 : Int) ≤ (k : Int) := by omega
      have k8 : (k : Int) < 8 := by omega
      have r0 := fun ds os => cell_regrown O.h ds os
      have r1 := fun ds os => cell_regrown (A.cv k (by omega) (.int .u8 (b k)) (by rw [hbt])) ds os
      have hk1 := hH k hlt
      have hk2 := hL k hlt
      have b1 := (hb k).1
      have b2 := (hb k).2
      have b3 := (hb (8 + k)).1
      have b4 := (hb (8 + k)).2
      go_wp2_with fail
      refine wp_region_below_tail 9 (by kernel_rfl) (by kernel_rfl) ?_
      simp only [List.take_succ_cons, List.take_zero, List.drop_succ_cons, List.drop_zero]
      repeat (go_big_quiet_step (fail))
      refine wpQuiet_nil ?_
      intro w1 hw'
      obtain ⟨⟨dq, osq⟩, hw''⟩ := hw'
      have hb1 := below_of hw''
      clear hw'' r0 r1
      have Z1 := Z.to' hb1
      have A1 : Arr _ _ 16 _ := A.to' (n := 15) hb1
      have O1 := O.to' hb1
      have hB1 := Bel.call hB hb1
      clear Z A O hB hb1 hk1
      have np1 : p ≠ w.heap.size := by omega
      have np2 : p ≠ w.heap.size + 1 := by omega
      have lp : w.heap.size ≤ p := by omega
      have d0 := O1.h
      have z0 := O1.z 0 (by omega)
      go_wp2_with fail
      have Z2 := Z1.other np1 (k := 0) (.int .u64 (H (k + 1)))
      have A2 := A1.other np2 (k := 0) (.int .u64 (H (k + 1)))
      have O2 : Arr (w1.setCell ⟨p, 0, none⟩ (.int .u64 (H (k + 1)))) p 2 (g2 (H (k + 1)) (L k)) := (O1.set 0 (by omega) (.int .u64 (H (k + 1)))).congr (by
        intro j hj
        have : j = 0 ∨ j = 1 := by omega
        rcases this with rfl | rfl <;> simp [g2])
      have hB2 := Bel.st hB1 lp (k := 0) (.int .u64 (H (k + 1)))
      clear Z1 A1 O1 hB1 d0 z0
      generalize w1.setCell ⟨p, 0, none⟩ (.int .u64 (H (k + 1))) = w2 at *
      have r0 := fun ds os => cell_regrown O2.l ds os
      have r1 := fun ds os => cell_regrown (A2.cv (8 + k) (by omega) (.int .u8 (b (8 + k))) (by rw [hbt])) ds os
      have ek : ((8 + k : Nat) : Int) = 8 + (k : Int) := by omega
      refine wp_region_below_tail 10 (by kernel_rfl) (by kernel_rfl) ?_
      simp only [List.take_succ_cons, List.take_zero, List.drop_succ_cons, List.drop_zero]
      repeat (go_big_quiet_step (fail))
      refine wpQuiet_nil ?_
      intro w3 hw'
      obtain ⟨⟨dq, osq⟩, hw''⟩ := hw'
      have hb1 := below_of hw''
      clear hw'' r0 r1
      have Z3 := Z2.to' hb1
      have A3 : Arr _ _ 16 _ := A2.to' (n := 15) hb1
      have O3 := O2.to' hb1
      have hB3 := Bel.call hB2 hb1
      clear Z2 A2 O2 hB2 hb1 hk2
      have d0 := O3.l
      have z0 := O3.z 1 (by omega)
      go_wp2_with fail
      refine ⟨⟨k + 1, by omega, by go_num, Bel.st hB3 lp _, Z3.other np1 _, A3.other np2 _, ?_⟩, by simp [intOf]; omega⟩
      exact (O3.set 1 (by omega) (.int .u64 (L (k + 1)))).congr (by
        intro j hj
        have : j = 0 ∨ j = 1 := by omega
        rcases this with rfl | rfl <;> simp [g2])
    · have e : k = 8 := by omega
      rw [show ((k : Nat) : Int) = 8 by omega]
      subst e
      have c0 := O.h
      have c1 := O.l
      have d0 := Z.c 0 (by omega)
      have d1 := Z.c 1 (by omega)
      have z0 := Z.z 0 (by omega)
      have z1 := Z.z 1 (by omega)
      have E := Z.st2 (H 8) (L 8)
      have e0 := E.h
      have e1 := E.l
      unfold Go.Proofs.YtjaljnfijhfkcaaGreatDoor.st2 at e0 e1
      clear hH hL
      go_wp2_with fail
      refine bodyPost_ret (v := gk (H 8) (L 8)) (by simp [gk, results, Tryz.results70, go_sem, e0, e1]) rfl ⟨rfl, Bel.st2 hB (by omega) _ _⟩
/-- The bytes of f from its a-th on, k of them, as a number: the first is the highest. -/
def be (f : Nat → By) : Nat → Nat
  | 0 => 0
  | k + 1 => be f k * 256 + (f k).val
theorem be_lt (f : Nat → By) (k : Nat) : be f k < 256 ^ k := by
  induction k with
  | zero => simp [be]
  | succ k ih => have := (f k).2; rw [be, Nat.pow_succ]; omega
/-- A text's first 16 bytes as a block. -/
def bN (s : ByteArray) : Nat := be (bF s) 8 * 2 ^ 64 + be (fun j => bF s (8 + j)) 8
theorem bN_lt (s : ByteArray) : bN s < 2 ^ 128 := by
  have h1 := be_lt (bF s) 8
  have h2 := be_lt (fun j => bF s (8 + j)) 8
  unfold bN
  have e : (256 : Nat) ^ 8 = 2 ^ 64 := by decide
  rw [e] at h1 h2
  omega
theorem be_step (f : Nat → By) (k : Nat) (hk : k < 8) : bits .or .u64 (IntKind.u64.wrap ((be f k : Int) * 256)) ((f k).val : Int) = (be f (k + 1) : Int) := by
  have h1 := be_lt f k
  have h2 := (f k).2
  have h3 : 256 ^ k ≤ 256 ^ 7 := Nat.pow_le_pow_right (by decide) (by omega)
  have e7 : (256 : Nat) ^ 7 = 72057594037927936 := by decide
  rw [e7] at h3
  have e1 : IntKind.u64.wrap ((be f k : Int) * 256) = ((be f k * 2 ^ 8 + 0 : Nat) : Int) := by rw [IntKind.wrap_u64]; omega
  have e2 : ((f k).val : Int) = ((0 * 2 ^ 8 + (f k).val : Nat) : Int) := by omega
  rw [e1, e2, (bits_ao64 _ _ (by omega) (by omega)).2, or_hi _ _ _ _ 8 (by decide) h2]
  simp [be]
theorem gblockOf_any (s : ByteArray) (w : World) : Calls Tryz.prog 70 #[.string s] w fun e w' => e = .returned (gB (bN s)) ∧ Below w.heap.size w w' := by
  have := gblockOf_core s (fun j => ((bF s j).val : Int)) (fun k => (be (bF s) k : Int)) (fun k => (be (fun j => bF s (8 + j)) k : Int)) (fun j => bF_bt s j) (fun j => by have := (bF s j).2; constructor <;> omega) rfl rfl (fun k hk => be_step _ k hk) (fun k hk => be_step (fun j => bF s (8 + j)) k hk) w
  have h2 := be_lt (fun j => bF s (8 + j)) 8
  rw [show (256 : Nat) ^ 8 = 2 ^ 64 by decide] at h2
  have e1 : hi (bN s) = (be (bF s) 8 : Int) := by unfold hi bN; omega
  have e2 : lo (bN s) = (be (fun j => bF s (8 + j)) 8 : Int) := by unfold lo bN; omega
  unfold gB
  rw [e1, e2]
  exact this
end Go.Proofs.YtjaljnfijhfkcaaGreatDoor
/- Blocks: columns mixed. -/
set_option linter.all false
set_option maxRecDepth 100000
namespace Go.Proofs.YtjaljnfijhfkcaaGreatDoor
open Go.RowKit Go.Sort Lin
set_option maxHeartbeats 2000000 in
theorem rotl_any (x s k : Int) (hs : 0 ≤ s) (hs2 : s < 32) (hk : bits .and .u64 (IntKind.u64.wrap k) 31 = s) (w : World) : Calls Tryz.prog 127 #[.int .u32 x, .int .i64 k] w fun e w' => e = .returned (.int .u32 (bits .or .u32 (x * 2 ^ s.toNat % 4294967296) (x / 2 ^ (32 - s).toNat))) ∧ w' = w := by
  go_enter Tryz.func127, Tryz.ntmps127
  go_wp2
  go_ret
  exact ⟨rfl, rfl⟩
set_option maxHeartbeats 2000000 in
theorem mixed_core (x p q r s g : Nat → Int)
    (C8 : ∀ k, k < 4 → ∀ W, Calls Tryz.prog 127 #[.int .u32 (x k), .int .i64 8] W fun e w' => e = .returned (.int .u32 (p k)) ∧ w' = W)
    (C16 : ∀ k, k < 4 → ∀ W, Calls Tryz.prog 127 #[.int .u32 (x k), .int .i64 16] W fun e w' => e = .returned (.int .u32 (q k)) ∧ w' = W)
    (C24 : ∀ k, k < 4 → ∀ W, Calls Tryz.prog 127 #[.int .u32 (x k), .int .i64 24] W fun e w' => e = .returned (.int .u32 (r k)) ∧ w' = W)
    (CD : ∀ k, k < 4 → ∀ W, Calls Tryz.prog 128 #[.int .u32 (bits .xor .u32 (x k) (p k))] W fun e w' => e = .returned (.int .u32 (s k)) ∧ w' = W)
    (hg : ∀ k, k < 4 → bits .xor .u32 (bits .xor .u32 (bits .xor .u32 (s k) (p k)) (q k)) (r k) = g k) (w : World) :
    Calls Tryz.prog 110 #[bv x] w fun e w' => e = .returned (bv g) ∧ Below w.heap.size w w' := by
  unfold bv
  go_enter Tryz.func110, Tryz.ntmps110
  go_wp2_with fail
  go_loopw [7] (fun i wr => ∃ k : Nat, k ≤ 4 ∧ i = .int .i64 k ∧ Below w.heap.size w wr ∧ Arr wr w.heap.size 4 (mid g x k) ∧ Arr wr (w.heap.size + 1) 4 (fun _ => .int .u32 0)) (fun i _ => 4 - (intOf i).toNat)
  case atStart =>
    refine ⟨0, by omega, rfl, by go_grown, ?_, ?_⟩
    · exact ((Arr.new w _ _ _ rfl _ 4 (h4_at x)).al' _).congr fun j _ => (mid_0 _ _ j).symm
    · exact Arr.new _ _ _ _ (by simp) _ 4 z4_at
  case round =>
    obtain ⟨k, hk, rfl, hB, A0, A2⟩ := hrel
    by_cases hlt : k < 4
    · have k0 : (0 : Int) ≤ (k : Int) := by omega
      have k4 : (k : Int) < 4 := by omega
      have I := fun W => idx68 _ k _ hlt (h4_at x k hlt) W
      have hgk := hg k hlt
      have c8 := C8 k hlt wr
      have c16 := C16 k hlt wr
      have c24 := C24 k hlt wr
      have cd := CD k hlt wr
      have c := A0.c k hlt
      have z := A0.z k hlt
      clear C8 C16 C24 CD hg
      go_wp2_with fail
      refine c8.mono ?_
      rintro e w1 ⟨rfl, rfl⟩
      go_wp2_with fail
      refine cd.mono ?_
      rintro e w2 ⟨rfl, rfl⟩
      go_wp2_with fail
      refine c16.mono ?_
      rintro e w3 ⟨rfl, rfl⟩
      go_wp2_with fail
      refine c24.mono ?_
      rintro e w4 ⟨rfl, rfl⟩
      clear c8 c16 c24 cd
      go_wp2_with fail
      refine ⟨⟨k + 1, by omega, by go_num, Bel.st hB (by omega) _, mid_at A0 hlt, A2.other (by omega) _⟩, by simp [intOf]; omega⟩
    · have e : k = 4 := by omega
      rw [show ((k : Nat) : Int) = 4 by omega]
      subst e
      have A := mid_end A0
      have c0 := A.c 0 (by omega)
      have c1 := A.c 1 (by omega)
      have c2 := A.c 2 (by omega)
      have c3 := A.c 3 (by omega)
      have d := A2.c
      have z := A2.z
      have E := (A2.st4 g).c
      clear A0 hk hlt hg C8 C16 C24 CD
      go_wp2_with fail
      refine bodyPost_ret (v := bv g) ?_ rfl ⟨rfl, Bel.st4 hB (by omega) g⟩
      simp only [Go.Proofs.YtjaljnfijhfkcaaGreatDoor.st4] at E
      simp [bv, results, Tryz.results110, go_sem, E]
end Go.Proofs.YtjaljnfijhfkcaaGreatDoor
/- Blocks: rows turned. -/
set_option linter.all false
set_option maxRecDepth 100000
namespace Go.Proofs.YtjaljnfijhfkcaaGreatDoor
open Go.RowKit Go.Sort Lin
set_option maxHeartbeats 2000000 in
theorem turned_core (x g : Nat → Int) (hg : ∀ k, k < 4 → bits .or .u32 (bits .or .u32 (bits .or .u32 (bits .and .u32 (x k) 4278190080) (bits .and .u32 (x ((k + 1) % 4)) 16711680)) (bits .and .u32 (x ((k + 2) % 4)) 65280)) (bits .and .u32 (x ((k + 3) % 4)) 255) = g k) (w : World) :
    Calls Tryz.prog 109 #[bv x] w fun e w' => e = .returned (bv g) ∧ Below w.heap.size w w' := by
  unfold bv
  go_enter Tryz.func109, Tryz.ntmps109
  go_wp2_with fail
  go_loopw [5] (fun i wr => ∃ k : Nat, k ≤ 4 ∧ i = .int .i64 k ∧ Below w.heap.size w wr ∧ Arr wr w.heap.size 4 (fun j => .int .u32 (x j)) ∧ Arr wr (w.heap.size + 1) 4 (fun _ => .int .u32 0) ∧ Arr wr (w.heap.size + 1 + 1) 4 (mid g (fun _ => 0) k)) (fun i _ => 4 - (intOf i).toNat)
  case atStart =>
    refine ⟨0, by omega, rfl, by go_grown, ?_, ?_, ?_⟩
    · exact ((Arr.new w _ _ _ rfl _ 4 (h4_at x)).al' _).al' _
    · exact (Arr.new _ _ _ _ (by simp) _ 4 z4_at).al' _
    · exact (Arr.new _ _ _ _ (by simp) _ 4 z4_at).congr fun j _ => (mid_0 (fun _ => 0) g j).symm
  case round =>
    obtain ⟨k, hk, rfl, hB, A0, A1, A2⟩ := hrel
    by_cases hlt : k < 4
    · have k0 : (0 : Int) ≤ (k : Int) := by omega
      have k4 : (k : Int) < 4 := by omega
      obtain ⟨k1, e1⟩ : ∃ m, (k + 1) % 4 = m := ⟨_, rfl⟩
      obtain ⟨k2, e2⟩ : ∃ m, (k + 2) % 4 = m := ⟨_, rfl⟩
      obtain ⟨k3, e3⟩ : ∃ m, (k + 3) % 4 = m := ⟨_, rfl⟩
      have hgk := hg k hlt
      rw [e1, e2, e3] at hgk
      have f1 : ((k : Int) + 1) % 4 = (k1 : Int) := by omega
      have f2 : ((k : Int) + 2) % 4 = (k2 : Int) := by omega
      have f3 : ((k : Int) + 3) % 4 = (k3 : Int) := by omega
      have l1 : (k1 : Int) < 4 := by omega
      have l2 : (k2 : Int) < 4 := by omega
      have l3 : (k3 : Int) < 4 := by omega
      have r0 := fun ds os => cell_regrown (A0.c k hlt) ds os
      have r1 := fun ds os => cell_regrown (A0.c k1 (by omega)) ds os
      have r2 := fun ds os => cell_regrown (A0.c k2 (by omega)) ds os
      have r3 := fun ds os => cell_regrown (A0.c k3 (by omega)) ds os
      clear hg e1 e2 e3
      go_wp2_with fail
      refine wp_region_below_tail 27 (by kernel_rfl) (by kernel_rfl) ?_
      simp only [List.take_succ_cons, List.take_zero, List.drop_succ_cons, List.drop_zero]
      repeat (go_big_quiet_step (fail))
      refine wpQuiet_nil ?_
      intro w1 hw'
      obtain ⟨⟨dq, osq⟩, hw''⟩ := hw'
      have hb := below_of hw''
      clear hw'' r0 r1 r2 r3
      have hB1 := Bel.call hB hb
      have B0 := A0.to' hb
      have B1 := A1.to' hb
      have B2 := A2.to' hb
      clear A0 A1 A2 hB hb
      have c := B2.c k hlt
      have z := B2.z k hlt
      go_wp2_with fail
      refine ⟨⟨k + 1, by omega, by go_num, Bel.st hB1 (by omega) _, B0.other (by omega) _, B1.other (by omega) _, mid_at B2 hlt⟩, by simp [intOf]; omega⟩
    · have e : k = 4 := by omega
      rw [show ((k : Nat) : Int) = 4 by omega]
      subst e
      have A := mid_end A2
      have c0 := A.c 0 (by omega)
      have c1 := A.c 1 (by omega)
      have c2 := A.c 2 (by omega)
      have c3 := A.c 3 (by omega)
      have d := A1.c
      have z := A1.z
      have E := (A1.st4 g).c
      clear A2 hk hlt hg
      go_wp2_with fail
      refine bodyPost_ret (v := bv g) ?_ rfl ⟨rfl, Bel.st4 hB (by omega) g⟩
      simp only [Go.Proofs.YtjaljnfijhfkcaaGreatDoor.st4] at E
      simp [bv, results, Tryz.results109, go_sem, E]
end Go.Proofs.YtjaljnfijhfkcaaGreatDoor
/- Blocks of texts. -/
set_option linter.all false
set_option maxRecDepth 100000
namespace Go.Proofs.YtjaljnfijhfkcaaGreatDoor
open Go.RowKit Go.Sort Lin
set_option maxHeartbeats 1000000 in
theorem blockOf_core (s : ByteArray) (hs : s.size = 16) (g : Nat → Int) (C : ∀ k, k < 4 → ∀ W, Calls Tryz.prog 112 #[.string (s.extract (4 * k) 16)] W fun e w' => e = .returned (.int .u32 (g k)) ∧ Below W.heap.size W w') (w : World) :
    Calls Tryz.prog 97 #[.string s] w fun e w' => e = .returned (bv g) ∧ Below w.heap.size w w' := by
  unfold bv
  have hg := C
  have s16 : (s.size : Int) = 16 := by omega
  go_enter Tryz.func97, Tryz.ntmps97
  go_wp2_with fail
  go_loopw [5] (fun i wr => ∃ k : Nat, k ≤ 4 ∧ i = .int .i64 k ∧ Below w.heap.size w wr ∧ Arr wr w.heap.size 4 (fun _ => .int .u32 0) ∧ Arr wr (w.heap.size + 1) 4 (mid g (fun _ => 0) k)) (fun i _ => 4 - (intOf i).toNat)
  case atStart =>
    refine ⟨0, by omega, rfl, by go_grown, ?_, ?_⟩
    · exact (Arr.new _ _ _ _ (by simp) _ 4 z4_at).al' _
    · exact (Arr.new _ _ _ _ (by simp) _ 4 z4_at).congr fun j _ => (mid_0 (fun _ => 0) g j).symm
  case round =>
    obtain ⟨k, hk, rfl, hB, A1, A2⟩ := hrel
    by_cases hlt : k < 4
    · have k0 : (0 : Int) ≤ (k : Int) := by omega
      have k4 : (k : Int) < 4 := by omega
      have c47 := C k hlt wr
      clear C hg
      go_wp2_with fail
      refine c47.mono ?_
      rintro e w1 ⟨rfl, hb⟩
      have hB1 := Bel.call hB hb
      have B1 := A1.to' hb
      have B2 := A2.to' hb
      clear A1 A2 hB hb c47
      have c := B2.c k hlt
      have z := B2.z k hlt
      go_wp2_with fail
      refine ⟨⟨k + 1, by omega, by go_num, Bel.st hB1 (by omega) _, B1.other (by omega) _, mid_at B2 hlt⟩, by simp [intOf]; omega⟩
    · have e : k = 4 := by omega
      rw [show ((k : Nat) : Int) = 4 by omega]
      subst e
      have A := mid_end A2
      have c0 := A.c 0 (by omega)
      have c1 := A.c 1 (by omega)
      have c2 := A.c 2 (by omega)
      have c3 := A.c 3 (by omega)
      have d := A1.c
      have z := A1.z
      have E := (A1.st4 g).c
      clear A2 hk hlt hg C
      go_wp2_with fail
      refine bodyPost_ret (v := bv g) ?_ rfl ⟨rfl, Bel.st4 hB (by omega) g⟩
      simp only [Go.Proofs.YtjaljnfijhfkcaaGreatDoor.st4] at E
      simp [bv, results, Tryz.results97, go_sem, E]
theorem blockOf_any (s : ByteArray) (hs : s.size = 16) (w : World) : Calls Tryz.prog 97 #[.string s] w fun e w' => e = .returned (bv (col (bF s))) ∧ Below w.heap.size w w' :=
  blockOf_core s hs (col (bF s)) (fun k hk W => by
    have := wordOf_any (s.extract (4 * k) s.size) (by rw [ByteArray.size_extract]; omega) W
    rw [bF_ext s _ 0 (by omega), bF_ext s _ 1 (by omega), bF_ext s _ 2 (by omega), bF_ext s _ 3 (by omega), hs] at this
    exact this) w
end Go.Proofs.YtjaljnfijhfkcaaGreatDoor
/- A block as a text. -/
set_option linter.all false
set_option maxRecDepth 100000
namespace Go.Proofs.YtjaljnfijhfkcaaGreatDoor
open Go.RowKit Go.Sort Lin
/-- A word's four bytes, the highest first. -/
def w4 (x : Int) : List Int := [x / 16777216 % 256, x / 65536 % 256, x / 256 % 256, x % 256]
def hfL (x : Nat → Int) : Nat → List Int
  | 0 => []
  | n + 1 => hfL x n ++ w4 (x n)
theorem hfL_len (x : Nat → Int) (n : Nat) : (hfL x n).length = 4 * n := by
  induction n with
  | zero => rfl
  | succ n ih => rw [hfL, List.length_append, ih]; simp [w4]; omega
set_option maxHeartbeats 2000000 in
theorem appended_core (x : Nat → Int) (base n : Nat) (v : Value) (L0 : List Value) (w : World) (hw : w.ownsRow base 5 1 v n L0) (hbase : base ≤ w.heap.size) (hn : n ≤ 1000000) :
    Calls Tryz.prog 100 #[bv x, v] w fun e w' => ∃ v', e = .returned v' ∧ w'.ownsRow base 5 1 v' (n + 16) (L0 ++ (hfL x 4).map (Value.int .u8)) ∧ Below base w w' := by
  obtain ⟨i0, hi, hz0, hz1, hz2⟩ := info_parts Tryz.info5
  unfold bv
  go_enter Tryz.func100, Tryz.ntmps100
  go_wp2_with fail
  go_loopw [1, 8] (fun v i wr => ∃ (k : Nat) (L : List Value), k ≤ 4 ∧ i = .int .i64 k ∧ wr.ownsRow base 5 1 v (n + 4 * k) L ∧ L = L0 ++ (hfL x k).map (Value.int .u8) ∧ Below base w wr)
    (fun _ i _ => 4 - (intOf i).toNat)
  case atStart => exact ⟨0, L0, by omega, rfl, World.ownsRow.alloc hw _, by simp [hfL], (Below.refl _ _).alloc hbase _⟩
  case round =>
    obtain ⟨k, L, hk, rfl, hown, hL, hB⟩ := hrel
    by_cases hlt : k < 4
    · have k0 : (0 : Int) ≤ (k : Int) := by omega
      have k1 : (k : Int) < 4 := by omega
      have I := fun W => idx68 _ k _ hlt (h4_at x k hlt) W
      obtain ⟨ao, cv, hv⟩ := own_form hown
      subst hv
      have HL : Hid (L0 ++ (hfL x (k + 1)).map (Value.int .u8) = L ++ (w4 (x k)).map (Value.int .u8)) := by
        show _ = _
        rw [hfL, List.map_append, hL, List.append_assoc]
      have kb : n + 4 * k + 4 ≤ maxLen := by unfold maxLen; omega
      have kb2 : (n + 4 * k + 4) * 1 ≤ 140737488355328 := by omega
      have hs := hB.size
      have sb : ∀ ob, base ≤ (wr.alloc ob).heap.size := fun ob => by simp; omega
      have HO : Hid (wr.ownsRow base 5 1 (.slice ao (n + 4 * k) cv) (n + 4 * k) L) := hown
      unfold w4 at HL
      clear hL hown hw
      go_wp2_with (at_builtin; refine stopAt ?_)
      unfold Stop
      refine wpList_append_own _ rfl _ _ 50 rfl base 5 i0 (.int .u8 0) 1 1 Tryz.underlying50 hi hz0 hz1 hz2 rfl (by decide) _ _ _ rfl (World.ownsRow.alloc HO.out _) ⟨_, 0, none⟩ 4 4 [.int .u8 (x k / 16777216 % 256), .int .u8 (x k / 65536 % 256), .int .u8 (x k / 256 % 256), .int .u8 (x k % 256)] rfl rfl (news_new _ _ _) (by simp [Value.oneCell']) kb kb2 (sb _) ?_
      intro v' w3 hown' hgrow3 hnil3
      have b3 : Below base w w3 := (hB.alloc (by omega) _).grown hgrow3 (by simp; omega) (fun q hq => (HO.out.lt q hq).1)
      clear hnil3 hgrow3
      go_wp2_with fail
      refine ⟨⟨k + 1, _, by omega, by go_num, hown', HL.out.symm, b3⟩, by simp [intOf]; omega⟩
    · have e : k = 4 := by omega
      subst e
      subst hL
      have HO : Hid (wr.ownsRow base 5 1 u1 (n + 16) (L0 ++ (hfL x 4).map (Value.int .u8))) := hown
      clear hown hw
      go_wp2_with fail
      go_ret
      exact ⟨_, rfl, HO.out, hB⟩
/-- A block's bytes as a text. -/
def txt (x : Nat → Int) : ByteArray := mkS (hfL x 4)
set_option maxHeartbeats 1000000 in
theorem text_any (x : Nat → Int) (w : World) : Calls Tryz.prog 98 #[bv x] w fun e w' => e = .returned (.string (txt x)) ∧ Below w.heap.size w w' := by
  have A : ∀ W, Calls Tryz.prog 100 #[bv x, .slice none 0 0] W fun e w' => ∃ v', e = .returned v' ∧ w'.ownsRow W.heap.size 5 1 v' 16 ((hfL x 4).map (Value.int .u8)) ∧ Below W.heap.size W w' := fun W => by
    have := appended_core x W.heap.size 0 (.slice none 0 0) [] W (World.ownsRow_nil _ _ _ _) (Nat.le_refl _) (by omega)
    simpa using this
  unfold bv at A ⊢
  go_enter Tryz.func98, Tryz.ntmps98
  go_wp2_with fail
  refine (A _).mono ?_
  rintro e w1 ⟨v', rfl, hown, hb⟩
  obtain ⟨g, c, hv⟩ := own_some hown (by omega)
  subst hv
  have cv := convC w1 g 16 c (hfL x 4) (hfL_len x _) (World.ownsRow.cells hown rfl)
  have hb1 : Below w.heap.size w w1 := ((Below.refl _ w).alloc (Nat.le_refl _) _).trans (hb.mono (by simp))
  have ct : mkS (hfL x 4) = txt x := rfl
  rw [ct] at cv
  clear hown hb A ct
  go_wp2_with fail
  go_ret
  exact ⟨rfl, hb1⟩
end Go.Proofs.YtjaljnfijhfkcaaGreatDoor
/- Blocks as bytes: what the program's functions make of them. -/
set_option linter.all false
set_option maxRecDepth 100000
namespace Go.Proofs.YtjaljnfijhfkcaaGreatDoor
open Go.RowKit Go.Sort Lin
def plF (h k : Nat → By) (j : Nat) : By := xr (h j) (k j)
def beF (f : By → By) (h : Nat → By) (j : Nat) : By := f (h j)
def tnF (h : Nat → By) (j : Nat) : By := h (4 * ((j / 4 + j % 4) % 4) + j % 4)
/-- A byte of a column that is mixed. -/
def mxB (m0 m1 m2 m3 a b c d : By) : By := xr (xr (xr (tmF a m0) (tmF b m1)) (tmF c m2)) (tmF d m3)
def mxF (m0 m1 m2 m3 : By) (h : Nat → By) (j : Nat) : By := mxB m0 m1 m2 m3 (h (4 * (j / 4) + j % 4)) (h (4 * (j / 4) + (j % 4 + 1) % 4)) (h (4 * (j / 4) + (j % 4 + 2) % 4)) (h (4 * (j / 4) + (j % 4 + 3) % 4))
theorem col_of (h : Nat → By) (g : Nat → By) (k : Nat) (e0 : h (4 * k) = g (4 * k)) (e1 : h (4 * k + 1) = g (4 * k + 1)) (e2 : h (4 * k + 2) = g (4 * k + 2)) (e3 : h (4 * k + 3) = g (4 * k + 3)) : col h k = col g k := by unfold col; rw [e0, e1, e2, e3]
theorem plus_any (h k : Nat → By) (w : World) : Calls Tryz.prog 111 #[bv (col h), bv (col k)] w fun e w' => e = .returned (bv (col (plF h k))) ∧ Below w.heap.size w w' :=
  plus_core _ _ _ (fun c _ => by unfold col; rw [wd_xor]; rfl) w
theorem become_any (f : By → By) (b o : Nat) (h : Nat → By) (w : World) (hT : TabAt w b o f) : Calls Tryz.prog 108 #[bv (col h), .pointer (some ⟨b, o, none⟩)] w fun e w' => e = .returned (bv (col (beF f h))) ∧ Below w.heap.size w w' :=
  become_core _ _ b o f (fun k _ W hW => of_any f b o _ _ _ _ W hW) w hT
theorem turned_any (h : Nat → By) (w : World) : Calls Tryz.prog 109 #[bv (col h)] w fun e w' => e = .returned (bv (col (tnF h))) ∧ Below w.heap.size w w' := by
  refine turned_core _ _ (fun k hk => ?_) w
  have e : ∀ r, r < 4 → tnF h (4 * k + r) = h (4 * ((k + r) % 4) + r) := fun r hr => by
    unfold tnF
    rw [show (4 * k + r) / 4 = k by omega, show (4 * k + r) % 4 = r by omega]
  have e0 := e 0 (by omega)
  rw [Nat.add_zero, Nat.add_zero, Nat.add_zero, Nat.mod_eq_of_lt hk] at e0
  unfold col
  rw [e0, e 1 (by omega), e 2 (by omega), e 3 (by omega)]
  rw [show (4278190080 : Int) = wd 255 0 0 0 by decide, show (16711680 : Int) = wd 0 255 0 0 by decide, show (65280 : Int) = wd 0 0 255 0 by decide, show (255 : Int) = wd 0 0 0 255 by decide]
  simp only [wd_and, wd_or, an_ff, an_00, or_0, or_0']
theorem rot_8 (a b c d : By) (w : World) : Calls Tryz.prog 127 #[.int .u32 (wd a b c d), .int .i64 8] w fun e w' => e = .returned (.int .u32 (wd b c d a)) ∧ w' = w := by
  have := rotl_any (wd a b c d) 8 8 (by decide) (by decide) (by decide) w
  rw [show wd a b c d * 2 ^ (8 : Int).toNat % 4294967296 = wd b c d 0 by unfold wd wdN; have := a.2; have := b.2; have := c.2; have := d.2; simp; omega, show wd a b c d / 2 ^ ((32 : Int) - 8).toNat = wd 0 0 0 a by unfold wd wdN; have := a.2; have := b.2; have := c.2; have := d.2; simp; omega, wd_or] at this
  simpa only [or_0, or_0'] using this
theorem rot_16 (a b c d : By) (w : World) : Calls Tryz.prog 127 #[.int .u32 (wd a b c d), .int .i64 16] w fun e w' => e = .returned (.int .u32 (wd c d a b)) ∧ w' = w := by
  have := rotl_any (wd a b c d) 16 16 (by decide) (by decide) (by decide) w
  rw [show wd a b c d * 2 ^ (16 : Int).toNat % 4294967296 = wd c d 0 0 by unfold wd wdN; have := a.2; have := b.2; have := c.2; have := d.2; simp; omega, show wd a b c d / 2 ^ ((32 : Int) - 16).toNat = wd 0 0 a b by unfold wd wdN; have := a.2; have := b.2; have := c.2; have := d.2; simp; omega, wd_or] at this
  simpa only [or_0, or_0'] using this
theorem rot_24 (a b c d : By) (w : World) : Calls Tryz.prog 127 #[.int .u32 (wd a b c d), .int .i64 24] w fun e w' => e = .returned (.int .u32 (wd d a b c)) ∧ w' = w := by
  have := rotl_any (wd a b c d) 24 24 (by decide) (by decide) (by decide) w
  rw [show wd a b c d * 2 ^ (24 : Int).toNat % 4294967296 = wd d 0 0 0 by unfold wd wdN; have := a.2; have := b.2; have := c.2; have := d.2; simp; omega, show wd a b c d / 2 ^ ((32 : Int) - 24).toNat = wd 0 a b c by unfold wd wdN; have := a.2; have := b.2; have := c.2; have := d.2; simp; omega, wd_or] at this
  simpa only [or_0, or_0'] using this
theorem dF_xr (a b : By) : dF (xr a b) = xr (dF a) (dF b) := Fin.ext (T8_L.2 _ _)
theorem tm_2 : ∀ a : By, tmF a 2 = dF a := by decide +kernel
theorem tm_3 : ∀ a : By, tmF a 3 = xr (dF a) a := by decide +kernel
theorem tm_1 : ∀ a : By, tmF a 1 = a := by decide +kernel
theorem mx_is (a b c d : By) : xr (xr (xr (dF (xr a b)) b) c) d = mxB 2 3 1 1 a b c d := by
  unfold mxB
  rw [tm_2, tm_3, tm_1, tm_1, dF_xr, xr_assoc (dF a)]
theorem mixed_any (h : Nat → By) (w : World) : Calls Tryz.prog 110 #[bv (col h)] w fun e w' => e = .returned (bv (col (mxF 2 3 1 1 h))) ∧ Below w.heap.size w w' := by
  refine mixed_core (col h) (fun k => wd (h (4 * k + 1)) (h (4 * k + 2)) (h (4 * k + 3)) (h (4 * k))) (fun k => wd (h (4 * k + 2)) (h (4 * k + 3)) (h (4 * k)) (h (4 * k + 1))) (fun k => wd (h (4 * k + 3)) (h (4 * k)) (h (4 * k + 1)) (h (4 * k + 2)))
    (fun k => wd (dF (xr (h (4 * k)) (h (4 * k + 1)))) (dF (xr (h (4 * k + 1)) (h (4 * k + 2)))) (dF (xr (h (4 * k + 2)) (h (4 * k + 3)))) (dF (xr (h (4 * k + 3)) (h (4 * k))))) _
    (fun k _ W => rot_8 _ _ _ _ W) (fun k _ W => rot_16 _ _ _ _ W) (fun k _ W => rot_24 _ _ _ _ W) (fun k _ W => ?_) (fun k hk => ?_) w
  · have := dbl_any (bits .xor .u32 (col h k) (wd (h (4 * k + 1)) (h (4 * k + 2)) (h (4 * k + 3)) (h (4 * k)))) W
    unfold col at this ⊢
    rw [wd_xor] at this ⊢
    rw [dbW_wd] at this
    exact this
  · have e : ∀ r, r < 4 → mxF 2 3 1 1 h (4 * k + r) = mxB 2 3 1 1 (h (4 * k + r)) (h (4 * k + (r + 1) % 4)) (h (4 * k + (r + 2) % 4)) (h (4 * k + (r + 3) % 4)) := fun r hr => by
      unfold mxF
      rw [show (4 * k + r) / 4 = k by omega, show (4 * k + r) % 4 = r by omega]
    have e0 := e 0 (by omega)
    rw [Nat.add_zero] at e0
    unfold col
    rw [e0, e 1 (by omega), e 2 (by omega), e 3 (by omega)]
    simp only [wd_xor, mx_is, Nat.zero_add, Nat.reduceMod, Nat.reduceAdd, Nat.add_zero]
/-- Sixteen bytes as a text. -/
def tx (h : Nat → By) : ByteArray := mkS ((List.range 16).map fun j => ((h j).val : Int))
theorem w4_wd (a b c d : By) : w4 (wd a b c d) = [(a.val : Int), (b.val : Int), (c.val : Int), (d.val : Int)] := by
  unfold w4 wd wdN
  have := a.2; have := b.2; have := c.2; have := d.2
  simp only [List.cons.injEq, and_true]
  refine ⟨?_, ?_, ?_, ?_⟩ <;> omega
theorem txt_col (h : Nat → By) : txt (col h) = tx h := by
  unfold txt tx
  congr 1
  unfold hfL hfL hfL hfL hfL col
  simp only [w4_wd]
  rfl
theorem text_b (h : Nat → By) (w : World) : Calls Tryz.prog 98 #[bv (col h)] w fun e w' => e = .returned (.string (tx h)) ∧ Below w.heap.size w w' := by
  have := text_any (col h) w
  rwa [txt_col] at this
theorem tx_size (h : Nat → By) : (tx h).size = 16 := by unfold tx; rw [mkS_size]; simp
theorem bF_tx (h : Nat → By) (j : Nat) (hj : j < 16) : bF (tx h) j = h j := by
  apply Fin.ext
  have := mkS_bt ((List.range 16).map fun j => ((h j).val : Int)) j ((h j).val : Int) (by simp [hj]) (by omega) (by have := (h j).2; omega)
  have e := bF_bt (tx h) j
  unfold tx at e ⊢
  omega
theorem tx_bF (s : ByteArray) (hs : s.size = 16) : tx (bF s) = s := by
  apply ba_ext
  unfold tx
  rw [mkS_list, List.map_map]
  apply List.ext_getElem?
  intro j
  by_cases hj : j < 16
  · have e1 : s.data.toList[j]? = some (s.data[j]'(by have : s.data.size = 16 := hs; omega)) := by rw [Array.getElem?_toList]; exact Array.getElem?_eq_getElem _
    rw [e1, List.getElem?_map, List.getElem?_range hj]
    simp only [Option.map_some, Function.comp]
    rw [← bF_bt]
    unfold bt
    rw [Array.getElem?_eq_getElem (by have : s.data.size = 16 := hs; omega)]
    simp
  · rw [List.getElem?_eq_none (by simp; omega), List.getElem?_eq_none (by rw [len_list]; omega)]
theorem tx_congr {h k : Nat → By} (e : ∀ j, j < 16 → h j = k j) : tx h = tx k := by
  unfold tx
  congr 1
  refine List.map_congr_left fun j hj => ?_
  rw [e j (List.mem_range.1 hj)]
theorem bv_congr {h k : Nat → By} (e : ∀ j, j < 16 → h j = k j) : bv (col h) = bv (col k) := by
  unfold bv col
  rw [e _ (by omega), e _ (by omega), e _ (by omega), e _ (by omega), e _ (by omega), e _ (by omega), e _ (by omega), e _ (by omega), e _ (by omega), e _ (by omega), e _ (by omega), e _ (by omega), e _ (by omega), e _ (by omega), e _ (by omega), e _ (by omega)]
end Go.Proofs.YtjaljnfijhfkcaaGreatDoor
/- Blocks as 16 bytes and as numbers. -/
set_option linter.all false
set_option maxRecDepth 100000
namespace Go.Proofs.YtjaljnfijhfkcaaGreatDoor
open Go.RowKit Go.Sort Lin
theorem be_congr {f g : Nat → By} : ∀ (m : Nat), (∀ j, j < m → f j = g j) → be f m = be g m := by
  intro m
  induction m with
  | zero => intro _; rfl
  | succ m ih => intro e; rw [be, be, ih (fun j hj => e j (by omega)), e m (by omega)]
theorem be_add (f : Nat → By) (a : Nat) : ∀ b, be f (a + b) = be f a * 256 ^ b + be (fun j => f (a + j)) b := by
  intro b
  induction b with
  | zero => simp [be]
  | succ b ih =>
    show be f (a + b) * 256 + (f (a + b)).val = _
    rw [ih, be, Nat.pow_succ, Nat.add_mul, Nat.mul_assoc, Nat.add_assoc]
theorem bN_be (s : ByteArray) : bN s = be (bF s) 16 := by
  rw [show 16 = 8 + 8 from rfl, be_add]
  rfl
theorem be16_lt (f : Nat → By) : be f 16 < 2 ^ 128 := by
  have := be_lt f 16
  rwa [show (256 : Nat) ^ 16 = 2 ^ 128 by decide] at this
/-- A number's digits, m of them, the highest first. -/
theorem be_dig (f : Nat → By) : ∀ (m j : Nat), j < m → be f m / 256 ^ (m - 1 - j) % 256 = (f j).val := by
  intro m
  induction m with
  | zero => intro j hj; omega
  | succ m ih =>
    intro j hj
    have h2 := (f m).2
    by_cases e : j = m
    · subst e
      rw [show j + 1 - 1 - j = 0 by omega, be, Nat.pow_zero, Nat.div_one]
      omega
    · rw [show m + 1 - 1 - j = (m - 1 - j) + 1 by omega, Nat.pow_succ, Nat.mul_comm, ← Nat.div_div_eq_div_mul, be, show (be f m * 256 + (f m).val) / 256 = be f m by omega]
      exact ih j (by omega)
def dgm (m n j : Nat) : By := ⟨n / 256 ^ (m - 1 - j) % 256, Nat.mod_lt _ (by decide)⟩
theorem dig_be : ∀ (m n : Nat), be (dgm m n) m = n % 256 ^ m := by
  intro m
  induction m with
  | zero => intro n; simp [be, Nat.mod_one]
  | succ m ih =>
    intro n
    have e : be (dgm (m + 1) n) m = be (dgm m (n / 256)) m := be_congr m (fun j hj => by
      apply Fin.ext
      simp only [dgm]
      rw [show m + 1 - 1 - j = (m - 1 - j) + 1 by omega, Nat.pow_succ, Nat.mul_comm, ← Nat.div_div_eq_div_mul])
    rw [be, e, ih]
    simp only [dgm]
    rw [show m + 1 - 1 - m = 0 by omega, Nat.pow_zero, Nat.div_one, Nat.pow_succ, Nat.mul_comm (256 ^ m) 256, Nat.mod_mul, Nat.mul_comm 256]
    omega
def dg (n j : Nat) : By := dgm 16 n j
theorem dg_be (f : Nat → By) (j : Nat) (hj : j < 16) : dg (be f 16) j = f j := Fin.ext (be_dig f 16 j hj)
theorem be_dg {n : Nat} (h : n < 2 ^ 128) : be (dg n) 16 = n := by
  have := dig_be 16 n
  rw [show (256 : Nat) ^ 16 = 2 ^ 128 by decide, Nat.mod_eq_of_lt h] at this
  exact this
theorem dL_dg (n : Nat) : dL (hi n) (lo n) 2 = (List.range 16).map fun j => ((dg n j).val : Int) := by
  have r16 : List.range 16 = [0, 1, 2, 3, 4, 5, 6, 7, 8, 9, 10, 11, 12, 13, 14, 15] := rfl
  have r8 : List.range 8 = [0, 1, 2, 3, 4, 5, 6, 7] := rfl
  have w0 : wi (hi n) (lo n) 0 = hi n := rfl
  have w1 : wi (hi n) (lo n) 1 = lo n := rfl
  simp only [dL, oL, r16, r8, w0, w1, List.map_cons, List.map_nil, List.nil_append, List.cons_append]
  simp only [dg, dgm, hi, lo, Nat.reduceSub, Nat.reduceMul, Nat.reducePow, Nat.zero_add]
  simp only [List.cons.injEq, and_true]
  refine ⟨?_, ?_, ?_, ?_, ?_, ?_, ?_, ?_, ?_, ?_, ?_, ?_, ?_, ?_, ?_, ?_⟩ <;> omega
theorem tN_tx (n : Nat) : tN n = tx (dg n) := by unfold tN tx; rw [dL_dg]
theorem tx_be (f : Nat → By) : tx f = tN (be f 16) := by rw [tN_tx]; exact tx_congr (fun j hj => (dg_be f j hj).symm)
theorem bF_tN (n j : Nat) (hj : j < 16) : bF (tN n) j = dg n j := by rw [tN_tx, bF_tx _ j hj]
theorem bN_tN {n : Nat} (h : n < 2 ^ 128) : bN (tN n) = n := by
  rw [bN_be, be_congr 16 (fun j hj => bF_tN n j hj), be_dg h]
theorem tN_bN (s : ByteArray) (hs : s.size = 16) : tN (bN s) = s := by rw [bN_be, ← tx_be, tx_bF s hs]
theorem bN_inj {s t : ByteArray} (hs : s.size = 16) (ht : t.size = 16) (h : bN s = bN t) : s = t := by rw [← tN_bN s hs, h, tN_bN t ht]
/-- Sums byte by byte. -/
theorem be_xor (f g : Nat → By) : ∀ m, be (fun j => xr (f j) (g j)) m = be f m ^^^ be g m := by
  intro m
  induction m with
  | zero => simp [be]
  | succ m ih =>
    rw [be, ih, be, be]
    exact (xor_hi _ _ _ _ 8 (f m).2 (g m).2).symm
/-- Half of it. -/
def shF (v : Nat → By) (k : Nat) : By := ⟨(v k).val / 2 + (if k = 0 then 0 else (v (k - 1)).val % 2 * 128), by have := (v k).2; split <;> omega⟩
theorem be_half (v : Nat → By) : ∀ m, be (shF v) m = be v m / 2 := by
  intro m
  induction m with
  | zero => simp [be]
  | succ m ih =>
    rw [be, ih, be]
    simp only [shF]
    cases m with
    | zero => simp [be]
    | succ m =>
      rw [if_neg (by omega), be, show m + 1 - 1 = m from rfl]
      have := (v m).2
      have := (v (m + 1)).2
      omega
def e1F (c : Bool) (f : Nat → By) (k : Nat) : By := if c = true ∧ k = 0 then xr (f 0) 225 else f k
theorem be_e1 (c : Bool) (f : Nat → By) : be (e1F c f) 16 = be f 16 ^^^ (if c = true then 225 * 2 ^ 120 else 0) := by
  cases c with
  | false => rw [if_neg (by decide), Nat.xor_zero]; exact be_congr 16 (fun j _ => by unfold e1F; rw [if_neg (by simp)])
  | true =>
    rw [if_pos rfl, show 16 = 1 + 15 from rfl, be_add, be_add]
    have h := be_lt (fun j => f (1 + j)) 15
    have e : be (fun j => e1F true f (1 + j)) 15 = be (fun j => f (1 + j)) 15 := be_congr 15 (fun j _ => by unfold e1F; rw [if_neg (by omega)])
    rw [e]
    rw [show (256 : Nat) ^ 15 = 2 ^ 120 by decide] at h ⊢
    have := xor_hi (be f 1) 225 (be (fun j => f (1 + j)) 15) 0 120 h (by decide)
    rw [Nat.add_zero, Nat.xor_zero] at this
    rw [this]
    congr 2
    unfold be be e1F
    rw [if_pos ⟨rfl, rfl⟩]
    simp only [be, xr, Nat.zero_mul, Nat.zero_add]
    rfl
/-- The bits of a row of 16 bytes. -/
theorem be_bit (f : Nat → By) : ∀ (m i : Nat), i < 8 * m → (be f m).testBit (8 * m - 1 - i) = (f (i / 8)).val.testBit (7 - i % 8) := by
  intro m
  induction m with
  | zero => intro i hi; omega
  | succ m ih =>
    intro i hi
    rw [be, Nat.mul_comm]
    have tb := Nat.testBit_two_pow_mul_add (i := 8) (b := (f m).val) (be f m) (f m).2 (8 * (m + 1) - 1 - i)
    refine tb.trans ?_
    by_cases c : i < 8 * m
    · rw [if_neg (by omega), show 8 * (m + 1) - 1 - i - 8 = 8 * m - 1 - i by omega]
      exact ih i c
    · rw [if_pos (by omega), show i / 8 = m by omega]
      congr 1
      omega
theorem bs_be (f : Nat → By) (i : Nat) (hi : i < 128) : bs (be f 16) i = (f (i / 8)).val.testBit (7 - i % 8) := be_bit f 16 i (by omega)
theorem low_be (f : Nat → By) : (be f 16).testBit 0 = (f 15).val.testBit 0 := be_bit f 16 127 (by omega)
/-- A step of the product, byte by byte. -/
theorem be_T128 (v : Nat → By) : be (e1F ((v 15).val.testBit 0) (shF v)) 16 = T128 (be v 16) := by
  rw [be_e1, be_half, T128_is, low_be]
end Go.Proofs.YtjaljnfijhfkcaaGreatDoor
/- Products of texts; whether two blocks are one. -/
set_option linter.all false
set_option maxRecDepth 100000
namespace Go.Proofs.YtjaljnfijhfkcaaGreatDoor
open Go.RowKit Go.Sort Lin
/-- What Times tells. -/
def tmS (a b : ByteArray) : ByteArray := if a.size = 16 ∧ b.size = 16 then tN (tB (bN a) (bN b)) else ⟨#[]⟩
def tmE (a b : ByteArray) : Int := if a.size = 16 ∧ b.size = 16 then 0 else 10
set_option maxHeartbeats 1000000 in
theorem is_core (x y u v p q : Int) (r : Bool) (w : World)
    (C35 : ∀ W, Calls Tryz.prog 79 #[gk x y, gk u v] W fun e w' => e = .returned (gk p q) ∧ Below W.heap.size W w') (hr : (bits .or .u64 p q == 0) = r) :
    Calls Tryz.prog 71 #[gk x y, gk u v] w fun e w' => e = .returned (.bool r) ∧ Below w.heap.size w w' := by
  unfold gk at *
  go_enter Tryz.func71, Tryz.ntmps71
  go_wp2_with fail
  refine (C35 _).mono ?_
  rintro e w1 ⟨rfl, B1⟩
  have B2 : Below w.heap.size w w1 := Bel.call (by go_grown) B1
  clear B1 C35
  go_wp2_with fail
  go_ret
  exact ⟨by rw [← hr]; rfl, Bel.al B2 _⟩
theorem or_zero (a b : Nat) (ha : a < 2 ^ 64) (hb : b < 2 ^ 64) : (bits .or .u64 (a : Int) (b : Int) == 0) = decide (a = 0 ∧ b = 0) := by
  rw [(bits_ao64 a b ha hb).2]
  have : a ||| b = 0 ↔ a = 0 ∧ b = 0 := Nat.or_eq_zero_iff
  by_cases h : a = 0 ∧ b = 0
  · rw [decide_eq_true h, this.2 h]; rfl
  · have n : ¬ (a ||| b) = 0 := fun e => h (this.1 e)
    rw [decide_eq_false h]
    simp [n]
theorem is_any {a b : Nat} (ha : a < 2 ^ 128) (hb : b < 2 ^ 128) (w : World) : Calls Tryz.prog 71 #[gB a, gB b] w fun e w' => e = .returned (.bool (decide (a = b))) ∧ Below w.heap.size w w' := by
  refine is_core _ _ _ _ _ _ _ w (fun W => gplus_any ha hb W) ?_
  have hx := x128 ha hb
  unfold hi lo
  rw [or_zero _ _ (hi_lt hx) (lo_lt _)]
  congr 1
  refine propext ⟨fun h => ?_, fun h => ?_⟩
  · have e : a ^^^ b = 0 := by omega
    have t : a ^^^ b ^^^ b = b := by rw [e, Nat.zero_xor]
    rwa [Nat.xor_assoc, Nat.xor_self, Nat.xor_zero] at t
  · subst h
    rw [Nat.xor_self]
    exact ⟨rfl, rfl⟩
end Go.Proofs.YtjaljnfijhfkcaaGreatDoor
/- A key's words; a cipher's cells. -/
set_option linter.all false
set_option maxRecDepth 100000
namespace Go.Proofs.YtjaljnfijhfkcaaGreatDoor
open Go.RowKit Go.Sort Lin
/-- Four bytes. -/
abbrev Q4 : Type := By × By × By × By
def wQ (q : Q4) : Int := wd q.1 q.2.1 q.2.2.1 q.2.2.2
def bQ (q : Q4) (r : Nat) : By := match r with | 0 => q.1 | 1 => q.2.1 | 2 => q.2.2.1 | _ => q.2.2.2
def xQ (p q : Q4) : Q4 := (xr p.1 q.1, xr p.2.1 q.2.1, xr p.2.2.1 q.2.2.1, xr p.2.2.2 q.2.2.2)
def sQ (q : Q4) : Q4 := (sb q.1, sb q.2.1, sb q.2.2.1, sb q.2.2.2)
/-- The powers of x. -/
def rc : Nat → By
  | 0 => 1
  | k + 1 => tmF (rc k) 2
/-- What is added to the word that is a whole key ahead. -/
def tQ (nk n : Nat) (t : Q4) : Q4 :=
  if n % nk = 0 then (xr (sb t.2.1) (rc ((n - 1) / nk)), sb t.2.2.1, sb t.2.2.2, sb t.1)
  else if nk = 8 ∧ n % 8 = 4 then sQ t else t
def nxQ (key : Nat → By) (nk n : Nat) (l : List Q4) : Q4 :=
  if n < nk then (key (4 * n), key (4 * n + 1), key (4 * n + 2), key (4 * n + 3)) else xQ (l.getD (nk - 1) (0, 0, 0, 0)) (tQ nk n (l.getD 0 (0, 0, 0, 0)))
/-- The first n words, the last first. -/
def slQ (key : Nat → By) (nk : Nat) : Nat → List Q4
  | 0 => []
  | n + 1 => nxQ key nk n (slQ key nk n) :: slQ key nk n
/-- A key's n-th word. -/
def kQ (key : Nat → By) (nk n : Nat) : Q4 := nxQ key nk n (slQ key nk n)
theorem slQ_at (key : Nat → By) (nk : Nat) : ∀ n i, i < n → (slQ key nk n).getD i (0, 0, 0, 0) = kQ key nk (n - 1 - i) := by
  intro n
  induction n with
  | zero => intro i hi; omega
  | succ n ih =>
    intro i hi
    cases i with
    | zero => simp [slQ, kQ]
    | succ i =>
      show (slQ key nk n).getD i _ = _
      rw [ih i (by omega), show n + 1 - 1 - (i + 1) = n - 1 - i by omega]
theorem kQ_lo (key : Nat → By) (nk n : Nat) (h : n < nk) : kQ key nk n = (key (4 * n), key (4 * n + 1), key (4 * n + 2), key (4 * n + 3)) := by unfold kQ nxQ; rw [if_pos h]
theorem kQ_hi (key : Nat → By) (nk n : Nat) (h : nk ≤ n) (h0 : 0 < nk) : kQ key nk n = xQ (kQ key nk (n - nk)) (tQ nk n (kQ key nk (n - 1))) := by
  have e : kQ key nk n = xQ ((slQ key nk n).getD (nk - 1) (0, 0, 0, 0)) (tQ nk n ((slQ key nk n).getD 0 (0, 0, 0, 0))) := by unfold kQ nxQ; rw [if_neg (by omega)]
  rw [e, slQ_at key nk n _ (by omega), slQ_at key nk n 0 (by omega), show n - 1 - (nk - 1) = n - nk by omega, show n - 1 - 0 = n - 1 by omega]
/-- The j-th byte of what a key is made into. -/
def kB (key : Nat → By) (nk j : Nat) : By := bQ (kQ key nk (j / 4)) (j % 4)
theorem wQ_xor (p q : Q4) : bits .xor .u32 (wQ p) (wQ q) = wQ (xQ p q) := wd_xor _ _ _ _ _ _ _ _
theorem col_kB (key : Nat → By) (nk i c : Nat) : col (fun j => kB key nk (16 * i + j)) c = wQ (kQ key nk (4 * i + c)) := by
  unfold col kB wQ
  simp only []
  rw [show (16 * i + 4 * c) / 4 = 4 * i + c by omega, show (16 * i + 4 * c) % 4 = 0 by omega, show (16 * i + (4 * c + 1)) / 4 = 4 * i + c by omega, show (16 * i + (4 * c + 1)) % 4 = 1 by omega, show (16 * i + (4 * c + 2)) / 4 = 4 * i + c by omega, show (16 * i + (4 * c + 2)) % 4 = 2 by omega, show (16 * i + (4 * c + 3)) / 4 = 4 * i + c by omega, show (16 * i + (4 * c + 3)) % 4 = 3 by omega]
  rfl
/-- A cipher's cells. -/
def cph (key : ByteArray) (d st : Int) (T : Nat → Value) (X : Nat → Int) (last : Int) (j : Nat) : Value :=
  if j = 0 then .string key else if j = 1 then .int .u32 d else if j = 2 then .int .i32 st else if j = 3 then .int .u32 0 else if j < 260 then T (j - 4) else if j < 320 then .int .u32 (X (j - 260)) else .int .i64 last
def zT (_ : Nat) : Value := .int .u8 0
def sT (j : Nat) : Value := .int .u8 ((sb (Fin.ofNat 256 j)).val : Int)
theorem cph_0 {key d st T X last} : cph key d st T X last 0 = .string key := rfl
theorem cph_1 {key d st T X last} : cph key d st T X last 1 = .int .u32 d := rfl
theorem cph_2 {key d st T X last} : cph key d st T X last 2 = .int .i32 st := rfl
theorem cph_T {key d st T X last} (j : Nat) (h : j < 256) : cph key d st T X last (4 + j) = T j := by
  unfold cph
  rw [if_neg (by omega), if_neg (by omega), if_neg (by omega), if_neg (by omega), if_pos (by omega), show 4 + j - 4 = j by omega]
theorem cph_X {key d st T X last} (j : Nat) (h : j < 60) : cph key d st T X last (260 + j) = .int .u32 (X j) := by
  unfold cph
  rw [if_neg (by omega), if_neg (by omega), if_neg (by omega), if_neg (by omega), if_neg (by omega), if_pos (by omega), show 260 + j - 260 = j by omega]
theorem cph_l {key d st T X last} : cph key d st T X last 320 = .int .i64 last := rfl
/-- The cipher of block b. -/
def Cph (w : World) (b : Nat) (key : ByteArray) (d st : Int) (T : Nat → Value) (X : Nat → Int) (last : Int) : Prop := Arr w b 321 (cph key d st T X last)
theorem Cph.tab {w b key d st X last} (h : Cph w b key d st sT X last) : TabAt w b 4 sb := fun a => by
  have := h.c (4 + a.val) (by have := a.2; omega)
  rw [cph_T a.val a.2] at this
  rw [this]
  unfold sT
  congr
  exact Fin.ext (by simp [Nat.mod_eq_of_lt a.2])
theorem Cph.setX {w b key d st T X last} (h : Cph w b key d st T X last) (k : Nat) (hk : k < 60) (v : Int) : Cph (w.setCell ⟨b, 260 + k, none⟩ (.int .u32 v)) b key d st T (fun j => if j = k then v else X j) last := by
  refine (Arr.set h (260 + k) (by omega) _).congr ?_
  intro j hj
  by_cases e : j = 260 + k
  · subst e
    rw [if_pos rfl, cph_X k hk, if_pos rfl]
  · rw [if_neg e]
    unfold cph
    by_cases c1 : j < 260
    · simp only [if_pos c1]
    · by_cases c2 : j < 320
      · simp only [if_neg c1, if_pos c2, if_neg (show ¬ j = 0 by omega), if_neg (show ¬ j = 1 by omega), if_neg (show ¬ j = 2 by omega), if_neg (show ¬ j = 3 by omega), if_neg (show ¬ j - 260 = k by omega)]
      · simp only [if_neg c1, if_neg c2]
theorem Cph.setL {w b key d st T X last} (h : Cph w b key d st T X last) (v : Int) : Cph (w.setCell ⟨b, 320, none⟩ (.int .i64 v)) b key d st T X v := by
  refine (Arr.set h 320 (by omega) _).congr ?_
  intro j hj
  by_cases e : j = 320
  · subst e; rw [if_pos rfl]; rfl
  · rw [if_neg e]
    unfold cph
    by_cases c1 : j < 260
    · simp only [if_pos c1]
    · simp only [if_neg c1, if_pos (show j < 320 by omega)]
theorem Cph.setD {w b key d st T X last} (h : Cph w b key d st T X last) (v : Int) : Cph (w.setCell ⟨b, 1, none⟩ (.int .u32 v)) b key v st T X last := by
  refine (Arr.set h 1 (by omega) _).congr ?_
  intro j hj
  by_cases e : j = 1
  · subst e; rw [if_pos rfl]; rfl
  · rw [if_neg e]
    unfold cph
    simp only [if_neg e]
theorem Cph.setS {w b key d st T X last} (h : Cph w b key d st T X last) (v : Int) : Cph (w.setCell ⟨b, 2, none⟩ (.int .i32 v)) b key d v T X last := by
  refine (Arr.set h 2 (by omega) _).congr ?_
  intro j hj
  by_cases e : j = 2
  · subst e; rw [if_pos rfl]; rfl
  · rw [if_neg e]
    unfold cph
    simp only [if_neg e]
theorem cell_sets_out (w : World) (b j : Nat) : ∀ (vs : List Value) (o : Nat), (j < o ∨ o + vs.length ≤ j) → (w.setCells b o vs).cell? ⟨b, j, none⟩ = w.cell? ⟨b, j, none⟩ := by
  intro vs
  induction vs generalizing w with
  | nil => intro o _; rfl
  | cons v r ih =>
    intro o h
    have hl : (v :: r).length = r.length + 1 := rfl
    rw [World.setCells, ih _ (o + 1) (by omega), World.cell?_setCell_other _ _ _ _ (by intro hh; injection hh with _ h2; omega)]
theorem Cph.there {w b key d st T X last} (h : Cph w b key d st T X last) : w.there b 4 256 := fun j hj => by
  refine ⟨?_, Arr.z h (4 + j) (by omega)⟩
  rw [Arr.c h (4 + j) (by omega)]; rfl
theorem Cph.setT {w b key d st T X last} (h : Cph w b key d st T X last) : Cph (w.setCells b 4 (tbL sb)) b key d st sT X last := by
  intro j hj
  refine ⟨?_, by rw [frozen_sets]; exact Arr.z h j hj⟩
  by_cases e : 4 ≤ j ∧ j < 260
  · obtain ⟨i, rfl⟩ : ∃ i, j = 4 + i := ⟨j - 4, by omega⟩
    have R := World.rangeAt_setCells_same w b 4 (tbL sb) (by rw [tbL_len]; exact h.there)
    have := R i _ (tbL_at sb i (by omega))
    rw [this, cph_T i (by omega)]
    rfl
  · rw [cell_sets_out w b j (tbL sb) 4 (by rw [tbL_len]; omega), Arr.c h j hj]
    unfold cph
    by_cases c : j < 4
    · have : j = 0 ∨ j = 1 ∨ j = 2 ∨ j = 3 := by omega
      rcases this with rfl | rfl | rfl | rfl <;> rfl
    · simp only [if_neg (show ¬ j < 260 by omega)]
theorem Cph.congrX {w b key d st T X Y last} (h : Cph w b key d st T X last) (e : ∀ j, j < 60 → X j = Y j) : Cph w b key d st T Y last := by
  refine Arr.congr h ?_
  intro j hj
  unfold cph
  by_cases c1 : j < 260
  · simp only [if_pos c1]
  · by_cases c2 : j < 320
    · simp only [if_neg c1, if_pos c2, e (j - 260) (by omega)]
    · simp only [if_neg c1, if_neg c2]
/-- Only block b is written. -/
theorem gb_set (w : World) (b k : Nat) (v : Value) : w.grownBy (w.setCell ⟨b, k, none⟩ v) (some b) :=
  ⟨rfl, rfl, rfl, by rw [size_set]; omega, fun j _ hj => Below.heap_setCell _ _ _ j (fun e => hj (by rw [e]))⟩
theorem gb_trans {a b c : World} {r : Option Nat} (h : a.grownBy b r) (k : b.grownBy c r) : a.grownBy c r :=
  ⟨k.os.trans h.os, k.tape.trans h.tape, k.output.trans h.output, Nat.le_trans h.size k.size, fun i hi hr => (k.block i (Nat.lt_of_lt_of_le hi h.size) hr).trans (h.block i hi hr)⟩
theorem gb_of {a b : World} {r : Option Nat} (h : Below a.heap.size a b) : a.grownBy b r := ⟨h.os, h.tape, h.output, h.size, fun k hk _ => h.block k hk⟩
theorem gb_drew {a b : World} {r : Option Nat} (h : a.grownBy b r) : a.grownBy b.drew r := ⟨h.os, h.tape, h.output, h.size, h.block⟩
theorem gb_refl (a : World) (r : Option Nat) : a.grownBy a r := ⟨rfl, rfl, rfl, Nat.le_refl _, fun _ _ _ => rfl⟩
theorem gb_sets (w : World) (b : Nat) : ∀ (vs : List Value) (o : Nat), w.grownBy (w.setCells b o vs) (some b) := by
  intro vs
  induction vs generalizing w with
  | nil => intro o; exact gb_refl _ _
  | cons v r ih => intro o; rw [World.setCells]; exact gb_trans (gb_set _ _ _ _) (ih _ (o + 1))
theorem gb_cell {w w' : World} {b c j : Nat} (h : w.grownBy w' (some b)) (hc : c < w.heap.size) (hne : c ≠ b) : w'.cell? ⟨c, j, none⟩ = w.cell? ⟨c, j, none⟩ :=
  World.cell?_of_block (w := w) (h.block c hc (by intro e; exact hne (Option.some.inj e)))
theorem gb_frozen {w w' : World} {b c j : Nat} (h : w.grownBy w' (some b)) (hc : c < w.heap.size) (hne : c ≠ b) : w'.frozen? ⟨c, j, none⟩ = w.frozen? ⟨c, j, none⟩ :=
  World.frozen?_of_block (w := w) (h.block c hc (by intro e; exact hne (Option.some.inj e)))
theorem gb_arr {w w' : World} {b c n : Nat} {f : Nat → Value} (h : w.grownBy w' (some b)) (hne : c ≠ b) (hA : Arr w c (n + 1) f) : Arr w' c (n + 1) f := fun j hj =>
  ⟨(gb_cell h hA.lt hne).trans (hA.c j hj), (gb_frozen h hA.lt hne).trans (hA.z j hj)⟩
theorem gb_below {w W W' : World} {b : Nat} (h : Below w.heap.size w W) (hg : W.grownBy W' (some b)) (hb : w.heap.size ≤ b) : Below w.heap.size w W' :=
  h.grown hg h.size (fun k e => by cases e; exact hb)
theorem Cph.to {w w' b key d st T X last} (h : Cph w b key d st T X last) (hb : Below w.heap.size w w') : Cph w' b key d st T X last := Arr.to' h hb
theorem Cph.lt {w b key d st T X last} (h : Cph w b key d st T X last) : b < w.heap.size := Arr.lt h
theorem Cph.al {w b key d st T X last} (h : Cph w b key d st T X last) (o : Obj) : Cph (w.alloc o) b key d st T X last := Arr.al' h o
end Go.Proofs.YtjaljnfijhfkcaaGreatDoor
/- A range over a function whose iterator writes a block that was there, and tells its body more than what it hands out; the body may be left by an exit. -/
set_option linter.all false
namespace Go.Proofs.YtjaljnfijhfkcaaGreatDoor
open Go.RowKit Go.Shelf
variable {F : Fence} {n : Nat} {P : Program}
def SeqM {α : Type} (F : Fence) (n : Nat) (P : Program) (g : Nat) (lb : Array Value) (encs : α → Array Value) (Kp : World → World → Prop) (Mk : List α → α → World → Prop) (Bd S Sp : List α → Prop) (row : Option Nat) (Ed : World → Prop) (w : World) : Prop :=
  ∀ (l : Nat) (J Jx : List α → World → Prop) (W : World), Below w.heap.size w W → AbidesFrom W.heap.size J → AbidesFrom W.heap.size Jx → (∀ s A B, J s A → A.grownBy B row → J s B) → (∀ s A, J s A → Bd s) →
    (∀ pre x A, J pre A → Mk pre x A → YieldAt F (n - 1) P l (encs x) A fun e A' => (e = .returned (.bool true) ∧ J (pre ++ [x]) A' ∧ Kp A A') ∨ (e = .returned (.bool false) ∧ Jx (pre ++ [x]) A')) →
    J [] W → CallsIn F n P g (#[.func (.yield l) #[] #[]] ++ lb) W fun e A' => (∃ v, e = .returned v) ∧ ((∃ xs, S xs ∧ J xs A' ∧ Ed A') ∨ (∃ pre, Sp pre ∧ Jx pre A'))
/-- How a round may end. -/
def EndM {α : Type} (Kp : World → World → Prop) (I Ix : List α → World → Prop) (xs : List α) (W : World) : Exit → Act → World → Prop
  | .normal, _, W' => KeepsOthers W W' ∧ Kp W W' ∧ I xs W'
  | .exit id, _, W' => id = 0 ∧ KeepsOthers W W' ∧ Ix xs W'
  | _, _, _ => False
theorem Book.grown {w A B : World} {r : Loop} {row : Option Nat} (h : Book w r A) (hg : A.grownBy B row) (hr : ∀ k, row = some k → k < w.heap.size) : Book w r B :=
  ⟨(hg.block _ (Array.getElem?_eq_some_iff.1 h.1).1 (fun e => by have := hr _ e.symm; omega)).trans h.1, (hg.block _ (Array.getElem?_eq_some_iff.1 h.2).1 (fun e => by have := hr _ e.symm; omega)).trans h.2⟩
/-- One block that is no cells, of the loop's own, is turned. -/
def Upd (B : Nat) (W W' : World) : Prop := ∃ l o, W.heap[l]? = some o ∧ o.isCells = false ∧ B ≤ l ∧ W.grownBy W' (some l)
theorem Upd.own {β : Type} {B : Nat} {I : β → World → Prop} (hI : OwnFrom B I) {s : β} {W W' : World} (h : Upd B W W') (hi : I s W) : I s W' := by
  obtain ⟨l, o, h1, h2, h3, h4⟩ := h
  exact hI s W W' (some l) hi h4 (fun r e => by cases e; exact ⟨h3, o, h1, h2⟩)
theorem Upd.arr {B : Nat} {W W' : World} (h : Upd B W W') {b n : Nat} {f : Nat → Value} (hA : Arr W b n f) : Arr W' b n f := by
  obtain ⟨l, o, h1, h2, h3, h4⟩ := h
  exact arr_kept hA h4 (fun r e => by cases e; exact ⟨o, h1, h2⟩)
theorem wpIn_rangeFunc_made {α : Type} {g : Operand} {ps : Array Tmp} {assign body : Code} {Q : Exit → Act → World → Prop} {a : Act} {w : World}
    (hro : F.round = none) (h1 : 1 ≤ n) {gf : Nat} {lb : Array Value} (hg : a.eval g = .func (.func gf) #[] lb) (hFg : F.fn gf) (eg : ∀ args w, (callFunc gf args).run P w = .ok (.enter gf args) w)
    {encs : α → Array Value} {Kp : World → World → Prop} {Mk : List α → α → World → Prop} {Bd S Sp : List α → Prop} {row : Option Nat} {Ed : World → Prop} {w0 : World} (hseq : SeqM F (n - 1) P gf lb encs Kp Mk Bd S Sp row Ed w0)
    (hKt : ∀ {A B C : World}, Kp A B → Kp B C → Kp A C) (hKb : ∀ (W : World) (l : Nat) (o o' : Obj), w.heap.size ≤ l → W.heap[l]? = some o → o.isCells = false → Kp W (W.putObj l o')) (hKg : ∀ A B : World, A.grownBy B none → Kp A B) (hb0 : Below w0.heap.size w0 w) (hps : ∀ x, (encs x).size = ps.size)
    (hrow : ∀ k, row = some k → k < w.heap.size) (hMk : OwnFrom w.heap.size (fun (s : List α × α) W => Mk s.1 s.2 W)) (hEd : OwnFrom w.heap.size (fun (_ : Unit) W => Ed W))
    (I Ix : List α → World → Prop) (hI : OwnFrom w.heap.size I) (hIx : OwnFrom w.heap.size Ix) (hIg : ∀ s A B, I s A → A.grownBy B row → I s B) (hBd : ∀ s A, I s A → Bd s) (h0 : I [] w)
    (hround : ∀ (l : Nat) (pre : List α) (x : α) (W : World), I pre W → Mk pre x W →
      assign.wpIn (F.inRound l) (n - 1 - 1) P (Exit.then (fun a₁ W₁ => W.grownBy W₁ none ∧ ∀ W₂, Upd w.heap.size W₁ W₂ → I pre W₂ → Mk pre x W₂ → body.wpIn (F.inRound l) (n - 1 - 1) P (EndM Kp I Ix (pre ++ [x]) W₂) a₁ W₂) (fun _ _ _ => False))
        { tmps := (ps.zip (encs x)).foldl (fun t (p, v) => t.setIfInBounds p v) a.tmps, defers := [] } W)
    (hdone : ∀ (D : Nat) (xs : List α) (W : World), w.heap.size ≤ D → S xs → I xs W → Ed W → W.heap[D]? = some (.deferred (some [])) → Q .normal { a with defers := { target := .collected D, args := #[] } :: a.defers } W)
    (hstop : ∀ (D : Nat) (pre : List α) (W : World), w.heap.size ≤ D → Sp pre → Ix pre W → W.heap[D]? = some (.deferred (some [])) → (Code.exit 0).wpIn F n P Q { a with defers := { target := .collected D, args := #[] } :: a.defers } W) :
    (Code.rangeFunc g ps assign body).wpIn F n P Q a w := by
  refine wpIn_rangeFunc fun fn hfn => ?_
  rw [hro]
  obtain ⟨R, hR⟩ : ∃ R : LoopState → Option Code → Loop, R = fun st pe => { state := st, pending := pe, fn, tmps := a.tmps, params := ps, assign, body, defers := w.heap.size } := ⟨_, rfl⟩
  obtain ⟨V, hV⟩ : ∃ V, (w.alloc (.deferred (some []))).alloc (.loop (R .ready none)) = V := ⟨_, rfl⟩
  have bV : Book w (R .ready none) V := by
    rw [← hV]
    refine ⟨?_, (Below.heap_alloc _ _ _ (by simp)).trans (World.alloc_heap_new w _)⟩
    have := World.alloc_heap_new (w.alloc (.deferred (some []))) (.loop (R .ready none))
    rwa [World.size_alloc] at this
  have iV : I [] V := by rw [← hV]; exact hI.alloc _ (hI.alloc _ h0)
  have sV : w.heap.size ≤ V.heap.size := by rw [← hV]; simp; omega
  have cV : Below w0.heap.size w0 V := by
    rw [← hV]; exact hb0.trans ((((Below.refl _ w).alloc (Nat.le_refl _) _).alloc (by simp) _).mono hb0.size)
  refine ⟨w.heap.size + 1, [{ target := .collected w.heap.size, args := #[] }], V, { target := .fn (.func gf) lb, args := #[.func (.yield (w.heap.size + 1)) #[] #[]] }, V, gf,
    #[.func (.yield (w.heap.size + 1)) #[] #[]] ++ lb, V, by rw [← hV, hR]; exact run_enterLoop_outer _ _ _ _ _, by simp only [resolve, hg]; simp [go_sem], ?_, by simp [invoke, go_sem, eg], fun _ => h1, ?_⟩
  · intro f' hf'; simp [Target.leads] at hf'; subst hf'; exact hFg
  have far : ∀ {A : World} {rw : Option Nat}, (∀ r, rw = some r → V.heap.size ≤ r ∧ ∃ o : Obj, A.heap[r]? = some o ∧ o.isWalk = true) → (∀ r, rw = some r → w.heap.size ≤ r ∧ ∃ o : Obj, A.heap[r]? = some o ∧ o.isCells = false) := by
    intro A rw hr r e
    obtain ⟨hB, o, ho, hw⟩ := hr r e
    exact ⟨Nat.le_trans sV hB, o, ho, Obj.not_cells_of_walk hw⟩
  refine (hseq (w.heap.size + 1) (fun pre W => I pre W ∧ Book w (R .ready none) W) (fun pre W => Ix pre W ∧ Book w (R .done (some (.exit 0))) W) V cV ?_ ?_ ?_ (fun s A h => hBd s A h.1) ?_ ⟨iV, bV⟩).mono ?_
  · rintro s A B row' ⟨i, b⟩ hg' hr
    exact ⟨hI s A B row' i hg' (far hr), (grownBy_keeps hg' (fun r e => (hr r e).2) b.1 rfl).trans b.1, (grownBy_keeps hg' (fun r e => (hr r e).2) b.2 rfl).trans b.2⟩
  · rintro s A B row' ⟨i, b⟩ hg' hr
    exact ⟨hIx s A B row' i hg' (far hr), (grownBy_keeps hg' (fun r e => (hr r e).2) b.1 rfl).trans b.1, (grownBy_keeps hg' (fun r e => (hr r e).2) b.2 rfl).trans b.2⟩
  · rintro s A B ⟨i, b⟩ hg'
    exact ⟨hIg s A B i hg', b.grown hg' hrow⟩
  · rintro pre x W ⟨i, b⟩ hm
    have hy := run_yield (P := P) (args := encs x) b.1 (by rw [hR]; exact hps x)
    rw [hR] at hy
    refine ⟨fn, _, assign, body, hy, roundIn_of_wpIn hfn (wpIn_mono (hround _ pre x W i hm) ?_)⟩
    rintro e a1 W1 hp
    cases e with
    | normal =>
      obtain ⟨hg1, hb1⟩ := hp
      have none0 : ∀ r, (none : Option Nat) = some r → w.heap.size ≤ r ∧ ∃ o : Obj, W.heap[r]? = some o ∧ o.isCells = false := fun r e => by cases e
      have b1 : Book w (R .ready none) W1 := b.grown hg1 (fun k e => by cases e)
      have i1 := hI pre W W1 none i hg1 none0
      have m1 := hMk (pre, x) W W1 none hm hg1 none0
      have u1 : Upd w.heap.size W1 (W1.putObj (w.heap.size + 1) (.loop { R .ready none with state := .busy })) := ⟨w.heap.size + 1, _, b1.1, rfl, by omega, grownBy_putObj' _ _ _⟩
      have b2 := b1.put { R .ready none with state := .busy }
      refine ⟨_, run_beginRound b1.1 (by rw [hR]), ?_⟩
      have k2 : Kp W (W1.putObj (w.heap.size + 1) (.loop { R .ready none with state := .busy })) := hKt (hKg _ _ hg1) (hKb W1 (w.heap.size + 1) _ _ (by omega) b1.1 rfl)
      refine wpIn_mono (hb1 _ u1 (u1.own hI i1) (u1.own (s := (pre, x)) hMk m1)) ?_
      rintro e a3 W3 hp
      cases e with
      | normal =>
        obtain ⟨ko, kp, i3⟩ := hp
        have b3 := b2.keep ko
        have he := run_endRound (P := P) (none : Option Code) b3.1
        have b4 := b3.put (R .ready none)
        rw [hR] at he b4 b3
        refine ⟨_, _, he, .inl ⟨rfl, ⟨hI.putObj _ i3 (by omega) b3.1 rfl, ?_⟩, hKt (hKt (by rw [hR] at k2; exact k2) (by rw [hR] at kp; exact kp)) (hKb _ _ _ _ (by omega) b3.1 rfl)⟩⟩
        rw [hR]
        exact b4
      | exit id =>
        obtain ⟨rfl, ko, i3⟩ := hp
        have b3 := b2.keep ko
        have he := run_endRound (P := P) (some (Code.exit 0)) b3.1
        have b4 := b3.put (R .done (some (.exit 0)))
        rw [hR] at he b4 b3
        refine ⟨_, _, he, .inr ⟨rfl, hIx.putObj _ i3 (by omega) b3.1 rfl, ?_⟩⟩
        rw [hR]
        exact b4
      | ret => exact hp.elim
      | goto t => exact hp.elim
      | panic ch => exact hp.elim
      | outgrown => exact hp.elim
    | ret => exact hp.elim
    | exit id => exact hp.elim
    | goto t => exact hp.elim
    | panic ch => exact hp.elim
    | outgrown => exact hp.elim
  · rintro e W2 ⟨⟨v, rfl⟩, (⟨xs, hS, ⟨i, b⟩, ed⟩ | ⟨pre, hSp, i, b⟩)⟩
    · have he := run_endLoop (P := P) b.1 (by rw [hR]; simp)
      rw [hR] at he
      exact ⟨none, _, he, hdone _ xs _ (Nat.le_refl _) hS (hI.putObj _ i (by omega) b.1 rfl) (hEd.putObj (s := ()) _ ed (by omega) b.1 rfl) ((World.putObj_heap_other (by omega)).trans b.2)⟩
    · have he := run_endLoop (P := P) b.1 (by rw [hR]; simp)
      rw [hR] at he
      exact ⟨some (.exit 0), _, he, hstop _ pre _ (Nat.le_refl _) hSp (hIx.putObj _ i (by omega) b.1 rfl) ((World.putObj_heap_other (by omega)).trans b.2)⟩
end Go.Proofs.YtjaljnfijhfkcaaGreatDoor
