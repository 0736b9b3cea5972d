/- Words of texts, blocks of texts, a word by a table. -/
import Derived.Test.YtjaljnfijhfkcaaGreatDoorJ10
set_option linter.all false
set_option maxRecDepth 100000
namespace Go.Proofs.YtjaljnfijhfkcaaGreatDoor
open Go.RowKit Go.Sort Lin
/-- Four bytes put together are their word. -/
theorem put4 (a b c d : By) : bits .or .u32 (bits .or .u32 (bits .or .u32 ((a.val : Int) * 16777216 % 4294967296) ((b.val : Int) * 65536 % 4294967296)) ((c.val : Int) * 256 % 4294967296)) (d.val : Int) = wd a b c d := by
  have ea : (a.val : Int) * 16777216 % 4294967296 = wd a 0 0 0 := by unfold wd wdN; have := a.2; simp; omega
  have eb : (b.val : Int) * 65536 % 4294967296 = wd 0 b 0 0 := by unfold wd wdN; have := b.2; simp; omega
  have ec : (c.val : Int) * 256 % 4294967296 = wd 0 0 c 0 := by unfold wd wdN; have := c.2; simp; omega
  have ed : (d.val : Int) = wd 0 0 0 d := by unfold wd wdN; simp
  rw [ea, eb, ec, ed, wd_or, wd_or, wd_or]
  simp only [or_0, or_0']
theorem put4' (a b c d : By) : bits .or .u32 (bits .or .u32 (bits .or .u32 ((a.val : Int) * 16777216) ((b.val : Int) * 65536)) ((c.val : Int) * 256)) (d.val : Int) = wd a b c d := by
  rw [← put4]
  have := a.2
  have := b.2
  have := c.2
  rw [show (a.val : Int) * 16777216 % 4294967296 = (a.val : Int) * 16777216 by omega, show (b.val : Int) * 65536 % 4294967296 = (b.val : Int) * 65536 by omega, show (c.val : Int) * 256 % 4294967296 = (c.val : Int) * 256 by omega]
theorem hi1 (a b c d : By) : wd a b c d / 16777216 = (a.val : Int) := by unfold wd wdN; have := a.2; have := b.2; have := c.2; have := d.2; omega
theorem ff32 (n : Nat) (h : n < 4294967296) : bits .and .u32 (n : Int) 255 = ((n % 256 : Nat) : Int) := by
  have := (bits_ao32 n 255 h (by decide)).1
  rw [show ((255 : Nat) : Int) = 255 from rfl] at this
  rw [this]
  congr 1
  exact Nat.and_two_pow_sub_one_eq_mod n 8
theorem hi2 (a b c d : By) : bits .and .u32 (wd a b c d / 65536) 255 = (b.val : Int) := by
  have e : wd a b c d / 65536 = ((wdN a b c d / 65536 : Nat) : Int) := by unfold wd; omega
  have l := wdN_lt a b c d
  rw [e, ff32 _ (by omega)]
  unfold wdN
  have := a.2; have := b.2; have := c.2; have := d.2
  omega
theorem hi3 (a b c d : By) : bits .and .u32 (wd a b c d / 256) 255 = (c.val : Int) := by
  have e : wd a b c d / 256 = ((wdN a b c d / 256 : Nat) : Int) := by unfold wd; omega
  have l := wdN_lt a b c d
  rw [e, ff32 _ (by omega)]
  unfold wdN
  have := a.2; have := b.2; have := c.2; have := d.2
  omega
theorem hi4 (a b c d : By) : bits .and .u32 (wd a b c d) 255 = (d.val : Int) := by
  have l := wdN_lt a b c d
  unfold wd
  rw [ff32 _ l]
  unfold wdN
  have := a.2; have := b.2; have := c.2; have := d.2
  omega
set_option maxHeartbeats 1000000 in
theorem of_any (f : By → By) (b o : Nat) (a0 a1 a2 a3 : By) (w : World) (hT : TabAt w b o f) :
    Calls Tryz.prog 126 #[.pointer (some ⟨b, o, none⟩), .int .u32 (wd a0 a1 a2 a3)] w fun e w' => e = .returned (.int .u32 (wd (f a0) (f a1) (f a2) (f a3))) ∧ Below w.heap.size w w' := by
  have h1 := hi1 a0 a1 a2 a3
  have h2 := hi2 a0 a1 a2 a3
  have h3 := hi3 a0 a1 a2 a3
  have h4 := hi4 a0 a1 a2 a3
  have HP : Hid _ := put4' (f a0) (f a1) (f a2) (f a3)
  have r0 := fun ds os => cell_regrown (hT a0) ds os
  have r1 := fun ds os => cell_regrown (hT a1) ds os
  have r2 := fun ds os => cell_regrown (hT a2) ds os
  have r3 := fun ds os => cell_regrown (hT a3) ds os
  have n0 : (a0.val : Int) < 256 := by have := a0.2; omega
  have n1 : (a1.val : Int) < 256 := by have := a1.2; omega
  have n2 : (a2.val : Int) < 256 := by have := a2.2; omega
  have n3 : (a3.val : Int) < 256 := by have := a3.2; omega
  clear hT
  generalize wd a0 a1 a2 a3 = x at *
  generalize f a0 = g0 at *
  generalize f a1 = g1 at *
  generalize f a2 = g2 at *
  generalize f a3 = g3 at *
  have m0 : (g0.val : Int) < 256 := by have := g0.2; omega
  have m1 : (g1.val : Int) < 256 := by have := g1.2; omega
  have m2 : (g2.val : Int) < 256 := by have := g2.2; omega
  have m3 : (g3.val : Int) < 256 := by have := g3.2; omega
  go_enter Tryz.func126, Tryz.ntmps126
  go_wp2
  refine wp_region_quiet_below (by kernel_rfl) (by kernel_rfl) ?_
  repeat (go_big_quiet_step (fail))
  refine wpQuiet_nil ?_
  intro w1 hw'
  obtain ⟨⟨dq, osq⟩, hw''⟩ := hw'
  have hb := below_of hw''
  clear hw''
  go_wp2
  go_ret
  refine ⟨?_, hb⟩
  rw [← HP.out]
  rfl
/-- A text's byte. -/
def bF (s : ByteArray) (i : Nat) : By := ⟨(bt s i).toNat, by have := bt_bd s i; omega⟩
theorem bF_bt (s : ByteArray) (i : Nat) : bt s i = ((bF s i).val : Int) := by have := bt_bd s i; simp [bF]; omega
set_option maxHeartbeats 1000000 in
theorem wordOf_core (s : ByteArray) (g0 g1 g2 g3 : By)
    (i0 : ∀ W, (Instr.index 9 (.string s) (.int .i64 0)).run Tryz.prog W = .ok (.int .u8 (g0.val : Int)) W)
    (i1 : ∀ W, (Instr.index 9 (.string s) (.int .i64 1)).run Tryz.prog W = .ok (.int .u8 (g1.val : Int)) W)
    (i2 : ∀ W, (Instr.index 9 (.string s) (.int .i64 2)).run Tryz.prog W = .ok (.int .u8 (g2.val : Int)) W)
    (i3 : ∀ W, (Instr.index 9 (.string s) (.int .i64 3)).run Tryz.prog W = .ok (.int .u8 (g3.val : Int)) W) (w : World) : Calls Tryz.prog 112 #[.string s] w fun e w' => e = .returned (.int .u32 (wd g0 g1 g2 g3)) ∧ Below w.heap.size w w' := by
  have HP : Hid _ := put4' g0 g1 g2 g3
  have m0 : (g0.val : Int) < 256 := by have := g0.2; omega
  have m1 : (g1.val : Int) < 256 := by have := g1.2; omega
  have m2 : (g2.val : Int) < 256 := by have := g2.2; omega
  have m3 : (g3.val : Int) < 256 := by have := g3.2; omega
  go_enter Tryz.func112, Tryz.ntmps112
  go_wp2
  refine wp_region_quiet_below (by kernel_rfl) (by kernel_rfl) ?_
  repeat (go_big_quiet_step (fail))
  refine wpQuiet_nil ?_
  intro w1 hw'
  obtain ⟨⟨dq, osq⟩, hw''⟩ := hw'
  have hb := below_of hw''
  clear hw''
  go_wp2
  go_ret
  refine ⟨?_, hb⟩
  rw [← HP.out]
  rfl
theorem wordOf_any (s : ByteArray) (hs : 4 ≤ s.size) (w : World) : Calls Tryz.prog 112 #[.string s] w fun e w' => e = .returned (.int .u32 (wd (bF s 0) (bF s 1) (bF s 2) (bF s 3))) ∧ Below w.heap.size w w' := by
  have I : ∀ k : Nat, k < 4 → ∀ W, (Instr.index 9 (.string s) (.int .i64 (k : Int))).run Tryz.prog W = .ok (.int .u8 ((bF s k).val : Int)) W := fun k hk W => by rw [← bF_bt]; exact idxS s k (by omega) W
  exact wordOf_core s _ _ _ _ (I 0 (by omega)) (I 1 (by omega)) (I 2 (by omega)) (I 3 (by omega)) w
/-- A block's columns. -/
def col (f : Nat → By) (c : Nat) : Int := wd (f (4 * c)) (f (4 * c + 1)) (f (4 * c + 2)) (f (4 * c + 3))
theorem bF_ext (s : ByteArray) (a i : Nat) (h : a + i < s.size) : bF (s.extract a s.size) i = bF s (a + i) := by
  apply Fin.ext
  simp only [bF]
  rw [bt_ext s a s.size i h (by omega)]
end Go.Proofs.YtjaljnfijhfkcaaGreatDoor
