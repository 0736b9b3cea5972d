/- Blocks of two words: sums, blocks masked, a block times x. -/
import Derived.Test.YtjaljnfijhfkcaaGreatDoorJ4
import Derived.Test.YtjaljnfijhfkcaaGreatDoorJ2
set_option linter.all false
set_option maxRecDepth 100000
namespace Go.Proofs.YtjaljnfijhfkcaaGreatDoor
open Go.RowKit Go.Sort Lin
/-- Two words. -/
def gk (x y : Int) : Value := .agg #[.int .u64 x, .int .u64 y]
/-- A block. -/
def gB (n : Nat) : Value := gk (hi n) (lo n)
/-- A block's cells. -/
def g2 (x y : Int) (j : Nat) : Value := if j = 0 then .int .u64 x else .int .u64 y
theorem g2_at (x y : Int) (j : Nat) (hj : j < 2) : (#[.int .u64 x, .int .u64 y] : Array Value)[j]? = some (g2 x y j) := by
  have : j = 0 ∨ j = 1 := by omega
  rcases this with rfl | rfl <;> rfl
set_option maxHeartbeats 1000000 in
theorem words_core (x y : Int) (w : World) : Calls Tryz.prog 80 #[gk x y] w fun e w' => e = .returned (gk x y) ∧ Below w.heap.size w w' := by
  unfold gk
  go_enter Tryz.func80, Tryz.ntmps80
  go_wp2_with fail
  refine bodyPost_ret (v := gk x y) (by simp [gk, results, Tryz.results80, go_sem]) rfl ⟨rfl, ?_⟩
  go_grown
set_option maxHeartbeats 1000000 in
theorem gplus_core (x y u v p q : Int) (hp : bits .xor .u64 x u = p) (hq : bits .xor .u64 y v = q) (w : World) : Calls Tryz.prog 79 #[gk x y, gk u v] w fun e w' => e = .returned (gk p q) ∧ Below w.heap.size w w' := by
  unfold gk
  go_enter Tryz.func79, Tryz.ntmps79
  go_wp2_with fail
  refine bodyPost_ret (v := gk p q) (by simp [gk, results, Tryz.results79, go_sem, hp, hq]) rfl ⟨rfl, ?_⟩
  go_grown
set_option maxHeartbeats 1000000 in
theorem masked_1 (x y : Int) (hx : bits .and .u64 x 18446744073709551615 = x) (hy : bits .and .u64 y 18446744073709551615 = y) (w : World) : Calls Tryz.prog 116 #[gk x y, .int .u64 1] w fun e w' => e = .returned (gk x y) ∧ Below w.heap.size w w' := by
  unfold gk
  go_enter Tryz.func116, Tryz.ntmps116
  go_wp2_with fail
  refine bodyPost_ret (v := gk x y) (by simp [gk, results, Tryz.results116, go_sem, show IntKind.u64.wrap (-1) = 18446744073709551615 by decide, hx, hy]) rfl ⟨rfl, ?_⟩
  go_grown
set_option maxHeartbeats 1000000 in
theorem masked_0 (x y : Int) (hx : bits .and .u64 x 0 = 0) (hy : bits .and .u64 y 0 = 0) (w : World) : Calls Tryz.prog 116 #[gk x y, .int .u64 0] w fun e w' => e = .returned (gk 0 0) ∧ Below w.heap.size w w' := by
  unfold gk
  go_enter Tryz.func116, Tryz.ntmps116
  go_wp2_with fail
  refine bodyPost_ret (v := gk 0 0) (by simp [gk, results, Tryz.results116, go_sem, hx, hy]) rfl ⟨rfl, ?_⟩
  go_grown
theorem gplus_any {a b : Nat} (ha : a < 2 ^ 128) (hb : b < 2 ^ 128) (w : World) : Calls Tryz.prog 79 #[gB a, gB b] w fun e w' => e = .returned (gB (a ^^^ b)) ∧ Below w.heap.size w w' :=
  gplus_core _ _ _ _ _ _ (hi_xor ha hb) (lo_xor a b) w
theorem masked_any {a : Nat} (ha : a < 2 ^ 128) (c : Bool) (w : World) : Calls Tryz.prog 116 #[gB a, .int .u64 (if c = true then 1 else 0)] w fun e w' => e = .returned (gB (if c = true then a else 0)) ∧ Below w.heap.size w w' := by
  cases c
  · rw [if_neg (by decide), if_neg (by decide)]
    exact masked_0 _ _ (and_none _ (hi_lt ha)) (and_none _ (lo_lt a)) w
  · rw [if_pos rfl, if_pos rfl]
    exact masked_1 _ _ (and_all _ (hi_lt ha)) (and_all _ (lo_lt a)) w
/-- Two words put into a block. -/
def st2 (w : World) (b : Nat) (x y : Int) : World := (w.setCell ⟨b, 0, none⟩ (.int .u64 x)).setCell ⟨b, 1, none⟩ (.int .u64 y)
theorem Arr.st2 {w : World} {b : Nat} {f : Nat → Value} (h : Arr w b 2 f) (x y : Int) : Arr (st2 w b x y) b 2 (g2 x y) :=
  ((h.set 0 (by omega) _).set 1 (by omega) _).congr (by
    intro j hj
    have : j = 0 ∨ j = 1 := by omega
    rcases this with rfl | rfl <;> simp [g2])
theorem Arr.st2o {w : World} {b b' n : Nat} {f : Nat → Value} (h : Arr w b n f) (hne : b' ≠ b) (x y : Int) : Arr (Go.Proofs.YtjaljnfijhfkcaaGreatDoor.st2 w b' x y) b n f := (h.other hne _).other hne _
theorem Bel.st2 {w W : World} (h : Below w.heap.size w W) {b : Nat} (hle : w.heap.size ≤ b) (x y : Int) : Below w.heap.size w (Go.Proofs.YtjaljnfijhfkcaaGreatDoor.st2 W b x y) := Bel.st (Bel.st h hle _) hle _
theorem ko_st2 (W : World) (b : Nat) (x y : Int) : KeepsOthers W (st2 W b x y) := (KeepsOthers.setCell _ _ _).trans (KeepsOthers.setCell _ _ _)
theorem Arr.h {w : World} {b : Nat} {x y : Int} (h : Arr w b 2 (g2 x y)) : w.cell? ⟨b, 0, none⟩ = some (.int .u64 x) := h.c 0 (by omega)
theorem Arr.l {w : World} {b : Nat} {x y : Int} (h : Arr w b 2 (g2 x y)) : w.cell? ⟨b, 1, none⟩ = some (.int .u64 y) := h.c 1 (by omega)
set_option maxHeartbeats 2000000 in
theorem timesX_core (x y a b m r s p q : Int) (ha : x / 2 = a) (hb : bits .or .u64 (IntKind.u64.wrap (x * 9223372036854775808)) (y / 2) = b) (hm : bits .and .u64 y 1 = m)
    (C36 : ∀ W, Calls Tryz.prog 116 #[gk 16212958658533785600 0, .int .u64 m] W fun e w' => e = .returned (gk r s) ∧ Below W.heap.size W w')
    (C35 : ∀ W, Calls Tryz.prog 79 #[gk a b, gk r s] W fun e w' => e = .returned (gk p q) ∧ Below W.heap.size W w') (w : World) :
    Calls Tryz.prog 117 #[gk x y] w fun e w' => e = .returned (gk p q) ∧ Below w.heap.size w w' := by
  unfold gk at *
  go_enter Tryz.func117, Tryz.ntmps117
  go_wp2_with fail
  have A0 := ((((Arr.new w _ 105 _ rfl _ 2 (g2_at x y)).al' (.cells #[.int .u64 0, .int .u64 0] 105)).al' (.cells #[.int .u64 16212958658533785600, .int .u64 0] 105)).al' (.cells #[.int .u64 a, .int .u64 b] 105))
  have A1 := (((Arr.new (w.alloc (.cells #[.int .u64 x, .int .u64 y] 105)) _ 105 (w.heap.size + 1) (by simp) _ 2 (g2_at 0 0)).al' (.cells #[.int .u64 16212958658533785600, .int .u64 0] 105)).al' (.cells #[.int .u64 a, .int .u64 b] 105))
  have A2 := ((Arr.new ((w.alloc (.cells #[.int .u64 x, .int .u64 y] 105)).alloc (.cells #[.int .u64 0, .int .u64 0] 105)) _ 105 (w.heap.size + 1 + 1) (by simp) _ 2 (g2_at 16212958658533785600 0)).al' (.cells #[.int .u64 a, .int .u64 b] 105))
  have A3 := (Arr.new (((w.alloc (.cells #[.int .u64 x, .int .u64 y] 105)).alloc (.cells #[.int .u64 0, .int .u64 0] 105)).alloc (.cells #[.int .u64 16212958658533785600, .int .u64 0] 105)) _ 105 (w.heap.size + 1 + 1 + 1) (by simp) _ 2 (g2_at a b))
  have hB : Below w.heap.size w ((((w.alloc (.cells #[.int .u64 x, .int .u64 y] 105)).alloc (.cells #[.int .u64 0, .int .u64 0] 105)).alloc (.cells #[.int .u64 16212958658533785600, .int .u64 0] 105)).alloc (.cells #[.int .u64 a, .int .u64 b] 105)) := by go_grown
  generalize ((((w.alloc (.cells #[.int .u64 x, .int .u64 y] 105)).alloc (.cells #[.int .u64 0, .int .u64 0] 105)).alloc (.cells #[.int .u64 16212958658533785600, .int .u64 0] 105)).alloc (.cells #[.int .u64 a, .int .u64 b] 105)) = W at *
  have r0 := fun ds os => cell_regrown A0.l ds os
  have r1 := fun ds os => cell_regrown A2.h ds os
  have r2 := fun ds os => cell_regrown A2.l ds os
  have r3 := fun ds os => cell_regrown A3.h ds os
  have r4 := fun ds os => cell_regrown A3.l ds os
  refine wp_region_below_tail 7 (by kernel_rfl) (by kernel_rfl) ?_
  simp only [List.take_succ_cons, List.take_zero, List.drop_succ_cons, List.drop_zero]
  repeat (go_big_quiet_step (first | (go_at_call 116; exact Calls.regrown_of (C36 _)) | (go_at_call 79; exact Calls.regrown_of (C35 _))))
  refine wpQuiet_nil ?_
  intro w1 hw'
  obtain ⟨⟨dq, osq⟩, hw''⟩ := hw'
  have hb1 := below_of hw''
  clear hw'' r0 r1 r2 r3 r4
  have B1 := A1.to' hb1
  have hB1 := Bel.call hB hb1
  clear A0 A1 A2 A3 hB hb1 C36 C35
  have c0 := B1.c 0 (by omega)
  have c1 := B1.c 1 (by omega)
  have z0 := B1.z 0 (by omega)
  have z1 := B1.z 1 (by omega)
  have E := B1.st2 p q
  have e0 := E.h
  have e1 := E.l
  unfold Go.Proofs.YtjaljnfijhfkcaaGreatDoor.st2 at e0 e1
  go_wp2_with fail
  refine bodyPost_ret (v := gk p q) (by simp [gk, results, Tryz.results117, go_sem, e0, e1]) rfl ⟨rfl, Bel.st2 hB1 (by omega) p q⟩
theorem rest_is : gB (225 * 2 ^ 120) = gk 16212958658533785600 0 := by
  unfold gB hi lo; rfl
theorem timesX_any {a : Nat} (ha : a < 2 ^ 128) (w : World) : Calls Tryz.prog 117 #[gB a] w fun e w' => e = .returned (gB (T128 a)) ∧ Below w.heap.size w w' := by
  have hh : a / 2 < 2 ^ 128 := by omega
  have hr : (225 * 2 ^ 120 : Nat) < 2 ^ 128 := by decide
  refine timesX_core (hi a) (lo a) (hi (a / 2)) (lo (a / 2)) (if a.testBit 0 = true then 1 else 0) (hi (if a.testBit 0 = true then 225 * 2 ^ 120 else 0)) (lo (if a.testBit 0 = true then 225 * 2 ^ 120 else 0)) _ _ (half_hi a) (by rw [IntKind.wrap_u64]; exact half_lo a) (bit_lo a) (fun W => ?_) (fun W => ?_) w
  · have := masked_any hr (a.testBit 0) W
    rw [rest_is] at this
    exact this
  · refine gplus_any hh ?_ W
    split
    · exact hr
    · decide
end Go.Proofs.YtjaljnfijhfkcaaGreatDoor
