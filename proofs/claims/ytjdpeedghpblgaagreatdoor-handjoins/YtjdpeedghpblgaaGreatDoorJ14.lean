/- The reference's der.Read. -/
import Derived.Test.YtjdpeedghpblgaaGreatDoorJ13
import Derived.Test.YtjdpeedghpblgaaGreatDoorJ1
set_option linter.all false
set_option maxRecDepth 100000
namespace Go.Proofs.YtjdpeedghpblgaaGreatDoor
open Go.RowKit Go.Sort Go.Lib
theorem ix (s : ByteArray) (k : Nat) (K : Int) (hK : (k : Int) = K) (hk : k < s.size) (W : World) : (Instr.index 9 (.string s) (.int .i64 K)).run Tryz.prog W = .ok (.int .u8 (bt s k)) W := by rw [← hK]; exact idxS s k hk W
set_option maxHeartbeats 1000000 in
theorem rRd_0 (s : ByteArray) (h : s.size < 2) (w : World) : Calls Tryz.prog 113 #[.string s] w fun e w' => e = .returned (.tuple #[.agg #[.int .i64 0, .string nS], .string nS, .int .i64 11]) ∧ Below w.heap.size w w' := by
  have h1 : (s.size : Int) < 2 := by omega
  go_enter Tryz.func113, Tryz.ntmps113
  go_wp2_with fail
  exact bodyPost_ret (v := .tuple #[.agg #[.int .i64 0, .string nS], .string nS, .int .i64 11]) (by simp [results, Tryz.results113, go_sem]) rfl ⟨rfl, by go_grown⟩
set_option maxHeartbeats 1000000 in
theorem rRd_1 (s : ByteArray) (h : 2 ≤ s.size) (hz : (s.size : Int) ≤ 281474976710656) (hx : bt s 1 = 128 ∨ 130 < bt s 1) (w : World) : Calls Tryz.prog 113 #[.string s] w fun e w' => e = .returned (.tuple #[.agg #[.int .i64 0, .string nS], .string nS, .int .i64 10]) ∧ Below w.heap.size w w' := by
  have h1 : ¬ (s.size : Int) < 2 := by omega
  have i1 := ix s 1 1 rfl (by omega)
  have b1 := bt_bd s 1
  generalize bt s 1 = x at *
  go_enter Tryz.func113, Tryz.ntmps113
  rcases hx with hx | hx
  · subst hx
    go_wp2_with fail
    exact bodyPost_ret (v := .tuple #[.agg #[.int .i64 0, .string nS], .string nS, .int .i64 10]) (by simp [results, Tryz.results113, go_sem]) rfl ⟨rfl, by go_grown⟩
  have hx2 : (x == 128) = false := by simpa using (by omega : ¬ x = 128)
  go_wp2_with fail
  exact bodyPost_ret (v := .tuple #[.agg #[.int .i64 0, .string nS], .string nS, .int .i64 10]) (by simp [results, Tryz.results113, go_sem]) rfl ⟨rfl, by go_grown⟩
set_option maxHeartbeats 1000000 in
theorem rRd_2 (s : ByteArray) (h : 2 ≤ s.size) (hz : (s.size : Int) ≤ 281474976710656) (hx : bt s 1 < 128) (hs : (s.size : Int) - 2 < bt s 1) (w : World) : Calls Tryz.prog 113 #[.string s] w fun e w' => e = .returned (.tuple #[.agg #[.int .i64 0, .string nS], .string nS, .int .i64 11]) ∧ Below w.heap.size w w' := by
  have h1 : ¬ (s.size : Int) < 2 := by omega
  have i1 := ix s 1 1 rfl (by omega)
  have b1 := bt_bd s 1
  generalize bt s 1 = x at *
  have hx2 : (x == 128) = false := by simpa using (by omega : ¬ x = 128)
  go_enter Tryz.func113, Tryz.ntmps113
  go_wp2_with fail
  exact bodyPost_ret (v := .tuple #[.agg #[.int .i64 0, .string nS], .string nS, .int .i64 11]) (by simp [results, Tryz.results113, go_sem]) rfl ⟨rfl, by go_grown⟩
set_option maxHeartbeats 1000000 in
theorem rRd_3 (s : ByteArray) (h : 2 ≤ s.size) (hz : (s.size : Int) ≤ 281474976710656) (hx : bt s 1 = 129) (hs : s.size < 3) (w : World) : Calls Tryz.prog 113 #[.string s] w fun e w' => e = .returned (.tuple #[.agg #[.int .i64 0, .string nS], .string nS, .int .i64 11]) ∧ Below w.heap.size w w' := by
  have h1 : (s.size : Int) = 2 := by omega
  have i1 := ix s 1 1 rfl (by omega)
  have b1 := bt_bd s 1
  generalize bt s 1 = x at *
  subst hx
  go_enter Tryz.func113, Tryz.ntmps113
  go_wp2_with fail
  exact bodyPost_ret (v := .tuple #[.agg #[.int .i64 0, .string nS], .string nS, .int .i64 11]) (by simp [results, Tryz.results113, go_sem]) rfl ⟨rfl, by go_grown⟩
set_option maxHeartbeats 1000000 in
theorem rRd_4 (s : ByteArray) (h : 3 ≤ s.size) (hz : (s.size : Int) ≤ 281474976710656) (hx : bt s 1 = 129) (hy : bt s 2 < 128) (w : World) : Calls Tryz.prog 113 #[.string s] w fun e w' => e = .returned (.tuple #[.agg #[.int .i64 0, .string nS], .string nS, .int .i64 10]) ∧ Below w.heap.size w w' := by
  have h1 : ¬ (s.size : Int) < 3 := by omega
  have h0 : ¬ (s.size : Int) < 2 := by omega
  have i1 := ix s 1 1 rfl (by omega)
  have b1 := bt_bd s 1
  generalize bt s 1 = x at *
  have i2 := ix s 2 2 rfl (by omega)
  have b2 := bt_bd s 2
  generalize bt s 2 = y at *
  subst hx
  go_enter Tryz.func113, Tryz.ntmps113
  go_wp2_with fail
  go_rounds 2
  exact bodyPost_ret (v := .tuple #[.agg #[.int .i64 0, .string nS], .string nS, .int .i64 10]) (by simp [results, Tryz.results113, go_sem]) rfl ⟨rfl, by go_grown⟩
set_option maxHeartbeats 1000000 in
theorem rRd_5 (s : ByteArray) (h : 3 ≤ s.size) (hz : (s.size : Int) ≤ 281474976710656) (hx : bt s 1 = 129) (hy : 128 ≤ bt s 2) (hs : (s.size : Int) - 3 < bt s 2) (w : World) : Calls Tryz.prog 113 #[.string s] w fun e w' => e = .returned (.tuple #[.agg #[.int .i64 0, .string nS], .string nS, .int .i64 11]) ∧ Below w.heap.size w w' := by
  have h1 : ¬ (s.size : Int) < 3 := by omega
  have h0 : ¬ (s.size : Int) < 2 := by omega
  have i1 := ix s 1 1 rfl (by omega)
  have b1 := bt_bd s 1
  generalize bt s 1 = x at *
  have i2 := ix s 2 2 rfl (by omega)
  have b2 := bt_bd s 2
  generalize bt s 2 = y at *
  subst hx
  have hy2 : ¬ y < 128 := by omega
  have hy3 : decide (y < 128) = false := decide_eq_false hy2
  go_enter Tryz.func113, Tryz.ntmps113
  go_wp2_with fail
  go_rounds 2
  exact bodyPost_ret (v := .tuple #[.agg #[.int .i64 0, .string nS], .string nS, .int .i64 11]) (by simp [results, Tryz.results113, go_sem]) rfl ⟨rfl, by go_grown⟩
set_option maxHeartbeats 1000000 in
theorem rRd_6 (s : ByteArray) (h : 2 ≤ s.size) (hz : (s.size : Int) ≤ 281474976710656) (hx : bt s 1 = 130) (hs : s.size < 4) (w : World) : Calls Tryz.prog 113 #[.string s] w fun e w' => e = .returned (.tuple #[.agg #[.int .i64 0, .string nS], .string nS, .int .i64 11]) ∧ Below w.heap.size w w' := by
  have h1 : (s.size : Int) < 4 := by omega
  have h0 : ¬ (s.size : Int) < 2 := by omega
  have i1 := ix s 1 1 rfl (by omega)
  have b1 := bt_bd s 1
  generalize bt s 1 = x at *
  subst hx
  go_enter Tryz.func113, Tryz.ntmps113
  go_wp2_with fail
  exact bodyPost_ret (v := .tuple #[.agg #[.int .i64 0, .string nS], .string nS, .int .i64 11]) (by simp [results, Tryz.results113, go_sem]) rfl ⟨rfl, by go_grown⟩
set_option maxHeartbeats 1000000 in
theorem rRd_7 (s : ByteArray) (h : 4 ≤ s.size) (hz : (s.size : Int) ≤ 281474976710656) (hx : bt s 1 = 130) (hy : bt s 2 * 256 + bt s 3 < 256) (w : World) : Calls Tryz.prog 113 #[.string s] w fun e w' => e = .returned (.tuple #[.agg #[.int .i64 0, .string nS], .string nS, .int .i64 10]) ∧ Below w.heap.size w w' := by
  have h1 : ¬ (s.size : Int) < 4 := by omega
  have h0 : ¬ (s.size : Int) < 2 := by omega
  have i1 := ix s 1 1 rfl (by omega)
  have b1 := bt_bd s 1
  generalize bt s 1 = x at *
  have i2 := ix s 2 2 rfl (by omega)
  have b2 := bt_bd s 2
  generalize bt s 2 = y at *
  have i3 := ix s 3 3 rfl (by omega)
  have b3 := bt_bd s 3
  generalize bt s 3 = z at *
  subst hx
  go_enter Tryz.func113, Tryz.ntmps113
  go_wp2_with fail
  go_rounds 3
  exact bodyPost_ret (v := .tuple #[.agg #[.int .i64 0, .string nS], .string nS, .int .i64 10]) (by simp [results, Tryz.results113, go_sem]) rfl ⟨rfl, by go_grown⟩
set_option maxHeartbeats 1000000 in
theorem rRd_8 (s : ByteArray) (h : 4 ≤ s.size) (hz : (s.size : Int) ≤ 281474976710656) (hx : bt s 1 = 130) (hy : 256 ≤ bt s 2 * 256 + bt s 3) (hs : (s.size : Int) - 4 < bt s 2 * 256 + bt s 3) (w : World) : Calls Tryz.prog 113 #[.string s] w fun e w' => e = .returned (.tuple #[.agg #[.int .i64 0, .string nS], .string nS, .int .i64 11]) ∧ Below w.heap.size w w' := by
  have h1 : ¬ (s.size : Int) < 4 := by omega
  have h0 : ¬ (s.size : Int) < 2 := by omega
  have i1 := ix s 1 1 rfl (by omega)
  have b1 := bt_bd s 1
  generalize bt s 1 = x at *
  have i2 := ix s 2 2 rfl (by omega)
  have b2 := bt_bd s 2
  generalize bt s 2 = y at *
  have i3 := ix s 3 3 rfl (by omega)
  have b3 := bt_bd s 3
  generalize bt s 3 = z at *
  subst hx
  have hy2 : ¬ y * 256 + z < 256 := by omega
  have hy3 : decide (y * 256 + z < 256) = false := decide_eq_false hy2
  go_enter Tryz.func113, Tryz.ntmps113
  go_wp2_with fail
  go_rounds 3
  exact bodyPost_ret (v := .tuple #[.agg #[.int .i64 0, .string nS], .string nS, .int .i64 11]) (by simp [results, Tryz.results113, go_sem]) rfl ⟨rfl, by go_grown⟩
/-- One block of the call's own may be written, once; what is older stays. -/
def GW (B b n : Nat) (F : Nat → Value) (W W' : World) : Prop := Below B W W' ∧ ((∀ f, Arr W b n f → Arr W' b n f) ∨ Arr W' b n F)
theorem GW.trans {B b n : Nat} {F : Nat → Value} (x y z : World) (h : GW B b n F x y) (g : GW B b n F y z) : GW B b n F x z := by
  refine ⟨h.1.trans g.1, ?_⟩
  rcases g.2 with g2 | g2
  · rcases h.2 with h2 | h2
    · exact Or.inl fun f hf => g2 f (h2 f hf)
    · exact Or.inr (g2 F h2)
  · exact Or.inr g2
theorem GW.refl {B b n : Nat} {F : Nat → Value} (W : World) : GW B b n F W W := ⟨Below.refl _ _, Or.inl fun f h => h⟩
theorem GW.drawn {B b n : Nat} {F : Nat → Value} (W : World) (d : Nat) : GW B b n F W { W with drawn := d } := ⟨⟨rfl, rfl, rfl, Nat.le_refl _, fun _ _ => rfl⟩, Or.inl fun f h => h⟩
theorem GW.below {B b n : Nat} {F : Nat → Value} {W W' : World} (hB : B ≤ W.heap.size) (hb : b < W.heap.size) (h : Below W.heap.size W W') : GW B b n F W W' := ⟨h.mono hB, Or.inl fun f hf => hf.below h hb⟩
theorem GW.arr {B b n : Nat} {F f : Nat → Value} {W W' : World} (h : GW B b n F W W') (hf : Arr W b n f) : ∃ g, Arr W' b n g := by
  rcases h.2 with h2 | h2
  · exact ⟨f, h2 f hf⟩
  · exact ⟨F, h2⟩
/-- What the operations give. -/
def tlF (t : Int) (b : ByteArray) (j : Nat) : Value := if j = 0 then .int .i64 t else .string b
def rdV (bk : Nat) (s B R : ByteArray) (t at_ m : Int) : Nat → Value → World → Prop
  | 0, v, _ => v = .string s
  | 1, v, _ => v = .int .u8 t
  | 2, v, _ => v = .int .i64 t
  | 3, v, _ => v = .string s
  | 4, v, _ => v = .int .i64 at_
  | 5, v, _ => v = .int .i64 at_
  | 6, v, _ => v = .int .i64 m
  | 7, v, _ => v = .int .i64 (at_ + m)
  | 8, v, _ => v = .string B
  | 9, v, _ => v = .agg #[.int .i64 t, .string B]
  | 10, v, _ => v = .string s
  | 11, v, _ => v = .int .i64 at_
  | 12, v, _ => v = .int .i64 m
  | 13, v, _ => v = .int .i64 (at_ + m)
  | 14, v, _ => v = .string R
  | 15, _, W => Arr W bk 2 (tlF t B)
  | 16, v, _ => v = .string R
  | _, v, _ => v = .int .i64 0
theorem rdV.st (bk : Nat) (s B R : ByteArray) (t at_ m : Int) (w0 : World) (BB : Nat) (i : Nat) (v : Value) (w w' : World) (h : rdV bk s B R t at_ m i v w) (hb : GW BB bk 2 (tlF t B) w w') : rdV bk s B R t at_ m i v w' := by
  match i, h with
  | 0, h | 1, h | 2, h | 3, h | 4, h | 5, h | 6, h | 7, h | 8, h | 9, h | 10, h | 11, h | 12, h | 13, h | 14, h | 16, h => exact h
  | 15, h =>
    rcases hb.2 with h2 | h2
    · exact h2 _ h
    · exact h2
  | n + 17, h => exact h
set_option maxHeartbeats 4000000 in
theorem rRd_ok2 (s B R : ByteArray) (n : Nat) (hz : (s.size : Int) ≤ 281474976710656) (h : 2 + n ≤ s.size) (hn : (n : Int) = bt s 1) (hx : bt s 1 < 128) (t : Int) (et : bt s 0 = t) (eB : s.extract 2 (2 + n) = B) (eR : s.extract (2 + n) s.size = R) (w : World) : Calls Tryz.prog 113 #[.string s] w fun e w' => e = .returned (.tuple #[.agg #[.int .i64 t, .string B], .string R, .int .i64 0]) ∧ Below w.heap.size w w' := by
  have i0 := ix s 0 0 rfl (by omega)
  have b0 := bt_bd s 0
  rw [et] at i0 b0
  have h0 : ¬ (s.size : Int) < 2 := by omega
  have i1 := ix s 1 1 rfl (by omega)
  rw [← hn] at i1 hx
  have hx2 : ((n : Int) == 128) = false := by simpa using (by omega : ¬ (n : Int) = 128)
  have hs : ¬ (s.size : Int) - 2 < (n : Int) := by omega
  have S1 : ∀ W, (Instr.slice 9 (.string s) (some (.int .i64 2)) (some (.int .i64 (2 + (n : Int)))) none).run Tryz.prog W = .ok (.string B) W := fun W => by
    have := run_slice_string W 9 s .i64 .i64 2 (2 + (n : Int)) Tryz.underlying9 (by omega) (by omega) (by omega)
    rw [show (2 : Int).toNat = 2 from rfl, show (2 + (n : Int)).toNat = 2 + n by omega, eB] at this
    exact this
  have S2 : ∀ W, (Instr.slice 9 (.string s) (some (.int .i64 (2 + (n : Int)))) none none).run Tryz.prog W = .ok (.string R) W := fun W => by
    have := run_slice_string_l (P := Tryz.prog) W 9 s Tryz.underlying9 .i64 (2 + (n : Int)) (by omega) (by omega)
    rw [show (2 + (n : Int)).toNat = 2 + n by omega, eR] at this
    exact this
  have n0 : 0 ≤ (n : Int) := by omega
  have n9 : (n : Int) ≤ 281474976710656 := by omega
  generalize (n : Int) = m at *
  have wz : IntKind.i64.wrap (2 + m) = 2 + m := by rw [IntKind.wrap_i64]; omega
  have wt : IntKind.i64.wrap t = t := by rw [IntKind.wrap_i64]; omega
  clear eB eR hn et
  have A0 : Arr (w.alloc (.cells #[.int .i64 0, .string nS] 99)) w.heap.size 2 (tlF 0 nS) := Arr.new w _ 99 _ rfl _ 2 (fun j hj => by
    have : j = 0 ∨ j = 1 := by omega
    rcases this with rfl | rfl <;> rfl)
  have HA : Hid (Arr (w.alloc (.cells #[.int .i64 0, .string nS] 99)) w.heap.size 2 (tlF 0 nS)) := A0
  clear A0
  go_enter Tryz.func113, Tryz.ntmps113
  go_upto_region 21 with (fail)
  have A0 := HA.out
  refine wp_region_all (GW w.heap.size w.heap.size 2 (tlF t B)) (rdV w.heap.size s B R t 2 m) (by kernel_rfl) (by kernel_rfl) (fun d => GW.drawn _ d) GW.trans (fun i v w1 w2 h _ g => rdV.st _ s B R t _ _ w _ i v w1 w2 h g) ?_ ?_
  · intro i o ρ W hi ho hW hP hS
    have ci : i = 0 ∨ i = 1 ∨ i = 2 ∨ i = 3 ∨ i = 4 ∨ i = 5 ∨ i = 6 ∨ i = 7 ∨ i = 8 ∨ i = 9 ∨ i = 10 ∨ i = 11 ∨ i = 12 ∨ i = 13 ∨ i = 14 ∨ i = 15 ∨ i = 16 ∨ i = 17 := by simp only [List.length_cons, List.length_nil] at hi; omega
    have hc := hP.c
    rcases ci with rfl | rfl | rfl | rfl | rfl | rfl | rfl | rfl | rfl | rfl | rfl | rfl | rfl | rfl | rfl | rfl | rfl | rfl <;> cases ho
    · have h0 : ρ (.tmp 0) = .string s := hS 0 (by kernel_rfl)
      exact StG.val (by simp [execOp, hc, go_sem, h0] <;> rfl) (GW.refl _) rfl
    · have h70 : ρ (.tmp 70) = .string s := hS 70 (by kernel_rfl)
      exact StG.val (by simp [execOp, hc, go_sem, h70, i0] <;> rfl) (GW.refl _) rfl
    · have h71 : ρ (.tmp 71) = .int .u8 t := hS 71 (by kernel_rfl)
      exact StG.val (by simp [execOp, hc, go_sem, h71, wt] <;> rfl) (GW.refl _) rfl
    · have h0 : ρ (.tmp 0) = .string s := hS 0 (by kernel_rfl)
      exact StG.val (by simp [execOp, hc, go_sem, h0] <;> rfl) (GW.refl _) rfl
    · have h6 : ρ (.tmp 6) = .int .i64 2 := hS 6 (by kernel_rfl)
      exact StG.val (by simp [execOp, hc, go_sem, h6] <;> rfl) (GW.refl _) rfl
    · have h6 : ρ (.tmp 6) = .int .i64 2 := hS 6 (by kernel_rfl)
      exact StG.val (by simp [execOp, hc, go_sem, h6] <;> rfl) (GW.refl _) rfl
    · have h5 : ρ (.tmp 5) = .int .i64 m := hS 5 (by kernel_rfl)
      exact StG.val (by simp [execOp, hc, go_sem, h5] <;> rfl) (GW.refl _) rfl
    · have h75 : ρ (.tmp 75) = .int .i64 2 := hS 75 (by kernel_rfl)
      have h76 : ρ (.tmp 76) = .int .i64 m := hS 76 (by kernel_rfl)
      exact StG.val (by simp [execOp, hc, go_sem, h75, h76, wz] <;> rfl) (GW.refl _) rfl
    · have h73 : ρ (.tmp 73) = .string s := hS 73 (by kernel_rfl)
      have h74 : ρ (.tmp 74) = .int .i64 2 := hS 74 (by kernel_rfl)
      have h77 : ρ (.tmp 77) = .int .i64 (2 + m) := hS 77 (by kernel_rfl)
      exact StG.val (by simp [execOp, hc, go_sem, h73, h74, h77, S1] <;> rfl) (GW.refl _) rfl
    · have h72 : ρ (.tmp 72) = .int .i64 t := hS 72 (by kernel_rfl)
      have h78 : ρ (.tmp 78) = .string B := hS 78 (by kernel_rfl)
      exact StG.val (by simp [execOp, hc, go_sem, h72, h78] <;> rfl) (GW.refl _) rfl
    · have h0 : ρ (.tmp 0) = .string s := hS 0 (by kernel_rfl)
      exact StG.val (by simp [execOp, hc, go_sem, h0] <;> rfl) (GW.refl _) rfl
    · have h6 : ρ (.tmp 6) = .int .i64 2 := hS 6 (by kernel_rfl)
      exact StG.val (by simp [execOp, hc, go_sem, h6] <;> rfl) (GW.refl _) rfl
    · have h5 : ρ (.tmp 5) = .int .i64 m := hS 5 (by kernel_rfl)
      exact StG.val (by simp [execOp, hc, go_sem, h5] <;> rfl) (GW.refl _) rfl
    · have h81 : ρ (.tmp 81) = .int .i64 2 := hS 81 (by kernel_rfl)
      have h82 : ρ (.tmp 82) = .int .i64 m := hS 82 (by kernel_rfl)
      exact StG.val (by simp [execOp, hc, go_sem, h81, h82, wz] <;> rfl) (GW.refl _) rfl
    · have h80 : ρ (.tmp 80) = .string s := hS 80 (by kernel_rfl)
      have h83 : ρ (.tmp 83) = .int .i64 (2 + m) := hS 83 (by kernel_rfl)
      exact StG.val (by simp [execOp, hc, go_sem, h80, h83, S2] <;> rfl) (GW.refl _) rfl
    · have h2 : ρ (.tmp 2) = .pointer (some ⟨w.heap.size, 0, none⟩) := hS 2 (by kernel_rfl)
      have h79 : ρ (.tmp 79) = .agg #[.int .i64 t, .string B] := hS 79 (by kernel_rfl)
      obtain ⟨g, AW⟩ := hW.arr A0
      have c0 := AW.c 0 (by omega)
      have c1 := AW.c 1 (by omega)
      have z0 := AW.z 0 (by omega)
      have z1 := AW.z 1 (by omega)
      refine StG.put (w' := (W.setCell ⟨w.heap.size, 0, none⟩ (.int .i64 t)).setCell ⟨w.heap.size, 1, none⟩ (.string B)) (by simp [execOp, go_sem, c0, c1, z0, z1, h2, h79] <;> rfl) ?_ ?_
      · exact ⟨((Below.refl w.heap.size W).setCell (p := ⟨w.heap.size, 0, none⟩) (Nat.le_refl _) _).setCell (p := ⟨w.heap.size, 1, none⟩) (Nat.le_refl _) _, Or.inr (((AW.set 0 (by omega) _).set 1 (by omega) _).congr (fun j hj => by
          have : j = 0 ∨ j = 1 := by omega
          rcases this with rfl | rfl <;> rfl))⟩
      · exact ((AW.set 0 (by omega) _).set 1 (by omega) _).congr (fun j hj => by
          have : j = 0 ∨ j = 1 := by omega
          rcases this with rfl | rfl <;> rfl)
    · have h84 : ρ (.tmp 84) = .string R := hS 84 (by kernel_rfl)
      exact StG.val (by simp [execOp, hc, go_sem, h84] <;> rfl) (GW.refl _) rfl
    · exact StG.val (by simp [execOp, hc, go_sem] <;> rfl) (GW.refl _) rfl
  intro x W hW hV
  have h15 : Arr W w.heap.size 2 (tlF t B) := hV 15 (by decide)
  have h16 : x 16 = .string R := hV 16 (by decide)
  have h17 : x 17 = .int .i64 0 := hV 17 (by decide)
  have hB : Below w.heap.size w W := Below.trans (by go_grown) hW.1
  have c0 := h15.cv 0 (by omega) (.int .i64 t) rfl
  have c1 := h15.cv 1 (by omega) (.string B) rfl
  clear hV hW HA A0 i0 S1 S2
  simp only [puts, Act.put, List.setIfInBounds_toArray, List.set_cons_succ, List.set_cons_zero, h16, h17]
  go_wp2_with fail
  exact bodyPost_ret (v := .tuple #[.agg #[.int .i64 t, .string B], .string R, .int .i64 0]) (by simp [results, Tryz.results113, go_sem, c0, c1]) rfl ⟨rfl, hB⟩
set_option maxHeartbeats 4000000 in
theorem rRd_ok3 (s B R : ByteArray) (n : Nat) (hz : (s.size : Int) ≤ 281474976710656) (h : 3 + n ≤ s.size) (hn : (n : Int) = bt s 2) (hx : bt s 1 = 129) (hy : 128 ≤ bt s 2) (t : Int) (et : bt s 0 = t) (eB : s.extract 3 (3 + n) = B) (eR : s.extract (3 + n) s.size = R) (w : World) : Calls Tryz.prog 113 #[.string s] w fun e w' => e = .returned (.tuple #[.agg #[.int .i64 t, .string B], .string R, .int .i64 0]) ∧ Below w.heap.size w w' := by
  have i0 := ix s 0 0 rfl (by omega)
  have b0 := bt_bd s 0
  rw [et] at i0 b0
  have h0 : ¬ (s.size : Int) < 2 := by omega
  have i1 := ix s 1 1 rfl (by omega)
  have i2 := ix s 2 2 rfl (by omega)
  have b2 := bt_bd s 2
  rw [← hn] at i2 hy b2
  rw [hx] at i1
  have hy2 : ¬ (n : Int) < 128 := by omega
  have hy3 : decide ((n : Int) < 128) = false := decide_eq_false hy2
  have h3 : ¬ (s.size : Int) < 3 := by omega
  have hs : ¬ (s.size : Int) - 3 < (n : Int) := by omega
  have S1 : ∀ W, (Instr.slice 9 (.string s) (some (.int .i64 3)) (some (.int .i64 (3 + (n : Int)))) none).run Tryz.prog W = .ok (.string B) W := fun W => by
    have := run_slice_string W 9 s .i64 .i64 3 (3 + (n : Int)) Tryz.underlying9 (by omega) (by omega) (by omega)
    rw [show (3 : Int).toNat = 3 from rfl, show (3 + (n : Int)).toNat = 3 + n by omega, eB] at this
    exact this
  have S2 : ∀ W, (Instr.slice 9 (.string s) (some (.int .i64 (3 + (n : Int)))) none none).run Tryz.prog W = .ok (.string R) W := fun W => by
    have := run_slice_string_l (P := Tryz.prog) W 9 s Tryz.underlying9 .i64 (3 + (n : Int)) (by omega) (by omega)
    rw [show (3 + (n : Int)).toNat = 3 + n by omega, eR] at this
    exact this
  have n0 : 0 ≤ (n : Int) := by omega
  have n9 : (n : Int) ≤ 281474976710656 := by omega
  generalize (n : Int) = m at *
  have wz : IntKind.i64.wrap (3 + m) = 3 + m := by rw [IntKind.wrap_i64]; omega
  have wt : IntKind.i64.wrap t = t := by rw [IntKind.wrap_i64]; omega
  clear eB eR hn et
  have A0 : Arr (w.alloc (.cells #[.int .i64 0, .string nS] 99)) w.heap.size 2 (tlF 0 nS) := Arr.new w _ 99 _ rfl _ 2 (fun j hj => by
    have : j = 0 ∨ j = 1 := by omega
    rcases this with rfl | rfl <;> rfl)
  have HA : Hid (Arr (w.alloc (.cells #[.int .i64 0, .string nS] 99)) w.heap.size 2 (tlF 0 nS)) := A0
  clear A0
  go_enter Tryz.func113, Tryz.ntmps113
  clear hx
  go_upto_region 13 with (fail)
  go_rounds 2
  have A0 := HA.out
  refine wp_region_all (GW w.heap.size w.heap.size 2 (tlF t B)) (rdV w.heap.size s B R t 3 m) (by kernel_rfl) (by kernel_rfl) (fun d => GW.drawn _ d) GW.trans (fun i v w1 w2 h _ g => rdV.st _ s B R t _ _ w _ i v w1 w2 h g) ?_ ?_
  · intro i o ρ W hi ho hW hP hS
    have ci : i = 0 ∨ i = 1 ∨ i = 2 ∨ i = 3 ∨ i = 4 ∨ i = 5 ∨ i = 6 ∨ i = 7 ∨ i = 8 ∨ i = 9 ∨ i = 10 ∨ i = 11 ∨ i = 12 ∨ i = 13 ∨ i = 14 ∨ i = 15 ∨ i = 16 ∨ i = 17 := by simp only [List.length_cons, List.length_nil] at hi; omega
    have hc := hP.c
    rcases ci with rfl | rfl | rfl | rfl | rfl | rfl | rfl | rfl | rfl | rfl | rfl | rfl | rfl | rfl | rfl | rfl | rfl | rfl <;> cases ho
    · have h0 : ρ (.tmp 0) = .string s := hS 0 (by kernel_rfl)
      exact StG.val (by simp [execOp, hc, go_sem, h0] <;> rfl) (GW.refl _) rfl
    · have h70 : ρ (.tmp 70) = .string s := hS 70 (by kernel_rfl)
      exact StG.val (by simp [execOp, hc, go_sem, h70, i0] <;> rfl) (GW.refl _) rfl
    · have h71 : ρ (.tmp 71) = .int .u8 t := hS 71 (by kernel_rfl)
      exact StG.val (by simp [execOp, hc, go_sem, h71, wt] <;> rfl) (GW.refl _) rfl
    · have h0 : ρ (.tmp 0) = .string s := hS 0 (by kernel_rfl)
      exact StG.val (by simp [execOp, hc, go_sem, h0] <;> rfl) (GW.refl _) rfl
    · have h6 : ρ (.tmp 6) = .int .i64 3 := hS 6 (by kernel_rfl)
      exact StG.val (by simp [execOp, hc, go_sem, h6] <;> rfl) (GW.refl _) rfl
    · have h6 : ρ (.tmp 6) = .int .i64 3 := hS 6 (by kernel_rfl)
      exact StG.val (by simp [execOp, hc, go_sem, h6] <;> rfl) (GW.refl _) rfl
    · have h5 : ρ (.tmp 5) = .int .i64 m := hS 5 (by kernel_rfl)
      exact StG.val (by simp [execOp, hc, go_sem, h5] <;> rfl) (GW.refl _) rfl
    · have h75 : ρ (.tmp 75) = .int .i64 3 := hS 75 (by kernel_rfl)
      have h76 : ρ (.tmp 76) = .int .i64 m := hS 76 (by kernel_rfl)
      exact StG.val (by simp [execOp, hc, go_sem, h75, h76, wz] <;> rfl) (GW.refl _) rfl
    · have h73 : ρ (.tmp 73) = .string s := hS 73 (by kernel_rfl)
      have h74 : ρ (.tmp 74) = .int .i64 3 := hS 74 (by kernel_rfl)
      have h77 : ρ (.tmp 77) = .int .i64 (3 + m) := hS 77 (by kernel_rfl)
      exact StG.val (by simp [execOp, hc, go_sem, h73, h74, h77, S1] <;> rfl) (GW.refl _) rfl
    · have h72 : ρ (.tmp 72) = .int .i64 t := hS 72 (by kernel_rfl)
      have h78 : ρ (.tmp 78) = .string B := hS 78 (by kernel_rfl)
      exact StG.val (by simp [execOp, hc, go_sem, h72, h78] <;> rfl) (GW.refl _) rfl
    · have h0 : ρ (.tmp 0) = .string s := hS 0 (by kernel_rfl)
      exact StG.val (by simp [execOp, hc, go_sem, h0] <;> rfl) (GW.refl _) rfl
    · have h6 : ρ (.tmp 6) = .int .i64 3 := hS 6 (by kernel_rfl)
      exact StG.val (by simp [execOp, hc, go_sem, h6] <;> rfl) (GW.refl _) rfl
    · have h5 : ρ (.tmp 5) = .int .i64 m := hS 5 (by kernel_rfl)
      exact StG.val (by simp [execOp, hc, go_sem, h5] <;> rfl) (GW.refl _) rfl
    · have h81 : ρ (.tmp 81) = .int .i64 3 := hS 81 (by kernel_rfl)
      have h82 : ρ (.tmp 82) = .int .i64 m := hS 82 (by kernel_rfl)
      exact StG.val (by simp [execOp, hc, go_sem, h81, h82, wz] <;> rfl) (GW.refl _) rfl
    · have h80 : ρ (.tmp 80) = .string s := hS 80 (by kernel_rfl)
      have h83 : ρ (.tmp 83) = .int .i64 (3 + m) := hS 83 (by kernel_rfl)
      exact StG.val (by simp [execOp, hc, go_sem, h80, h83, S2] <;> rfl) (GW.refl _) rfl
    · have h2 : ρ (.tmp 2) = .pointer (some ⟨w.heap.size, 0, none⟩) := hS 2 (by kernel_rfl)
      have h79 : ρ (.tmp 79) = .agg #[.int .i64 t, .string B] := hS 79 (by kernel_rfl)
      obtain ⟨g, AW⟩ := hW.arr A0
      have c0 := AW.c 0 (by omega)
      have c1 := AW.c 1 (by omega)
      have z0 := AW.z 0 (by omega)
      have z1 := AW.z 1 (by omega)
      refine StG.put (w' := (W.setCell ⟨w.heap.size, 0, none⟩ (.int .i64 t)).setCell ⟨w.heap.size, 1, none⟩ (.string B)) (by simp [execOp, go_sem, c0, c1, z0, z1, h2, h79] <;> rfl) ?_ ?_
      · exact ⟨((Below.refl w.heap.size W).setCell (p := ⟨w.heap.size, 0, none⟩) (Nat.le_refl _) _).setCell (p := ⟨w.heap.size, 1, none⟩) (Nat.le_refl _) _, Or.inr (((AW.set 0 (by omega) _).set 1 (by omega) _).congr (fun j hj => by
          have : j = 0 ∨ j = 1 := by omega
          rcases this with rfl | rfl <;> rfl))⟩
      · exact ((AW.set 0 (by omega) _).set 1 (by omega) _).congr (fun j hj => by
          have : j = 0 ∨ j = 1 := by omega
          rcases this with rfl | rfl <;> rfl)
    · have h84 : ρ (.tmp 84) = .string R := hS 84 (by kernel_rfl)
      exact StG.val (by simp [execOp, hc, go_sem, h84] <;> rfl) (GW.refl _) rfl
    · exact StG.val (by simp [execOp, hc, go_sem] <;> rfl) (GW.refl _) rfl
  intro x W hW hV
  have h15 : Arr W w.heap.size 2 (tlF t B) := hV 15 (by decide)
  have h16 : x 16 = .string R := hV 16 (by decide)
  have h17 : x 17 = .int .i64 0 := hV 17 (by decide)
  have hB : Below w.heap.size w W := Below.trans (by go_grown) hW.1
  have c0 := h15.cv 0 (by omega) (.int .i64 t) rfl
  have c1 := h15.cv 1 (by omega) (.string B) rfl
  clear hV hW HA A0 i0 S1 S2
  simp only [puts, Act.put, List.setIfInBounds_toArray, List.set_cons_succ, List.set_cons_zero, h16, h17]
  go_wp2_with fail
  exact bodyPost_ret (v := .tuple #[.agg #[.int .i64 t, .string B], .string R, .int .i64 0]) (by simp [results, Tryz.results113, go_sem, c0, c1]) rfl ⟨rfl, hB⟩
set_option maxHeartbeats 4000000 in
theorem rRd_ok4 (s B R : ByteArray) (n : Nat) (hz : (s.size : Int) ≤ 281474976710656) (h : 4 + n ≤ s.size) (y z : Int) (ey : bt s 2 = y) (ez : bt s 3 = z) (hn : (n : Int) = y * 256 + z) (hx : bt s 1 = 130) (hy : 256 ≤ y * 256 + z) (t : Int) (et : bt s 0 = t) (eB : s.extract 4 (4 + n) = B) (eR : s.extract (4 + n) s.size = R) (w : World) : Calls Tryz.prog 113 #[.string s] w fun e w' => e = .returned (.tuple #[.agg #[.int .i64 t, .string B], .string R, .int .i64 0]) ∧ Below w.heap.size w w' := by
  have i0 := ix s 0 0 rfl (by omega)
  have b0 := bt_bd s 0
  rw [et] at i0 b0
  have h0 : ¬ (s.size : Int) < 2 := by omega
  have i1 := ix s 1 1 rfl (by omega)
  have i2 := ix s 2 2 rfl (by omega)
  have b2 := bt_bd s 2
  have i3 := ix s 3 3 rfl (by omega)
  have b3 := bt_bd s 3
  rw [ey] at i2 b2
  rw [ez] at i3 b3
  rw [hx] at i1
  have hy2 : ¬ y * 256 + z < 256 := by omega
  have hy3 : decide (y * 256 + z < 256) = false := decide_eq_false hy2
  have h3 : ¬ (s.size : Int) < 4 := by omega
  have hs : ¬ (s.size : Int) - 4 < y * 256 + z := by omega
  have S1 : ∀ W, (Instr.slice 9 (.string s) (some (.int .i64 4)) (some (.int .i64 (4 + (n : Int)))) none).run Tryz.prog W = .ok (.string B) W := fun W => by
    have := run_slice_string W 9 s .i64 .i64 4 (4 + (n : Int)) Tryz.underlying9 (by omega) (by omega) (by omega)
    rw [show (4 : Int).toNat = 4 from rfl, show (4 + (n : Int)).toNat = 4 + n by omega, eB] at this
    exact this
  have S2 : ∀ W, (Instr.slice 9 (.string s) (some (.int .i64 (4 + (n : Int)))) none none).run Tryz.prog W = .ok (.string R) W := fun W => by
    have := run_slice_string_l (P := Tryz.prog) W 9 s Tryz.underlying9 .i64 (4 + (n : Int)) (by omega) (by omega)
    rw [show (4 + (n : Int)).toNat = 4 + n by omega, eR] at this
    exact this
  have n0 : 0 ≤ (n : Int) := by omega
  have n9 : (n : Int) ≤ 281474976710656 := by omega
  rw [hn] at S1 S2 n9
  have wz : IntKind.i64.wrap (4 + (y * 256 + z)) = 4 + (y * 256 + z) := by rw [IntKind.wrap_i64]; omega
  have wt : IntKind.i64.wrap t = t := by rw [IntKind.wrap_i64]; omega
  clear eB eR hn et
  have A0 : Arr (w.alloc (.cells #[.int .i64 0, .string nS] 99)) w.heap.size 2 (tlF 0 nS) := Arr.new w _ 99 _ rfl _ 2 (fun j hj => by
    have : j = 0 ∨ j = 1 := by omega
    rcases this with rfl | rfl <;> rfl)
  have HA : Hid (Arr (w.alloc (.cells #[.int .i64 0, .string nS] 99)) w.heap.size 2 (tlF 0 nS)) := A0
  clear A0
  go_enter Tryz.func113, Tryz.ntmps113
  clear hx ey ez
  go_upto_region 13 with (fail)
  go_rounds 3
  have A0 := HA.out
  refine wp_region_all (GW w.heap.size w.heap.size 2 (tlF t B)) (rdV w.heap.size s B R t 4 (y * 256 + z)) (by kernel_rfl) (by kernel_rfl) (fun d => GW.drawn _ d) GW.trans (fun i v w1 w2 h _ g => rdV.st _ s B R t _ _ w _ i v w1 w2 h g) ?_ ?_
  · intro i o ρ W hi ho hW hP hS
    have ci : i = 0 ∨ i = 1 ∨ i = 2 ∨ i = 3 ∨ i = 4 ∨ i = 5 ∨ i = 6 ∨ i = 7 ∨ i = 8 ∨ i = 9 ∨ i = 10 ∨ i = 11 ∨ i = 12 ∨ i = 13 ∨ i = 14 ∨ i = 15 ∨ i = 16 ∨ i = 17 := by simp only [List.length_cons, List.length_nil] at hi; omega
    have hc := hP.c
    rcases ci with rfl | rfl | rfl | rfl | rfl | rfl | rfl | rfl | rfl | rfl | rfl | rfl | rfl | rfl | rfl | rfl | rfl | rfl <;> cases ho
    · have h0 : ρ (.tmp 0) = .string s := hS 0 (by kernel_rfl)
      exact StG.val (by simp [execOp, hc, go_sem, h0] <;> rfl) (GW.refl _) rfl
    · have h70 : ρ (.tmp 70) = .string s := hS 70 (by kernel_rfl)
      exact StG.val (by simp [execOp, hc, go_sem, h70, i0] <;> rfl) (GW.refl _) rfl
    · have h71 : ρ (.tmp 71) = .int .u8 t := hS 71 (by kernel_rfl)
      exact StG.val (by simp [execOp, hc, go_sem, h71, wt] <;> rfl) (GW.refl _) rfl
    · have h0 : ρ (.tmp 0) = .string s := hS 0 (by kernel_rfl)
      exact StG.val (by simp [execOp, hc, go_sem, h0] <;> rfl) (GW.refl _) rfl
    · have h6 : ρ (.tmp 6) = .int .i64 4 := hS 6 (by kernel_rfl)
      exact StG.val (by simp [execOp, hc, go_sem, h6] <;> rfl) (GW.refl _) rfl
    · have h6 : ρ (.tmp 6) = .int .i64 4 := hS 6 (by kernel_rfl)
      exact StG.val (by simp [execOp, hc, go_sem, h6] <;> rfl) (GW.refl _) rfl
    · have h5 : ρ (.tmp 5) = .int .i64 (y * 256 + z) := hS 5 (by kernel_rfl)
      exact StG.val (by simp [execOp, hc, go_sem, h5] <;> rfl) (GW.refl _) rfl
    · have h75 : ρ (.tmp 75) = .int .i64 4 := hS 75 (by kernel_rfl)
      have h76 : ρ (.tmp 76) = .int .i64 (y * 256 + z) := hS 76 (by kernel_rfl)
      exact StG.val (by simp [execOp, hc, go_sem, h75, h76, wz] <;> rfl) (GW.refl _) rfl
    · have h73 : ρ (.tmp 73) = .string s := hS 73 (by kernel_rfl)
      have h74 : ρ (.tmp 74) = .int .i64 4 := hS 74 (by kernel_rfl)
      have h77 : ρ (.tmp 77) = .int .i64 (4 + (y * 256 + z)) := hS 77 (by kernel_rfl)
      exact StG.val (by simp [execOp, hc, go_sem, h73, h74, h77, S1] <;> rfl) (GW.refl _) rfl
    · have h72 : ρ (.tmp 72) = .int .i64 t := hS 72 (by kernel_rfl)
      have h78 : ρ (.tmp 78) = .string B := hS 78 (by kernel_rfl)
      exact StG.val (by simp [execOp, hc, go_sem, h72, h78] <;> rfl) (GW.refl _) rfl
    · have h0 : ρ (.tmp 0) = .string s := hS 0 (by kernel_rfl)
      exact StG.val (by simp [execOp, hc, go_sem, h0] <;> rfl) (GW.refl _) rfl
    · have h6 : ρ (.tmp 6) = .int .i64 4 := hS 6 (by kernel_rfl)
      exact StG.val (by simp [execOp, hc, go_sem, h6] <;> rfl) (GW.refl _) rfl
    · have h5 : ρ (.tmp 5) = .int .i64 (y * 256 + z) := hS 5 (by kernel_rfl)
      exact StG.val (by simp [execOp, hc, go_sem, h5] <;> rfl) (GW.refl _) rfl
    · have h81 : ρ (.tmp 81) = .int .i64 4 := hS 81 (by kernel_rfl)
      have h82 : ρ (.tmp 82) = .int .i64 (y * 256 + z) := hS 82 (by kernel_rfl)
      exact StG.val (by simp [execOp, hc, go_sem, h81, h82, wz] <;> rfl) (GW.refl _) rfl
    · have h80 : ρ (.tmp 80) = .string s := hS 80 (by kernel_rfl)
      have h83 : ρ (.tmp 83) = .int .i64 (4 + (y * 256 + z)) := hS 83 (by kernel_rfl)
      exact StG.val (by simp [execOp, hc, go_sem, h80, h83, S2] <;> rfl) (GW.refl _) rfl
    · have h2 : ρ (.tmp 2) = .pointer (some ⟨w.heap.size, 0, none⟩) := hS 2 (by kernel_rfl)
      have h79 : ρ (.tmp 79) = .agg #[.int .i64 t, .string B] := hS 79 (by kernel_rfl)
      obtain ⟨g, AW⟩ := hW.arr A0
      have c0 := AW.c 0 (by omega)
      have c1 := AW.c 1 (by omega)
      have z0 := AW.z 0 (by omega)
      have z1 := AW.z 1 (by omega)
      refine StG.put (w' := (W.setCell ⟨w.heap.size, 0, none⟩ (.int .i64 t)).setCell ⟨w.heap.size, 1, none⟩ (.string B)) (by simp [execOp, go_sem, c0, c1, z0, z1, h2, h79] <;> rfl) ?_ ?_
      · exact ⟨((Below.refl w.heap.size W).setCell (p := ⟨w.heap.size, 0, none⟩) (Nat.le_refl _) _).setCell (p := ⟨w.heap.size, 1, none⟩) (Nat.le_refl _) _, Or.inr (((AW.set 0 (by omega) _).set 1 (by omega) _).congr (fun j hj => by
          have : j = 0 ∨ j = 1 := by omega
          rcases this with rfl | rfl <;> rfl))⟩
      · exact ((AW.set 0 (by omega) _).set 1 (by omega) _).congr (fun j hj => by
          have : j = 0 ∨ j = 1 := by omega
          rcases this with rfl | rfl <;> rfl)
    · have h84 : ρ (.tmp 84) = .string R := hS 84 (by kernel_rfl)
      exact StG.val (by simp [execOp, hc, go_sem, h84] <;> rfl) (GW.refl _) rfl
    · exact StG.val (by simp [execOp, hc, go_sem] <;> rfl) (GW.refl _) rfl
  intro x W hW hV
  have h15 : Arr W w.heap.size 2 (tlF t B) := hV 15 (by decide)
  have h16 : x 16 = .string R := hV 16 (by decide)
  have h17 : x 17 = .int .i64 0 := hV 17 (by decide)
  have hB : Below w.heap.size w W := Below.trans (by go_grown) hW.1
  have c0 := h15.cv 0 (by omega) (.int .i64 t) rfl
  have c1 := h15.cv 1 (by omega) (.string B) rfl
  clear hV hW HA A0 i0 S1 S2
  simp only [puts, Act.put, List.setIfInBounds_toArray, List.set_cons_succ, List.set_cons_zero, h16, h17]
  go_wp2_with fail
  exact bodyPost_ret (v := .tuple #[.agg #[.int .i64 t, .string B], .string R, .int .i64 0]) (by simp [results, Tryz.results113, go_sem, c0, c1]) rfl ⟨rfl, hB⟩
theorem lenL_n (n : Nat) : (lenL (n : Int)).length = if n < 128 then 1 else if n < 256 then 2 else 3 := by
  unfold lenL
  by_cases a : n < 128
  · rw [if_pos (by omega), if_pos a]; rfl
  · rw [if_neg (by omega), if_neg a]
    by_cases b : n < 256
    · rw [if_pos (by omega), if_pos b]; rfl
    · rw [if_neg (by omega), if_neg b]; rfl
theorem rRd_any (s : ByteArray) (hz : (s.size : Int) ≤ 281474976710656) (w : World) : Calls Tryz.prog 113 #[.string s] w fun e w' => e = .returned (rdR s) ∧ Below w.heap.size w w' := by
  have b1 := bt_bd s 1
  have b2 := bt_bd s 2
  have b3 := bt_bd s 3
  have no : ∀ E : Int, rdE s = E → E ≠ 0 → rdR s = .tuple #[.agg #[.int .i64 0, .string nS], .string nS, .int .i64 E] := fun E h1 h2 => by
    unfold rdR
    rw [h1, if_neg h2]
  have yes : ∀ (H n : Nat), rdE s = 0 → rdH s = H → rdN s = n → rdR s = .tuple #[.agg #[.int .i64 (bt s 0), .string (s.extract H (H + n))], .string (s.extract (H + n) s.size), .int .i64 0] := fun H n h1 h2 h3 => by
    unfold rdR
    rw [h1, if_pos rfl, h2, h3]
  by_cases h0 : s.size < 2
  · rw [no 11 (by unfold rdE; rw [if_pos h0]) (by decide)]
    exact rRd_0 s h0 w
  by_cases h1 : bt s 1 = 128 ∨ 130 < bt s 1
  · rw [no 10 (by unfold rdE; rw [if_neg h0, if_pos h1]) (by decide)]
    exact rRd_1 s (by omega) hz h1 w
  by_cases hx : bt s 1 < 128
  · have eH : rdH s = 2 := by unfold rdH; rw [if_pos hx]
    have eN : rdN s = (bt s 1).toNat := by unfold rdN; rw [if_pos hx]
    have eL := lenL_n (rdN s)
    rw [if_pos (by omega)] at eL
    by_cases h2 : (s.size : Int) - 2 < bt s 1
    · rw [no 11 (by unfold rdE; rw [if_neg h0, if_neg h1, eL, eH, if_neg h0, if_neg (by omega), if_pos (by omega)]) (by decide)]
      exact rRd_2 s (by omega) hz hx h2 w
    · rw [yes 2 (rdN s) (by unfold rdE; rw [if_neg h0, if_neg h1, eL, eH, if_neg h0, if_neg (by omega), if_neg (by omega)]) eH rfl]
      exact rRd_ok2 s _ _ (rdN s) hz (by omega) (by omega) hx _ rfl rfl rfl w
  by_cases hy : bt s 1 = 129
  · have eH : rdH s = 3 := by unfold rdH; rw [if_neg hx, if_pos hy]
    have eN : rdN s = (bt s 2).toNat := by unfold rdN; rw [if_neg hx, if_pos hy]
    have eL := lenL_n (rdN s)
    by_cases h2 : s.size < 3
    · rw [no 11 (by unfold rdE; rw [if_neg h0, if_neg h1, eH, if_pos h2]) (by decide)]
      exact rRd_3 s (by omega) hz hy h2 w
    by_cases h3 : bt s 2 < 128
    · rw [if_pos (by omega)] at eL
      rw [no 10 (by unfold rdE; rw [if_neg h0, if_neg h1, eL, eH, if_neg h2, if_pos (by omega)]) (by decide)]
      exact rRd_4 s (by omega) hz hy h3 w
    rw [if_neg (by omega), if_pos (by omega)] at eL
    by_cases h4 : (s.size : Int) - 3 < bt s 2
    · rw [no 11 (by unfold rdE; rw [if_neg h0, if_neg h1, eL, eH, if_neg h2, if_neg (by omega), if_pos (by omega)]) (by decide)]
      exact rRd_5 s (by omega) hz hy (by omega) h4 w
    · rw [yes 3 (rdN s) (by unfold rdE; rw [if_neg h0, if_neg h1, eL, eH, if_neg h2, if_neg (by omega), if_neg (by omega)]) eH rfl]
      exact rRd_ok3 s _ _ (rdN s) hz (by omega) (by omega) hy (by omega) _ rfl rfl rfl w
  · have hq : bt s 1 = 130 := by omega
    have eH : rdH s = 4 := by unfold rdH; rw [if_neg hx, if_neg hy]
    have eN : rdN s = (bt s 2 * 256 + bt s 3).toNat := by unfold rdN; rw [if_neg hx, if_neg hy]
    have eL := lenL_n (rdN s)
    by_cases h2 : s.size < 4
    · rw [no 11 (by unfold rdE; rw [if_neg h0, if_neg h1, eH, if_pos h2]) (by decide)]
      exact rRd_6 s (by omega) hz hq h2 w
    by_cases h3 : bt s 2 * 256 + bt s 3 < 256
    · have : (lenL (rdN s : Int)).length < 4 - 1 := by rw [eL]; split <;> (try split) <;> omega
      rw [no 10 (by unfold rdE; rw [if_neg h0, if_neg h1, eH, if_neg h2, if_pos this]) (by decide)]
      exact rRd_7 s (by omega) hz hq h3 w
    rw [if_neg (by omega), if_neg (by omega)] at eL
    by_cases h4 : (s.size : Int) - 4 < bt s 2 * 256 + bt s 3
    · rw [no 11 (by unfold rdE; rw [if_neg h0, if_neg h1, eL, eH, if_neg h2, if_neg (by omega), if_pos (by omega)]) (by decide)]
      exact rRd_8 s (by omega) hz hq (by omega) h4 w
    · rw [yes 4 (rdN s) (by unfold rdE; rw [if_neg h0, if_neg h1, eL, eH, if_neg h2, if_neg (by omega), if_neg (by omega)]) eH rfl]
      exact rRd_ok4 s _ _ (rdN s) hz (by omega) _ _ rfl rfl (by omega) hq (by omega) _ rfl rfl rfl w
end Go.Proofs.YtjdpeedghpblgaaGreatDoor
