/- What the reference's FromLittle and FromBig answer, as whole numbers. -/
import Derived.Test.YtpigofooblmdhaaT8
import Derived.Test.YtpigofooblmdhaaM9
set_option linter.all false
set_option maxRecDepth 100000
namespace Go.Proofs.Ytpigofooblmdhaa
open Go.RowKit
theorem nv_pl (f : Nat → Int) (hf : ∀ i, 0 ≤ f i ∧ f i < 2 ^ 8) :
    (.agg #[.int .u64 (pl f 32 0), .int .u64 (pl f 32 1), .int .u64 (pl f 32 2), .int .u64 (pl f 32 3)] : Value) = nv (pn 8 (fun i => f (31 - i)) 32) := by
  simp only [nv, pl_lim f hf 0 (by omega), pl_lim f hf 1 (by omega), pl_lim f hf 2 (by omega), pl_lim f hf 3 (by omega)]
theorem refFromLittle_yes (s : ByteArray) (hs : s.size = 32) (w : World) :
    Calls Try.prog 13 #[.string s] w fun e w' => e = .returned (.tuple #[nv (pn 8 (fun i => bt s (31 - i)) 32), .int .i64 0]) ∧ Below w.heap.size w w' := by
  have := refFromLittle_ok s hs w
  rw [nv_pl (bt s) (bt_8 s)] at this
  exact this
set_option maxHeartbeats 1000000 in
theorem refFromLittle_no (s : ByteArray) (hs : s.size ≤ maxLen) (hn : s.size ≠ 32) (w : World) :
    Calls Try.prog 13 #[.string s] w fun e w' => e = .returned (.tuple #[.agg #[.int .u64 0, .int .u64 0, .int .u64 0, .int .u64 0], .int .i64 (lenE s.size 32)]) ∧ Below w.heap.size w w' := by
  have LE := fun W => sized_any s 32 hs W
  have ne : ¬ lenE (s.size : Int) 32 = 0 := by unfold lenE; split <;> (try split) <;> omega
  generalize lenE (s.size : Int) 32 = E at *
  have neb : (E == 0) = false := by simp [ne]
  go_enter Try.func13, Try.ntmps13
  go_wp2_with (go_at_call 51; refine (LE _).mono ?_; rintro e w1 ⟨rfl, rfl⟩)
  go_loopw [6] (fun i wr => i = .int .i64 0 ∧ Below w.heap.size w wr ∧ Arr wr w.heap.size 4 (fun _ => .int .u64 0) ∧ Arr wr (w.heap.size + 1) 4 (fun _ => .int .u64 0))
    (fun i _ => 0)
  case atStart => exact ⟨rfl, by go_grown, Arr.mk4 (by simp [go_sem]) (by simp [go_sem]) (by simp [go_sem]) (by simp [go_sem]) (by simp [go_sem]) (by simp [go_sem]) (by simp [go_sem]) (by simp [go_sem]), Arr.mk4 (by simp [go_sem]) (by simp [go_sem]) (by simp [go_sem]) (by simp [go_sem]) (by simp [go_sem]) (by simp [go_sem]) (by simp [go_sem]) (by simp [go_sem])⟩
  case round =>
    clear LE
    obtain ⟨rfl, hB, hZ, hA⟩ := hrel
    have r1 := hA.c
    have r0 := hZ.c
    have z0 := hZ.z
    clear hA hZ
    go_wp2_with fail
    refine bodyPost_ret (v := .tuple #[.agg #[.int .u64 0, .int .u64 0, .int .u64 0, .int .u64 0], .int .i64 E]) (by simp [results, Try.results13, go_sem, r0]) rfl ⟨rfl, ?_⟩
    go_grown
set_option maxHeartbeats 1000000 in
theorem refFromBig_core (s : ByteArray) (T : ByteArray) (V : Value) (E : Int) (a0 a1 a2 a3 : Int) (hV : V = .agg #[.int .u64 a0, .int .u64 a1, .int .u64 a2, .int .u64 a3])
    (C40 : ∀ W, Calls Try.prog 53 #[.string s] W fun e w' => e = .returned (.string T) ∧ Below W.heap.size W w')
    (C13 : ∀ W, Calls Try.prog 13 #[.string T] W fun e w' => e = .returned (.tuple #[.agg #[.int .u64 a0, .int .u64 a1, .int .u64 a2, .int .u64 a3], .int .i64 E]) ∧ Below W.heap.size W w') (w : World) :
    Calls Try.prog 11 #[.string s] w fun e w' => e = .returned (.tuple #[.agg #[.int .u64 a0, .int .u64 a1, .int .u64 a2, .int .u64 a3], .int .i64 E]) ∧ Below w.heap.size w w' := by
  go_enter Try.func11, Try.ntmps11
  go_wp2_with fail
  refine (C40 _).mono ?_
  rintro e w1 ⟨rfl, hb1⟩
  have A1 := (Arr.mk4 (f := fun _ => .int .u64 0) (b := w.heap.size) (by simp [go_sem]) (by simp [go_sem]) (by simp [go_sem]) (by simp [go_sem]) (by simp [go_sem]) (by simp [go_sem]) (by simp [go_sem]) (by simp [go_sem])).below hb1 (by go_size)
  have s1 : w.heap.size < w1.heap.size := by have := hb1.size; simp at this; omega
  have hB1 : Below w.heap.size w w1 := Below.trans (by go_grown) (hb1.mono (by go_size))
  clear hb1
  go_wp2_with fail
  refine (C13 _).mono ?_
  rintro e w2 ⟨rfl, hb2⟩
  have A2 := A1.below hb2 s1
  have hB2 := hB1.trans (hb2.mono hB1.size)
  have r0 := A2.c
  have z0 := A2.z
  clear hb2 A1 A2 hB1
  go_wp2_with fail
  refine bodyPost_ret (v := .tuple #[.agg #[.int .u64 a0, .int .u64 a1, .int .u64 a2, .int .u64 a3], .int .i64 E]) (by simp [results, Try.results11, go_sem, r0]) rfl ⟨rfl, ?_⟩
  go_grown
theorem rv_size (s : ByteArray) : (mkS (rvL s)).size = s.size := by rw [mkS_size]; simp [rvL]
theorem refFromBig_yes (s : ByteArray) (hs : s.size = 32) (w : World) :
    Calls Try.prog 11 #[.string s] w fun e w' => e = .returned (.tuple #[nv (pn 8 (bt s) 32), .int .i64 0]) ∧ Below w.heap.size w w' := by
  refine refFromBig_core s (mkS (rvL s)) _ 0 _ _ _ _ rfl (fun W => turned_any s (by rw [hs]; omega) W) (fun W => ?_) w
  have := refFromLittle_yes (mkS (rvL s)) (by rw [rv_size]; exact hs) W
  have e : pn 8 (fun i => bt (mkS (rvL s)) (31 - i)) 32 = pn 8 (bt s) 32 := pn_congr 8 _ _ 32 fun i hi => by
    have b := bt_bd s (s.size - 1 - (31 - i))
    show bt (mkS (rvL s)) (31 - i) = bt s i
    rw [mkS_bt _ (31 - i) _ (rvL_at s (31 - i) (by omega)) b.1 b.2, hs]
    congr 1; omega
  rw [e] at this
  exact this
theorem refFromBig_no (s : ByteArray) (hm : (s.size : Int) ≤ 281474976710656) (hn : s.size ≠ 32) (w : World) :
    Calls Try.prog 11 #[.string s] w fun e w' => e = .returned (.tuple #[.agg #[.int .u64 0, .int .u64 0, .int .u64 0, .int .u64 0], .int .i64 (lenE s.size 32)]) ∧ Below w.heap.size w w' := by
  refine refFromBig_core s (mkS (rvL s)) _ _ 0 0 0 0 rfl (fun W => turned_any s hm W) (fun W => ?_) w
  have := refFromLittle_no (mkS (rvL s)) (by rw [rv_size]; unfold maxLen; omega) (by rw [rv_size]; exact hn) W
  rw [rv_size] at this
  exact this
end Go.Proofs.Ytpigofooblmdhaa
