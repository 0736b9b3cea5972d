/- What the reference's Write answers. -/
import Derived.Test.YtfglpcfacjedmaaDoorR2
import Derived.Test.YtfglpcfacjedmaaDoorZ9
set_option linter.all false
set_option maxRecDepth 100000
namespace Go.Proofs.YtfglpcfacjedmaaDoor
open Go.RowKit Go.Sort
/-- A text's length, of a value. -/
def lenV : Value → Nat
  | .string t => t.size
  | _ => 0
theorem cut_ext (T t : ByteArray) (k : Nat) (ht : t = T.extract (64 * k) T.size) (hz : 64 * k + 64 ≤ T.size) : t.extract 0 64 = cutB T k := by
  rw [ht, cutB, ByteArray.extract_extract]
  congr 1
  omega
theorem cut_rest (T t : ByteArray) (k : Nat) (ht : t = T.extract (64 * k) T.size) (hz : 64 * k + 64 ≤ T.size) : t.extract 64 t.size = T.extract (64 * (k + 1)) T.size := by
  have tz : t.size = T.size - 64 * k := by rw [ht, ByteArray.size_extract]; omega
  rw [tz, ht, ByteArray.extract_extract]
  congr 1
  omega
theorem Arr.st8h {w : World} {b : Nat} {h : Nat → Int} {L : ByteArray} {n : Int} (A : Arr w b 10 (hx h L n)) (g : Nat → Int) : Arr (Go.Proofs.YtfglpcfacjedmaaDoor.st8 w b g) b 10 (hx g L n) :=
  ((((((((A.set 0 (by omega) _).set 1 (by omega) _).set 2 (by omega) _).set 3 (by omega) _).set 4 (by omega) _).set 5 (by omega) _).set 6 (by omega) _).set 7 (by omega) _).congr (by
    intro j hj
    have : j = 0 ∨ j = 1 ∨ j = 2 ∨ j = 3 ∨ j = 4 ∨ j = 5 ∨ j = 6 ∨ j = 7 ∨ j = 8 ∨ j = 9 := by omega
    rcases this with rfl | rfl | rfl | rfl | rfl | rfl | rfl | rfl | rfl | rfl <;> simp [hx])
set_option maxHeartbeats 4000000 in
theorem rwrite_core (h : Nat → Int) (L s T : ByteArray) (n m : Int) (F : Nat → Nat → Int) (hs : s.size ≤ 1000000) (hL : L.size ≤ 1000000) (hT : L ++ s = T) (hm : IntKind.u64.wrap (n + (s.size : Int)) = m) (h0 : F 0 = h)
    (C9 : ∀ (t : ByteArray) k W, t = T.extract (64 * k) T.size → 64 * k + 64 ≤ T.size → Calls Tryd.prog 66 #[w8 (F k), .string (t.extract 0 64)] W fun e w' => e = .returned (.tuple #[w8 (F (k + 1)), .int .i64 0]) ∧ Below W.heap.size W w')
    (g : Nat → Int) (R : ByteArray) (hg : g = F (T.size / 64)) (hR : R = T.extract (64 * (T.size / 64)) T.size) (w : World) :
    Calls Tryd.prog 49 #[hv h L n, .string s] w fun e w' => e = .returned (hv g R m) ∧ Below w.heap.size w w' := by
  have hTz : T.size ≤ 2000000 := by rw [← hT, app_size]; omega
  unfold hv w8 at *
  go_enter Tryd.func49, Tryd.ntmps49
  go_wp2_with fail
  have A0 := (Arr.new w #[.int .u32 (h 0), .int .u32 (h 1), .int .u32 (h 2), .int .u32 (h 3), .int .u32 (h 4), .int .u32 (h 5), .int .u32 (h 6), .int .u32 (h 7), .string L, .int .u64 m] 70 _ rfl _ 10 (hx_at h L m)).al' (.cells #[.int .u32 0, .int .u32 0, .int .u32 0, .int .u32 0, .int .u32 0, .int .u32 0, .int .u32 0, .int .u32 0, .string ⟨#[]⟩, .int .u64 0] 70)
  have A1 := Arr.new (w.alloc (.cells #[.int .u32 (h 0), .int .u32 (h 1), .int .u32 (h 2), .int .u32 (h 3), .int .u32 (h 4), .int .u32 (h 5), .int .u32 (h 6), .int .u32 (h 7), .string L, .int .u64 m] 70)) #[.int .u32 0, .int .u32 0, .int .u32 0, .int .u32 0, .int .u32 0, .int .u32 0, .int .u32 0, .int .u32 0, .string ⟨#[]⟩, .int .u64 0] 70 (w.heap.size + 1) (by simp) (hx (fun _ => 0) ⟨#[]⟩ 0) 10 (hx_at (fun _ => 0) ⟨#[]⟩ 0)
  have hB : Below w.heap.size w ((w.alloc (.cells #[.int .u32 (h 0), .int .u32 (h 1), .int .u32 (h 2), .int .u32 (h 3), .int .u32 (h 4), .int .u32 (h 5), .int .u32 (h 6), .int .u32 (h 7), .string L, .int .u64 m] 70)).alloc (.cells #[.int .u32 0, .int .u32 0, .int .u32 0, .int .u32 0, .int .u32 0, .int .u32 0, .int .u32 0, .int .u32 0, .string ⟨#[]⟩, .int .u64 0] 70)) := by go_grown
  generalize ((w.alloc (.cells #[.int .u32 (h 0), .int .u32 (h 1), .int .u32 (h 2), .int .u32 (h 3), .int .u32 (h 4), .int .u32 (h 5), .int .u32 (h 6), .int .u32 (h 7), .string L, .int .u64 m] 70)).alloc (.cells #[.int .u32 0, .int .u32 0, .int .u32 0, .int .u32 0, .int .u32 0, .int .u32 0, .int .u32 0, .int .u32 0, .string ⟨#[]⟩, .int .u64 0] 70)) = W at *
  go_loopw [5] (fun v wr => ∃ (k : Nat) (t : ByteArray), 64 * k ≤ T.size ∧ v = .string t ∧ t = T.extract (64 * k) T.size ∧ Below w.heap.size w wr ∧ Arr wr w.heap.size 10 (hx (F k) L m) ∧ Arr wr (w.heap.size + 1) 10 (hx (fun _ => 0) ⟨#[]⟩ 0))
    (fun v _ => lenV v)
  case atStart => exact ⟨0, T, by omega, rfl, by simp, hB, by rw [h0]; exact A0, A1⟩
  case round =>
    clear A0 A1 hB
    obtain ⟨k, t, hk, rfl, ht, hB, A0, A1⟩ := hrel
    have tz : t.size = T.size - 64 * k := by rw [ht, ByteArray.size_extract]; omega
    have HT : Hid (t = T.extract (64 * k) T.size) := ht
    have HZ : Hid (t.size = T.size - 64 * k) := tz
    by_cases hlt : 64 ≤ t.size
    · have i64 : (64 : Int) ≤ (t.size : Int) := by omega
      have tm : (t.size : Int) ≤ 2000000 := by omega
      have c9 := fun W => C9 t k W ht (by omega)
      have hc := cut_rest T t k ht (by omega)
      have HC : Hid _ := hc
      obtain ⟨k0, k8, k9⟩ := A0.ten
      have r0 := fun ds os => cell_regrown (k0 0 (by omega)) ds os
      have r1 := fun ds os => cell_regrown (k0 1 (by omega)) ds os
      have r2 := fun ds os => cell_regrown (k0 2 (by omega)) ds os
      have r3 := fun ds os => cell_regrown (k0 3 (by omega)) ds os
      have r4 := fun ds os => cell_regrown (k0 4 (by omega)) ds os
      have r5 := fun ds os => cell_regrown (k0 5 (by omega)) ds os
      have r6 := fun ds os => cell_regrown (k0 6 (by omega)) ds os
      have r7 := fun ds os => cell_regrown (k0 7 (by omega)) ds os
      clear ht tz hc C9 hg hR k0 k8 k9
      generalize hq : F (k + 1) = q at *
      have HQ : Hid _ := hq
      clear hq
      go_wp2_with fail
      apply wp_region_plain_tail 6 2 #[true, true, true, true, true, true, false, false, false, false] #[true, true, true, true, true, true, true, true, false, false] (by kernel_rfl) (by intro c d v a w h; cases d <;> exact h) (by kernel_rfl)
      simp only [List.take_succ_cons, List.take_zero, List.drop_succ_cons, List.drop_zero]
      repeat (go_big_quiet_step (first | (go_at_call 66; exact Calls.regrown_of (c9 _))))
      refine wpQuiet_nil ⟨_, ⟨_, Or.inl ⟨rfl, fun _ => rfl⟩, ⟨_, Or.inl ⟨rfl, fun _ => rfl⟩, rfl⟩⟩, ?_⟩
      simp only [Act.put, List.setIfInBounds_toArray, List.set_cons_succ, List.set_cons_zero]
      intro w3 hw'
      obtain ⟨⟨dq, osq⟩, hw''⟩ := hw'
      have hb := below_of hw''
      clear hw'' r0 r1 r2 r3 r4 r5 r6 r7 c9
      have B0 := A0.to' hb
      have B1 := A1.to' hb
      have hB' := Bel.call hB hb
      have z := B0.z
      obtain ⟨k0, k8, k9⟩ := B0.ten
      clear A0 A1 hB hb
      go_wp2_with fail
      refine ⟨⟨k + 1, t.extract 64 t.size, by have := HZ.out; omega, rfl, HC.out, Bel.st8 hB' (Nat.le_refl _) q, by rw [HQ.out]; exact B0.st8h q, B1.st8o (by omega) q⟩, ?_⟩
      show (t.extract 64 t.size).size < t.size
      rw [ByteArray.size_extract]
      omega
    · have i64 : (t.size : Int) < 64 := by omega
      have ek : T.size / 64 = k := by omega
      rw [ek] at hg hR
      rw [← ht] at hR
      rw [← hg] at A0
      subst hR
      obtain ⟨k0, k8, k9⟩ := A0.ten
      have z0 := A0.z
      obtain ⟨j0, j8, j9⟩ := A1.ten
      have z1 := A1.z
      clear ht tz C9 HT HZ hg
      go_upto_region 7 with fail
      have B0 : Arr (wr.setCell ⟨w.heap.size, 8, none⟩ (.string R)) w.heap.size 10 (hx g R m) := (A0.set 8 (by omega) _).congr (by
        intro j hj
        have : j = 0 ∨ j = 1 ∨ j = 2 ∨ j = 3 ∨ j = 4 ∨ j = 5 ∨ j = 6 ∨ j = 7 ∨ j = 8 ∨ j = 9 := by omega
        rcases this with rfl | rfl | rfl | rfl | rfl | rfl | rfl | rfl | rfl | rfl <;> simp [hx])
      have B1 := A1.other (b' := w.heap.size) (k := 8) (by omega) (.string R)
      have hB' := Bel.st hB (b := w.heap.size) (k := 8) (Nat.le_refl _) (.string R)
      clear A0 A1 hB k0 k8 k9 z0 j0 j8 j9 z1
      generalize (wr.setCell ⟨w.heap.size, 8, none⟩ (.string R)) = W5 at *
      obtain ⟨k0, k8, k9⟩ := B0.ten
      obtain ⟨j0, j8, j9⟩ := B1.ten
      have z1 := B1.z
      clear B0 B1
      go_wp2_with fail
      refine bodyPost_ret (v := .agg #[.int .u32 (g 0), .int .u32 (g 1), .int .u32 (g 2), .int .u32 (g 3), .int .u32 (g 4), .int .u32 (g 5), .int .u32 (g 6), .int .u32 (g 7), .string R, .int .u64 m]) (by simp [results, Tryd.results49, go_sem, j0, j8, j9]) rfl ⟨rfl, ?_⟩
      go_grown
theorem rwrite_any (h : Nat → Int) (L s : ByteArray) (n : Int) (hs : s.size ≤ 1000000) (hL : L.size ≤ 1000000) (w : World) :
    Calls Tryd.prog 49 #[hv h L n, .string s] w fun e w' => e = .returned (hv (wrH h L s) (wrL L s) (wrN n s)) ∧ Below w.heap.size w w' := by
  refine rwrite_core h L s (L ++ s) n _ (fun k => (upB (L ++ s) k).foldl mixF h) hs hL rfl (by rw [IntKind.wrap_u64]; rfl) rfl (fun t k W ht hz => ?_) _ _ rfl ?_ w
  · have e : (t.extract 0 64).size = 64 := by rw [ByteArray.size_extract, ht, ByteArray.size_extract]; omega
    have := rblock_any ((upB (L ++ s) k).foldl mixF h) (t.extract 0 64) (by unfold maxLen; omega) W
    rw [if_pos e] at this
    have e2 : (upB (L ++ s) (k + 1)).foldl mixF h = mixF ((upB (L ++ s) k).foldl mixF h) (t.extract 0 64) := by
      rw [upB_succ, List.foldl_append, cut_ext _ t k ht hz]; rfl
    rw [e2]
    exact this
  · unfold wrL lefB
    congr 1
    omega
end Go.Proofs.YtfglpcfacjedmaaDoor
