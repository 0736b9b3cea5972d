/- What sha.Write, Sum, Of and Block answer. -/
import Derived.Test.YtfglpcfacjedmaaDoorC7
import Derived.Test.YtfglpcfacjedmaaDoorZ3
set_option linter.all false
set_option maxRecDepth 100000
namespace Go.Proofs.YtfglpcfacjedmaaDoor
open Go.RowKit Go.Sort
theorem Arr.ten {w : World} {b : Nat} {h : Nat → Int} {L : ByteArray} {n : Int} (A : Arr w b 10 (hx h L n)) :
    (∀ j, j < 8 → w.cell? ⟨b, j, none⟩ = some (.int .u32 (h j))) ∧ w.cell? ⟨b, 8, none⟩ = some (.string L) ∧ w.cell? ⟨b, 9, none⟩ = some (.int .u64 n) := by
  refine ⟨fun j hj => ?_, A.c 8 (by omega), A.c 9 (by omega)⟩
  rw [A.c j (by omega)]
  have : j = 0 ∨ j = 1 ∨ j = 2 ∨ j = 3 ∨ j = 4 ∨ j = 5 ∨ j = 6 ∨ j = 7 := by omega
  rcases this with rfl | rfl | rfl | rfl | rfl | rfl | rfl | rfl <;> rfl
set_option maxHeartbeats 4000000 in
theorem write_core (h g : Nat → Int) (L s R S : ByteArray) (n c : Int) (hs : s.size ≤ 1000000) (hL : L.size ≤ 1000000) (hc : IntKind.u64.wrap (n + (s.size : Int)) = c) (w : World) (hT : Tab w)
    (C24 : ∀ W, Tab W → Calls Tryd.prog 57 #[w8 h, .string (L ++ s)] W fun e w' => e = .returned (w8 g) ∧ Below W.heap.size W w')
    (C32 : ∀ W, Calls Tryd.prog 59 #[.string (L ++ s)] W fun e w' => e = .returned (.string R) ∧ Below W.heap.size W w')
    (C31 : ∀ W, Calls Tryd.prog 58 #[.string R] W fun e w' => e = .returned (.string S) ∧ Below W.heap.size W w') :
    Calls Tryd.prog 41 #[hv h L n, .string s] w fun e w' => e = .returned (hv g S c) ∧ Below w.heap.size w w' := by
  unfold hv w8 at *
  go_enter Tryd.func41, Tryd.ntmps41
  go_wp2_with fail
  have A0 := (Arr.new w #[.int .u32 (h 0), .int .u32 (h 1), .int .u32 (h 2), .int .u32 (h 3), .int .u32 (h 4), .int .u32 (h 5), .int .u32 (h 6), .int .u32 (h 7), .string L, .int .u64 n] 70 _ rfl _ 10 (hx_at h L n)).al' (.cells #[.int .u32 0, .int .u32 0, .int .u32 0, .int .u32 0, .int .u32 0, .int .u32 0, .int .u32 0, .int .u32 0, .string ⟨#[]⟩, .int .u64 0] 70)
  have A1 := Arr.new (w.alloc (.cells #[.int .u32 (h 0), .int .u32 (h 1), .int .u32 (h 2), .int .u32 (h 3), .int .u32 (h 4), .int .u32 (h 5), .int .u32 (h 6), .int .u32 (h 7), .string L, .int .u64 n] 70)) #[.int .u32 0, .int .u32 0, .int .u32 0, .int .u32 0, .int .u32 0, .int .u32 0, .int .u32 0, .int .u32 0, .string ⟨#[]⟩, .int .u64 0] 70 (w.heap.size + 1) (by simp) (hx (fun _ => 0) ⟨#[]⟩ 0) 10 (hx_at (fun _ => 0) ⟨#[]⟩ 0)
  have hB : Below w.heap.size w ((w.alloc (.cells #[.int .u32 (h 0), .int .u32 (h 1), .int .u32 (h 2), .int .u32 (h 3), .int .u32 (h 4), .int .u32 (h 5), .int .u32 (h 6), .int .u32 (h 7), .string L, .int .u64 n] 70)).alloc (.cells #[.int .u32 0, .int .u32 0, .int .u32 0, .int .u32 0, .int .u32 0, .int .u32 0, .int .u32 0, .int .u32 0, .string ⟨#[]⟩, .int .u64 0] 70)) := by go_grown
  generalize ((w.alloc (.cells #[.int .u32 (h 0), .int .u32 (h 1), .int .u32 (h 2), .int .u32 (h 3), .int .u32 (h 4), .int .u32 (h 5), .int .u32 (h 6), .int .u32 (h 7), .string L, .int .u64 n] 70)).alloc (.cells #[.int .u32 0, .int .u32 0, .int .u32 0, .int .u32 0, .int .u32 0, .int .u32 0, .int .u32 0, .int .u32 0, .string ⟨#[]⟩, .int .u64 0] 70)) = W at *
  have tR := fun ds os => (hT.bel hB).bel (below_regrown W ds os)
  obtain ⟨k0, k8, k9⟩ := A0.ten
  have r := fun j hj ds os => cell_regrown (k0 j hj) ds os
  have r0 := r 0 (by omega)
  have r1 := r 1 (by omega)
  have r2 := r 2 (by omega)
  have r3 := r 3 (by omega)
  have r4 := r 4 (by omega)
  have r5 := r 5 (by omega)
  have r6 := r 6 (by omega)
  have r7 := r 7 (by omega)
  have r8 := fun ds os => cell_regrown k8 ds os
  have r9 := fun ds os => cell_regrown k9 ds os
  clear r k0 k8 k9 hT
  generalize L ++ s = T at *
  refine wp_region_below_tail 14 (by kernel_rfl) (by kernel_rfl) ?_
  simp only [List.take_succ_cons, List.take_zero, List.drop_succ_cons, List.drop_zero]
  repeat (go_big_quiet_step (first | (go_at_call 57; exact Calls.regrown_of (C24 _ (tR _ _))) | (go_at_call 59; exact Calls.regrown_of (C32 _)) | (go_at_call 58; exact Calls.regrown_of (C31 _))))
  refine wpQuiet_nil ?_
  intro w1 hw'
  obtain ⟨⟨dq, osq⟩, hw''⟩ := hw'
  have hb := below_of hw''
  clear hw'' r0 r1 r2 r3 r4 r5 r6 r7 r8 r9 tR C24 C32 C31
  have B1 := A1.to' hb
  have hB' := Bel.call hB hb
  obtain ⟨k0, k8, k9⟩ := B1.ten
  have z := B1.z
  clear A0 A1 hB hb
  go_wp2_with fail
  refine bodyPost_ret (v := .agg #[.int .u32 (g 0), .int .u32 (g 1), .int .u32 (g 2), .int .u32 (g 3), .int .u32 (g 4), .int .u32 (g 5), .int .u32 (g 6), .int .u32 (g 7), .string S, .int .u64 c]) (by simp [results, Tryd.results41, go_sem, k0, k8, k9, hc]) rfl ⟨rfl, ?_⟩
  go_grown
set_option maxHeartbeats 4000000 in
theorem sum_core (h g : Nat → Int) (L E S : ByteArray) (n : Int) (hL : L.size ≤ 1000000) (hE : E.size ≤ 1000) (w : World) (hT : Tab w)
    (C33 : ∀ W, Calls Tryd.prog 60 #[hv h L n] W fun e w' => e = .returned (.string E) ∧ Below W.heap.size W w')
    (C24 : ∀ W, Tab W → Calls Tryd.prog 57 #[w8 h, .string (L ++ E)] W fun e w' => e = .returned (w8 g) ∧ Below W.heap.size W w')
    (C34 : ∀ bk W, Arr W bk 8 (fun j => .int .u32 (g j)) → Calls Tryd.prog 61 #[.slice (some ⟨bk, 0, none⟩) 8 8] W fun e w' => e = .returned (.string S) ∧ Below W.heap.size W w') :
    Calls Tryd.prog 44 #[hv h L n] w fun e w' => e = .returned (.string S) ∧ Below w.heap.size w w' := by
  unfold hv w8 at *
  go_enter Tryd.func44, Tryd.ntmps44
  go_wp2_with fail
  have A0 := Arr.new w #[.int .u32 (h 0), .int .u32 (h 1), .int .u32 (h 2), .int .u32 (h 3), .int .u32 (h 4), .int .u32 (h 5), .int .u32 (h 6), .int .u32 (h 7), .string L, .int .u64 n] 70 _ rfl _ 10 (hx_at h L n)
  have hB : Below w.heap.size w (w.alloc (.cells #[.int .u32 (h 0), .int .u32 (h 1), .int .u32 (h 2), .int .u32 (h 3), .int .u32 (h 4), .int .u32 (h 5), .int .u32 (h 6), .int .u32 (h 7), .string L, .int .u64 n] 70)) := by go_grown
  generalize (w.alloc (.cells #[.int .u32 (h 0), .int .u32 (h 1), .int .u32 (h 2), .int .u32 (h 3), .int .u32 (h 4), .int .u32 (h 5), .int .u32 (h 6), .int .u32 (h 7), .string L, .int .u64 n] 70)) = W at *
  apply wp_region_alloc_tail 8 (by kernel_rfl) (by kernel_rfl) (by kernel_rfl) (.cells #[.int .u32 0, .int .u32 0, .int .u32 0, .int .u32 0, .int .u32 0, .int .u32 0, .int .u32 0, .int .u32 0] 68) _ rfl (fun _ _ => by simp [go_sem])
  · intro U hU
    have tR := fun ds os => ((hT.bel hB).bel hU).bel (below_regrown U ds os)
    obtain ⟨k0, k8, k9⟩ := (A0.to' hU).ten
    have r := fun j hj ds os => cell_regrown (k0 j hj) ds os
    have r0 := r 0 (by omega)
    have r1 := r 1 (by omega)
    have r2 := r 2 (by omega)
    have r3 := r 3 (by omega)
    have r4 := r 4 (by omega)
    have r5 := r 5 (by omega)
    have r6 := r 6 (by omega)
    have r7 := r 7 (by omega)
    have r8 := fun ds os => cell_regrown k8 ds os
    have r9 := fun ds os => cell_regrown k9 ds os
    clear r k0 k8 k9
    simp only [List.take_succ_cons, List.take_zero]
    repeat (go_big_quiet_step (first | (go_at_call 60; exact Calls.regrown_of (C33 _)) | (go_at_call 57; exact Calls.regrown_of (C24 _ (tR _ _)))))
    exact wpQuiet_nil rfl
  intro u1 w2 hb1 hb2
  simp only [List.drop_succ_cons, List.drop_zero, Act.put, List.setIfInBounds_toArray, List.set_cons_succ, List.set_cons_zero]
  have hB1 := Bel.call hB hb1
  have Bn := (Arr.new u1 #[.int .u32 0, .int .u32 0, .int .u32 0, .int .u32 0, .int .u32 0, .int .u32 0, .int .u32 0, .int .u32 0] 68 _ rfl _ 8 z8_at).to' hb2
  have hB2 := Bel.call (Bel.al hB1 (.cells #[.int .u32 0, .int .u32 0, .int .u32 0, .int .u32 0, .int .u32 0, .int .u32 0, .int .u32 0, .int .u32 0] 68)) hb2
  have c := Bn.c
  have z := Bn.z
  have lt := hB1.size
  clear A0 hB hb1 hb2 hB1 C33 C24
  go_wp2_with fail
  refine (C34 _ _ (Arr.st8 Bn g)).mono ?_
  rintro e w3 ⟨rfl, hb3⟩
  have hB3 := Bel.call (Bel.st8 hB2 (b := u1.heap.size) lt g) hb3
  clear hb3 C34 c z Bn
  go_wp2_with fail
  go_ret
  exact ⟨rfl, hB3⟩
theorem app_size (a b : ByteArray) : (a ++ b).size = a.size + b.size := ByteArray.size_append
/-- What Write makes. -/
def wrH (h : Nat → Int) (L s : ByteArray) : Nat → Int := madeF h (L ++ s)
def wrL (L s : ByteArray) : ByteArray := lefB (L ++ s)
def wrN (n : Int) (s : ByteArray) : Int := (n + (s.size : Int)) % 18446744073709551616
theorem write_any (h : Nat → Int) (L s : ByteArray) (n : Int) (hs : s.size ≤ 1000000) (hL : L.size ≤ 1000000) (w : World) (hT : Tab w) :
    Calls Tryd.prog 41 #[hv h L n, .string s] w fun e w' => e = .returned (hv (wrH h L s) (wrL L s) (wrN n s)) ∧ Below w.heap.size w w' := by
  have z := app_size L s
  exact write_core h _ L s _ _ n _ hs hL (by rw [IntKind.wrap_u64]; rfl) w hT (fun W hW => made_any h (L ++ s) (by omega) W hW) (fun W => left_any (L ++ s) (by omega) W)
    (fun W => clone_any _ W (by rw [lefB_size]; omega))
theorem endS_size (L : ByteArray) (n : Int) : (endS L n).size = 9 + zc L := by
  unfold endS
  rw [app_size, app_size, rep_size, mkS_size, hfL_len]
  show 1 + zc L + 8 = _
  omega
/-- The digest that Sum tells. -/
def sumS (h : Nat → Int) (L : ByteArray) (n : Int) : ByteArray := mkS (hfL (madeF h (L ++ endS L n)) 8)
theorem sumS_size (h : Nat → Int) (L : ByteArray) (n : Int) : (sumS h L n).size = 32 := by unfold sumS; rw [mkS_size, hfL_len]
theorem sum_any (h : Nat → Int) (L : ByteArray) (n : Int) (hL : L.size ≤ 1000000) (w : World) (hT : Tab w) :
    Calls Tryd.prog 44 #[hv h L n] w fun e w' => e = .returned (.string (sumS h L n)) ∧ Below w.heap.size w w' := by
  have e := endS_size L n
  have z : zc L < 64 := by unfold zc; omega
  have za := app_size L (endS L n)
  exact sum_core h _ L (endS L n) _ n hL (by omega) w hT (fun W => end_any h L n (by unfold maxLen; omega) W) (fun W hW => made_any h _ (by omega) W hW) (fun bk W hA => high_core _ 8 bk (by omega) (by omega) _ rfl W hA)
/-- A text's digest. -/
def ofS (s : ByteArray) : ByteArray := sumS (wrH bgn ⟨#[]⟩ s) (wrL ⟨#[]⟩ s) (wrN 0 s)
theorem ofS_size (s : ByteArray) : (ofS s).size = 32 := sumS_size _ _ _
theorem wrL_lt (L s : ByteArray) : (wrL L s).size < 64 := by unfold wrL; rw [lefB_size]; omega
set_option maxHeartbeats 1000000 in
theorem of_core (s S : ByteArray) (a b : Value) (w : World) (hT : Tab w)
    (C16 : ∀ W, Tab W → Calls Tryd.prog 42 #[] W fun e w' => e = .returned a ∧ Below W.heap.size W w')
    (C20 : ∀ W, Tab W → Calls Tryd.prog 41 #[a, .string s] W fun e w' => e = .returned b ∧ Below W.heap.size W w')
    (C22 : ∀ W, Tab W → Calls Tryd.prog 44 #[b] W fun e w' => e = .returned (.string S) ∧ Below W.heap.size W w') :
    Calls Tryd.prog 33 #[.string s] w fun e w' => e = .returned (.string S) ∧ Below w.heap.size w w' := by
  go_enter Tryd.func33, Tryd.ntmps33
  go_wp2_with fail
  refine (C16 _ hT).mono ?_
  rintro e w1 ⟨rfl, hb⟩
  have hT1 := hT.to hb
  go_wp2_with fail
  refine (C20 _ hT1).mono ?_
  rintro e w2 ⟨rfl, hb2⟩
  have hT2 := hT1.to hb2
  have hB := Bel.call hb hb2
  clear hb hb2
  go_wp2_with fail
  refine (C22 _ hT2).mono ?_
  rintro e w3 ⟨rfl, hb⟩
  have hB' := Bel.call hB hb
  clear hb hB
  go_wp2_with fail
  go_ret
  exact ⟨rfl, hB'⟩
theorem of_any (s : ByteArray) (hs : s.size ≤ 1000000) (w : World) (hT : Tab w) : Calls Tryd.prog 33 #[.string s] w fun e w' => e = .returned (.string (ofS s)) ∧ Below w.heap.size w w' :=
  of_core s _ _ _ w hT (fun W hW => new_any W hW) (fun W hW => write_any bgn ⟨#[]⟩ s 0 hs (by decide) W hW) (fun W hW => sum_any _ _ _ (by have := wrL_lt ⟨#[]⟩ s; omega) W hW)
/-- What Block answers. -/
def blkV (h : Nat → Int) (s : ByteArray) : Value := if s.size = 64 then .tuple #[w8 (madeF h s), .int .i64 0] else .tuple #[w8 (fun _ => 0), .int .i64 10]
end Go.Proofs.YtfglpcfacjedmaaDoor
