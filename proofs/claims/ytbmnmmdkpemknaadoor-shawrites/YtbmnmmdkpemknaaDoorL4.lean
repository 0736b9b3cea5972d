/- The law's walk: ShaWrites. -/
import Derived.Test.YtbmnmmdkpemknaaDoorL2
import Derived.Test.YtbmnmmdkpemknaaDoorE1
set_option linter.all false
set_option maxRecDepth 100000
namespace Go.Proofs.YtbmnmmdkpemknaaDoor
open Go.RowKit Go.Sort
set_option maxHeartbeats 4000000 in
theorem writes_no (h : Nat → Int) (L s : ByteArray) (n : Int) (w : World) (hT : Tab w) (hs : s.size ≤ maxLen) (c : ¬ (s.size : Int) ≤ 20000)
    (CA : ∀ W, Tab W → Calls Tryd.prog 10 #[] W fun e w' => e = .returned (.bool true) ∧ Below W.heap.size W w') :
    Calls Tryd.prog 5 #[hv h L n, .string s] w fun e w' => e = .returned (.bool true) ∧ Below w.heap.size w w' := by
  have SS := fun W => short_any s hs W
  rw [decide_eq_false c] at SS
  unfold hv
  go_enter Tryd.func5, Tryd.ntmps5
  go_wp2_with fail
  refine (SS _).mono ?_
  rintro e w0 ⟨rfl, rfl⟩
  clear SS
  go_wp2_with fail
  refine (CA _ (hT.al _)).mono ?_
  rintro e w5 ⟨rfl, hb⟩
  have B5 : Below w.heap.size w w5 := Bel.call (by go_grown) hb
  clear hb CA
  go_wp2_with fail
  go_ret
  exact ⟨rfl, B5⟩
set_option maxHeartbeats 8000000 in
theorem writes_law (h g b : Nat → Int) (L s R D : ByteArray) (n m : Int) (f : Bool) (w : World) (hT : Tab w) (hs : s.size ≤ maxLen) (c : (s.size : Int) ≤ 20000)
    (C16 : ∀ W, Tab W → Calls Tryd.prog 16 #[] W fun e w' => e = .returned (hv b ⟨#[]⟩ 0) ∧ Below W.heap.size W w')
    (C17 : ∀ W, Calls Tryd.prog 17 #[] W fun e w' => e = .returned (hv b ⟨#[]⟩ 0) ∧ Below W.heap.size W w')
    (C18 : ∀ W, Calls Tryd.prog 18 #[hv h L n] W fun e w' => e = .returned (.bool f) ∧ Below W.heap.size W w')
    (C19 : ∀ W, Calls Tryd.prog 19 #[hv h L n] W fun e w' => e = .returned (.bool f) ∧ Below W.heap.size W w')
    (C20 : f = true → ∀ W, Tab W → Calls Tryd.prog 20 #[hv h L n, .string s] W fun e w' => e = .returned (hv g R m) ∧ Below W.heap.size W w')
    (C21 : f = true → ∀ W, Calls Tryd.prog 21 #[hv h L n, .string s] W fun e w' => e = .returned (hv g R m) ∧ Below W.heap.size W w')
    (C22 : f = true → ∀ W, Tab W → Calls Tryd.prog 22 #[hv h L n] W fun e w' => e = .returned (.string D) ∧ Below W.heap.size W w')
    (C23 : f = true → ∀ W, Calls Tryd.prog 23 #[hv h L n] W fun e w' => e = .returned (.string D) ∧ Below W.heap.size W w')
    (CA : ∀ W, Tab W → Calls Tryd.prog 10 #[] W fun e w' => e = .returned (.bool true) ∧ Below W.heap.size W w') :
    Calls Tryd.prog 5 #[hv h L n, .string s] w fun e w' => e = .returned (.bool true) ∧ Below w.heap.size w w' := by
  have SS := fun W => short_any s hs W
  rw [decide_eq_true c] at SS
  have q37 := eq37
  unfold hv at *
  rcases Bool.eq_false_or_eq_true f with hf | hf
  · replace C20 := C20 hf
    replace C21 := C21 hf
    replace C22 := C22 hf
    replace C23 := C23 hf
    subst hf
    go_enter Tryd.func5, Tryd.ntmps5
    go_wp2_with fail
    refine (SS _).mono ?_
    rintro e w0 ⟨rfl, rfl⟩
    clear SS
    go_wp2_with fail
    have A0 := Arr.new w #[.int .u32 (h 0), .int .u32 (h 1), .int .u32 (h 2), .int .u32 (h 3), .int .u32 (h 4), .int .u32 (h 5), .int .u32 (h 6), .int .u32 (h 7), .string L, .int .u64 n] 37 _ rfl _ 10 (hx_at h L n)
    have T0 := hT.al (.cells #[.int .u32 (h 0), .int .u32 (h 1), .int .u32 (h 2), .int .u32 (h 3), .int .u32 (h 4), .int .u32 (h 5), .int .u32 (h 6), .int .u32 (h 7), .string L, .int .u64 n] 37)
    have B0 : Below w.heap.size w (w.alloc (.cells #[.int .u32 (h 0), .int .u32 (h 1), .int .u32 (h 2), .int .u32 (h 3), .int .u32 (h 4), .int .u32 (h 5), .int .u32 (h 6), .int .u32 (h 7), .string L, .int .u64 n] 37)) := by go_grown
    generalize w.alloc (.cells #[.int .u32 (h 0), .int .u32 (h 1), .int .u32 (h 2), .int .u32 (h 3), .int .u32 (h 4), .int .u32 (h 5), .int .u32 (h 6), .int .u32 (h 7), .string L, .int .u64 n] 37) = W at *
    obtain ⟨k0, k8, k9⟩ := A0.ten
    have r0 := fun ds os => cell_regrown (k0 0 (by omega)) ds os
    have r1 := fun ds os => cell_regrown (k0 1 (by omega)) ds os
    have r2 := fun ds os => cell_regrown (k0 2 (by omega)) ds os
    have r3 := fun ds os => cell_regrown (k0 3 (by omega)) ds os
    have r4 := fun ds os => cell_regrown (k0 4 (by omega)) ds os
    have r5 := fun ds os => cell_regrown (k0 5 (by omega)) ds os
    have r6 := fun ds os => cell_regrown (k0 6 (by omega)) ds os
    have r7 := fun ds os => cell_regrown (k0 7 (by omega)) ds os
    have r8 := fun ds os => cell_regrown k8 ds os
    have r9 := fun ds os => cell_regrown k9 ds os
    have tR := fun ds os => T0.bel (below_regrown W ds os)
    clear k0 k8 k9
    refine wp_region_quiet_below (by kernel_rfl) (by kernel_rfl) ?_
    repeat (go_big_quiet_step (first | (go_at_call 16; exact Calls.regrown_of (C16 _ (tR _ _))) | (go_at_call 17; exact Calls.regrown_of (C17 _)) | (go_at_call 18; exact Calls.regrown_of (C18 _)) | (go_at_call 19; exact Calls.regrown_of (C19 _))))
    refine wpQuiet_nil ?_
    intro W1 hw'
    obtain ⟨⟨dq, osq⟩, hw''⟩ := hw'
    have hb := below_of hw''
    clear hw'' r0 r1 r2 r3 r4 r5 r6 r7 r8 r9 tR
    have A1 := A0.to' hb
    have B1 := Bel.call B0 hb
    have T1 := T0.to hb
    clear hb A0 B0 T0
    go_wp2_with fail
    obtain ⟨k0, k8, k9⟩ := A1.ten
    have r0 := fun ds os => cell_regrown (k0 0 (by omega)) ds os
    have r1 := fun ds os => cell_regrown (k0 1 (by omega)) ds os
    have r2 := fun ds os => cell_regrown (k0 2 (by omega)) ds os
    have r3 := fun ds os => cell_regrown (k0 3 (by omega)) ds os
    have r4 := fun ds os => cell_regrown (k0 4 (by omega)) ds os
    have r5 := fun ds os => cell_regrown (k0 5 (by omega)) ds os
    have r6 := fun ds os => cell_regrown (k0 6 (by omega)) ds os
    have r7 := fun ds os => cell_regrown (k0 7 (by omega)) ds os
    have r8 := fun ds os => cell_regrown k8 ds os
    have r9 := fun ds os => cell_regrown k9 ds os
    have tR := fun ds os => T1.bel (below_regrown W1 ds os)
    clear k0 k8 k9
    refine wp_region_quiet_below (by kernel_rfl) (by kernel_rfl) ?_
    repeat (go_big_quiet_step (first | (go_at_call 19; exact Calls.regrown_of (C19 _)) | (go_at_call 20; exact Calls.regrown_of (C20 _ (tR _ _))) | (go_at_call 21; exact Calls.regrown_of (C21 _)) | (go_at_call 22; exact Calls.regrown_of (C22 _ (tR _ _))) | (go_at_call 23; exact Calls.regrown_of (C23 _)) | (go_at_call 10; exact Calls.regrown_of (CA _ (tR _ _)))))
    refine wpQuiet_nil ?_
    intro W2 hw'
    obtain ⟨⟨dq, osq⟩, hw''⟩ := hw'
    have hb := below_of hw''
    clear hw'' r0 r1 r2 r3 r4 r5 r6 r7 r8 r9 tR
    have B2 := Bel.call B1 hb
    clear hb A1 B1 T1
    go_wp2_with fail
    go_ret
    exact ⟨rfl, B2⟩
  · clear C20 C21 C22 C23
    subst hf
    go_enter Tryd.func5, Tryd.ntmps5
    go_wp2_with fail
    refine (SS _).mono ?_
    rintro e w0 ⟨rfl, rfl⟩
    clear SS
    go_wp2_with fail
    have A0 := Arr.new w #[.int .u32 (h 0), .int .u32 (h 1), .int .u32 (h 2), .int .u32 (h 3), .int .u32 (h 4), .int .u32 (h 5), .int .u32 (h 6), .int .u32 (h 7), .string L, .int .u64 n] 37 _ rfl _ 10 (hx_at h L n)
    have T0 := hT.al (.cells #[.int .u32 (h 0), .int .u32 (h 1), .int .u32 (h 2), .int .u32 (h 3), .int .u32 (h 4), .int .u32 (h 5), .int .u32 (h 6), .int .u32 (h 7), .string L, .int .u64 n] 37)
    have B0 : Below w.heap.size w (w.alloc (.cells #[.int .u32 (h 0), .int .u32 (h 1), .int .u32 (h 2), .int .u32 (h 3), .int .u32 (h 4), .int .u32 (h 5), .int .u32 (h 6), .int .u32 (h 7), .string L, .int .u64 n] 37)) := by go_grown
    generalize w.alloc (.cells #[.int .u32 (h 0), .int .u32 (h 1), .int .u32 (h 2), .int .u32 (h 3), .int .u32 (h 4), .int .u32 (h 5), .int .u32 (h 6), .int .u32 (h 7), .string L, .int .u64 n] 37) = W at *
    obtain ⟨k0, k8, k9⟩ := A0.ten
    have r0 := fun ds os => cell_regrown (k0 0 (by omega)) ds os
    have r1 := fun ds os => cell_regrown (k0 1 (by omega)) ds os
    have r2 := fun ds os => cell_regrown (k0 2 (by omega)) ds os
    have r3 := fun ds os => cell_regrown (k0 3 (by omega)) ds os
    have r4 := fun ds os => cell_regrown (k0 4 (by omega)) ds os
    have r5 := fun ds os => cell_regrown (k0 5 (by omega)) ds os
    have r6 := fun ds os => cell_regrown (k0 6 (by omega)) ds os
    have r7 := fun ds os => cell_regrown (k0 7 (by omega)) ds os
    have r8 := fun ds os => cell_regrown k8 ds os
    have r9 := fun ds os => cell_regrown k9 ds os
    have tR := fun ds os => T0.bel (below_regrown W ds os)
    clear k0 k8 k9
    refine wp_region_quiet_below (by kernel_rfl) (by kernel_rfl) ?_
    repeat (go_big_quiet_step (first | (go_at_call 16; exact Calls.regrown_of (C16 _ (tR _ _))) | (go_at_call 17; exact Calls.regrown_of (C17 _)) | (go_at_call 18; exact Calls.regrown_of (C18 _)) | (go_at_call 19; exact Calls.regrown_of (C19 _))))
    refine wpQuiet_nil ?_
    intro W1 hw'
    obtain ⟨⟨dq, osq⟩, hw''⟩ := hw'
    have hb := below_of hw''
    clear hw'' r0 r1 r2 r3 r4 r5 r6 r7 r8 r9 tR
    have A1 := A0.to' hb
    have B1 := Bel.call B0 hb
    have T1 := T0.to hb
    clear hb A0 B0 T0
    go_wp2_with fail
    obtain ⟨k0, k8, k9⟩ := A1.ten
    have r0 := fun ds os => cell_regrown (k0 0 (by omega)) ds os
    have r1 := fun ds os => cell_regrown (k0 1 (by omega)) ds os
    have r2 := fun ds os => cell_regrown (k0 2 (by omega)) ds os
    have r3 := fun ds os => cell_regrown (k0 3 (by omega)) ds os
    have r4 := fun ds os => cell_regrown (k0 4 (by omega)) ds os
    have r5 := fun ds os => cell_regrown (k0 5 (by omega)) ds os
    have r6 := fun ds os => cell_regrown (k0 6 (by omega)) ds os
    have r7 := fun ds os => cell_regrown (k0 7 (by omega)) ds os
    have r8 := fun ds os => cell_regrown k8 ds os
    have r9 := fun ds os => cell_regrown k9 ds os
    have tR := fun ds os => T1.bel (below_regrown W1 ds os)
    clear k0 k8 k9
    refine wp_region_quiet_below (by kernel_rfl) (by kernel_rfl) ?_
    repeat (go_big_quiet_step (first | (go_at_call 19; exact Calls.regrown_of (C19 _)) | (go_at_call 10; exact Calls.regrown_of (CA _ (tR _ _)))))
    refine wpQuiet_nil ?_
    intro W2 hw'
    obtain ⟨⟨dq, osq⟩, hw''⟩ := hw'
    have hb := below_of hw''
    clear hw'' r0 r1 r2 r3 r4 r5 r6 r7 r8 r9 tR
    have B2 := Bel.call B1 hb
    clear hb A1 B1 T1
    go_wp2_with fail
    go_ret
    exact ⟨rfl, B2⟩
theorem writes_true (h : Nat → Int) (L s : ByteArray) (n : Int) (hL : L.size ≤ maxLen) (n0 : 0 ≤ n) (hs : s.size ≤ maxLen) (w : World) (hT : Tab w) : Calls Tryd.prog 5 #[hv h L n, .string s] w fun e w' => e = .returned (.bool true) ∧ Below w.heap.size w w' := by
  by_cases c : (s.size : Int) ≤ 20000
  · have l : decide ((L.size : Int) = n % 64) = true → L.size ≤ 1000000 := fun e => by
      have := of_decide_eq_true e
      omega
    exact writes_law h _ bgn L s _ _ n _ _ w hT hs c (fun W hW => new_any W hW) (fun W => rnew_any W) (fun W => fit_any h L n hL n0 W) (fun W => rfit_any h L n hL n0 W) (fun e W hW => write_any h L s n (by omega) (l e) W hW) (fun e W => rwrite_any h L s n (by omega) (l e) W)
      (fun e W hW => sum_any h L n (l e) W hW) (fun e W => rsum_any h L n (l e) W) (fun W hW => awake_any W hW)
  · exact writes_no h L s n w hT hs c (fun W hW => awake_any W hW)
end Go.Proofs.YtbmnmmdkpemknaaDoor
