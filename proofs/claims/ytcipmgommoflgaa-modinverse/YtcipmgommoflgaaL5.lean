/- The statement ModRing's function answers true, whatever the numbers: the walk. -/
import Derived.Test.YtcipmgommoflgaaK11
import Derived.Test.YtcipmgommoflgaaR3
set_option linter.all false
namespace Go.Proofs.Ytcipmgommoflgaa
open Go.RowKit Go.Sort
/-- A number that fits. -/
def In (x : Int) : Prop := 0 ≤ x ∧ x < top256
theorem In.md {M : Int} (h : In M) (x : Int) : In (md x M) := ⟨md_nn _ _ h.1, md_top _ _ h.1 h.2⟩
theorem k16 {x y M : Int} (hx : In x) (hy : In y) (hM : In M) (w : World) : Calls Try.prog 16 #[nv x, nv y, nv M] w fun e w' => e = .returned (nv (md (x + y) M)) ∧ Below w.heap.size w w' := madd_any x y M hx.1 hx.2 hy.1 hy.2 hM.1 hM.2 w
theorem k18 {x y M : Int} (hx : In x) (hy : In y) (hM : In M) (w : World) : Calls Try.prog 18 #[nv x, nv y, nv M] w fun e w' => e = .returned (nv (md (x - y) M)) ∧ Below w.heap.size w w' := msub_any x y M hx.1 hx.2 hy.1 hy.2 hM.1 hM.2 w
theorem k20 {x y M : Int} (hx : In x) (hy : In y) (hM : In M) (w : World) : Calls Try.prog 20 #[nv x, nv y, nv M] w fun e w' => e = .returned (nv (md (x * y) M)) ∧ Below w.heap.size w w' := mmul_any x y M hx.1 hx.2 hy.1 hy.2 hM.1 hM.2 w
theorem k14 {x M : Int} (hx : In x) (hM : In M) (w : World) : Calls Try.prog 14 #[nv x, .agg #[.int .u64 0, .int .u64 0, .int .u64 0, .int .u64 0], nv M] w fun e w' => e = .returned (nv (md x M)) ∧ Below w.heap.size w w' := by
  have := rem_any x 0 M hx.1 hx.2 (by omega) (by decide) hM.1 hM.2 w
  rw [nv_zero, Int.zero_mul, Int.add_zero] at this
  exact this
theorem k27 {x M : Int} (hx : In x) (hM : In M) (h : x < M) (w : World) : Calls Try.prog 27 #[nv x, nv M] w fun e w' => e = .returned (.int .i64 (-1)) ∧ Below w.heap.size w w' := by
  have := refCmp_any x M hx.1 hx.2 hM.1 hM.2 w
  rw [sg_lt h] at this
  exact this
theorem eqn (N : Int) : (lim N 0 == lim N 0 && (lim N 1 == lim N 1 && (lim N 2 == lim N 2 && lim N 3 == lim N 3))) = true := by simp
theorem nzM {M : Int} (h : In M) (h0 : 0 < M) : (lim M 0 == 0 && (lim M 1 == 0 && (lim M 2 == 0 && lim M 3 == 0))) = false := by
  have v := V4_lim M h.1 h.2
  unfold V4 at v
  by_cases c0 : lim M 0 = 0
  · by_cases c1 : lim M 1 = 0
    · by_cases c2 : lim M 2 = 0
      · by_cases c3 : lim M 3 = 0
        · rw [c0, c1, c2, c3] at v; omega
        · simp [c3]
      · simp [c2]
    · simp [c1]
  · simp [c0]
theorem Arr.zz (w : World) (o : Obj) : Arr ((w.alloc (.cells #[.int .u64 0, .int .u64 0, .int .u64 0, .int .u64 0] 24)).alloc o) w.heap.size 4 (fun _ => .int .u64 0) := (Arr.zal w).alloc (by simp) o
theorem Arr.zzd (w : World) (o : Obj) : Arr (((w.alloc (.cells #[.int .u64 0, .int .u64 0, .int .u64 0, .int .u64 0] 24)).alloc o).drew) w.heap.size 4 (fun _ => .int .u64 0) := (Arr.zz w o).drew
theorem r4lt {w : World} {b : Nat} {f : Nat → Value} (h : R4 w b f) : b < w.heap.size := block_lt_of_cell (h 0 (by omega))
attribute [local go_sem] eq24
set_option maxHeartbeats 8000000 in
theorem ring_some (A B C M : Int) (iA : In A) (iB : In B) (iC : In C) (iM : In M) (hM0 : 0 < M)
    (E1 : md (md (A + B) M + C) M = md (A + md (B + C) M) M) (E2 : md (md (A * B) M * C) M = md (A * md (B * C) M) M) (E3 : md (C * md (A + B) M) M = md (md (C * A) M + md (C * B) M) M)
    (E4 : md (md (A + B) M - B) M = md A M) (E5 : md (B + A) M = md (A + B) M) (E6 : md (B * A) M = md (A * B) M) (w : World) :
    Calls Try.prog 5 #[nv A, nv B, nv C, nv M] w fun e w' => e = .returned (.bool true) ∧ Below w.heap.size w w' := by
  have hz := nzM iM hM0
  go_enter Try.func5, Try.ntmps5
  go_upto_region 3 with fail
  go_cut [9, 10] from 31 to 38 (fun s9 s10 wx => ∃ b9 b10 : Nat, s9 = .pointer (some ⟨b9, 0, none⟩) ∧ s10 = .pointer (some ⟨b10, 0, none⟩) ∧ Arr wx b9 4 (fun j => .int .u64 (lim (md (A + B) M) j)) ∧ Arr wx b10 4 (fun j => .int .u64 (lim (md (A * B) M) j)) ∧ R4 wx (w.heap.size) (fun j => .int .u64 (lim A j)) ∧ R4 wx (w.heap.size + 1) (fun j => .int .u64 (lim B j)) ∧ R4 wx (w.heap.size + 1 + 1) (fun j => .int .u64 (lim C j)) ∧ R4 wx (w.heap.size + 1 + 1 + 1) (fun j => .int .u64 (lim M j)) ∧ Below w.heap.size w wx)
  case first =>
    clear E1 E2 E3 E4 E5 E6
    go_region_held3 (fun w' => R4 w' w.heap.size (fun j => .int .u64 (lim A j)) ∧ R4 w' (w.heap.size + 1) (fun j => .int .u64 (lim B j)) ∧ R4 w' (w.heap.size + 1 + 1 + 1) (fun j => .int .u64 (lim M j)))
      ((go_split_ands; refine ⟨?_, ?_, ?_⟩ <;> (first | (with_reducible assumption) | (apply R4.of <;> (simp [go_sem]; done)) | ((with_reducible refine R4.al (R4.al ?_ ?_ _) ?_ _) <;> (first | (with_reducible assumption) | (go_size; done) | fail)) | ((with_reducible refine R4.al ?_ ?_ _) <;> (first | (with_reducible assumption) | (go_size; done) | fail)) | (repeat (first | (with_reducible assumption) | (with_reducible refine R4.st ?_ (by go_size) _) | (with_reducible refine R4.al ?_ (by go_size) _))) | fail)))
      (first | (go_at_call 16; refine (k16 iA iB iM _).mono ?_; rintro e wx ⟨rfl, hbc⟩; (have hs : w.heap.size + 1 + 1 + 1 < wx.heap.size := (by (have hq := hbc.size; (try simp at hq); omega))); have hsz := hbc.size; (try simp at hsz); (have hBx : Below w.heap.size w wx := Below.trans (by go_grown) (hbc.mono (by go_size))); (have RA : R4 wx (w.heap.size) (fun j => .int .u64 (lim A j)) := R4.to (R4.of (by simp [go_sem]) (by simp [go_sem]) (by simp [go_sem]) (by simp [go_sem])) hbc (by go_size)); (have RB : R4 wx (w.heap.size + 1) (fun j => .int .u64 (lim B j)) := R4.to (R4.of (by simp [go_sem]) (by simp [go_sem]) (by simp [go_sem]) (by simp [go_sem])) hbc (by go_size)); (have RC : R4 wx (w.heap.size + 1 + 1) (fun j => .int .u64 (lim C j)) := R4.to (R4.of (by simp [go_sem]) (by simp [go_sem]) (by simp [go_sem]) (by simp [go_sem])) hbc (by go_size)); (have RM : R4 wx (w.heap.size + 1 + 1 + 1) (fun j => .int .u64 (lim M j)) := R4.to (R4.of (by simp [go_sem]) (by simp [go_sem]) (by simp [go_sem]) (by simp [go_sem])) hbc (by go_size)); (first | (have Zb := Arr.below (Arr.zzd _ _) hbc (by go_size)) | (have Zb := Arr.below (Arr.zz _ _) hbc (by go_size)) | skip); (first | (have Za := Arr.below (Arr.zald _) hbc (by go_size)) | (have Za := Arr.below (Arr.zal _) hbc (by go_size)) | skip); (try simp only [World.size_alloc, World.size_drew] at Za); (try simp only [World.size_alloc, World.size_drew] at Zb); (try (have cZa := Za.c; have zZa := Za.z; have aZa := fun o => (Za.alloc Za.lt o).c; have yZa := fun o => (Za.alloc Za.lt o).z)); (try (have cZb := Zb.c; have zZb := Zb.z; have aZb := fun o => (Zb.alloc Zb.lt o).c; have yZb := fun o => (Zb.alloc Zb.lt o).z))) | (go_at_call 20; refine (k20 iA iB iM _).mono ?_; rintro e wy ⟨rfl, hbd⟩; (have hp : Below wx.heap.size wx wy := Bel.call (by go_grown) hbd); have hszy := hbd.size; (try simp at hszy); (have hs' : w.heap.size + 1 + 1 + 1 < wy.heap.size := (by omega)); (have hBy : Below w.heap.size w wy := hBx.trans (hp.mono hBx.size)); (have RA' := R4.to RA hp (by go_size)); (have RB' := R4.to RB hp (by go_size)); (have RC' := R4.to RC hp (by go_size)); (have RM' := R4.to RM hp (by go_size)); (try (have Yb := Arr.below Zb hp Zb.lt)); (try (have Ya := Arr.below Za hp Za.lt)); (first | (have Xb := Arr.below (Arr.zz _ _) hbd (by go_size)) | skip); (first | (have Xa := Arr.below (Arr.zal _) hbd (by go_size)) | skip); (try simp only [World.size_alloc, World.size_drew] at Xa); (try simp only [World.size_alloc, World.size_drew] at Xb); (try (have cYa := Ya.c; have zYa := Ya.z; have aYa := fun o => (Ya.alloc Ya.lt o).c; have yYa := fun o => (Ya.alloc Ya.lt o).z)); (try (have cYb := Yb.c; have zYb := Yb.z; have aYb := fun o => (Yb.alloc Yb.lt o).c; have yYb := fun o => (Yb.alloc Yb.lt o).z)); (try (have cXa := Xa.c; have zXa := Xa.z; have aXa := fun o => (Xa.alloc Xa.lt o).c; have yXa := fun o => (Xa.alloc Xa.lt o).z)); (try (have cXb := Xb.c; have zXb := Xb.z; have aXb := fun o => (Xb.alloc Xb.lt o).c; have yXb := fun o => (Xb.alloc Xb.lt o).z))))
    all_goals (go_split_ands; try go_wp2_with fail)
    all_goals
      go_meet
      case rel =>
        refine ⟨_, _, rfl, rfl, ?_, ?_, ?_, ?_, ?_, ?_, ?_⟩
        · first | ((with_reducible refine set4 (f := fun _ => .int .u64 0) ?_ _ _ _ _ _ rfl rfl rfl rfl); (repeat (first | (with_reducible assumption) | (with_reducible refine Arr.other ?_ (by go_size) _) | (with_reducible refine Arr.alloc ?_ (by go_size) _))); done) | ((with_reducible refine Arr.other (Arr.other (Arr.other (Arr.other ?_ (by go_size) _) (by go_size) _) (by go_size) _) (by go_size) _); first | ((with_reducible refine set4 (f := fun _ => .int .u64 0) ?_ _ _ _ _ _ rfl rfl rfl rfl); (repeat (first | (with_reducible assumption) | (with_reducible refine Arr.other ?_ (by go_size) _) | (with_reducible refine Arr.alloc ?_ (by go_size) _))); done) | (apply Arr.mk4 <;> (simp [go_sem]; done))) | (apply Arr.mk4 <;> (simp [go_sem]; done))
        · first | ((with_reducible refine set4 (f := fun _ => .int .u64 0) ?_ _ _ _ _ _ rfl rfl rfl rfl); (repeat (first | (with_reducible assumption) | (with_reducible refine Arr.other ?_ (by go_size) _) | (with_reducible refine Arr.alloc ?_ (by go_size) _))); done) | ((with_reducible refine Arr.other (Arr.other (Arr.other (Arr.other ?_ (by go_size) _) (by go_size) _) (by go_size) _) (by go_size) _); first | ((with_reducible refine set4 (f := fun _ => .int .u64 0) ?_ _ _ _ _ _ rfl rfl rfl rfl); (repeat (first | (with_reducible assumption) | (with_reducible refine Arr.other ?_ (by go_size) _) | (with_reducible refine Arr.alloc ?_ (by go_size) _))); done) | (apply Arr.mk4 <;> (simp [go_sem]; done))) | (apply Arr.mk4 <;> (simp [go_sem]; done))
        · repeat (first | (with_reducible assumption) | (with_reducible refine R4.st ?_ (by go_size) _) | (with_reducible refine R4.al ?_ (by go_size) _))
        · repeat (first | (with_reducible assumption) | (with_reducible refine R4.st ?_ (by go_size) _) | (with_reducible refine R4.al ?_ (by go_size) _))
        · repeat (first | (with_reducible assumption) | (with_reducible refine R4.st ?_ (by go_size) _) | (with_reducible refine R4.al ?_ (by go_size) _))
        · repeat (first | (with_reducible assumption) | (with_reducible refine R4.st ?_ (by go_size) _) | (with_reducible refine R4.al ?_ (by go_size) _))
        · repeat (first | (with_reducible assumption) | (with_reducible refine Bel.st ?_ (by go_size) _) | (with_reducible refine Bel.al ?_ _))
  case rest =>
    obtain ⟨b9, b10, rfl, rfl, A9, A10, RA, RB, RC, RM, hB⟩ := hcut
    have p0 := fun ds os => cell_regrown (A9.c 0 (by omega)) ds os
    have p1 := fun ds os => cell_regrown (A9.c 1 (by omega)) ds os
    have p2 := fun ds os => cell_regrown (A9.c 2 (by omega)) ds os
    have p3 := fun ds os => cell_regrown (A9.c 3 (by omega)) ds os
    have q0 := fun ds os => cell_regrown (A10.c 0 (by omega)) ds os
    have q1 := fun ds os => cell_regrown (A10.c 1 (by omega)) ds os
    have q2 := fun ds os => cell_regrown (A10.c 2 (by omega)) ds os
    have q3 := fun ds os => cell_regrown (A10.c 3 (by omega)) ds os
    have ra0 := fun ds os => cell_regrown (RA 0 (by omega)) ds os
    have ra1 := fun ds os => cell_regrown (RA 1 (by omega)) ds os
    have ra2 := fun ds os => cell_regrown (RA 2 (by omega)) ds os
    have ra3 := fun ds os => cell_regrown (RA 3 (by omega)) ds os
    have rb0 := fun ds os => cell_regrown (RB 0 (by omega)) ds os
    have rb1 := fun ds os => cell_regrown (RB 1 (by omega)) ds os
    have rb2 := fun ds os => cell_regrown (RB 2 (by omega)) ds os
    have rb3 := fun ds os => cell_regrown (RB 3 (by omega)) ds os
    have rc0 := fun ds os => cell_regrown (RC 0 (by omega)) ds os
    have rc1 := fun ds os => cell_regrown (RC 1 (by omega)) ds os
    have rc2 := fun ds os => cell_regrown (RC 2 (by omega)) ds os
    have rc3 := fun ds os => cell_regrown (RC 3 (by omega)) ds os
    have rm0 := fun ds os => cell_regrown (RM 0 (by omega)) ds os
    have rm1 := fun ds os => cell_regrown (RM 1 (by omega)) ds os
    have rm2 := fun ds os => cell_regrown (RM 2 (by omega)) ds os
    have rm3 := fun ds os => cell_regrown (RM 3 (by omega)) ds os
    go_wp2_with fail
    refine wp_region_quiet_below (by kernel_rfl) (by kernel_rfl) ?_
    repeat (go_big_quiet_step (first | (go_at_call 16; exact Calls.regrown_of (k16 (by first | assumption | exact iM.md _) (by first | assumption | exact iM.md _) iM _)) | (go_at_call 20; exact Calls.regrown_of (k20 (by first | assumption | exact iM.md _) (by first | assumption | exact iM.md _) iM _)) | (go_at_call 18; exact Calls.regrown_of (k18 (by first | assumption | exact iM.md _) (by first | assumption | exact iM.md _) iM _)) | (go_at_call 14; exact Calls.regrown_of (k14 iA iM _)) | (go_at_call 27; exact Calls.regrown_of (k27 (iM.md _) iM (md_lt _ _ hM0) _)) | (go_at_call 22; exact Calls.regrown_of (awake_any _))))
    refine wpQuiet_nil ?_
    intro _ hw'
    obtain ⟨⟨dq, osq⟩, hw''⟩ := hw'
    subst hw''
    clear p0 p1 p2 p3 q0 q1 q2 q3 ra0 ra1 ra2 ra3 rb0 rb1 rb2 rb3 rc0 rc1 rc2 rc3 rm0 rm1 rm2 rm3
    have hbz := below_regrown wc dq osq
    generalize grow (redrawn wc dq) osq = wz at *
    have B9 := A9.below hbz A9.lt
    have B10 := A10.below hbz A10.lt
    have SA := R4.to RA hbz (r4lt RA)
    have SB := R4.to RB hbz (r4lt RB)
    have SC := R4.to RC hbz (r4lt RC)
    have SM := R4.to RM hbz (r4lt RM)
    have hBz := Bel.call hB hbz
    clear A9 A10 RA RB RC RM hB hbz
    have p0 := fun ds os => cell_regrown (B9.c 0 (by omega)) ds os
    have p1 := fun ds os => cell_regrown (B9.c 1 (by omega)) ds os
    have p2 := fun ds os => cell_regrown (B9.c 2 (by omega)) ds os
    have p3 := fun ds os => cell_regrown (B9.c 3 (by omega)) ds os
    have q0 := fun ds os => cell_regrown (B10.c 0 (by omega)) ds os
    have q1 := fun ds os => cell_regrown (B10.c 1 (by omega)) ds os
    have q2 := fun ds os => cell_regrown (B10.c 2 (by omega)) ds os
    have q3 := fun ds os => cell_regrown (B10.c 3 (by omega)) ds os
    have ra0 := fun ds os => cell_regrown (SA 0 (by omega)) ds os
    have ra1 := fun ds os => cell_regrown (SA 1 (by omega)) ds os
    have ra2 := fun ds os => cell_regrown (SA 2 (by omega)) ds os
    have ra3 := fun ds os => cell_regrown (SA 3 (by omega)) ds os
    have rb0 := fun ds os => cell_regrown (SB 0 (by omega)) ds os
    have rb1 := fun ds os => cell_regrown (SB 1 (by omega)) ds os
    have rb2 := fun ds os => cell_regrown (SB 2 (by omega)) ds os
    have rb3 := fun ds os => cell_regrown (SB 3 (by omega)) ds os
    have rc0 := fun ds os => cell_regrown (SC 0 (by omega)) ds os
    have rc1 := fun ds os => cell_regrown (SC 1 (by omega)) ds os
    have rc2 := fun ds os => cell_regrown (SC 2 (by omega)) ds os
    have rc3 := fun ds os => cell_regrown (SC 3 (by omega)) ds os
    have rm0 := fun ds os => cell_regrown (SM 0 (by omega)) ds os
    have rm1 := fun ds os => cell_regrown (SM 1 (by omega)) ds os
    have rm2 := fun ds os => cell_regrown (SM 2 (by omega)) ds os
    have rm3 := fun ds os => cell_regrown (SM 3 (by omega)) ds os
    go_wp2_with fail
    refine wp_region_quiet_below (by kernel_rfl) (by kernel_rfl) ?_
    repeat (go_big_quiet_step (first | (go_at_call 16; exact Calls.regrown_of (k16 (by first | assumption | exact iM.md _) (by first | assumption | exact iM.md _) iM _)) | (go_at_call 20; exact Calls.regrown_of (k20 (by first | assumption | exact iM.md _) (by first | assumption | exact iM.md _) iM _)) | (go_at_call 18; exact Calls.regrown_of (k18 (by first | assumption | exact iM.md _) (by first | assumption | exact iM.md _) iM _)) | (go_at_call 14; exact Calls.regrown_of (k14 iA iM _)) | (go_at_call 27; exact Calls.regrown_of (k27 (iM.md _) iM (md_lt _ _ hM0) _)) | (go_at_call 22; exact Calls.regrown_of (awake_any _))))
    refine wpQuiet_nil ?_
    intro _ hw'
    obtain ⟨⟨dq, osq⟩, hw''⟩ := hw'
    subst hw''
    clear p0 p1 p2 p3 q0 q1 q2 q3 ra0 ra1 ra2 ra3 rb0 rb1 rb2 rb3 rc0 rc1 rc2 rc3 rm0 rm1 rm2 rm3
    have hBq := Bel.call hBz (below_regrown wz dq osq)
    generalize grow (redrawn wz dq) osq = wq at *
    go_wp2
    go_ret
    exact ⟨rfl, hBq⟩
end Go.Proofs.Ytcipmgommoflgaa
